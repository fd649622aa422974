/- OWN TEXTS. -/
import Derived.Test.YtjigbkamgfidkaaGreatDoorQz0
import Derived.Test.YtjigbkamgfidkaaGreatDoorQz1
import Derived.RangeFuncOwn
import Derived.ChangeKeysEq
import Derived.Laws.StructEq
import Derived.Laws.IdiomStrings
import Derived.Scope
import Derived.Lib.SliceRun
namespace Go.Proofs.YtjigbkamgfidkaaGreatDoor
set_option linter.unusedVariables false
set_option linter.unusedSimpArgs false
set_option maxRecDepth 20000
open Go Go.RowKit
variable {P:Program} {n:Nat} {e:TypeId} {d:D} {xs:List Value} {w:World} {i:Nat} {b:Nat} {k:Nat} {B:Nat} {E:Env} {l:Nat} {j:Nat} {m:Nat} {s:Nat} {ds:List D} {nb:Nat} {E':Env} {sz:Nat} {fn:Func} {g:Nat} {td:TypeDesc} {w₀:World} {ys:List Value} {dst:Option Tmp} {pos:String} {after:Array Edge} {guard:Option (Nat×Bool)} {ops:Array Oper} {ty:TypeId}
section
variable {κ:Cx}
def recD (b:Nat) (o:Obj) (m:Nat):D:=.p (fun B w _=>b<B∧m<=B∧w.heap[b]?=some o) (fun _ _ _ _ g ⟨h1,h2,h3⟩=>⟨h1,h2,(g.block b h1).trans h3⟩) (fun _ _ _ _ g ⟨h1,h2,h3⟩=>⟨Nat.lt_of_lt_of_le h1 g,Nat.le_trans h2 g,h3⟩)
theorem Surv.rec{T:Nat}{o:Obj}(h:o.isCells=false): Surv B T g (recD b o m):=fun w _ _ k ⟨h1,h2,h3⟩=>by
 refine⟨Nat.lt_of_lt_of_le h1 k.size,Nat.le_trans h2 k.size,(k.other b h1 fun hb=>?_).trans h3⟩
 subst hb
 obtain⟨cs,fr,hx⟩:=k.cel _ h3
 subst hx; cases h
def jD (J:World->Prop):D:=.p (fun B w _=>∃ v:World,J v∧v.heap.size<=B∧Below v.heap.size v w) (fun _ _ _ _ g ⟨v,h1,h2,h3⟩=>⟨v,h1,h2,h3.trans (g.mono h2)⟩) (fun _ _ _ _ g ⟨v,h1,h2,h3⟩=>⟨v,h1,Nat.le_trans h2 g,h3⟩)
theorem jD_get{J:World->Prop}(hst:∀ a b,J a->Grow a b->J b){x:Value}(h:(jD J).Of w x): J w:=by
 obtain⟨v,h1,_,h3⟩:=h
 exact hst v w h1 h3
theorem jD_mk{J:World->Prop}{x:Value}(h:J w): (jD J).Of w x:=⟨w,h,Nat.le_refl _,Below.refl _ _⟩
theorem below_two{w':World}(h:Below B w₀ w)(h':Below B w₀ w')(hs:w.heap.size<=w'.heap.size): Below B w w' :=
 ⟨h'.os.trans h.os.symm,h'.tape.trans h.tape.symm,h'.output.trans h.output.symm,hs,fun k hk=>(h'.block k hk).trans (h.block k hk).symm⟩
def Firm (l:Nat) (d:D):Prop:=∀ (w:World) (o o':Obj) (x:Value),w.heap[l]?=some o->o.isCells=false->d.Of w x->d.Of (w.putObj l o') x
theorem Firm.v(l:Nat)(x:Value): Firm l (.v x):=fun _ _ _ _ _ _ h=>h
theorem below_putObj(w:World)(o':Obj)(h:B<=l): Below B w (w.putObj l o'):=⟨rfl,rfl,rfl,by simp,fun _ hk=>World.putObj_heap_other (by omega)⟩
theorem Firm.blk: Firm l (Go.Proofs.YtjigbkamgfidkaaGreatDoor.blk b e xs):=fun w o o' _ hl ho ⟨h1,h2⟩=>⟨by simpa using h1,(World.putObj_heap_other (fun hb=>by
 subst hb; rw[h2] at hl; injection hl with hl; subst hl; cases ho)).trans h2⟩
theorem Firm.tab: Firm l (Go.Proofs.YtjigbkamgfidkaaGreatDoor.tab b xs):=fun w o o' _ hl ho ⟨h1,e,h2⟩=>⟨by simpa using h1,e,(World.putObj_heap_other (fun hb=>by
 subst hb; rw[h2] at hl; injection hl with hl; subst hl; cases ho)).trans h2⟩
def Holds (w₀:World) (V:Env) (w:World):Prop:=Below w₀.heap.size w₀ w∧w₀.heap.size<=w.heap.size∧∀ p∈V,p.2.Of w undef
theorem Holds.grow{w':World}{V:Env}(h:Holds w₀ V w)(g:Grow w w'): Holds w₀ V w':=⟨h.1.trans (g.mono h.2.1),Nat.le_trans h.2.1 g.size,fun p hp=>(h.2.2 p hp).grow g⟩
theorem Holds.putObj{V:Env}{o:Obj}(o':Obj)(h:Holds w₀ V w)(hl:w.heap[l]?=some o)(ho:o.isCells=false)(hB:w₀.heap.size<=l)(hf:∀ p∈V,Firm l p.2): Holds w₀ V (w.putObj l o') :=
 ⟨h.1.trans (below_putObj w o' hB),by simpa using h.2.1,fun p hp=>hf p hp w o o' _ hl ho (h.2.2 p hp)⟩
theorem vle(h:Nat.ble 1000000 k=true): vbase<=(k,d).1:=Nat.le_of_ble_eq_true h
theorem vlt(h:Nat.blt k 1000000=true): (k,d).1<vbase:=Nat.le_of_ble_eq_true h
section
variable {P:Program} {n:Nat} {w₀:World} {ops:Array Oper} {E:Env} {ty:TypeId} {pos:String} {after:Array Edge}
def Yields (P:Program) (N:Nat) (l:Nat) (arg:Nat->D) (J:Nat->World->Prop):Prop :=
 ∀ (i:Nat) (W:World) (u:Value),i<N->J i W->(arg i).Of W u->YieldAt (FR none) 0 P l #[u] W fun e W'=>e = .returned (.bool true)∧J (i+1) W'∧W.heap.size<=W'.heap.size
structure Seqs (P:Program) (w₀:World) (N:Nat) (l:Nat) (arg:Nat->D) (V:Nat->Env) (J:Nat->World->Prop):Prop where
 grow:∀ i a b,J i a->Grow a b->J i b
 holds:∀ i W,J i W->Holds w₀ (V i) W
 yields:Yields P N l arg J
theorem Seqs.sub{N:Nat}{arg:Nat->D}{V V':Nat->Env}{J:Nat->World->Prop}(h:Seqs P w₀ N l arg V J)(hs:∀ i,∀ p∈V' i,p∈V i): Seqs P w₀ N l arg V' J :=
 ⟨h.grow,fun i W hJ=>⟨(h.holds i W hJ).1,(h.holds i W hJ).2.1,fun p hp=>(h.holds i W hJ).2.2 p (hs i p hp)⟩,h.yields⟩
theorem eff_yield{N:Nat}{arg:Nat->D}{V:Nat->Env}{J:Nat->World->Prop}{d vJ:Nat}{fv x:Operand}{ex:D}{tys:Array TypeId}(hq:Seqs P w₀ N l arg V J)(i:Nat)(hi:i<N)
  (hJ:E.look vJ=some (jD (J i)))(hf:E.at fv=some (.v (.func (.yield l) #[] #[])))(hx:E.at x=some ex)(hle:Le ex (arg i))(hd:d<n)(hV:∀ p∈V (i+1),vbase<=p.1)(hn:n<=vbase)
  (hl:Left w₀.heap.size E' E):
  Eff P n w₀.heap.size ops ⟨some d,.call { callee:=.value fv,args:=#[x],argTypes:=tys },ty,pos,after,none⟩ E ((d,.v (.bool true))::(vJ,jD (J (i+1)))::(V (i+1)++E')):=by
 intro κ a w K Q h hK
 have h1:a.eval fv=_:=h.at_ fv _ hf
 have h2:=hle.of (h.at_ x _ hx)
 have hJw:J i w:=jD_get (hq.grow i) (h.of vJ _ hJ)
 obtain⟨fn,tmps,assign,body,hy,hr⟩:=hq.yields i w _ hi hJw h2
 rw[if_pos (by simp[Region.wanted])]
 refine⟨fun _ _=>trivial,?_⟩
 rw[Oper.semAt_eq _ _ _ (by nofun)]
 have hrun:(execOp a.eval ⟨some d,.call { callee:=.value fv,args:=#[x],argTypes:=tys },ty,pos,after,none⟩).run P w = .ok (.round l fn tmps assign body) w:=by
  simp[execOp,resolve,Deferred.ofValue,h1,invoke,hy]
 rw[hrun,Oper.uponIn_round]
 refine⟨fun e=>absurd e (by simp[FR,Fence.wide]),RoundIn.mono (F:=FR κ.rd) (n:=0) hr ?_⟩
 rintro e W' ⟨rfl,hJ',hs⟩
 obtain⟨hb,hsz,hv⟩:=hq.holds _ _ hJ'
 have hb0:=(hq.holds _ _ hJw).1
 have hbel:=below_two hb0 hb hs
 refine hK _ _ hbel (St.put ⟨hsz,h.defers,h.size,fun t e he=>?_⟩ hd rfl)
 have hund:∀ t,vbase<=t->a.tmps.getD t undef=undef:=fun t ht=>by
  rw[Array.getD_eq_getD_getElem?,Array.getElem?_eq_none (by rw[h.size]; omega)]; rfl
 by_cases hts:vJ=t
 ·subst hts
  rw[look_here] at he; injection he with he; subst he
  exact jD_mk hJ'
 ·rw[look_past _ _ hts] at he
  rcases List.mem_append.1 (look_mem he) with hm|hm
  ·have:=hv _ hm
   rwa [hund t (hV _ hm)]
  ·obtain⟨h7,h8⟩:=hl _ hm
   exact h8 _ _ _ hbel h.base (h.of t e h7)
theorem Calls.within{f:FuncId}{c:Code}{vs:List Value}{R:Ending->World->Prop}(hf:P.funcs[f]?=some fn)(hb:fn.body=some c)(hn:fn.ntmps=n)(hl:vs.length<=n)(hnv:n<=vbase)(hw:Below w₀.heap.size w₀ w)(hs:w₀.heap.size<=w.heap.size)
  (hE:∀ p∈E,(vbase<=p.1∧p.2.Of w undef)∨∃ v,vs[p.1]?=some v∧p.2.Of w v)(h:A Cx.top P w₀ n c E (BP P fn R)): Calls P f vs.toArray w R:=by
 refine callsIn_FR.1 (callsIn_of_wp_marks (F:=FR none) (n:=0) hf hb trivial (h _ w hw ⟨hs,rfl,?_,fun t e he=>?_⟩))
 ·simp[hn]; omega
 ·show e.Of w ((vs.toArray++Array.replicate (fn.ntmps-vs.toArray.size) undef).getD t undef)
  rcases hE _ (look_mem he) with ⟨ht,hx⟩|⟨v,hv,hx⟩
  ·rwa [Array.getD_eq_getD_getElem?,Array.getElem?_eq_none (by simp[hn]; simp only at ht; omega)]
  ·have hlt:t<vs.length:=(List.getElem?_eq_some_iff.1 hv).1
   rw[Array.getD_eq_getD_getElem?,Array.getElem?_append_left (by simpa using hlt)]
   simp only at hv
   simp[hv]; exact hx
theorem End.seq{N:Nat}{arg:Nat->D}{V:Nat->Env}{J:Nat->World->Prop}{vJ:Nat}(hq:Seqs P w₀ N l arg V J)(hr:fn.results=#[])(hJ:E.look vJ=some (jD (J N))):
  End Cx.top w₀ n E (BP P fn (fun e W=>(∃ v,e = .returned v)∧J N W) .normal):=fun a w _ hs=>by
 show LeavesInM (FR none) 0 P fn a.tmps _ a.defers .returning w
 rw[show a.defers=[] from hs.defers]
 exact⟨_,by simp[results,hr]; rfl,⟨_,rfl⟩,jD_get (hq.grow N) (hs.of vJ _ hJ)⟩
def RoundQ (w₀:World) (V:Env):Exit->Act->World->Prop
 | .normal,_,w=>Holds w₀ V w
 | _,_,_=>False
theorem End.round{V:Env}(hs:Sub V E)(hV:∀ p∈V,vbase<=p.1)(hn:n<=vbase): End κ w₀ n E (RoundQ w₀ V .normal):=fun a w g hst=>⟨g,hst.base,fun p hp=>by
 have h1:=hst.of p.1 p.2 (hs p hp)
 have:=hV p hp
 rwa [Array.getD_eq_getD_getElem?,Array.getElem?_eq_none (by rw[hst.size]; omega)] at h1⟩
theorem assign_one{id tp t:Nat}{ty pos after}{a:Act}(ht:t<n)(htp:tp<n)(hn:n<=vbase)(h:St ⟨some l,[]⟩ n w₀.heap.size ((tp,d)::E) a w):
  (Code.region id #[⟨some t,.assign (.tmp tp),ty,pos,after,none⟩] false).wpIn (FR (some l)) 0 P (fun e a' w'=>e = .normal∧Grow w w'∧St ⟨some l,[]⟩ n w₀.heap.size ((t,d)::(tp,d)::E) a' w') a w:=by
 have hr:Run P w₀.heap.size #[⟨some t,.assign (.tmp tp),ty,pos,after,none⟩] [⟨some t,.assign (.tmp tp),ty,pos,after,none⟩] ((tp,d)::E) ((t,d)::(tp,d)::E):=.step rfl rfl (ok_assign (look_here _ _ _)) .nil
 have:=wp_text (Q:=fun e a' w'=>e = .normal∧Grow w w'∧St ⟨some l,[]⟩ n w₀.heap.size ((t,d)::(tp,d)::E) a' w') (rest:=[]) hn hr h (fun o ho=>by
  simp only[List.mem_cons,List.not_mem_nil,or_false] at ho
  subst ho
  refine⟨fun s hs=>?_,fun s hs=>by simp only[Option.some.injEq] at hs; exact hs▸ht⟩
  simp[Oper.looksAt,Op.operands] at hs
  exact hs▸htp) fun a' w' g h'=>wpListIn_nil ⟨rfl,g,h'⟩
 exact wpIn_region_list (by simpa using this)
theorem A.range{Q:Exit->Act->World->Prop}{g:Operand}{tp gf N vL vD:Nat}{assign body:Code}{lb:List Value}{S:Env}{V Eb:Nat->Env}{arg:Nat->D}(hg:E.at g=some (.v (.func (.func gf) #[] lb.toArray)))
  (hgf:∃ fn,P.funcs[gf]?=some fn∧(fn.name == "runtime.NumGoroutine")=false∧fn.body.isNone=false)(htp:tp<n)(hn:n<=vbase)(h0:Sub (V 0++S) E)
  (hS:∀ p∈S,p.1<vbase∧((∃ x,p.2 = .v x)∨∃ d,p.2=old w₀.heap.size d))(hV:∀ i,∀ p∈V i,vbase<=p.1)
  (hfV:∀ i l,w₀.heap.size<=l->∀ p∈V i,Firm l p.2)(hfE:∀ i l,w₀.heap.size<=l->∀ p∈Eb i,Firm l p.2)
  (hseq:∀ (J:Nat->World->Prop) (l:Nat) (w:World),Seqs P w₀ N l arg V J->J 0 w->Calls P gf (.func (.yield l) #[] #[]::lb).toArray w fun e W=>(∃ v,e = .returned v)∧J N W)
  (hassign:∀ i l a w,i<N->St ⟨some l,[]⟩ n w₀.heap.size ((tp,arg i)::(V i++S)) a w->assign.wpIn (FR (some l)) 0 P (fun e a' w'=>e = .normal∧Grow w w'∧St ⟨some l,[]⟩ n w₀.heap.size (Eb i) a' w') a w)
  (hbody:∀ i l D r m,i<N->A ⟨some l,[]⟩ P w₀ n body ((vL,recD l (.loop r) m)::(vD,recD D (.deferred (some [])) 0)::Eb i) (RoundQ w₀ ((vL,recD l (.loop r) m)::(vD,recD D (.deferred (some [])) 0)::V (i+1))))
  (hend:∀ D,w₀.heap.size<=D->End ⟨none,[{ target:=.collected D,args:=#[] }]⟩ w₀ n ((vD,recD D (.deferred (some [])) 0)::(V N++S)) (Q .normal)):
  A ⟨none,[]⟩ P w₀ n (.rangeFunc g #[tp] assign body) E Q:=fun a w hb hst=>by
 show(Code.rangeFunc g #[tp] assign body).wpIn (FR none) 0 P Q a w
 refine wpIn_rangeFunc fun fn _=>?_
 obtain⟨rec,hrec⟩:∃ rec:LoopState->Option Code->Loop,rec=fun st pe=>{ state:=st,pending:=pe,fn,tmps:=a.tmps,params:=#[tp],assign,body,defers:=w.heap.size }:=⟨_,rfl⟩
 obtain⟨W1,hW1⟩:∃ W1,(w.alloc (.deferred (some []))).alloc (.loop (rec .ready none))=W1:=⟨_,rfl⟩
 have hg':a.eval g = .func (.func gf) #[] lb.toArray:=hst.at_ g _ hg
 obtain⟨gfn,hf1,hf2,hf3⟩:=hgf
 have eg:∀ args w,(callFunc gf args).run P w = .ok (.enter gf args) w:=fun args w=>by
  have h2':¬ gfn.name = "runtime.NumGoroutine":=by simpa using hf2
  have h3':¬ gfn.body=none:=by intro h; rw[h] at hf3; cases hf3
  simp[callFunc,hf1,h2',h3']
 have hgr:Grow w W1:=by
  rw[<- hW1]; exact(Grow.alloc w _).trans (Grow.alloc _ _)
 have hL1:W1.heap[w.heap.size+1]?=some (.loop (rec .ready none)):=by
  rw[<- hW1]; have:=World.alloc_heap_new (w.alloc (.deferred (some []))) (.loop (rec .ready none)); rwa [World.size_alloc] at this
 have hK1:W1.heap[w.heap.size]?=some (.deferred (some [])):=by
  rw[<- hW1]; exact(Below.heap_alloc _ _ _ (by simp)).trans (World.alloc_heap_new w _)
 have hund:∀ t,vbase<=t->a.tmps.getD t undef=undef:=fun t ht=>by
  rw[Array.getD_eq_getD_getElem?,Array.getElem?_eq_none (by rw[hst.size]; omega)]; rfl
 have hH0:Holds w₀ (V 0) w:=⟨hb,hst.base,fun p hp=>by
  have h1:=hst.of p.1 p.2 (h0 p (List.mem_append_left _ hp))
  rwa [hund _ (hV 0 p hp)] at h1⟩
 -- what holds between two rounds
 have hstS:∀ (κ':Cx) (i:Nat) (W:World) (a':Act) (E':Env),κ'.df=a'.defers->a'.tmps.size=n->Holds w₀ (V i) W->w.heap.size<=W.heap.size->(∀ t e,E'.look t=some e->e.Of W (a'.tmps.getD t undef)∨((t,e)∈V i++S∧(t<vbase->a'.tmps.getD t undef=a.tmps.getD t undef)))->St κ' n w₀.heap.size E' a' W:=by
  intro κ' i W a' E' hd hsz hH hs hE
  refine⟨hH.2.1,hd.symm,hsz,fun t e he=>?_⟩
  rcases hE t e he with h|⟨hm,hsame⟩
  ·exact h
  ·rcases List.mem_append.1 hm with hm|hm
   ·have h1:=hH.2.2 _ hm
    have ht:=hV i _ hm
    simp only at ht
    rwa [Array.getD_eq_getD_getElem?,Array.getElem?_eq_none (by rw[hsz]; omega)]
   ·obtain⟨ht,hk⟩:=hS _ hm
    rw[hsame ht]
    have h1:=hst.of t e (h0 _ (List.mem_append_right _ hm))
    rcases hk with ⟨x,hx⟩|⟨d,hd'⟩
    ·simp only at hx; subst hx; exact h1
    ·simp only at hd'; subst hd'
     exact⟨hH.2.1,D.OfB.keep h1.2 (below_two hb hH.1 hs)⟩
 refine⟨w.heap.size+1,[{ target:=.collected w.heap.size,args:=#[] }],W1,{ target:=.fn (.func gf) lb.toArray,args:=#[.func (.yield (w.heap.size+1)) #[] #[]] },W1,gf,
  #[.func (.yield (w.heap.size+1)) #[] #[]]++lb.toArray,W1,?_,?_,fun _ _=>trivial,?_,fun e=>absurd e (by simp[FR,Fence.wide]),?_⟩
 ·rw[<- hW1,hrec]; exact run_enterLoop_outer _ _ _ _ _
 ·have hy:a.eval (.const (.func (.yield (w.heap.size+1)) #[] #[])) = .func (.yield (w.heap.size+1)) #[] #[]:=rfl
  simp only[resolve,hg']
  simp[Deferred.ofValue,hy]
 ·simp[invoke,eg]
 ·have harr:(#[.func (.yield (w.heap.size+1)) #[] #[]]++lb.toArray:Array Value)=(.func (.yield (w.heap.size+1)) #[] #[]::lb).toArray:=by simp
  rw[harr]
  refine callsIn_FR.2 ((hseq (fun i W=>Holds w₀ (V i) W∧W.heap[w.heap.size+1]?=some (.loop (rec .ready none))∧W.heap[w.heap.size]?=some (.deferred (some []))) (w.heap.size+1) W1 ⟨?_,fun i W h=>h.1,?_⟩ ⟨hH0.grow hgr,hL1,hK1⟩).mono ?_)
  ·rintro i x y ⟨h1,h2,h3⟩ k
   exact⟨h1.grow k,(k.block _ (Array.getElem?_eq_some_iff.1 h2).1).trans h2,(k.block _ (Array.getElem?_eq_some_iff.1 h3).1).trans h3⟩
  ·-- one round
   rintro i W u hi ⟨hH,hl,hk⟩ hu
   have hlt:w.heap.size+1<W.heap.size:=(Array.getElem?_eq_some_iff.1 hl).1
   have hBl:w₀.heap.size<=w.heap.size+1:=by have:=hst.base; omega
   have hy:=run_yield (P:=P) (args:=#[u]) hl (by rw[hrec]; rfl)
   rw[hrec] at hy
   refine⟨fn,_,assign,body,hy,roundIn_of_wpIn (F:=FR none) trivial ?_⟩
   have htm:(List.foldl (fun(tmps:Array Value) (x:Tmp×Value)=>tmps.setIfInBounds x.1 x.2) a.tmps ((#[tp].zip #[u]).toList))=a.tmps.setIfInBounds tp u:=by simp
   have hsta:St ⟨some (w.heap.size+1),[]⟩ n w₀.heap.size ((tp,arg i)::(V i++S)) { tmps:=a.tmps.setIfInBounds tp u,defers:=[] } W:=by
    refine hstS _ i W _ _ rfl (by simp[hst.size]) hH (by omega) fun t e he=>?_
    by_cases hts:tp=t
    ·subst hts
     rw[look_here] at he; injection he with he; subst he
     left
     have:tp<a.tmps.size:=by rw[hst.size]; exact htp
     simpa [this] using hu
    ·rw[look_past _ _ hts] at he
     exact .inr ⟨look_mem he,fun _=>by simp[Array.getElem?_setIfInBounds_ne hts]⟩
   have has:=hassign i (w.heap.size+1) _ W hi hsta
   have hrun0:({ tmps:=Array.foldl (fun(tmps:Array Value) (x:Tmp×Value)=>tmps.setIfInBounds x.1 x.2) a.tmps (#[tp].zip #[u]),defers:=[] }:Act)={ tmps:=a.tmps.setIfInBounds tp u,defers:=[] }:=by simp
   show assign.wpIn (FR (some (w.heap.size+1))) 0 P _ _ W
   refine wpIn_mono (F:=FR (some (w.heap.size+1))) (n:=0) (by first|exact has|(rw[<- hrun0] at has; exact has)) ?_
   rintro e a1 W2 ⟨rfl,hg2,hst2⟩
   have hl2:W2.heap[w.heap.size+1]?=some (.loop (rec .ready none)):=(hg2.block _ hlt).trans hl
   have hk2:W2.heap[w.heap.size]?=some (.deferred (some [])):=(hg2.block _ (by omega)).trans hk
   have hH2:=hH.grow hg2
   have hlt2:w.heap.size+1<W2.heap.size:=(Array.getElem?_eq_some_iff.1 hl2).1
   refine⟨_,run_beginRound hl2 (by rw[hrec]),?_⟩
   have hl3:(W2.putObj (w.heap.size+1) (.loop { rec .ready none with state:=.busy })).heap[w.heap.size+1]?=some (.loop { rec .ready none with state:=.busy }):=World.putObj_heap_same hlt2
   have hk3:(W2.putObj (w.heap.size+1) (.loop { rec .ready none with state:=.busy })).heap[w.heap.size]?=some (.deferred (some [])):=(World.putObj_heap_other (by omega)).trans hk2
   have hH3:=hH2.putObj (.loop { rec .ready none with state:=.busy }) hl2 rfl hBl (hfV i _ hBl)
   have hst3:St ⟨some (w.heap.size+1),[]⟩ n w₀.heap.size ((vL,recD (w.heap.size+1) (.loop { rec .ready none with state:=.busy }) W.heap.size)::(vD,recD w.heap.size (.deferred (some [])) 0)::Eb i) a1 (W2.putObj (w.heap.size+1) (.loop { rec .ready none with state:=.busy })):=by
    refine⟨hH3.2.1,hst2.defers,hst2.size,fun t e he=>?_⟩
    by_cases hts:vL=t
    ·subst hts
     rw[look_here] at he; injection he with he; subst he
     exact⟨by simpa using hlt2,by simpa using hg2.size,hl3⟩
    ·rw[look_past _ _ hts] at he
     by_cases hts':vD=t
     ·subst hts'
      rw[look_here] at he; injection he with he; subst he
      exact⟨by simp; omega,Nat.zero_le _,hk3⟩
     ·rw[look_past _ _ hts'] at he
      exact hfE i _ hBl _ (look_mem he) W2 _ _ _ hl2 rfl (hst2.of t e he)
   refine wpIn_mono (F:=FR (some (w.heap.size+1))) (n:=0) (hbody i _ _ _ _ hi a1 _ hH3.1 hst3) ?_
   rintro e a3 W3 hp
   cases e with
   | normal =>
    obtain⟨hb3,hs3,hv3⟩:=hp
    obtain⟨hlt3,hm3,hl4⟩:=hv3 _ List.mem_cons_self
    obtain⟨_,_,hk4⟩:=hv3 _ (List.mem_cons_of_mem _ List.mem_cons_self)
    have hH4:Holds w₀ (V (i+1)) W3:=⟨hb3,hs3,fun p hp=>hv3 p (List.mem_cons_of_mem _ (List.mem_cons_of_mem _ hp))⟩
    have hend:=run_endRound (P:=P) none hl4
    refine⟨_,_,hend,rfl,⟨hH4.putObj _ hl4 rfl hBl (hfV _ _ hBl),?_,(World.putObj_heap_other (by omega)).trans hk4⟩,by simpa using hm3⟩
    have:=World.putObj_heap_same (o:=.loop { { rec .ready none with state:=.busy } with state:=.ready,pending:=none }) hlt3
    rw[hrec] at this ⊢
    exact this
   | _=>exact hp.elim
  ·-- behind it
   rintro e W2 ⟨⟨v,rfl⟩,hH,hl,hk⟩
   have hBl:w₀.heap.size<=w.heap.size+1:=by have:=hst.base; omega
   have hlt2:w.heap.size+1<W2.heap.size:=(Array.getElem?_eq_some_iff.1 hl).1
   have hel:=run_endLoop (P:=P) hl (by rw[hrec]; simp)
   refine⟨none,_,by rw[hrec] at hel; exact hel,?_⟩
   have hH3:=hH.putObj (.loop { state:=.exhausted,pending:=none,fn,tmps:=a.tmps,params:=#[tp],assign,body,defers:=w.heap.size }) hl rfl hBl (hfV N _ hBl)
   refine hend w.heap.size hst.base _ _ hH3.1 (hstS _ N _ _ _ (by simp[hst.defers]) hst.size hH3 (by simp; omega) fun t e he=>?_)
   by_cases hts:vD=t
   ·subst hts
    rw[look_here] at he; injection he with he; subst he
    exact .inl ⟨by simp; omega,Nat.zero_le _,(World.putObj_heap_other (by omega)).trans hk⟩
   ·rw[look_past _ _ hts] at he
    exact .inr ⟨look_mem he,fun _=>rfl⟩
theorem ok_makeFunc2{f:FuncId}{x y:Operand}{u v:Value}(hx:E.at x=some (.v u))(hy:E.at y=some (.v v)):
  OpOk P B ⟨dst,.makeFunc (.func f) #[] #[x,y],ty,pos,after,guard⟩ E (.v (.func (.func f) #[] #[u,v])):=fun ρ w _ _ hρ=>by
 have h1:ρ x=_:=hρ x (by simp[Op.operands]) _ hx
 have h2:ρ y=_:=hρ y (by simp[Op.operands]) _ hy
 exact out_val (w':=w) (by simp[execOp,h1,h2,Instr.makeFunc]) ⟨Grow.refl w,rfl⟩
def closD (base f:Nat) (e₁ e₂:TypeId) (u₁ u₂:Value):D :=
 .p (fun B w x=>∃ p q,base<=p∧p<q∧q<B∧x = .func (.func f) #[] #[.pointer (some ⟨p,0,none⟩),.pointer (some ⟨q,0,none⟩)]∧w.heap[p]?=some (.cells #[u₁] e₁ (0,0))∧w.heap[q]?=some (.cells #[u₂] e₂ (0,0)))
  (fun _ _ _ _ g ⟨p,q,h1,h2,h3,h4,h5,h6⟩=>⟨p,q,h1,h2,h3,h4,(g.block p (by omega)).trans h5,(g.block q h3).trans h6⟩) (fun _ _ _ _ g ⟨p,q,h1,h2,h3,h4,h5,h6⟩=>⟨p,q,h1,h2,by omega,h4,h5,h6⟩)
theorem closD_mono{f:Nat}{e₁ e₂:TypeId}{u₁ u₂:Value}(B B':Nat)(h:B<=B'): Le (closD B' f e₁ e₂ u₁ u₂) (closD B f e₁ e₂ u₁ u₂):=fun _ _ _ ⟨p,q,h1,h2⟩=>⟨p,q,by omega,h2⟩
theorem End.clos{r k₁ k₂ p q f:Nat}{e₁ e₂:TypeId}{u₁ u₂:Value}(hr:fn.results=#[.tmp r])(hp:w₀.heap.size<=p)(hpq:p<q)(ht:E.look r=some (.v (.func (.func f) #[] #[.pointer (some ⟨p,0,none⟩),.pointer (some ⟨q,0,none⟩)])))
  (h1:E.look k₁=some (blk p e₁ [u₁]))(h2:E.look k₂=some (blk q e₂ [u₂])): End Cx.top w₀ n E (BP P fn (PostOf w₀ (closD w₀.heap.size f e₁ e₂ u₁ u₂)) .ret):=fun a w g hs=>by
 obtain⟨_,h4⟩:=hs.of k₁ _ h1
 obtain⟨h5,h6⟩:=hs.of k₂ _ h2
 exact BP.ret hs.defers ⟨a.tmps.getD r undef,by simp[results,hr],_,rfl,g,p,q,hp,hpq,h5,hs.of r _ ht,h4,h6⟩
theorem A.openClos{c:Code}{Q:Exit->Act->World->Prop}{t k₁ k₂ f:Nat}{e₁ e₂:TypeId}{u₁ u₂:Value}(ht:E.look t=some (closD B f e₁ e₂ u₁ u₂))
  (h:∀ p q,B<=p->p<q->A κ P w₀ n c ((t,.v (.func (.func f) #[] #[.pointer (some ⟨p,0,none⟩),.pointer (some ⟨q,0,none⟩)]))::(k₁,blk p e₁ [u₁])::(k₂,blk q e₂ [u₂])::E) Q): A κ P w₀ n c E Q:=fun a w g hs=>by
 obtain⟨p,q,h1,h2,h3,h4,h5,h6⟩:=hs.of t _ ht
 refine h p q h1 h2 a w g ⟨hs.base,hs.defers,hs.size,fun s d hd=>?_⟩
 by_cases hts:t=s
 ·subst hts
  rw[look_here] at hd; injection hd with hd; subst hd; exact h4
 ·rw[look_past _ _ hts] at hd
  by_cases hks:k₁=s
  ·subst hks
   rw[look_here] at hd; injection hd with hd; subst hd
   exact⟨Nat.lt_trans h2 h3,h5⟩
  ·rw[look_past _ _ hks] at hd
   by_cases hks':k₂=s
   ·subst hks'
    rw[look_here] at hd; injection hd with hd; subst hd
    exact⟨h3,h6⟩
   ·rw[look_past _ _ hks'] at hd
    exact hs.of s d hd
theorem End.cell1C{D vD r:Nat}{T:TypeId}{d:Go.Proofs.YtjigbkamgfidkaaGreatDoor.D}(hD:E.look vD=some (recD D (.deferred (some [])) m))(hDB:w₀.heap.size<=D)(hr:fn.results=#[.cell r T])(ht:P.underlying T=some td)(hp:(match td with | .struct _ | .array _ _=>true|_=>false)=true)(hsz:SizeIs P T xs.length)
  (h1:E.look r=some (.v (.pointer (some ⟨b,0,none⟩))))(h2:E.look s=some (blk b e xs))(hl:∀ w,d.Of w (aggV xs)): End ⟨none,[{ target:=.collected D,args:=#[] }]⟩ w₀ n E (BP P fn (PostOf w₀ d) .ret):=fun a w g hs=>by
 have h3:a.tmps[r]?.getD undef = .pointer (some ⟨b,0,none⟩):=by rw[<- Array.getD_eq_getD_getElem?]; exact hs.of r _ h1
 obtain⟨hlt,_,hk⟩:=hs.of vD _ hD
 obtain⟨_,hh⟩:=hs.of s _ h2
 have hne:b≠D:=fun h=>by subst h; rw[hh] at hk; cases hk
 have hh':(w.putObj D (.deferred none)).heap[b]?=some (.cells xs.toArray e (0,0)):=(World.putObj_heap_other hne).trans hh
 have:=run_loadVar_row (P:=P) (w.putObj D (.deferred none)) b e T xs.toArray (0,0) td hh' ht hp (by simpa [SizeIs] using hsz)
 show LeavesInM (FR none) 0 P fn a.tmps _ a.defers .returning w
 rw[show a.defers=[{ target:=.collected D,args:=#[] }] from hs.defers]
 refine⟨by simp,.inl ⟨D,_,rfl,run_takeDeferred hk,?_⟩⟩
 refine⟨aggV xs,by simp[results,hr,h3,asAddr,this,aggV],_,rfl,?_,hl _⟩
 exact Below.trans g (below_putObj w _ hDB)
end
end
section
section
variable {P:Program} {B:Nat} {E:Env} {dst:Option Tmp} {ty:TypeId} {pos:String} {after:Array Edge} {guard:Option (Nat×Bool)}
theorem bytes_inj{a b:List UInt8}(h:a.map byteV=b.map byteV): a=b:=(List.map_inj_right fun x y hxy=>by
 simp only[byteV,Value.int.injEq,true_and] at hxy
 exact UInt8.toNat_inj.1 (by omega)).1 h
end
end
section
open Go Go.RowKit Go.ChangeShapes Go.WideShapes
def flatFs (F:TypeId->Option (List IntKind)):List Field->Nat->Option (List IntKind)
 | [],_=>some []
 | f::r,o=>match F f.type with
  | none=>none
  | some ks=>if f.offset=o∧f.name ≠ "_" then (flatFs F r (o+ks.length)).map (ks++·) else none
def flat (P:Program):Nat->TypeId->Option (List IntKind)
 | 0,_=>none
 | n+1,t=>if P.cellsOf t=0 then none else match P.underlying t with
  | some (.int k)=>if P.cellsOf t=1 then some [k] else none
  | some (.array len e)=>match flat P n e with
   | none=>none
   | some ks=>if P.cellsOf t=len*ks.length then some (List.replicate len ks).flatten else none
  | some (.struct fs)=>match flatFs (flat P n) fs.toList 0 with
   | none=>none
   | some ks=>if P.cellsOf t=ks.length∧P.stoodInHeld t=false then some ks else none
  | _=>none
def isAggT (P:Program) (t:TypeId):Bool:=match P.underlying t with|some (.struct _)=>true|some (.array _ _)=>true|_=>false
def packT (P:Program) (t:TypeId) (xs:List Value):Value:=if isAggT P t then .agg xs.toArray else xs.headD undef
def Kin (Q:IntKind->Int->Prop) (ks:List IntKind) (xs:List Value):Prop:=xs.length=ks.length∧∀ (i:Nat) (k:IntKind),ks[i]?=some k->∃ n,xs[i]?=some (.int k n)∧Q k n
section
variable {Q:IntKind->Int->Prop}
theorem Kin.one{k:IntKind}(h:Kin Q [k] xs): ∃ n,xs=[.int k n]∧Q k n:=by
 obtain⟨n,h1,h2⟩:=h.2 0 k rfl
 refine⟨n,?_,h2⟩
 have hl:xs.length=1:=h.1
 match xs,hl,h1 with
 | [x],_,h1=>simp at h1; rw[h1]
theorem Kin.split{a b:List IntKind}(h:Kin Q (a++b) xs): Kin Q a (xs.take a.length)∧Kin Q b (xs.drop a.length):=by
 have hl:xs.length=a.length+b.length:=by simpa using h.1
 refine⟨⟨by simp; omega,fun i k hk=>?_⟩,⟨by simp; omega,fun i k hk=>?_⟩⟩
 ·have hi:i<a.length:=(List.getElem?_eq_some_iff.1 hk).1
  obtain⟨n,h1,h2⟩:=h.2 i k (by rw[List.getElem?_append_left hi]; exact hk)
  exact⟨n,by rw[List.getElem?_take,if_pos hi]; exact h1,h2⟩
 ·obtain⟨n,h1,h2⟩:=h.2 (a.length+i) k (by rw[List.getElem?_append_right (by omega),Nat.add_sub_cancel_left]; exact hk)
  exact⟨n,by rw[List.getElem?_drop]; exact h1,h2⟩
theorem Kin.join{a b:List IntKind}(h:Kin Q a xs)(h':Kin Q b ys): Kin Q (a++b) (xs++ys):=by
 refine⟨by simp[h.1,h'.1],fun i k hk=>?_⟩
 rcases Nat.lt_or_ge i a.length with hi|hi
 ·rw[List.getElem?_append_left hi] at hk
  rw[List.getElem?_append_left (by rw[h.1]; exact hi)]
  exact h.2 i k hk
 ·rw[List.getElem?_append_right hi] at hk
  rw[List.getElem?_append_right (by rw[h.1]; exact hi),h.1]
  exact h'.2 _ k hk
theorem Kin.rep {ks:List IntKind}:∀ {n:Nat} {xs:List Value},Kin Q (List.replicate n ks).flatten xs->∀ i,i<n->Kin Q ks ((xs.drop (i*ks.length)).take ks.length)
 | 0,_,_,i,hi=>by omega
 | n+1,xs,h,0,_=>by
  rw[List.replicate_succ,List.flatten_cons] at h
  simpa using h.split.1
 | n+1,xs,h,i+1,hi=>by
  rw[List.replicate_succ,List.flatten_cons] at h
  have:=Kin.rep h.split.2 i (by omega)
  rwa [List.drop_drop,show ks.length+i*ks.length=(i+1)*ks.length from by rw[Nat.succ_mul]; omega] at this
end
theorem rep_length{ks:List IntKind}(n:Nat): (List.replicate n ks).flatten.length=n*ks.length:=by
 induction n with
 | zero=>simp
 | succ n ih=>rw[List.replicate_succ,List.flatten_cons,List.length_append,ih,Nat.succ_mul]; omega
section
variable {P:Program}
theorem flat_cells: ∀ {n:Nat} {t:TypeId} {ks:List IntKind},flat P n t=some ks->P.cellsOf t=ks.length∧0<ks.length:=by
 intro n t ks h
 cases n with
 | zero=>cases h
 | succ n =>
  unfold flat at h
  split at h
  ·cases h
  ·rename_i h0
   have hk:P.cellsOf t=ks.length:=by
    split at h
    ·split at h
     ·rename_i h1; injection h with h; subst h; exact h1
     ·cases h
    ·split at h
     ·cases h
     ·split at h
      ·rename_i h1; injection h with h; subst h; rw[h1,rep_length]
      ·cases h
    ·split at h
     ·cases h
     ·split at h
      ·rename_i h1; injection h with h; subst h; exact h1.1
      ·cases h
    ·cases h
   exact⟨hk,by omega⟩
theorem info_of_cells{t:TypeId}(h:0<P.cellsOf t): ∃ i,P.info? t=some i:=by
 unfold Program.cellsOf at h
 cases hi:P.info? t with
 | none=>rw[hi] at h; simp at h
 | some i=>exact⟨i,rfl⟩
theorem run_isAgg{t:TypeId}(h:P.underlying t=some td)(w:World): (isAgg t).run P w = .ok (isAggT P t) w:=by
 unfold isAgg isAggT
 rw[Sem.run_bind,run_underlying h w,h]
 cases td<;>simp
theorem flat_under{t:TypeId}{ks:List IntKind}(h:flat P n t=some ks): ∃ td,P.underlying t=some td:=by
 cases n with
 | zero=>cases h
 | succ n =>
  unfold flat at h
  split at h
  ·cases h
  ·cases hu:P.underlying t with
   | none=>rw[hu] at h; cases h
   | some td=>exact⟨td,rfl⟩
theorem flat_part{t:TypeId}{ks:List IntKind}(h:flat P n t=some ks)(zs:List Value)(o:Nat)(ho:o+ks.length<=zs.length)(w:World): (part t zs.toArray o).run P w = .ok (packT P t ((zs.drop o).take ks.length)) w:=by
 obtain⟨td,hu⟩:=flat_under h
 obtain⟨hc,hp⟩:=flat_cells h
 obtain⟨i,hi⟩:=info_of_cells (P:=P) (t:=t) (by omega)
 simp only[part,Sem.run_bind,run_isAgg hu,Result.andThen_ok]
 unfold packT
 cases hb:isAggT P t with
 | true =>
  simp only[if_true,Sem.run_bind,run_sizeOf w hi,Result.andThen_ok,hc]
  simp
 | false =>
  have hlt:o<zs.length:=by omega
  have:((zs.drop o).take ks.length).headD undef=zs[o]:=by
   rw[List.drop_eq_getElem_cons hlt]
   obtain⟨m,hm⟩:∃ m,ks.length=m+1:=⟨ks.length-1,by omega⟩
   rw[hm]
   rfl
  rw[if_neg (by simp),if_neg (by simp),this]
  simp[hlt]
theorem two_parts{o a:Nat}(hx:o+(a+b)<=xs.length)(hy:o+(a+b)<=ys.length):
  (xs.drop o).take (a+b)=(ys.drop o).take (a+b)↔(xs.drop o).take a=(ys.drop o).take a∧(xs.drop (o+a)).take b=(ys.drop (o+a)).take b:=by
 rw[List.take_add,List.take_add,List.drop_drop,List.drop_drop]
 constructor
 ·intro h
  exact List.append_inj h (by simp; omega)
 ·rintro ⟨h1,h2⟩
  rw[h1,h2]
theorem flat_eq: ∀ (n:Nat) {t:TypeId} {ks:List IntKind},flat P n t=some ks->∀ (d:Nat) (w:World) (xs ys:List Value),Kin (fun _ _=>True) ks xs->Kin (fun _ _=>True) ks ys ->
  ∃ r:Bool,(Op.equalIn (d+n) t (packT P t xs) (packT P t ys)).run P w = .ok r w∧(r=true↔xs=ys):=by
 intro n
 induction n with
 | zero=>intro t ks h; cases h
 | succ n ih =>
  intro t ks h d w xs ys hx hy
  have hks:=flat_cells h
  unfold flat at h
  split at h
  ·cases h
  ·split at h
   ·rename_i k hu
    split at h
    ·injection h with h; subst h
     obtain⟨a,rfl,_⟩:=hx.one
     obtain⟨b,rfl,_⟩:=hy.one
     have hg:isAggT P t=false:=by unfold isAggT; rw[hu]
     refine⟨a==b,?_,by simp⟩
     unfold packT
     rw[hg]
     exact run_equalIn_int w (d+n) t k k a b hu
    ·cases h
   ·rename_i len e hu
    split at h
    ·cases h
    ·rename_i ks' hf
     split at h
     ·injection h with h; subst h
      have hg:isAggT P t=true:=by unfold isAggT; rw[hu]
      obtain⟨hc,hp⟩:=flat_cells hf
      obtain⟨i,hi⟩:=info_of_cells (P:=P) (t:=e) (by omega)
      unfold packT
      rw[hg,if_pos rfl,if_pos rfl,<- Nat.add_assoc,run_equalIn_array (w:=w) (d+n) xs.toArray ys.toArray hu hi,hc]
      have hxl:xs.length=len*ks'.length:=by rw[hx.1,rep_length]
      have hyl:ys.length=len*ks'.length:=by rw[hy.1,rep_length]
      have key:∀ is:List Nat,(∀ i∈is,i<len)->∃ r:Bool,(Op.eqItems (d+n) e ks'.length xs.toArray ys.toArray is).run P w = .ok r w∧(r=true↔∀ i∈is,(xs.drop (i*ks'.length)).take ks'.length=(ys.drop (i*ks'.length)).take ks'.length):=by
       intro is
       induction is with
       | nil=>intro _; exact⟨true,by simp[Op.eqItems],by simp⟩
       | cons j is ihs =>
        intro hj
        have hjl:=hj j List.mem_cons_self
        have hb:j*ks'.length+ks'.length<=len*ks'.length:=by
         rw[<- Nat.succ_mul]; exact Nat.mul_le_mul_right _ hjl
        obtain⟨r,hr,hri⟩:=ihs fun i hi=>hj i (List.mem_cons_of_mem _ hi)
        obtain⟨r',hr',hri'⟩:=ih hf d w _ _ (hx.rep j hjl) (hy.rep j hjl)
        simp only[Op.eqItems,Sem.run_bind,flat_part hf xs (j*ks'.length) (by omega) w,flat_part hf ys (j*ks'.length) (by omega) w,Result.andThen_ok,hr']
        cases r' with
        | true=>exact⟨r,by simpa using hr,by simp[hri,hri'.1 rfl]⟩
        | false=>exact⟨false,by simp,by simpa using fun h=>absurd (hri'.2 h) (by simp)⟩
      obtain⟨r,hr,hri⟩:=key (List.range len) fun i hi=>List.mem_range.1 hi
      refine⟨r,hr,hri.trans ⟨fun h=>?_,fun h=>by subst h; exact fun _ _=>rfl⟩⟩
      apply List.ext_getElem?
      intro j
      rcases Nat.lt_or_ge j (len*ks'.length) with hj|hj
      ·have h1:=h (j / ks'.length) (List.mem_range.2 ((Nat.div_lt_iff_lt_mul hp).2 hj))
       have h2:=congrArg (·[j%ks'.length]?) h1
       simp only[List.getElem?_take,if_pos (Nat.mod_lt _ hp),List.getElem?_drop] at h2
       rwa [Nat.mul_comm,Nat.div_add_mod] at h2
      ·rw[List.getElem?_eq_none (by omega),List.getElem?_eq_none (by omega)]
     ·cases h
   ·rename_i fs hu
    split at h
    ·cases h
    ·rename_i ks' hf
     split at h
     ·rename_i hst
      injection h with h; subst h
      have hg:isAggT P t=true:=by unfold isAggT; rw[hu]
      have hfo:P.fieldsOf t=fs:=by unfold Program.fieldsOf; rw[hu]
      unfold packT
      rw[hg,if_pos rfl,if_pos rfl,<- Nat.add_assoc,run_equalIn_struct w (d+n) t xs.toArray ys.toArray (by rw[hfo]; exact hu) hst.2,hfo]
      have key:∀ (l:List Field) (o:Nat) (kz:List IntKind),flatFs (flat P n) l o=some kz->∀ ka:List IntKind,Kin (fun _ _=>True) (ka++kz) xs->Kin (fun _ _=>True) (ka++kz) ys->ka.length=o ->
        ∃ r:Bool,(Op.eqFields (d+n) xs.toArray ys.toArray l).run P w = .ok r w∧(r=true↔(xs.drop o).take kz.length=(ys.drop o).take kz.length):=by
       intro l
       induction l with
       | nil =>
        intro o kz hl ka _ _ _
        unfold flatFs at hl
        injection hl with hl; subst hl
        exact⟨true,by simp[Op.eqFields],by simp⟩
       | cons f l ihl =>
        intro o kz hl ka hxa hya ho
        unfold flatFs at hl
        split at hl
        ·cases hl
        ·rename_i kf hff
         split at hl
         ·rename_i hfn
          obtain⟨kr,hr,rfl⟩:=Option.map_eq_some_iff.1 hl
          have lx:xs.length=o+(kf.length+kr.length):=by rw[hxa.1]; simp; omega
          have ly:ys.length=o+(kf.length+kr.length):=by rw[hya.1]; simp; omega
          obtain⟨r,h1,h2⟩:=ihl (o+kf.length) kr hr (ka++kf) (by rw[List.append_assoc]; exact hxa) (by rw[List.append_assoc]; exact hya) (by simp; omega)
          have kx:=hxa.split.2.split.1
          have ky:=hya.split.2.split.1
          rw[ho] at kx ky
          obtain⟨r',h3,h4⟩:=ih hff d w _ _ kx ky
          simp only[Op.eqFields,if_pos hfn.2,Sem.run_bind,hfn.1,flat_part hff xs o (by omega) w,flat_part hff ys o (by omega) w,Result.andThen_ok,h3]
          rw[List.length_append,two_parts (by omega) (by omega)]
          cases r' with
          | true=>exact⟨r,by simpa using h1,by simp[h2,h4.1 rfl]⟩
          | false=>exact⟨false,by simp,by simpa using fun h=>absurd (h4.2 h) (by simp)⟩
         ·cases hl
      obtain⟨r,h1,h2⟩:=key fs.toList 0 ks' hf [] hx hy rfl
      refine⟨r,h1,?_⟩
      rwa [List.drop_zero,List.drop_zero,List.take_of_length_le (Nat.le_of_eq hx.1),List.take_of_length_le (Nat.le_of_eq hy.1)] at h2
     ·cases h
   ·cases h
variable {B:Nat} {E:Env} {dst:Option Tmp} {ty:TypeId} {pos:String} {after:Array Edge} {guard:Option (Nat×Bool)}
theorem equal_flat{t:TypeId}{ks:List IntKind}(n:Nat)(hf:flat P n t=some ks)(hn:n<=10000)(hg:isAggT P t=true)(hx:Kin (fun _ _=>True) ks xs)(hy:Kin (fun _ _=>True) ks ys)(b:Bool)(hb:b=true↔xs=ys)(w:World):
  (Op.equalIn 10000 t (.agg xs.toArray) (.agg ys.toArray)).run P w = .ok b w:=by
 obtain⟨r,hr,hri⟩:=flat_eq (P:=P) n hf (10000-n) w xs ys hx hy
 unfold packT at hr
 rw[hg,if_pos rfl,if_pos rfl,Nat.sub_add_cancel hn] at hr
 have:r=b:=by
  rw[<- hb] at hri
  cases r<;>cases b<;>simp_all
 rw[<- this]; exact hr
theorem ok_eqlT{t t':TypeId}{ks:List IntKind}{x y:Operand}(n:Nat)(b:Bool)(hf:flat P n t=some ks)(hn:n<=10000)(hg:isAggT P t=true)(hm:P.eqGuardType P.depth t=false)(hx:E.at x=some (.v (aggV xs)))(hy:E.at y=some (.v (aggV ys)))
  (hkx:Kin (fun _ _=>True) ks xs)(hky:Kin (fun _ _=>True) ks ys)(hb:b=true↔xs=ys): OpOk P B ⟨dst,.binOp .eql t x y t',ty,pos,after,guard⟩ E (.v (.bool b)):=fun ρ w _ _ hρ=>by
 have h1:ρ x = .agg xs.toArray:=hρ x (by simp[Op.operands]) _ hx
 have h2:ρ y = .agg ys.toArray:=hρ y (by simp[Op.operands]) _ hy
 have:=equal_flat (P:=P) n hf hn hg hkx hky b hb w
 exact out_val (w':=w) (by simp[execOp,h1,h2,Sem.run_bind,run_eqGuard_agg,hm,run_eql_struct,this]) ⟨Grow.refl w,rfl⟩
theorem ok_neqT{t t':TypeId}{ks:List IntKind}{x y:Operand}(n:Nat)(b:Bool)(hf:flat P n t=some ks)(hn:n<=10000)(hg:isAggT P t=true)(hm:P.eqGuardType P.depth t=false)(hx:E.at x=some (.v (aggV xs)))(hy:E.at y=some (.v (aggV ys)))
  (hkx:Kin (fun _ _=>True) ks xs)(hky:Kin (fun _ _=>True) ks ys)(hb:b=true↔xs=ys): OpOk P B ⟨dst,.binOp .neq t x y t',ty,pos,after,guard⟩ E (.v (.bool (!b))):=fun ρ w _ _ hρ=>by
 have h1:ρ x = .agg xs.toArray:=hρ x (by simp[Op.operands]) _ hx
 have h2:ρ y = .agg ys.toArray:=hρ y (by simp[Op.operands]) _ hy
 have:=equal_flat (P:=P) n hf hn hg hkx hky b hb w
 exact out_val (w':=w) (by simp[execOp,h1,h2,Sem.run_bind,run_eqGuard_agg,hm,run_neq_struct,this]) ⟨Grow.refl w,rfl⟩
end
theorem kin_nil: Kin (fun _ _=>True) [] []:=⟨rfl,fun i k h=>by simp at h⟩
theorem kin_cons{k:IntKind}{n:Int}{ks:List IntKind}(h:Kin (fun _ _=>True) ks xs): Kin (fun _ _=>True) (k::ks) (.int k n::xs) :=
 Kin.join (a:=[k]) (xs:=[.int k n]) ⟨rfl,fun i k' h'=>by
  match i,h' with
  | 0,h'=>simp at h'; subst h'; exact⟨n,rfl,trivial⟩
  | i+1,h'=>simp at h'⟩ h
end
section
variable {κ:Cx}
def ownM (base:Nat) (v:Value) (e:TypeId) (n:Nat) (xs:List Value):D :=
 .p (fun B w _=>(own base e n xs).OfB B w v) (fun _ _ _ _ g h=>D.OfB.keep h g) (fun _ _ _ _ g h=>D.OfB.up h g)
def Disj (v u:Value):Prop:=∀ g,v.ownBlock=some g->u.ownBlock≠some g
theorem Disj.symm{v u:Value}(h:Disj v u): Disj u v:=fun g hu hv=>h g hv hu
theorem Disj.nil(u:Value): Disj (.slice none 0 0) u:=fun g h=>by simp[Value.ownBlock] at h
theorem Surv.ownM{T base:Nat}{u:Value}(h:u.ownBlock≠some g): Surv B T g (Go.Proofs.YtjigbkamgfidkaaGreatDoor.ownM base u e n xs):=fun w w' _ k ⟨h1,h2⟩=>by
 obtain⟨h3,h4⟩:=h1
 refine⟨⟨h3,h4.imp id ?_⟩,fun j hj=>Nat.lt_of_lt_of_le (h2 j hj) k.size⟩
 rintro ⟨j,cap,cur,rfl,hj,hh,hr⟩
 have hne:j≠g:=fun hb=>h (by subst hb; rfl)
 exact⟨j,cap,cur,rfl,hj,(k.other j (h2 j (by simp[Value.ownBlock])) hne).trans hh,hr⟩
theorem Surv.ownMT{T base:Nat}{u:Value}(h:e≠T): Surv B T g (Go.Proofs.YtjigbkamgfidkaaGreatDoor.ownM base u e n xs):=fun w w' _ k hx=>Surv.own (B:=B) (T:=T) (g:=g) h w w' u k hx
section
variable {P:Program} {w₀:World} {n:Nat} {c:Code} {E:Env} {Q:Exit->Act->World->Prop}
theorem A.openV{t:Nat}(ht:E.look t=some (own w₀.heap.size e m xs))(h:∀ v,A κ P w₀ n c ((t,.v v)::(k,ownM w₀.heap.size v e m xs)::E) Q): A κ P w₀ n c E Q:=fun a w g hs=>by
 have h1:=hs.of t _ ht
 refine h (a.tmps.getD t undef) a w g ⟨hs.base,hs.defers,hs.size,fun s d hd=>?_⟩
 by_cases hts:t=s
 ·subst hts
  rw[look_here] at hd; injection hd with hd; subst hd; rfl
 ·rw[look_past _ _ hts] at hd
  by_cases hks:k=s
  ·subst hks
   rw[look_here] at hd; injection hd with hd; subst hd; exact h1
  ·rw[look_past _ _ hks] at hd
   exact hs.of s d hd
theorem A.nilV(B:Nat)(e:TypeId)(h:A κ P w₀ n c ((k,ownM B (.slice none 0 0) e 0 [])::E) Q): A κ P w₀ n c E Q:=fun a w g hs=>by
 refine h a w g ⟨hs.base,hs.defers,hs.size,fun s d hd=>?_⟩
 by_cases hks:k=s
 ·subst hks
  rw[look_here] at hd; injection hd with hd; subst hd
  exact(own_nil (B:=B) (e:=e)) _ _ _ (rfl:(D.v (.slice none 0 0)).OfB w.heap.size w (.slice none 0 0))
 ·rw[look_past _ _ hks] at hd
  exact hs.of s d hd
end
theorem ok_moveV{x:Operand}{B':Nat}{v:Value}(hkv:vbase<=k)(hx:E.at x=some (.v v))(hk:E.look k=some (ownM B' v e m xs)):
  OpOk P B ⟨dst,.move x,ty,pos,after,guard⟩ E (own B' e m xs):=fun ρ w _ hv hρ=>by
 have h1:ρ x=v:=hρ x (by simp[Op.operands]) _ hx
 exact out_val (x:=v) (w':=w) (by simp[execOp,h1]) ⟨Grow.refl w,hv k _ hkv hk⟩
theorem A.openVD{c:Code}{Q:Exit->Act->World->Prop}{t B' m':Nat}{b₀:Nat}{e':TypeId}{xs':List Value}{u:Value}(ht:E.look t=some (own B' e m xs))(hj:E.look j=some (old B' (ownM b₀ u e' m' xs')))
  (h:∀ v,Disj v u->A κ P w₀ n c ((t,.v v)::(k,ownM B' v e m xs)::E) Q): A κ P w₀ n c E Q:=fun a w g hs=>by
 have h1:(own B' e m xs).Of w (a.tmps.getD t undef):=hs.of t _ ht
 obtain⟨_,h2⟩:=hs.of j _ hj
 refine h (a.tmps.getD t undef) (fun b hb hu=>?_) a w g ⟨hs.base,hs.defers,hs.size,fun s d hd=>?_⟩
 ·have h3:=h2.2 b hu
  rcases h1.1.2 with ⟨hv,_⟩|⟨g',cap,cur,hv,hb',_⟩
  ·rw[hv] at hb; simp[Value.ownBlock] at hb
  ·rw[hv] at hb; simp[Value.ownBlock] at hb; omega
 ·by_cases hts:t=s
  ·subst hts
   rw[look_here] at hd; injection hd with hd; subst hd; rfl
  ·rw[look_past _ _ hts] at hd
   by_cases hks:k=s
   ·subst hks
    rw[look_here] at hd; injection hd with hd; subst hd; exact h1
   ·rw[look_past _ _ hks] at hd
    exact hs.of s d hd
theorem ownM_mono{B':Nat}{v:Value}(h:B<=B'): Le (ownM B' v e m xs) (ownM B v e m xs):=fun b w _ hx=>(own_mono h:Le (own B' e m xs) (own B e m xs)) b w v hx
theorem OpOk.subL{o:Oper}{E₁:Env}(hs:SubL E₁ E)(h:OpOk P B o E₁ d): OpOk P B o E d:=fun ρ w hB hv hρ=>by
 have look:∀ t e,E₁.look t=some e->∃ e',E.look t=some e'∧Le e' e:=fun t e he=>hs (t,e) (look_mem he)
 refine h ρ w hB (fun t e ht he=>?_) fun x hx e he=>?_
 ·obtain⟨e',h1,h2⟩:=look t e he
  exact h2.of (hv t e' ht h1)
 ·cases x with
  | tmp s =>
   obtain⟨e',h1,h2⟩:=look s e he
   exact h2.of (hρ (.tmp s) hx e' h1)
  | const c=>exact hρ _ hx e he
  | global g=>exact hρ _ hx e he
  | func f=>exact hρ _ hx e he
theorem ok_sliceOwn{t:TypeId}{z:Value}{x ho:Operand}{k:IntKind}{n B':Nat}(ht:P.underlying t=some (.slice e))(hs:InfoIs P e z nb)(hx:E.at x=some (own B' e m xs))(hho:E.at ho=some (.v (.int k (n:Int))))(hnm:n<=m):
  OpOk P B ⟨dst,.slice t x none (some ho) none,ty,pos,after,guard⟩ E (own B' e n (xs.take n)):=fun ρ w _ _ hρ=>by
 obtain⟨⟨hlen,hcase⟩,hob⟩:=hρ x (by simp[Op.operands]) _ hx
 have h1:ρ ho = .int k (n:Int):=hρ ho (by simp[Op.operands]) _ hho
 rcases hcase with ⟨hv,hm0⟩|⟨g,cap,cur,hv,hb,hh,hnc,hcm,hcs,htake⟩
 ·obtain rfl:n=0:=by omega
  have hr:=run_slice_list (P:=P) ht hs w none 0 0 0 0 none (some (.int k 0)) k k (.inr ⟨rfl,rfl⟩) (.inl rfl) (Nat.le_refl _) (Nat.le_refl _)
  have h1:ρ ho = .int k 0:=h1
  refine out_val (x:=.slice none 0 0) (w':=w) (by simp[execOp,hv,h1,hr]) ⟨Grow.refl w,⟨by simp,.inl ⟨rfl,rfl⟩⟩,fun b hb=>by simp[Value.ownBlock] at hb⟩
 ·have hr:=run_slice_list (P:=P) ht hs w (some ⟨g,0,none⟩) m cap 0 n none (some (.int k (n:Int))) k k (.inr ⟨rfl,rfl⟩) (.inl rfl) (Nat.zero_le _) (by omega)
  have hadd:(⟨g,0,none⟩:Addr).add 0=⟨g,0,none⟩:=rfl
  refine out_val (x:=.slice (some ⟨g,0,none⟩) n cap) (w':=w) (by simp[execOp,hv,h1,hr,hadd]) ⟨Grow.refl w,⟨by simp[hlen]; omega,.inr ⟨g,cap,cur,rfl,hb,hh,by omega,hcm,hcs,?_⟩⟩,fun b hb=>hob b (by rw[hv]; exact hb)⟩
  rw[<- htake,List.take_take,Nat.mul_one,Nat.mul_one,Nat.min_eq_left hnm]
def NewV (B:Nat) (E:Env) (g:Nat):Prop:=B<=g∧(∀ s b' e xs,E.look s=some (blk b' e xs)->b'<g)∧∀ s B' v e n xs,E.look s=some (ownM B' v e n xs)->v.ownBlock≠some g
def Step (B:Nat) (E:Env) (v v':Value):Prop:=v'.ownBlock=v.ownBlock∨∃ g,v'.ownBlock=some g∧NewV B E g
theorem Disj.step{v v' u:Value}{B':Nat}(hs:Step B E v v')(hd:Disj v u)(hu:E.look s=some (ownM B' u e n xs)): Disj v' u:=fun g hg=>by
 rcases hs with h|⟨g',h,hn⟩
 ·exact hd g (h▸hg)
 ·rw[h] at hg; injection hg with hg; subst hg
  exact hn.2.2 s _ _ _ _ _ hu
theorem eff_appendV{t:TypeId}{z:Value}{r x:Operand}{dst:Nat}{v:Value}{f:D}{vs:List Value}(ht:P.underlying t=some (.slice e))(hinfo:InfoIs P e z nb)(hnb:nb<=64)(hz1:z.cells.size=1)
  (hr:E.at r=some (.v v))(hk:E.look k=some (ownM B v e m xs))(hx:E.at x=some f)(hf:Le f (lst (vs.map .v)))(h1:∀ u∈vs,u.oneCell'=true)(hbd:m+vs.length<=1099511627776)(hdst:dst<n)(hl:∀ g,B<=g->(v.ownBlock=some g∨NewV B E g)->LeftS B e g E' E):
  EffG P n B ops ⟨some dst,.call { callee:=.builtin .append,args:=#[r,x],argTypes:=#[t,t] },ty,pos,after,none⟩ E (Step B E v) (fun v'=>(dst,.v v')::(k,ownM B v' e (m+vs.length) (xs++vs))::E'):=by
 obtain⟨i,hi,hz,hs,hby⟩:=hinfo.get
 intro κ a w K Q h hK
 have hre:a.eval r=v:=h.at_ r _ hr
 obtain⟨hown,hob⟩:(own B e m xs).OfB w.heap.size w v:=h.of k _ hk
 obtain⟨c,A,us,hxe,hle,hcm,hul,hrow,hus⟩:=hf.of (h.at_ x _ hx)
 have huv:us=vs:=by
  apply List.ext_getElem?
  intro j
  simp only[List.length_map] at hul
  rcases Nat.lt_or_ge j vs.length with hj|hj
  ·have hu:us[j]?=some us[j]:=List.getElem?_eq_getElem (by omega)
   have h2:us[j]=vs[j]:=hus j (.v vs[j]) us[j] (by simp[hj]) hu
   rw[hu,h2,List.getElem?_eq_getElem hj]
  ·rw[List.getElem?_eq_none (by omega),List.getElem?_eq_none hj]
 subst huv
 simp only[List.length_map] at hxe hle hul
 have hrun:∃ v' w',(Builtin.append_ #[t,t] ty #[v,.slice A us.length c]).run P w = .ok v' w'∧w'.ownsRow B e 1 v' (m+us.length) (xs++us)∧w.grownBy w' v.ownBlock∧(v'.ownBlock=v.ownBlock∨v'.ownBlock=some w.heap.size):=by
  have hbb:(m+us.length)*i.bytes<=(m+us.length)*64:=Nat.mul_le_mul_left _ (by omega)
  have hnil:us=[]->∀ c',(Builtin.append_ #[t,t] ty #[v,.slice none 0 c']).run P w = .ok v w:=by
   intro _ c'
   rcases hown.2 with ⟨hv,hn0⟩|⟨g,cap,cur,hv,_,_,hnc,_⟩
   ·rw[hv]; simp[Builtin.append_,run_underlying ht,sizeOf,typeInfo,hi,Builtin.lenOf,Builtin.firstCells]
   ·rw[hv]; simp[Builtin.append_,run_underlying ht,sizeOf,typeInfo,hi,Builtin.lenOf,Builtin.firstCells,hnc,storeCells]
  cases A with
  | none =>
   have hz:us=[]:=by
    cases us with
    | nil=>rfl
    | cons b l=>obtain⟨ad,h,_⟩:=hrow 0 b rfl; cases h
   subst hz
   exact⟨v,w,hnil rfl c,by simpa using hown,World.grownBy.refl w _,.inl rfl⟩
  | some ad =>
   obtain⟨v',w',h2,h3,h4,_,h6⟩:=run_append_own_at (P:=P) w B t ty e i z 1 i.bytes ht hi hz hs rfl hz1 (by omega) v m xs hown ad us.length c us (by simp) hrow.cell h1 (by simp only[maxLen]; omega) (by omega) h.base
   exact⟨v',w',h2,h3,h4,h6⟩
 obtain⟨v',w',hrun,h3,h4,h5⟩:=hrun
 have hexec:(execOp a.eval ⟨some dst,.call { callee:=.builtin .append,args:=#[r,x],argTypes:=#[t,t] },ty,pos,after,none⟩).run P w = .ok (.value v') w':=by
  simp[execOp,resolve,invoke,builtin,hre,hxe,hrun]
 rw[if_pos (by simp[Region.wanted])]
 refine opR (by nofun) ?_
 unfold Oper.wp
 rw[hexec,Oper.upon_value]
 have hnew:NewV B E w.heap.size:=⟨h.base,fun s b' e' ys hs=>(h.of s _ hs).1,fun s B' u e' n' ys hs hu=>by
  have:=(h.of s _ hs).2 _ hu
  omega⟩
 have hbase:∀ g,v.ownBlock=some g->B<=g:=fun g hg=>by
  rcases hown.2 with ⟨hv,_⟩|⟨g',cap,cur,hv,hb,_⟩
  ·rw[hv] at hg; simp[Value.ownBlock] at hg
  ·rw[hv] at hg; simp[Value.ownBlock] at hg; omega
 have hbel:Below B w w':=(Below.refl B w).grown h4 h.base hbase
 have hlt:∀ g,v'.ownBlock=some g->g<w'.heap.size:=fun g hg=>by
  rcases h3.2 with ⟨hv,_⟩|⟨g',cap,cur,hv,_,hh,_⟩
  ·rw[hv] at hg; simp[Value.ownBlock] at hg
  ·rw[hv] at hg; simp[Value.ownBlock] at hg; subst hg
   rcases Nat.lt_or_ge g' w'.heap.size with h|h
   ·exact h
   ·rw[Array.getElem?_eq_none h] at hh; cases hh
 have hwr:∃ g,(v.ownBlock=some g∨NewV B E g)∧Wrote B e g w w':=by
  rcases hown.2 with ⟨hv,_⟩|⟨g',cap,cur,hv,hb,hh,_⟩
  ·refine⟨w.heap.size,.inr hnew,h.base,h4.os,h4.tape,h4.output,h4.size,fun o hx=>?_,fun k hk _=>h4.block k hk (by rw[hv]; simp[Value.ownBlock])⟩
   rw[Array.getElem?_eq_none (Nat.le_refl _)] at hx; cases hx
  ·refine⟨g',.inl (by rw[hv]; rfl),hb,h4.os,h4.tape,h4.output,h4.size,fun o hx=>?_,fun k hk hne=>h4.block k hk (by rw[hv]; simp[Value.ownBlock]; omega)⟩
   rw[hh] at hx; injection hx with hx; exact⟨_,_,hx.symm⟩
 obtain⟨g,hg,hwr⟩:=hwr
 have hst:St κ n B E' a w':=(hl g hwr.base hg).st h hwr
 have hst2:St κ n B ((k,ownM B v' e (m+us.length) (xs++us))::E') a w':=⟨hst.base,hst.defers,hst.size,fun s d hd=>by
  by_cases hks:k=s
  ·subst hks
   rw[look_here] at hd; injection hd with hd; subst hd
   exact⟨h3,hlt⟩
  ·rw[look_past _ _ hks] at hd
   exact hst.of s d hd⟩
 exact hK v' _ _ (h5.imp id fun h6=>⟨_,h6,hnew⟩) hbel (hst2.put hdst rfl)
theorem RunTK.newv{draw:Bool}{C:Env->Prop}{o:Oper}(p:Nat)(hsp:s<=p)(ho:ops[p]?=some o)(hb:draw=false∨barrier ops p=true)(h:RunK P B ops ((ops.toList.drop s).take (p-s)) E (fun E₁=>∃ (G:Value->Prop) (E₂:Value->Env),EffG P n B ops o E₁ G E₂∧∀ b,G b->RunTK P n B ops draw C (p+1) (E₂ b))): RunTK P n B ops draw C s E:=by
 obtain⟨E₁,h1,G,E₂,h2,h3⟩:=h; exact .effG hsp ho hb h1 h2 h3
theorem eff_appendVO{t:TypeId}{z:Value}{r x:Operand}{dst:Nat}{v:Value}{f:D}{vs:List Value}(ht:P.underlying t=some (.slice e))(hinfo:InfoIs P e z nb)(hnb:nb<=64)(hz1:z.cells.size=1)
  (hr:E.at r=some (.v v))(hk:E.look k=some (ownM B v e m xs))(hx:E.at x=some f)(hf:Le f (lst (vs.map .v)))(h1:∀ u∈vs,u.oneCell'=true)(hbd:m+vs.length<=1099511627776)(hdst:dst<n)(hkd:k≠dst)(hkE:E'.look k=none)(hl:∀ g,B<=g->(v.ownBlock=some g∨NewV B E g)->LeftS B e g E' E):
  Eff P n B ops ⟨some dst,.call { callee:=.builtin .append,args:=#[r,x],argTypes:=#[t,t] },ty,pos,after,none⟩ E ((dst,own B e (m+vs.length) (xs++vs))::E'):=fun κ a w K Q h hK =>
 eff_appendV ht hinfo hnb hz1 hr hk hx hf h1 hbd hdst hl κ a w K Q h fun v' a' w' _ hbel hst=>hK a' w' hbel ⟨hst.base,hst.defers,hst.size,fun s d hd=>by
  by_cases hs:dst=s
  ·subst hs
   rw[look_here] at hd; injection hd with hd; subst hd
   have h2:a'.tmps.getD dst undef=v':=hst.of dst _ (look_here _ _ _)
   have h3:=hst.of k _ (by rw[look_past _ _ (Ne.symm hkd),look_here])
   rw[h2]; exact h3
  ·rw[look_past _ _ hs] at hd
   by_cases hks:k=s
   ·subst hks
    rw[hkE] at hd; cases hd
   ·exact hst.of s d (by rw[look_past _ _ hs,look_past _ _ hks]; exact hd)⟩
end
section
section
variable {P:Program} {n B:Nat} {ops:Array Oper} {E:Env} {ty:TypeId} {pos:String} {after:Array Edge}
def Named (E:Env) (L:List Nat):Prop:=∀ b∈L,∃ s e xs,vbase<=s∧E.look s=some (blk b e xs)
theorem Named.nil: Named E []:=fun _ h=>by cases h
theorem Named.cons{L:List Nat}(hs:vbase<=s)(h:E.look s=some (blk b e xs))(hr:Named E L): Named E (b::L):=fun b' hb=>by
 rcases List.mem_cons.1 hb with rfl|hb
 ·exact⟨s,e,xs,hs,h⟩
 ·exact hr b' hb
def freshV (base:Nat) (L:List Nat) (T:TypeId) (zs:List Value):D :=
 .p (fun B w x=>∃ b,x = .pointer (some ⟨b,0,none⟩)∧base<=b∧(∀ b'∈L,b'<b)∧b<B∧w.heap[b]?=some (.cells zs.toArray T (0,0)))
  (fun _ _ _ _ g ⟨b,h1,h2,h3,h4,h5⟩=>⟨b,h1,h2,h3,h4,(g.block b h4).trans h5⟩) (fun _ _ _ _ g ⟨b,h1,h2,h3,h4,h5⟩=>⟨b,h1,h2,h3,by omega,h5⟩)
end
end
section
structure Marks (m:Nat) (w w':World):Prop where
 os:w'.os=w.os
 tape:w'.tape=w.tape
 output:w'.output=w.output
 size:w.heap.size<=w'.heap.size
 block:∀ k o,w.heap[k]?=some o->w'.heap[k]?=some o∨(m<=k∧∃ cs e fr fr',o = .cells cs e fr∧w'.heap[k]?=some (.cells cs e fr'))
theorem Marks.below{w':World}(h:Marks m w w')(hm:m<=w.heap.size): Below m w w':=⟨h.os,h.tape,h.output,h.size,fun k hk=>by
 have hlt:k<w.heap.size:=by omega
 rcases h.block k _ (Array.getElem?_eq_getElem hlt) with h1|⟨h1,_⟩
 ·rw[h1,Array.getElem?_eq_getElem hlt]
 ·omega⟩
theorem Marks.cell{w':World}(h:Marks m w w'){a:Addr}{v:Value}(hc:w.cell? a=some v): w'.cell? a=some v:=by
 unfold World.cell? at hc ⊢
 cases hb:w.heap[a.block]? with
 | none=>rw[hb] at hc; cases hc
 | some o =>
  rw[hb] at hc
  rcases h.block _ _ hb with h1|⟨_,cs,e,fr,fr',rfl,h1⟩
  ·rw[h1]; exact hc
  ·rw[h1]; exact hc
class StbM (d:D):Prop where
 st:∀ m w w' B x,Marks m w w'->d.OfB B w x->d.OfB B w' x
instance (x:Value):StbM (.v x):=⟨fun _ _ _ _ _ _ h=>h⟩
class StbL (ds:List D):Prop where
 st:∀ (j:Nat) (d:D),ds[j]?=some d->StbM d
instance:StbL []:=⟨fun _ _ h=>by simp at h⟩
instance (d:D) (ds:List D) [hd:StbM d] [hl:StbL ds]:StbL (d::ds):=⟨fun j e h=>by
 cases j with
 | zero=>simp at h; subst h; exact hd
 | succ j=>exact hl.st j e (by simpa using h)⟩
instance (l:List UInt8):StbL (l.map byteD):=⟨fun j d h=>by
 simp only[List.getElem?_map,Option.map_eq_some_iff] at h
 obtain⟨b,_,rfl⟩:=h
 exact inferInstanceAs (StbM (.v _))⟩
instance (b:UInt8):StbM (byteD b):=inferInstanceAs (StbM (.v _))
theorem ListF.mark[hl:StbL ds]{c:Nat}{w':World}{x:Value}(k:Marks m w w'): ListF ds c B w x->ListF ds c B w' x :=
 fun⟨A,vs,h1,h2,h3,h4,h5,h6⟩=>⟨A,vs,h1,h2,h3,h4,fun j u hu=>by
  obtain⟨ad,g1,g2,g3⟩:=h5 j u hu
  exact⟨ad,g1,g2,k.cell g3⟩,fun j d u hd hu=>(hl.st j d hd).st m w w' B u k (h6 j d u hd hu)⟩
instance (ds:List D) (c:Nat) [StbL ds]:StbM (list ds c):=⟨fun _ _ _ _ _ k h=>ListF.mark k h⟩
instance (ds:List D) [StbL ds]:StbM (lst ds):=⟨fun _ _ _ _ _ k ⟨c,h⟩=>⟨c,ListF.mark k h⟩⟩
instance (l:List UInt8) (c:Nat):StbM (bytes l c):=inferInstanceAs (StbM (list _ c))
instance (l:List UInt8):StbM (byt l):=inferInstanceAs (StbM (lst _))
def newL (m:Nat) (ds:List D) (c:Nat):D:=.p (fun B w x=>(∃ (a:Addr) (len:Nat),x = .slice (some a) len c∧m<=a.block∧a.block<B)∧ListF ds c B w x) (fun _ _ _ _ g ⟨h1,h2⟩=>⟨h1,h2.keep g⟩) (fun _ _ _ _ g ⟨⟨a,l,h0,h1,h2⟩,h3⟩=>⟨⟨a,l,h0,h1,by omega⟩,h3.up g⟩)
instance (m:Nat) (ds:List D) (c:Nat) [StbL ds]:StbM (newL m ds c):=⟨fun _ _ _ _ _ k ⟨h1,h2⟩=>⟨h1,ListF.mark k h2⟩⟩
section
variable {P:Program} {m B:Nat} {E:Env} {dst:Option Tmp} {ty:TypeId} {pos:String} {after:Array Edge} {guard:Option (Nat×Bool)}
theorem build_run{t:TypeId}{ps:Array (Nat×Operand)}{z:Value}(ds:List D)(ht:P.underlying t=some (.slice e))(hinfo:InfoIs P e z nb)(hz1:z.cells=#[z])
  (hn:0<n)(hn':n<=65536)(hl:ds.length=n)(hp:Parts E ds ps.toList 0)(h1:∀ d∈ds,∀ w x,d.Of w x->x.oneCell'=true)(ρ:Operand->Value)(w:World)
  (hρ:∀ x,x∈(Op.buildSlice t n ps).operands->∀ e,E.at x=some e->e.Of w (ρ x)):
  ∃ us:Array Value,(execOp ρ ⟨dst,.buildSlice t n ps,ty,pos,after,guard⟩).run P w = .ok (.value (.slice (some ⟨w.heap.size,0,none⟩) n n)) (w.alloc (.cells us e)):=by
 obtain⟨i,hi,hz,hs,_⟩:=hinfo.get
 let us:List Value:=ps.toList.map fun p=>ρ p.2
 have hul:us.length=n:=by simp only[us,List.length_map]; rw[<- hp.length,hl]
 have hof:∀ (j:Nat) (d:D),ds[j]?=some d->∃ u,us[j]?=some u∧d.Of w u:=fun j d hd=>by
  obtain⟨x,hx,he⟩:=hp.nth hd
  refine⟨ρ x,by simp only[us,List.getElem?_map,hx]; rfl,hρ x ?_ d he⟩
  simp only[Op.operands,List.mem_toArray,List.mem_map]
  exact⟨_,List.mem_of_getElem? hx,rfl⟩
 have hus:∀ u∈us,u.oneCell'=true:=fun u hu=>by
  obtain⟨j,hj⟩:=List.mem_iff_getElem?.1 hu
  have hlt:j<ds.length:=by have:=(List.getElem?_eq_some_iff.1 hj).1; omega
  obtain⟨u',hu',hd⟩:=hof j ds[j] (List.getElem?_eq_getElem hlt)
  rw[hj] at hu'; injection hu' with hu'; subst hu'
  exact h1 _ (List.getElem_mem hlt) w u hd
 have hparts:(ps.map fun(i,x)=>(i,ρ x)).toList=(us.zipIdx 0).map fun x=>(x.2,x.1):=by
  apply List.ext_getElem?
  intro j
  rcases Nat.lt_or_ge j ds.length with hj|hj
  ·obtain⟨x,hx,_⟩:=hp.nth (List.getElem?_eq_getElem hj)
   have hx':ps[j]?=some (0+j,x):=by simpa using hx
   simp[us,List.getElem?_zipIdx,hx']
  ·rw[List.getElem?_eq_none (by simp; have:=hp.length; simp at this; omega),List.getElem?_eq_none (by simp; omega)]
 have hz':(Array.range (n*i.size)).map (z.cells[·%z.cells.size]!)=([]++List.replicate n z).toArray:=by
  rw[hs,hz1,Nat.mul_one]
  apply Array.ext
  ·simp
  ·intro j h1 h2; simp[Nat.mod_one]
 have hfill:Instr.fill (fun j=>some (j*i.size,i.size)) ((Array.range (n*i.size)).map (z.cells[·%z.cells.size]!)) (ps.map fun(i,x)=>(i,ρ x)).toList=some us.toArray:=by
  rw[hz',hparts,hs,fill_dense us [] (List.replicate n z) 0 hus rfl (by simp[hul])]
  simp[hul]
 have hr:=run_buildSlice (P:=P) w t e n (ps.map fun(i,x)=>(i,ρ x)) us.toArray i z ht hi hz (by rw[hs]; omega) (by rw[hs]; omega) hfill
 exact⟨us.toArray,by simp[execOp,hr]⟩
theorem freeze_key{a : Addr}: (w.freeze ⟨a.block, k, none⟩ n).os = w.os ∧ (w.freeze ⟨a.block, k, none⟩ n).tape = w.tape ∧ (w.freeze ⟨a.block, k, none⟩ n).output = w.output ∧ (w.freeze ⟨a.block, k, none⟩ n).heap.size = w.heap.size ∧
      ∀ j o, w.heap[j]? = some o -> (w.freeze ⟨a.block, k, none⟩ n).heap[j]? = some o ∨ (j = a.block ∧ ∃ cs e fr fr', o = .cells cs e fr ∧ (w.freeze ⟨a.block, k, none⟩ n).heap[j]? = some (.cells cs e fr')) := by
  unfold World.freeze
  split
  · exact ⟨rfl, rfl, rfl, rfl, fun j o h => .inl h⟩
  · refine ⟨rfl, rfl, rfl, by simp, fun j o h => ?_⟩
    by_cases hj : a.block = j
    · subst hj
      simp only [Array.getElem?_modify, if_true, h, Option.map_some]
      cases o with
      | cells cs e fr =>
        obtain ⟨s, t⟩ := fr
        simp only
        right
        refine ⟨by first | trivial | rfl, cs, e, (s, t), ?_⟩
        first
          | exact ⟨_, rfl, rfl⟩
          | (split <;> exact ⟨_, rfl, rfl⟩)
      | _ => exact .inl rfl
    · simp [Array.getElem?_modify, hj, h]
theorem freeze_marks{a:Addr}(hm:m<=a.block): Marks m w (w.freeze ⟨a.block,k,none⟩ n):=by
 obtain⟨h1,h2,h3,h4,h5⟩:=freeze_key (w:=w) (a:=a) (k:=k) (n:=n)
 refine⟨h1,h2,h3,by omega,fun j o h=>(h5 j o h).imp id ?_⟩
 rintro ⟨rfl,h6⟩
 exact⟨hm,h6⟩
end
def newT (B:Nat) (e:TypeId) (l:List UInt8) (c:Nat):D:=.p (fun B' w x=>(∃ (a:Addr) (len:Nat) (cs:Array Value) (fr:Nat×Nat),x = .slice (some a) len c∧B<=a.block∧a.block<B'∧w.heap[a.block]?=some (.cells cs e fr))∧ListF (l.map byteD) c B' w x)
 (fun _ _ _ _ g ⟨⟨a,len,cs,fr,h0,h1,h2,h3⟩,h4⟩=>⟨⟨a,len,cs,fr,h0,h1,h2,(g.block _ h2).trans h3⟩,h4.keep g⟩)
 (fun _ _ _ _ g ⟨⟨a,len,cs,fr,h0,h1,h2,h3⟩,h4⟩=>⟨⟨a,len,cs,fr,h0,h1,by omega,h3⟩,h4.up g⟩)
instance (B:Nat) (e:TypeId) (l:List UInt8) (c:Nat):StbM (newT B e l c):=⟨fun m w w' B' x k ⟨⟨a,len,cs,fr,h0,h1,h2,h3⟩,h4⟩=>⟨by
 rcases k.block _ _ h3 with h|⟨_,cs',e',fr',fr'',h5,h⟩
 ·exact⟨a,len,cs,fr,h0,h1,h2,h⟩
 ·injection h5 with h6 h7 h8
  subst h6; subst h7
  exact⟨a,len,_,_,h0,h1,h2,h⟩,ListF.mark k h4⟩⟩
theorem newT_byt{l:List UInt8}{c:Nat}: Le (newT B e l c) (byt l):=fun _ _ _ h=>⟨c,h.2⟩
theorem ok_buildT{t:TypeId}{ps:Array (Nat×Operand)}{z:Value}(l:List UInt8)(ht:P.underlying t=some (.slice e))(hinfo:InfoIs P e z nb)(hz1:z.cells=#[z])
  (hn:0<n)(hn':n<=65536)(hl:l.length=n)(hp:Parts E (l.map byteD) ps.toList 0):
  OpOk P B ⟨dst,.buildSlice t n ps,ty,pos,after,guard⟩ E (newT B e l n):=fun ρ w hB hv hρ=>by
 have h1:∀ d∈l.map byteD,∀ w x,d.Of w x->x.oneCell'=true:=fun d hd w x h=>by
  simp only[List.mem_map] at hd; obtain⟨b,_,rfl⟩:=hd; exact v_one rfl h
 have hlm:(l.map byteD).length=n:=by rw[List.length_map,hl]
 have:=ok_build (P:=P) (B:=B) (dst:=dst) (ty:=ty) (pos:=pos) (after:=after) (guard:=guard) (l.map byteD) ht hinfo hz1 hn hn' hlm hp h1 ρ w hB hv hρ
 obtain⟨us,hrun⟩:=build_run (P:=P) (dst:=dst) (ty:=ty) (pos:=pos) (after:=after) (guard:=guard) (l.map byteD) ht hinfo hz1 hn hn' hlm hp h1 ρ w hρ
 unfold Out at this ⊢
 rw[hrun] at this ⊢
 exact⟨this.1,⟨⟨_,n,us,(0,0),rfl,hB,by simp,heap_alloc_new w _⟩,this.2⟩⟩
def SurvM (B T g:Nat) (d:D):Prop:=∀ w w' x,Wrote B T g w w'->Marks B w w'->d.Of w x->d.Of w' x
theorem SurvM.of{T:Nat}(h:Surv B T g d): SurvM B T g d:=fun w w' x k _ hx=>h w w' x k hx
theorem SurvM.stb{T:Nat}[hs:StbM d]: SurvM B T g d:=fun _ _ _ _ m hx=>(hs.st _ _ _ _ _ m hx).up m.size
def LeftM (B T g:Nat) (E' E:Env):Prop:=∀ p∈E',E.look p.1=some p.2∧SurvM B T g p.2
theorem LeftM.nil{T:Nat}: LeftM B T g [] E:=fun _ h=>by cases h
theorem LeftM.cons{T:Nat}{t:Nat}(h:E.look t=some d)(hs:SurvM B T g d)(hr:LeftM B T g E' E): LeftM B T g ((t,d)::E') E:=fun p hp=>by
 rcases List.mem_cons.1 hp with rfl|hp
 ·exact⟨h,hs⟩
 ·exact hr p hp
theorem eff_convN{t:TypeId}{x:Operand}{l:List UInt8}{c dst:Nat}(ht:P.underlying t=some (.slice e))(he:P.underlying e=some (.int .u8))(hx:E.at x=some (newT B e l c))(hdst:dst<n)(hl:∀ g,B<=g->LeftM B e g E' E):
  Eff P n B ops ⟨some dst,.convert t t x,ty,pos,after,none⟩ E ((dst,newT B e l c)::E'):=by
 intro κ a w K Q h hK
 have h0:(newT B e l c).Of w (a.eval x):=h.at_ x _ hx
 obtain⟨⟨ad,len,cs,fr,hv,hb,hlt,hh⟩,hlf⟩:=h0
 have hsh:(shape ad.block).run P w = .ok (some (e,cs.size)) w:=by simp[shape,Sem.run,World.shape?,hh]
 have hexec:(execOp a.eval ⟨some dst,.convert t t x,ty,pos,after,none⟩).run P w = .ok (.value (a.eval x)) (w.freeze ⟨ad.block,cs.size,none⟩ 1):=by
  simp[execOp,hv,convert,run_underlying ht,run_underlying he,markStringish,hsh]
 rw[if_pos (by simp[Region.wanted])]
 refine opR (by nofun) ?_
 unfold Oper.wp
 rw[hexec,Oper.upon_value]
 have hmk:=freeze_marks (w:=w) (k:=cs.size) (n:=1) hb
 have hwr:Wrote B e ad.block w (w.freeze ⟨ad.block,cs.size,none⟩ 1):=by
  obtain⟨_,_,_,_,h5⟩:=freeze_key (w:=w) (a:=ad) (k:=cs.size) (n:=1)
  refine⟨hb,hmk.os,hmk.tape,hmk.output,hmk.size,fun o ho=>?_,fun j hj hne=>?_⟩
  ·rw[hh] at ho; injection ho with ho; exact⟨_,_,ho.symm⟩
  ·rcases h5 j _ (Array.getElem?_eq_getElem hj) with h6|⟨h6,_⟩
   ·rw[h6,Array.getElem?_eq_getElem hj]
   ·exact absurd h6 hne
 have hst:St κ n B E' a (w.freeze ⟨ad.block,cs.size,none⟩ 1):=⟨Nat.le_trans h.base hmk.size,h.defers,h.size,fun s d hd=>by
  obtain⟨h6,h7⟩:=hl ad.block hb _ (look_mem hd)
  exact h7 _ _ _ hwr hmk (h.of s d h6)⟩
 refine hK _ _ (hmk.below h.base) (hst.put hdst ?_);exact(StbM.st _ _ _ _ _ hmk (h.at_ x _ hx)).up hmk.size
end
section
variable {κ:Cx}
theorem St.push{a:Act}{t:Nat}(h:St κ n B E a w)(hd:d.Of w (a.tmps.getD t undef)): St κ n B ((t,d)::E) a w :=
 ⟨h.base,h.defers,h.size,fun s e he=>by
  by_cases hts:t=s
  ·subst hts
   rw[look_here] at he; injection he with he; subst he; exact hd
  ·rw[look_past _ _ hts] at he
   exact h.of s e he⟩
def varD (b:Nat) (T:TypeId) (d:D):D :=
 .p (fun B w _=>b<B∧∃ u:Value,w.heap[b]?=some (.cells #[u] T (0,0))∧d.OfB B w u)
  (fun _ _ _ _ g ⟨h1,u,h2,h3⟩=>⟨h1,u,(g.block b h1).trans h2,h3.keep g⟩) (fun _ _ _ _ g ⟨h1,u,h2,h3⟩=>⟨by omega,u,h2,h3.up g⟩)
theorem varD_eq{T:TypeId}{d':D}(h:d=d'): varD b T d=varD b T d':=by rw[h]
theorem Surv.varD{T:Nat}(h:b≠g)(hd:Surv B T g d): Surv B T g (Go.Proofs.YtjigbkamgfidkaaGreatDoor.varD b e d):=fun w w' _ k ⟨h1,u,h2,h3⟩ =>
 ⟨Nat.lt_of_lt_of_le h1 k.size,u,(k.other b h1 h).trans h2,hd w w' u k h3⟩
section
variable {P:Program} {n B:Nat} {ops:Array Oper} {E:Env} {dst:Option Tmp} {ty:TypeId} {pos:String} {after:Array Edge} {guard:Option (Nat×Bool)}
theorem eff_storeD{t:TypeId}{z:Value}{p x:Operand}{z₀:Value}(hinfo:InfoIs P t z nb)(hp:E.at p=some (.v (.pointer (some ⟨b,0,none⟩))))(hx:E.at x=some d)(hu:∀ w u,d.Of w u->u.oneCell'=true)
  (hb:B<=b)(hblk:E.look s=some (blk b e [z₀]))(hd:Surv B e b d)(hl:LeftS B e b E' E):
  Eff P n B ops ⟨none,.store t p x,ty,pos,after,none⟩ E ((s,varD b e d)::E'):=by
 obtain⟨i,hi,_,hs,_⟩:=hinfo.get
 intro κ a w K Q h hK
 have hp':a.eval p=_:=h.at_ p _ hp
 have hx':d.Of w (a.eval x):=h.at_ x _ hx
 obtain⟨u,hu'⟩:∃ u,a.eval x=u:=⟨_,rfl⟩
 rw[hu'] at hx'
 have hu:=hu w u hx'
 obtain⟨hlt,hh⟩:=h.of s _ hblk
 have hcell:w.cell? ⟨b,0,none⟩=some z₀:=by simp[World.cell?,hh]
 have hfr:w.frozen? ⟨b,0,none⟩=false:=by simp[World.frozen?,hh]
 have hcu:u.cells=#[u]:=by cases u<;>simp_all [Value.oneCell',Value.cells]
 have hadd:(⟨b,0,none⟩:Addr).add 0=⟨b,0,none⟩:=rfl
 have hset:=setCell_eq_setRow w b 0 [z₀].toArray e (0,0) u hh
 have hrun:(execOp a.eval ⟨none,.store t p x,ty,pos,after,none⟩).run P w = .ok .skip (w.setRow b ([z₀].toArray.setIfInBounds 0 u)):=by
  rw[<- hset]
  simp[execOp,hp',hu',Instr.storeAt,Instr.sureAddr,storeVar,hcu,sizeOf,typeInfo,hi,hs,storeCells,hadd,run_store P w ⟨b,0,none⟩ u .plain hu,hcell,hfr]
 rw[if_pos (by simp[Region.wanted])]
 refine opR (by nofun) ?_
 unfold Oper.wp
 rw[hrun,Oper.upon_skip]
 have hwr:=Wrote.setRow hb hh ([z₀].toArray.setIfInBounds 0 u)
 have hst:=hl.st h hwr
 refine hK _ _ (hwr.below h.base) (hst.push ?_);exact⟨by simpa using hlt,u,by rw[setRow_heap w b _ _ e _ hh]; simp,hd _ _ _ hwr hx'⟩
theorem ok_strB{s t:TypeId}{x:Operand}{l:List UInt8}(hs:P.underlying s=some .string)(ht:P.underlying t=some (.slice e))(he:P.underlying e=some (.int .u8))(hx:E.at x=some (str l))(hl:l.length<=maxLen):
  OpOk P B ⟨dst,.convert s t x,ty,pos,after,guard⟩ E (byt l):=fun ρ w hB _ hρ=>by
 have h1:ρ x = .string ⟨l.toArray⟩:=hρ x (by simp[Op.operands]) _ hx
 have hr:=run_bytes_of_string (P:=P) w s t e ⟨l.toArray⟩ hs ht he
 have hc1:l.length<=grownCap w l.length 0 e:=grownCap_ge w _ 0 e
 have hc2:=grownCap_le_maxLen w l.length 0 e hl
 have hsz:(⟨l.toArray⟩:ByteArray).size=l.length:=rfl
 rw[hsz] at hr
 obtain⟨c,hc⟩:∃ c,grownCap w l.length 0 e=c:=⟨_,rfl⟩
 rw[hc] at hr hc1 hc2
 obtain⟨fr,hfr⟩:∃ fr,((bytesRow ⟨l.toArray⟩ c).size,(bytesRow ⟨l.toArray⟩ c).size+1)=fr:=⟨_,rfl⟩
 rw[hfr] at hr
 have hg:Grow w (w.drew.alloc (.cells (bytesRow ⟨l.toArray⟩ c) e fr)):=((Grow.refl w).drew).trans (Grow.alloc w.drew _)
 refine out_val (x:=.slice (some ⟨w.heap.size,0,none⟩) l.length c) (w':=w.drew.alloc (.cells (bytesRow ⟨l.toArray⟩ c) e fr)) (by simp only[execOp,h1,Sem.run_bind,hr,Result.andThen_ok,Sem.run_pure]) ⟨hg,c,?_⟩
 refine bytes_mk (l:=l) hc1 hc2 fun j u hu=>⟨_,rfl,?_,?_⟩
 ·show w.heap.size<(w.drew.alloc _).heap.size
  rw[World.size_alloc]; exact Nat.lt_succ_self _
 ·have hh:=World.alloc_heap_new w.drew (.cells (bytesRow ⟨l.toArray⟩ c) e fr)
  have hd:w.drew.heap.size=w.heap.size:=rfl
  rw[hd] at hh
  rw[add_lit0,Nat.zero_add]
  unfold World.cell?
  simp only
  rw[hh]
  simp only[bytesRow,Option.isSome_none,Bool.false_eq_true,if_false]
  have hj:j<l.length:=by have:=(List.getElem?_eq_some_iff.1 hu).1; simpa using this
  rw[Array.getElem?_append_left (by simpa using hj)]
  simpa [byteV] using hu
end
theorem byt_all{l:List UInt8}(h:l.length=n): Le (lst ((((l.map byteV).take n).drop 0).map .v)) (byt l) :=
 Le.eq (by rw[byt_vals,List.drop_zero,List.take_of_length_le (Nat.le_of_eq (by rw[List.length_map,h]))])
def VArgs (E:Env):List Value->List Operand->Prop
 | [],[]=>True
 | u::us,x::xs=>E.at x=some (.v u)∧VArgs E us xs
 | _,_=>False
theorem VArgs.map {E:Env} {ρ:Operand->Value}:∀ {us:List Value} {xs:List Operand},VArgs E us xs->(∀ x∈xs,∀ v,E.at x=some (.v v)->ρ x=v)->xs.map ρ=us
 | [],[],_,_=>rfl
 | [],_::_,h,_=>h.elim
 | _::_,[],h,_=>h.elim
 | u::us,x::xs,⟨h1,h2⟩,hρ=>by rw[List.map_cons,hρ x List.mem_cons_self u h1,VArgs.map h2 fun y hy v hv=>hρ y (List.mem_cons_of_mem _ hy) v hv]
section
variable {P:Program} {n B:Nat} {w₀:World} {ops:Array Oper} {E:Env} {dst:Option Tmp} {ty:TypeId} {pos:String} {after:Array Edge} {guard:Option (Nat×Bool)}
theorem ok_makeFuncN{f:FuncId}{xs:Array Operand}(us:List Value)(h:VArgs E us xs.toList): OpOk P B ⟨dst,.makeFunc (.func f) #[] xs,ty,pos,after,guard⟩ E (.v (.func (.func f) #[] us.toArray)):=fun ρ w _ _ hρ=>by
 have hmem:∀ x∈xs.toList,x∈(Op.makeFunc (.func f) #[] xs).operands:=fun x hx=>by
  have hx':x∈xs:=by simpa using hx
  simp[Op.operands,hx']
 have h1:=h.map (ρ:=ρ) fun x hx v hv=>hρ x (hmem x hx) _ hv
 have h2:xs.map ρ=us.toArray:=by
  apply Array.ext'
  rw[Array.toList_map]; exact h1
 exact out_val (w':=w) (by simp[execOp,h2,Instr.makeFunc]) ⟨Grow.refl w,rfl⟩
abbrev ptr (b:Nat):Value:=.pointer (some ⟨b,0,none⟩)
variable {f:Nat} {T₁ T₂ T₃:TypeId} {d₁ d₂ d₃:D}
theorem A.openFresh{c:Code}{Q:Exit->Act->World->Prop}{t B':Nat}{L:List Nat}{T:TypeId}{zs:List Value}(ht:E.look t=some (freshV B' L T zs))(h:∀ b,B'<=b->A κ P w₀ n c ((t,.v (ptr b))::(k,blk b T zs)::E) Q): A κ P w₀ n c E Q:=fun a w g hs=>by
 obtain⟨b,h1,h2,_,h4,h5⟩:=hs.of t _ ht
 exact h b h2 a w g ((hs.push (t:=k) (d:=blk b T zs) ⟨h4,h5⟩).push (d:=.v _) h1)
theorem Firm.freshV{base:Nat}{L:List Nat}{T:TypeId}{zs:List Value}: Firm l (Go.Proofs.YtjigbkamgfidkaaGreatDoor.freshV base L T zs):=fun w o o' _ hl ho ⟨b,h1,h2,h3,h4,h5⟩=>by
 have hne:b≠l:=fun hb=>by subst hb; rw[h5] at hl; injection hl with hl; subst hl; cases ho
 exact⟨b,h1,h2,h3,by simpa using h4,(World.putObj_heap_other hne).trans h5⟩
end
end
section
variable {κ:Cx}
def wroteD (T:TypeId) (g:Nat) (w₁:World):D :=
 .p (fun B w _=>w₁.heap.size<=B∧Wrote g T g w₁ w) (fun _ _ _ _ h ⟨h1,h2⟩=>⟨h1,⟨h2.base,h.os.trans h2.os,h.tape.trans h2.tape,h.output.trans h2.output,Nat.le_trans h2.size h.size,h2.cel,fun k hk hne=>(h.block k (Nat.lt_of_lt_of_le hk h1)).trans (h2.other k hk hne)⟩⟩)
  (fun _ _ _ _ h ⟨h1,h2⟩=>⟨Nat.le_trans h1 h,h2⟩)
theorem Surv.wrote{T:Nat}{w₁:World}: Surv B T g (wroteD T g w₁):=fun _ _ _ k ⟨h1,h2⟩ =>
 ⟨Nat.le_trans h1 k.size,⟨h2.base,k.os.trans h2.os,k.tape.trans h2.tape,k.output.trans h2.output,Nat.le_trans h2.size k.size,h2.cel,fun j hj hne=>(k.other j (Nat.lt_of_lt_of_le hj h1) hne).trans (h2.other j hj hne)⟩⟩
def cutW (w:World) (g:Nat):World:={ w with heap:=w.heap.extract 0 g }
theorem cutW_size(h:g<=w.heap.size): (cutW w g).heap.size=g:=by simp[cutW]; omega
theorem cutW_below(h:g<=w.heap.size): Below (cutW w g).heap.size (cutW w g) w :=
 ⟨rfl,rfl,rfl,by rw[cutW_size h]; exact h,fun k hk=>by
  rw[cutW_size h] at hk
  simp only[cutW,Array.getElem?_extract]
  rw[if_pos (by omega),Nat.zero_add]⟩
end
section
variable {κ:Cx}
end
section
variable {κ:Cx}
theorem SizeIs.get{T:TypeId}(h:SizeIs P T m): ∃ i,P.info? T=some i∧i.size=m:=by
 unfold SizeIs at h
 cases hi:P.info? T with
 | none=>rw[hi] at h; cases h
 | some i=>rw[hi] at h; exact⟨i,rfl,by simpa using h⟩
section
variable {P:Program} {n B:Nat} {ops:Array Oper} {E:Env} {dst:Option Tmp} {ty:TypeId} {pos:String} {after:Array Edge} {guard:Option (Nat×Bool)}
theorem ok_nilCheck{x:Operand}{ad:Addr}(hx:E.at x=some (.v (.pointer (some ad)))): OpOk P B ⟨dst,.nilCheck x,ty,pos,after,guard⟩ E (.v (.pointer (some ad))):=fun ρ w _ _ hρ=>by
 have h1:ρ x = .pointer (some ad):=hρ x (by simp[Op.operands]) _ hx
 exact out_val (w':=w) (by simp[execOp,h1]) ⟨Grow.refl w,rfl⟩
theorem ok_indexN{t:TypeId}{len:Nat}{x i:Operand}{o:Nat}{k:IntKind}{j:Int}(m:Nat)(ht:P.underlying t=some (.array len e))(hs:SizeIs P e sz)(hx:E.at x=some (.v (.pointer (some ⟨b,o,none⟩))))(hi:E.at i=some (.v (.int k j)))
  (h0:j=(m:Int))(hn:m<len): OpOk P B ⟨dst,.indexAddr t x i,ty,pos,after,guard⟩ E (.v (.pointer (some ⟨b,o+m*sz,none⟩))):=fun ρ w _ _ hρ=>by
 have h1:ρ x=_:=hρ x (by simp[Op.operands]) _ hx
 have hi':ρ i = .int k j:=hρ i (by simp[Op.operands]) _ hi
 obtain⟨info,hinfo,hsize⟩:=hs.get
 refine out_val (w':=w) ?_ ⟨Grow.refl w,rfl⟩
 subst h0
 have hadd:(⟨b,o,none⟩:Addr).add (m*sz)=⟨b,o+m*sz,none⟩:=add_lit0 _ _ _
 simp[execOp,h1,hi',Instr.indexAt,Instr.sureAddr,asIntOf,run_underlying ht,sizeOf,typeInfo,hinfo,hsize,hadd]
 intro hle
 omega
theorem ok_makeFuncM{f:FuncId}{x:Operand}{u:Value}(hx:E.at x=some (.v u)): OpOk P B ⟨dst,.makeFunc (.func f) #[x] #[],ty,pos,after,guard⟩ E (.v (.func (.func f) #[u] #[])):=fun ρ w _ _ hρ=>by
 have h1:ρ x=u:=hρ x (by simp[Op.operands]) _ hx
 exact out_val (w':=w) (by simp[execOp,h1,Instr.makeFunc]) ⟨Grow.refl w,rfl⟩
theorem ok_callVM{f:FuncId}{M:Env}{x:Operand}{us:List Value}{args:Array Operand}{argTypes:Array TypeId}(hf:FnM P f M (ds++us.map D.v) d)(hM:Sub M E)(hMb:∀ p∈M,vbase<=p.1)
  (hx:E.at x=some (.v (.func (.func f) #[] us.toArray)))(ha:Args E ds args.toList):
  OpOk P B ⟨dst,.call { callee:=.value x,args:=args,argTypes:=argTypes },ty,pos,after,guard⟩ E d:=fun ρ w _ hv hρ=>by
 obtain⟨fn,h1,h2,h3⟩:=hf.body
 have hfun:ρ x = .func (.func f) #[] us.toArray:=hρ x (by simp[Op.operands,Call.operands]) _ hx
 have hrun:(execOp ρ ⟨dst,.call { callee:=.value x,args:=args,argTypes:=argTypes },ty,pos,after,guard⟩).run P w = .ok (.enter f (args.map ρ++us.toArray)) w:=by
  have h2':¬ fn.name = "runtime.NumGoroutine":=by simpa using h2
  have h3':¬ fn.body=none:=by intro h; rw[h] at h3; cases h3
  simp[execOp,resolve,Deferred.ofValue,hfun,invoke,callFunc,h1,h2',h3']
 unfold Out
 rw[hrun]
 have:=hf.calls (args.toList.map ρ++us) w (fun p hp=>hv p.1 p.2 (hMb p hp) (hM p hp)) (by rw[List.length_append,List.length_append,List.length_map,List.length_map,ha.length]) fun j e u he hu=>by
  rcases Nat.lt_or_ge j ds.length with hj|hj
  ·rw[List.getElem?_append_left hj] at he
   rw[List.getElem?_append_left (by rw[List.length_map,<- ha.length]; exact hj),List.getElem?_map] at hu
   cases hx:args.toList[j]? with
   | none=>rw[hx] at hu; cases hu
   | some x =>
    rw[hx] at hu; injection hu with hu; subst hu
    obtain⟨e',h4,h5⟩:=ha.nth he hx
    exact h5.of (hρ x (by simp[Op.operands,Call.operands]; exact .inr (by simpa using List.mem_of_getElem? hx)) _ h4)
  ·rw[List.getElem?_append_right hj,List.getElem?_map] at he
   rw[List.getElem?_append_right (by rw[List.length_map,<- ha.length]; exact hj),List.length_map,<- ha.length] at hu
   rw[hu] at he
   injection he with he; subst he; rfl
 have harr:(args.toList.map ρ++us).toArray=args.map ρ++us.toArray:=by apply Array.ext'; simp
 rw[harr] at this
 exact this.mono fun e w' ⟨x,he,g,hx⟩=>⟨x,he,g,hx⟩
end
theorem Surv.wroteN{T T':Nat}{w₁:World}(h:w₁.heap.size<=b): Surv B T b (wroteD T' g w₁):=fun _ _ _ k ⟨h1,h2⟩ =>
 ⟨Nat.le_trans h1 k.size,⟨h2.base,k.os.trans h2.os,k.tape.trans h2.tape,k.output.trans h2.output,Nat.le_trans h2.size k.size,h2.cel,fun j hj hne=>(k.other j (Nat.lt_of_lt_of_le hj h1) (by omega)).trans (h2.other j hj hne)⟩⟩
def NewW (B:Nat) (E:Env) (b:Nat):Prop:=B<=b∧(∀ s b' e xs,E.look s=some (blk b' e xs)->b'<b)∧∀ s T g w₁,E.look s=some (wroteD T g w₁)->w₁.heap.size<=b
theorem eff_allocW{T:TypeId}{zs:List Value}{d:Nat}(hz:ZeroIs P T zs)(hdn:d<n):
  EffG P n B ops ⟨some d,.alloc T,ty,pos,after,none⟩ E (NewW B E) (fun b=>(d,.v (.pointer (some ⟨b,0,none⟩)))::(k,blk b T zs)::E):=by
 obtain⟨i,z,hi,hz,hc⟩:=hz.get
 intro κ a w K Q h hK
 have hrun:(execOp a.eval ⟨some d,.alloc T,ty,pos,after,none⟩).run P w = .ok (.value (.pointer (some ⟨w.heap.size,0,none⟩))) (w.alloc (.cells zs.toArray T)):=by
  simp[execOp,Instr.alloc,zeroValue,typeInfo,hi,hz,newVar,newRow,hc]
 rw[if_pos (by simp[Region.wanted])]
 refine opR (by nofun) ?_
 unfold Oper.wp
 rw[hrun,Oper.upon_value]
 have hst:=h.grow (Grow.alloc w (.cells zs.toArray T))
 refine hK w.heap.size _ _ ⟨h.base,fun s b' e ys hs=>(h.of s _ hs).1,fun s T g w₁ hs=>(h.of s _ hs).1⟩ ((Below.refl B w).alloc h.base _) (St.put (hst.push ?_) hdn rfl)
 exact⟨by simp,heap_alloc_new w _⟩
end
section
variable {κ:Cx}
structure FnWR (P:Program) (f:FuncId) (M:Env) (T g:Nat) (xs ys:List Value) (ds:List D) (u:Value):Prop where
 body:∃ fn,P.funcs[f]?=some fn∧(fn.name == "runtime.NumGoroutine")=false∧fn.body.isNone=false
 calls:∀ (vs:List Value) (w:World),vs.length=ds.length->(∀ (j:Nat) (e:D) (u:Value),ds[j]?=some e->vs[j]?=some u->e.Of w u)->(∀ p∈M,p.2.Of w undef)->g<w.heap.size->w.heap[g]?=some (.cells xs.toArray T (0,0)) ->
  Calls P f vs.toArray w fun e w'=>e = .returned u∧Wrote g T g w w'∧w'.heap[g]?=some (.cells ys.toArray T (0,0))
section
variable {P:Program} {n B:Nat} {ops:Array Oper} {E:Env} {ty:TypeId} {pos:String} {after:Array Edge}
theorem eff_callWR{f:FuncId}{M:Env}{T dst:Nat}{u:Value}{args:Array Operand}{argTypes:Array TypeId}(hf:FnWR P f M T g xs ys ds u)(hM:∀ p∈M,∃ k,vbase<=k∧E.look k=some p.2) 
  (ha:Args E ds args.toList)(hg:B<=g)(hblk:E.look s=some (blk g T xs))(hn:n<=vbase)(hdst:dst<n)(hl:LeftS B T g E' E):
  Eff P n B ops ⟨some dst,.call { callee:=.value (.func f),args:=args,argTypes:=argTypes },ty,pos,after,none⟩ E ((dst,.v u)::(s,blk g T ys)::E'):=by
 intro κ a w K Q h hK
 obtain⟨fn,h1,h2,h3⟩:=hf.body
 have hfun:a.eval (.func f) = .func (.func f) #[] #[]:=h.at_ (.func f) _ rfl
 have hrun:(execOp a.eval ⟨some dst,.call { callee:=.value (.func f),args:=args,argTypes:=argTypes },ty,pos,after,none⟩).run P w = .ok (.enter f (args.map a.eval)) w:=by
  have h2':¬ fn.name = "runtime.NumGoroutine":=by simpa using h2
  have h3':¬ fn.body=none:=by intro h; rw[h] at h3; cases h3
  simp[execOp,resolve,Deferred.ofValue,hfun,invoke,callFunc,h1,h2',h3']
 obtain⟨hlt,hh⟩:=h.of s _ hblk
 have hcall:=hf.calls (args.toList.map a.eval) w (by rw[List.length_map,ha.length]) (fun j e u he hu=>by
  rw[List.getElem?_map] at hu
  cases hx:args.toList[j]? with
  | none=>rw[hx] at hu; cases hu
  | some x =>
   rw[hx] at hu; injection hu with hu; subst hu
   obtain⟨e',h4,h5⟩:=ha.nth he hx
   exact h5.of (h.at_ x _ h4)) (fun p hp=>by
  obtain⟨k,h4,h5⟩:=hM p hp
  have h6:=h.of k _ h5
  rwa [show a.tmps.getD k undef=undef from by
   rw[Array.getD_eq_getD_getElem?,Array.getElem?_eq_none (by rw[h.size]; omega)]; rfl] at h6) hlt hh
 have harr:(args.toList.map a.eval).toArray=args.map a.eval:=by apply Array.ext'; simp
 rw[harr] at hcall
 rw[if_pos (by simp[Region.wanted])]
 refine opR (by nofun) ?_
 unfold Oper.wp
 rw[hrun,Oper.upon_enter]
 refine Calls.mono hcall ?_
 rintro e w' ⟨rfl,hw,hh'⟩
 have hwr:Wrote B T g w w':=⟨hg,hw.os,hw.tape,hw.output,hw.size,hw.cel,hw.other⟩
 have hst:=hl.st h hwr
 have hlt':g<w'.heap.size:=(Array.getElem?_eq_some_iff.1 hh').1
 exact hK _ _ (hwr.below h.base) (St.put (hst.push (d:=blk g T ys) ⟨hlt',hh'⟩) hdst rfl)
theorem FnWR.of{f:FuncId}{c:Code}{M:Env}{T kb kw:Nat}{us:List Value}{u:Value}(hf:P.funcs[f]?=some fn)(hb:fn.body=some c)(hname:(fn.name == "runtime.NumGoroutine")=false)(hn:fn.ntmps=n)(hds:us.length<=n)(hnv:n<=vbase)
  (hMb:∀ p∈M,vbase<=p.1)(hkb:vbase<=kb)(hkw:vbase<=kw)(args:Env)(hargs:∀ p∈args,∃ v,p.2 = .v v∧us[p.1]?=some v)
  (h:∀ w₀ w₁:World,w₀.heap.size=g->A Cx.top P w₀ n c (args++((kb,blk g T xs)::(kw,wroteD T g w₁)::M)) (BP P fn fun e w'=>e = .returned u∧Wrote g T g w₁ w'∧w'.heap[g]?=some (.cells ys.toArray T (0,0)))):
  FnWR P f M T g xs ys (us.map D.v) u:=by
 refine⟨⟨fn,hf,hname,by rw[hb]; rfl⟩,fun vs w hl hv hM hlt hh=>?_⟩
 have hvs:vs=us:=by
  apply List.ext_getElem?
  intro j
  simp only[List.length_map] at hl
  rcases Nat.lt_or_ge j us.length with hj|hj
  ·have h1:=hv j (.v us[j]) vs[j] (by simp[hj]) (List.getElem?_eq_getElem (by omega))
   rw[List.getElem?_eq_getElem hj,List.getElem?_eq_getElem (by omega)]
   exact congrArg some h1
  ·rw[List.getElem?_eq_none hj,List.getElem?_eq_none (by omega)]
 subst hvs
 have hsz:=cutW_size (w:=w) (g:=g) (Nat.le_of_lt hlt)
 refine callsIn_FR.1 (callsIn_of_wp_marks (F:=FR none) (n:=0) hf hb trivial (h (cutW w g) w hsz _ w (cutW_below (Nat.le_of_lt hlt)) ⟨by rw[hsz]; omega,rfl,?_,fun t e he=>?_⟩))
 ·simp[hn]; omega
 ·show e.Of w ((vs.toArray++Array.replicate (fn.ntmps-vs.toArray.size) undef).getD t undef)
  have hund:vbase<=t->(vs.toArray++Array.replicate (fn.ntmps-vs.toArray.size) undef).getD t undef=undef:=fun ht=>by
   rw[Array.getD_eq_getD_getElem?,Array.getElem?_eq_none (by simp[hn]; omega)]; rfl
  rcases List.mem_append.1 (look_mem he) with hm|hm
  ·obtain⟨v,h1,h2⟩:=hargs _ hm
   simp only at h1 h2
   have hj:t<vs.length:=(List.getElem?_eq_some_iff.1 h2).1
   rw[Array.getD_eq_getD_getElem?,Array.getElem?_append_left (by simpa using hj)]
   subst h1
   simp[h2]; rfl
  ·rcases List.mem_cons.1 hm with h1|hm
   ·injection h1 with h1 h2; subst h1; subst h2
    exact⟨hlt,hh⟩
   ·rcases List.mem_cons.1 hm with h1|hm
    ·injection h1 with h1 h2; subst h1; subst h2
     exact⟨Nat.le_refl _,Nat.le_refl _,rfl,rfl,rfl,Nat.le_refl _,fun o ho=>by rw[hh] at ho; injection ho with ho; exact⟨_,_,ho.symm⟩,fun _ _ _=>rfl⟩
    ·have h1:=hMb _ hm
     rw[hund h1]
     exact hM _ hm
theorem End.wroteR{w₁:World}{T kb kw r:Nat}{u:Value}{x:Exit}(hex:x = .ret∨x = .normal)(hr:fn.results=#[.tmp r])(he:E.look r=some (.v u))(hb:E.look kb=some (blk g T xs))(hx:xs=ys)(hw:E.look kw=some (wroteD T g w₁)):
  End Cx.top w₀ n E (BP P fn (fun e w'=>e = .returned u∧Wrote g T g w₁ w'∧w'.heap[g]?=some (.cells ys.toArray T (0,0))) x):=fun a w _ hs=>by
 subst hx
 have key:LeavesInM (FR none) 0 P fn a.tmps (fun e w'=>e = .returned u∧Wrote g T g w₁ w'∧w'.heap[g]?=some (.cells xs.toArray T (0,0))) a.defers .returning w:=by
  rw[show a.defers=[] from hs.defers]
  have h1:a.tmps.getD r undef=u:=hs.of r _ he
  exact⟨a.tmps.getD r undef,by simp[results,hr],by rw[h1],(hs.of kw _ hw).2,(hs.of kb _ hb).2⟩
 rcases hex with rfl|rfl
 ·exact key
 ·exact key
end
section
variable {P:Program} {n:Nat} {w₀:World} {E:Env}
theorem End.cellT{r r':Nat}{T:TypeId}{d' e':D}(hr:fn.results=#[.cell r T,.tmp r'])(ht:P.underlying T=some td)(hp:(match td with | .struct _ | .array _ _=>true|_=>false)=true)(hsz:SizeIs P T xs.length)
  (h1:E.look r=some (.v (.pointer (some ⟨b,0,none⟩))))(h2:E.look s=some (blk b e xs))(hl:Le (.v (aggV xs)) d)(h1':E.look r'=some e')(hl':Le e' d'): End Cx.top w₀ n E (BP P fn (PostOf w₀ (tup [d,d'])) .ret):=fun a w g hs=>by
 have h3:a.tmps[r]?.getD undef = .pointer (some ⟨b,0,none⟩):=by rw[<- Array.getD_eq_getD_getElem?]; exact hs.of r _ h1
 obtain⟨_,hh⟩:=hs.of s _ h2
 have k1:=run_loadVar_row (P:=P) w b e T xs.toArray (0,0) td hh ht hp (by simpa [SizeIs] using hsz)
 refine BP.ret hs.defers ⟨.tuple #[aggV xs,a.tmps.getD r' undef],by simp[results,hr,h3,asAddr,k1,aggV],_,rfl,g,[aggV xs,a.tmps.getD r' undef],rfl,rfl,fun j e u he hu=>?_⟩
 match j,he,hu with
 | 0,he,hu=>simp at he hu; subst he; subst hu; exact hl.of rfl
 | 1,he,hu=>simp only[List.getElem?_cons_succ,List.getElem?_cons_zero,Option.some.injEq] at he hu; subst he; subst hu; exact hl'.of (hs.of r' _ h1')
 | j+2,he,_=>simp at he
def closR (base f:Nat) (e₁:TypeId) (xs:List Value) (e₂:TypeId) (ys:List Value):D :=
 .p (fun B w x=>∃ p q,base<=p∧base<=q∧p≠q∧p<B∧q<B∧x = .func (.func f) #[] #[ptr p,ptr q]∧w.heap[p]?=some (.cells xs.toArray e₁ (0,0))∧w.heap[q]?=some (.cells ys.toArray e₂ (0,0)))
  (fun _ _ _ _ g ⟨p,q,h1,h2,h3,h4,h5,h6,h7,h8⟩=>⟨p,q,h1,h2,h3,h4,h5,h6,(g.block p h4).trans h7,(g.block q h5).trans h8⟩)
  (fun _ _ _ _ g ⟨p,q,h1,h2,h3,h4,h5,h6⟩=>⟨p,q,h1,h2,h3,by omega,by omega,h6⟩)
theorem closR_mono{f:Nat}{e₁ e₂:TypeId}(B B':Nat)(h:B<=B'): Le (closR B' f e₁ xs e₂ ys) (closR B f e₁ xs e₂ ys):=fun _ _ _ ⟨p,q,h1,h2,h3⟩=>⟨p,q,by omega,by omega,h3⟩
theorem End.closR{r k₁ k₂ p q f:Nat}{e₁ e₂:TypeId}{x:Exit}(hx:x = .ret∨x = .normal)(hr:fn.results=#[.tmp r])(hp:w₀.heap.size<=p)(hq:w₀.heap.size<=q)(hpq:p≠q)(ht:E.look r=some (.v (.func (.func f) #[] #[ptr p,ptr q])))
  (h1:E.look k₁=some (blk p e₁ xs))(h2:E.look k₂=some (blk q e₂ ys)): End Cx.top w₀ n E (BP P fn (PostOf w₀ (Go.Proofs.YtjigbkamgfidkaaGreatDoor.closR w₀.heap.size f e₁ xs e₂ ys)) x):=fun a w g hs=>by
 obtain⟨h3,h4⟩:=hs.of k₁ _ h1
 obtain⟨h5,h6⟩:=hs.of k₂ _ h2
 have key:∃ v,(results fn a.tmps).run P w = .ok v w∧PostOf w₀ (Go.Proofs.YtjigbkamgfidkaaGreatDoor.closR w₀.heap.size f e₁ xs e₂ ys) (.returned v) w :=
  ⟨a.tmps.getD r undef,by simp[results,hr],_,rfl,g,p,q,hp,hq,hpq,h3,h5,hs.of r _ ht,h4,h6⟩
 rcases hx with rfl|rfl
 ·exact BP.ret hs.defers key
 ·exact BP.ret hs.defers key
theorem A.openClosR{c:Code}{Q:Exit->Act->World->Prop}{t k₁ k₂ f:Nat}{e₁ e₂:TypeId}(ht:E.look t=some (closR B f e₁ xs e₂ ys))
  (h:∀ p q,B<=p->B<=q->p≠q->A κ P w₀ n c ((t,.v (.func (.func f) #[] #[ptr p,ptr q]))::(k₁,blk p e₁ xs)::(k₂,blk q e₂ ys)::E) Q): A κ P w₀ n c E Q:=fun a w g hs=>by
 obtain⟨p,q,h1,h2,h3,h4,h5,h6,h7,h8⟩:=hs.of t _ ht
 exact h p q h1 h2 h3 a w g (((hs.push (t:=k₂) (d:=blk q e₂ ys) ⟨h5,h8⟩).push (t:=k₁) (d:=blk p e₁ xs) ⟨h4,h7⟩).push (d:=.v _) h6)
def valM (v:Value) (d:D):D:=.p (fun B w _=>d.OfB B w v) (fun _ _ _ _ g h=>h.keep g) (fun _ _ _ _ g h=>h.up g)
end
section
variable {P:Program} {B:Nat} {E:Env} {dst:Option Tmp} {ty:TypeId} {pos:String} {after:Array Edge} {guard:Option (Nat×Bool)}
theorem OpOk.fact{o:Oper}{v:Value}(h:OpOk P B o E (.v v))(hs:vbase<=s)(hk:E.look s=some (blk b e xs))(hd:∀ B w,b<B->w.heap[b]?=some (.cells xs.toArray e (0,0))->d.OfB B w v): OpOk P B o E d:=fun ρ w hB hv hρ=>by
 refine(h ρ w hB hv hρ).mono fun x w' hx=>⟨hx.1,?_⟩
 obtain⟨h1,h2⟩:=(hv s _ hs hk:(blk b e xs).Of w undef)
 have h3:(blk b e xs).Of w' undef:=D.Of.grow (d:=blk b e xs) ⟨h1,h2⟩ hx.1
 obtain⟨h4,h5⟩:=h3
 rw[show x=v from hx.2]
 exact hd _ _ h4 h5
theorem slice_byt{o c:Nat}(l:List UInt8)(hn:n=l.length)(hc:n<=c)(hm:c<=maxLen)(hl:(xs.drop o).take n=l.map byteV)(B:Nat)(w:World)(hb:b<B)(hh:w.heap[b]?=some (.cells xs.toArray e (0,0))): (byt l).OfB B w (.slice (some ⟨b,o,none⟩) n c):=by
 subst hn
 refine⟨c,bytes_mk hc hm fun j u hu=>?_⟩
 rw[<- hl,List.getElem?_take] at hu
 split at hu
 ·rw[List.getElem?_drop] at hu
  refine⟨_,rfl,hb,?_⟩
  rw[add_lit0]
  simp[World.cell?,hh,hu]
 ·cases hu
theorem ok_appendFull{t:TypeId}{z:Value}{r x:Operand}{f g:D}{l m:List UInt8}(ht:P.underlying t=some (.slice e))(hinfo:InfoIs P e z nb)(hnb:nb<=64)(hz1:z.cells.size=1)
  (hr:E.at r=some g)(hg:Le g (bytes l l.length))(hx:E.at x=some f)(hf:Le f (byt m))(hl:0<l.length)(hpos:0<m.length)(hk:l.length+m.length<=1099511627776):
  OpOk P B ⟨dst,.call { callee:=.builtin .append,args:=#[r,x],argTypes:=#[t,t] },ty,pos,after,guard⟩ E (own B e (l.length+m.length) ((l++m).map byteV)):=fun ρ w hB hv hρ=>by
 obtain⟨i,hi,hz,hs,hby⟩:=hinfo.get
 obtain⟨A1,hre,_,hlm,hrow1⟩:=bytes_open (l:=l) (hg.of (hρ r (by simp[Op.operands,Call.operands]) _ hr))
 obtain⟨c,hb⟩:=hf.of (hρ x (by simp[Op.operands,Call.operands]) _ hx)
 obtain⟨A2,hxe,hle,hcm,hrow⟩:=bytes_open (l:=m) hb
 have h1:∃ a1,A1=some a1:=by
  cases l with
  | nil=>simp at hl
  | cons b l=>obtain⟨ad,h,_⟩:=hrow1 0 (byteV b) rfl; exact⟨ad,h⟩
 have h2:∃ a2,A2=some a2:=by
  cases m with
  | nil=>simp at hpos
  | cons b l=>obtain⟨ad,h,_⟩:=hrow 0 (byteV b) rfl; exact⟨ad,h⟩
 obtain⟨a1,rfl⟩:=h1
 obtain⟨a2,rfl⟩:=h2
 have hbb:(l.length+m.length)*i.bytes<=(l.length+m.length)*64:=Nat.mul_le_mul_left _ (by omega)
 obtain⟨v',w',h2,h3,h4⟩:=run_append_arg_grows (P:=P) w t ty e i z 1 i.bytes ht hi hz hs rfl hz1 (by omega) a1 l.length l.length (l.map byteV) (by simp) hrow1.cell a2 m.length c (m.map byteV) (by simp) hrow.cell (by omega) (by simp only[maxLen]; omega) (by omega)
 refine out_val (x:=v') (w':=w') (by simp[execOp,resolve,invoke,builtin,hre,hxe,h2]) ⟨(Below.refl w.heap.size w).grown h4 (Nat.le_refl _) (fun g hg=>by cases hg),?_⟩
 rw[List.map_append]
 refine⟨⟨h3.1,h3.2.imp id ?_⟩,fun g hg=>?_⟩
 ·rintro ⟨g,cap,cur,h5,h6,h7⟩; exact⟨g,cap,cur,h5,by omega,h7⟩
 ·rcases h3.2 with ⟨hv',_⟩|⟨g',cap,cur,hv',_,hh',_⟩
  ·rw[hv'] at hg; simp[Value.ownBlock] at hg
  ·rw[hv'] at hg; simp[Value.ownBlock] at hg; subst hg
   rcases Nat.lt_or_ge g' w'.heap.size with h|h
   ·exact h
   ·rw[Array.getElem?_eq_none h] at hh'; cases hh'
end
end

section
section
variable {P:Program} {n B:Nat} {ops:Array Oper} {C:Env->Prop} {κ:Cx} {Q:Exit->Act->World->Prop}
def AnyT (P:Program) (n B:Nat) (ops:Array Oper) (C:Env->Prop):Nat->Array Bool->Env->Prop
 | 0,listed,E=>Region.ready .any ops listed=[]∧C E
 | fuel+1,listed,E=>(Region.ready .any ops listed=[]∧C E)∨(Region.ready .any ops listed≠[]∧∀ i∈Region.ready .any ops listed,∃ o,ops[i]?=some o∧∃ (ι:Type) (G:ι->Prop) (E₂:ι->Env),EffG P n B ops o E G E₂∧∀ j,G j->AnyT P n B ops C fuel (listed.setIfInBounds i true) (E₂ j))
def NextT (P:Program) (n B:Nat) (ops:Array Oper) (C:Env->Prop) (fuel:Nat) (listed:Array Bool) (E:Env):List Nat->Prop
 | []=>True
 | i::r=>(∃ o,ops[i]?=some o∧∃ (ι:Type) (G:ι->Prop) (E₂:ι->Env),EffG P n B ops o E G E₂∧∀ j,G j->AnyT P n B ops C fuel (listed.setIfInBounds i true) (E₂ j))∧NextT P n B ops C fuel listed E r
theorem NextT.all {fuel:Nat} {listed:Array Bool} {E:Env}:∀ {is:List Nat},NextT P n B ops C fuel listed E is->∀ i∈is,∃ o,ops[i]?=some o∧∃ (ι:Type) (G:ι->Prop) (E₂:ι->Env),EffG P n B ops o E G E₂∧∀ j,G j->AnyT P n B ops C fuel (listed.setIfInBounds i true) (E₂ j)
 | [],_,i,hi=>by cases hi
 | k::r,h,i,hi=>by
  rcases List.mem_cons.1 hi with rfl|hi
  ·exact h.1
  ·exact NextT.all h.2 i hi
theorem AnyT.last{fuel:Nat}{listed:Array Bool}(hr:Region.ready .any ops listed=[])(hC:C E): AnyT P n B ops C fuel listed E:=by
 cases fuel with
 | zero=>exact⟨hr,hC⟩
 | succ fuel=>exact .inl ⟨hr,hC⟩
theorem AnyT.step{fuel:Nat}{listed:Array Bool}(i:Nat)(is:List Nat)(hr:Region.ready .any ops listed=i::is)(h:NextT P n B ops C fuel listed E (i::is)): AnyT P n B ops C (fuel+1) listed E :=
 .inr ⟨by rw[hr]; simp,by rw[hr]; exact h.all⟩
theorem OpOk.asV{o:Oper}(x:Value){y:Value}(h:y=x)(hok:OpOk P B o E (.v y)): OpOk P B o E (.v x):=h▸hok
theorem NextT.pure{fuel:Nat}{listed:Array Bool}{t:Nat}{o:Oper}{r:List Nat}(hf:fits n ops=true)(ho:ops[i]?=some o)(ht:o.dst=some t)(hg:o.guard=none)(hok:OpOk P B o E d)(h:AnyT P n B ops C fuel (listed.setIfInBounds i true) ((t,d)::E))(hr:NextT P n B ops C fuel listed E r):
  NextT P n B ops C fuel listed E (i::r):=by
 refine⟨⟨o,ho,Unit,fun _=>True,fun _=>(t,d)::E,fun κ a w K Q hs hK=>?_,fun _ _=>h⟩,hr⟩
 have hfo:=fits_mem hf (o:=o) (by simpa using Array.mem_of_getElem? ho)
 exact good_wp hs.base (hs.virt (fits_base hf)) ht (.inl ⟨by simp[GuardIs,hg],hok⟩) (fun s e _ he=>hs.of s e he) (fun s hs'=>by rw[hs.size]; exact hfo.1 s hs') fun x w' g hx=>hK () _ _ trivial (Below.mono g hs.base) ((hs.grow g).put (hfo.2 t ht) hx)
theorem NextT.eff{fuel:Nat}{listed:Array Bool}{o:Oper}{r:List Nat}(ho:ops[i]?=some o)(he:Eff P n B ops o E E')(h:AnyT P n B ops C fuel (listed.setIfInBounds i true) E')(hr:NextT P n B ops C fuel listed E r):
  NextT P n B ops C fuel listed E (i::r):=⟨⟨o,ho,Unit,fun _=>True,fun _=>E',he.g,fun _ _=>h⟩,hr⟩
theorem wp_anyE:∀ {fuel:Nat} {listed:Array Bool} {E:Env} {a:Act} {w:World},AnyT P n B ops C fuel listed E->St κ n B E a w->(∀ E' a' w',C E'->Below B w w'->St κ n B E' a' w'->Q .normal a' w')->wpAnyIn (FR κ.rd) 0 P .any ops Q fuel listed a w
 | 0,_,_,_,w,⟨hr,hC⟩,hs,hQ=>⟨hr,hQ _ _ _ hC (Below.refl B w) hs⟩
 | fuel+1,_,_,_,w,.inl ⟨hr,hC⟩,hs,hQ=>⟨fun _=>hQ _ _ _ hC (Below.refl B w) hs,fun i hi=>by rw[hr] at hi; cases hi⟩
 | fuel+1,_,_,_,w,.inr ⟨hne,h⟩,hs,hQ=>⟨fun hr=>absurd hr hne,fun i hi=>by
  obtain⟨o,ho,ι,G,E₂,he,hn⟩:=h i hi
  exact wpOpR_step ho fun K hK=>he κ _ _ K Q hs fun j a' w' hj g' h'=>hK _ _ (wp_anyE (hn j hj) h' fun E' a3 w3 hC g3 h3=>hQ E' a3 w3 hC (g'.trans g3) h3)⟩
theorem A.regsE{y:Code}{id:Nat}(hm:P.follows .mixedOrders=true)(hr:AnyT P n w₀.heap.size ops (fun E₁=>A κ P w₀ n y E₁ Q) ops.size (Array.replicate ops.size false) E): A κ P w₀ n (.seq (.region id ops true) y) E Q:=A.seq fun a w hg hst=>by
 have hd:Below w₀.heap.size w w.drew:=(Below.refl _ w).drew
 exact wpIn_region_any hm (wp_anyE hr (hst.grow (Grow.refl w).drew) fun E' a' w' hC g h'=>hC a' w' (hg.trans (hd.trans g)) h')
end
end
section
variable {κ:Cx}
section
variable {P:Program} {B:Nat} {E:Env} {o:Oper}
theorem OpOk.valO{v:Value}{f:D}{B':Nat}(h:OpOk P B o E (.v v))(hk:vbase<=k)(hl:E.look k=some (old B' (valM v f))): OpOk P B o E (old B' f):=fun ρ w hB hv hρ=>by
 refine(h ρ w hB hv hρ).mono fun x w' hx=>⟨hx.1,?_⟩
 have h2:(old B' (valM v f)).Of w' undef:=D.Of.grow (hv k _ hk hl) hx.1
 rw[show x=v from hx.2]
 exact h2
theorem OpOk.valP{v:Value}{f:D}(h:OpOk P B o E (.v v))(hk:vbase<=k)(hl:E.look k=some (valM v f)): OpOk P B o E f:=fun ρ w hB hv hρ=>by
 refine(h ρ w hB hv hρ).mono fun x w' hx=>⟨hx.1,?_⟩
 have h2:(valM v f).Of w' undef:=D.Of.grow (hv k _ hk hl) hx.1
 rw[show x=v from hx.2]
 exact h2
variable {dst:Option Tmp} {ty:TypeId} {pos:String} {after:Array Edge} {guard:Option (Nat×Bool)}
theorem ok_extractV{x:Operand}{u:Value}(hx:E.at x=some (.v (.tuple xs.toArray)))(hi:xs[i]?=some u): OpOk P B ⟨dst,.extract x i,ty,pos,after,guard⟩ E (.v u):=fun ρ w _ _ hρ=>by
 have h1:ρ x = .tuple xs.toArray:=hρ x (by simp[Op.operands]) _ hx
 exact out_val (x:=u) (w':=w) (by simp[execOp,h1,Instr.extract,hi]) ⟨Grow.refl w,rfl⟩
end
def newD (base:Nat) (e:TypeId) (val:Nat->Value) (xs:List Value):D :=
 .p (fun B w x=>∃ b,x=val b∧base<=b∧b<B∧w.heap[b]?=some (.cells xs.toArray e (0,0)))
  (fun _ _ _ _ g ⟨b,h1,h2,h3,h4⟩=>⟨b,h1,h2,h3,(g.block b h3).trans h4⟩) (fun _ _ _ _ g ⟨b,h1,h2,h3,h4⟩=>⟨b,h1,h2,by omega,h4⟩)
theorem newD_mono{val:Nat->Value}(B B':Nat)(h:B<=B'): Le (newD B' e val xs) (newD B e val xs):=fun _ _ _ ⟨b,h1,h2,h3,h4⟩=>⟨b,h1,by omega,h3,h4⟩
theorem fresh_newD: Le (fresh B e xs n) (newD B e (fun b=>.slice (some ⟨b,0,none⟩) n xs.length) xs):=fun _ _ _ ⟨b,h1,h2,h3,h4⟩=>⟨b,h1,h2,h3,h4⟩
theorem eff_name{o:Oper}{d:Nat}{val:Nat->Value}(ht:o.dst=some d)(hg:o.guard=none)(hok:∀ B',OpOk P B' o E (newD B' e val xs))(hdn:d<n)(hnv:n<=vbase):
  EffG P n B ops o E (NewB B E) (fun b=>(d,.v (val b))::(k,blk b e xs)::E):=by
 intro κ a w K Q h hK
 rw[if_pos (by simp[Region.wanted,hg])]
 refine wp_of_out ht ((hok w.heap.size a.eval w (Nat.le_refl _) (h.virt hnv) fun x _ u hu=>h.at_ x _ hu).mono ?_)
 rintro x w' ⟨hgr,b,rfl,hb,hlt,hh⟩
 refine hK b _ _ ⟨Nat.le_trans h.base hb,fun s b' e ys hs=>Nat.lt_of_lt_of_le (h.of s _ hs).1 hb⟩ (Below.mono hgr h.base) (St.put ?_ hdn rfl)
 exact(h.grow hgr).push (t:=k) (d:=blk b e xs) ⟨hlt,hh⟩
theorem eff_nameF{o:Oper}{d:Nat}{c:Nat}(hc:xs.length=c)(ht:o.dst=some d)(hg:o.guard=none)(hok:∀ B',OpOk P B' o E (fresh B' e xs m))(hdn:d<n)(hnv:n<=vbase):
  EffG P n B ops o E (NewB B E) (fun b=>(d,.v (.slice (some ⟨b,0,none⟩) m c))::(k,blk b e xs)::E):=hc▸eff_name ht hg (fun B'=>(hok B').le fresh_newD) hdn hnv
section
variable {P:Program} {n:Nat} {w₀:World} {E:Env}
theorem load_cell{T:TypeId}(ht:P.underlying T=some td)(hp:(match td with | .struct _ | .array _ _=>true|_=>false)=true)(hsz:SizeIs P T xs.length)(hh:w.heap[b]?=some (.cells xs.toArray e (0,0))):
  (loadVar T ⟨b,0,none⟩).run P w = .ok (aggV xs) w:=by
 have:=run_loadVar_row (P:=P) w b e T xs.toArray (0,0) td hh ht hp (by simpa [SizeIs] using hsz)
 simpa [aggV] using this
theorem End.new1{r kg:Nat}{T e':TypeId}{zs:List Value}{val:Nat->Value}(hr:fn.results=#[.cell r T])(ht:P.underlying T=some td)(hp:(match td with | .struct _ | .array _ _=>true|_=>false)=true)(hsz:SizeIs P T ys.length)
  (h1:E.look r=some (.v (.pointer (some ⟨b,0,none⟩))))(h2:E.look s=some (blk b e' ys))(h4:E.look kg=some (blk g e zs))(hg:w₀.heap.size<=g)(hv:val g=aggV ys)(hz:zs=xs):
  End Cx.top w₀ n E (BP P fn (PostOf w₀ (newD w₀.heap.size e val xs)) .ret):=fun a w gr hs=>by
 subst hz
 have h3:a.tmps[r]?.getD undef = .pointer (some ⟨b,0,none⟩):=by rw[<- Array.getD_eq_getD_getElem?]; exact hs.of r _ h1
 obtain⟨_,hh⟩:=hs.of s _ h2
 obtain⟨hl',hh'⟩:=hs.of kg _ h4
 exact BP.ret hs.defers ⟨aggV ys,by simp[results,hr,h3,asAddr,load_cell ht hp hsz hh],_,rfl,gr,g,hv.symm,hg,hl',hh'⟩
theorem End.cellV{r r':Nat}{T e':TypeId}{v':Value}(hr:fn.results=#[.cell r T,.tmp r'])(ht:P.underlying T=some td)(hp:(match td with | .struct _ | .array _ _=>true|_=>false)=true)(hsz:SizeIs P T ys.length)
  (h1:E.look r=some (.v (.pointer (some ⟨b,0,none⟩))))(h2:E.look s=some (blk b e' ys))(h5:E.look r'=some (.v v')): End Cx.top w₀ n E (BP P fn (PostOf w₀ (.v (.tuple #[aggV ys,v']))) .ret):=fun a w gr hs=>by
 have h3:a.tmps[r]?.getD undef = .pointer (some ⟨b,0,none⟩):=by rw[<- Array.getD_eq_getD_getElem?]; exact hs.of r _ h1
 have h6:a.tmps[r']?.getD undef=v':=by rw[<- Array.getD_eq_getD_getElem?]; exact hs.of r' _ h5
 obtain⟨_,hh⟩:=hs.of s _ h2
 exact BP.ret hs.defers ⟨.tuple #[aggV ys,v'],by simp[results,hr,h3,h6,asAddr,load_cell ht hp hsz hh],_,rfl,gr,rfl⟩
theorem End.newF{r kg:Nat}{zs:List Value}{v:Value}{val:Nat->Value}(hr:fn.results=#[.tmp r])(h1:E.look r=some (.v v))(h4:E.look kg=some (blk g e zs))(hg:w₀.heap.size<=g)(hv:val g=v)(hz:zs=xs):
  End Cx.top w₀ n E (BP P fn (PostOf w₀ (newD w₀.heap.size e val xs)) .ret):=fun a w gr hs=>by
 subst hz
 obtain⟨hl',hh'⟩:=hs.of kg _ h4
 exact BP.ret hs.defers ⟨a.tmps.getD r undef,by simp[results,hr],_,rfl,gr,g,by rw[hv]; exact hs.of r _ h1,hg,hl',hh'⟩
theorem End.ret2V{r:Nat}{u v:Value}(hr:fn.results=#[.tmp r,.tmp s])(h1:E.look r=some (.v u))(h2:E.look s=some (.v v)): End Cx.top w₀ n E (BP P fn (PostOf w₀ (.v (.tuple #[u,v]))) .ret):=fun a w gr hs=>by
 have h3:a.tmps[r]?.getD undef=u:=by rw[<- Array.getD_eq_getD_getElem?]; exact hs.of r _ h1
 have h4:a.tmps[s]?.getD undef=v:=by rw[<- Array.getD_eq_getD_getElem?]; exact hs.of s _ h2
 exact BP.ret hs.defers ⟨.tuple #[u,v],by simp[results,hr,h3,h4],_,rfl,gr,rfl⟩
end
end
section
def opV (o:Op) (E:Env):Option D:=match o with
 | .move x=>E.at x
 | .assign x=>E.at x
 | .pick c x y=>match E.at c with
  | some (.v (.bool true))=>E.at x
  | some (.v (.bool false))=>E.at y
  | _=>none
 | .binOp op _ x y _=>match E.at x,E.at y with
  | some (.v a),some (.v b)=>match binV op a b with
   | some c=>some (.v c)
   | none=>none
  | _,_=>none
 | .unOp .not _ x=>match E.at x with
  | some (.v (.bool b))=>some (.v (.bool (!b)))
  | _=>none
 | .extract x i=>match E.at x with
  | some (.v (.tuple xs))=>match xs.toList[i]? with
   | some u=>some (.v u)
   | none=>none
  | _=>none
 | _=>none
theorem opV_ok{o:Oper}(h:opV o.op E=some d): OpOk P B o E d:=by
 obtain⟨dst,op,ty,pos,after,guard⟩:=o
 simp only at h
 unfold opV at h
 split at h
 ·exact ok_move h
 ·exact ok_assign h
 ·split at h
  ·rename_i hc; exact ok_pick hc h
  ·rename_i hc; exact ok_pick hc h
  ·cases h
 ·split at h
  ·rename_i hx hy
   split at h
   ·rename_i hb; injection h with h; subst h; exact ok_bin hx hy hb
   ·cases h
  ·cases h
 ·split at h
  ·rename_i hx; injection h with h; subst h; exact ok_not hx
  ·cases h
 ·split at h
  ·rename_i hx
   split at h
   ·rename_i hi; injection h with h; subst h; exact ok_extractV (by rw[hx,Array.toArray_toList]) hi
   ·cases h
  ·cases h
 ·cases h
def runV (ops:Array Oper):Nat->List Oper->Env->Option (List Oper×Env)
 | 0,l,E=>some (l,E)
 | _+1,[],_=>none
 | k+1,o::l,E=>match o.dst with
  | none=>none
  | some t=>match o.guard with
   | none=>match opV o.op E with
    | none=>none
    | some d=>runV ops k l ((t,d)::E)
   | some (j,want)=>match (ops[j]?).bind (·.dst) with
    | none=>none
    | some s=>match E.look s with
     | some (.v (.bool c))=>match c==want with
      | true=>match opV o.op E with
       | none=>none
       | some d=>runV ops k l ((t,d)::E)
      | false=>runV ops k l ((t,.v undef)::E)
     | _=>none
section
variable {P:Program} {B n:Nat} {ops:Array Oper} {E E':Env} {C:Env->Prop} {l l':List Oper}
theorem RV:∀ (k:Nat) {l:List Oper} {E:Env},runV ops k l E=some (l',E')->RunK P B ops l' E' C->RunK P B ops l E C
 | 0,l,E,h,hr=>by
  simp only[runV,Option.some.injEq,Prod.mk.injEq] at h
  obtain⟨rfl,rfl⟩:=h; exact hr
 | k+1,[],E,h,hr=>by simp[runV] at h
 | k+1,o::l,E,h,hr=>by
  unfold runV at h
  split at h
  ·cases h
  ·rename_i ht
   split at h
   ·rename_i hg
    split at h
    ·cases h
    ·rename_i hv; exact RunK.step ht hg (opV_ok hv) (RV k h hr)
   ·rename_i hg
    split at h
    ·cases h
    ·rename_i hj
     split at h
     ·rename_i hE
      split at h
      ·rename_i hc
       split at h
       ·cases h
       ·rename_i hv
        have hc2:=eq_of_beq hc
        subst hc2
        exact RunK.guarded ht hg hj hE (opV_ok hv) (RV k h hr)
      ·rename_i hc; exact RunK.skipped ht hg hj hE hc (RV k h hr)
     ·cases h
def pickE (E:Env):List Nat->Option Env
 | []=>some []
 | t::r=>match E.look t with
  | none=>none
  | some d=>match pickE E r with
   | none=>none
   | some E'=>some ((t,d)::E')
theorem Sv:∀ (ks:List Nat) {E':Env},pickE E ks=some E'->Sub E' E
 | [],E',h=>by injection h with h; subst h; exact Sub.nil
 | t::r,E',h=>by
  unfold pickE at h
  split at h
  ·cases h
  ·rename_i hd
   split at h
   ·cases h
   ·rename_i hr; injection h with h; subst h; exact Sub.cons hd (Sv r hr)
def valsE (E:Env):List Nat->Option Env
 | []=>some []
 | t::r=>match E.look t with
  | some (.v x)=>match valsE E r with
   | none=>none
   | some E'=>some ((t,.v x)::E')
  | _=>none
variable {T g:Nat}
theorem LW:∀ (ks:List Nat) {E':Env},valsE E ks=some E'->LeftS B T g E' E
 | [],E',h=>by injection h with h; subst h; exact LeftS.nil
 | t::r,E',h=>by
  unfold valsE at h
  split at h
  ·rename_i hd
   split at h
   ·cases h
   ·rename_i hr; injection h with h; subst h; exact LeftS.cons hd (Surv.v _) (LW r hr)
  ·cases h
end
section
variable {P:Program} {B n:Nat} {ops:Array Oper} {E E':Env} {C:Env->Prop} {rest l:List Oper} {t:Nat} {d:D} {ty:TypeId} {pos:String} {after:Array Edge} {o:Oper} {x y:Operand} {draw:Bool} {q:Nat}
theorem RVN(k:Nat)(h:runV ops k l E=some ([],E'))(hC:C E'): RunK P B ops l E C:=RV k h (RunK.nil hC)
theorem RF{y:Value}(hr:RunK P B ops rest ((t,.v (.bool false))::E) C)(h:y = .bool false:=by first|rfl|(simp; done)|(simp; omega)|(simp[*]; done)|(simp[*]; omega)): RunK P B ops rest ((t,.v y)::E) C:=RunK.as _ h hr
theorem RT{y:Value}(hr:RunK P B ops rest ((t,.v (.bool true))::E) C)(h:y = .bool true:=by first|rfl|(simp; done)|(simp; omega)|(simp[*]; done)|(simp[*]; omega)): RunK P B ops rest ((t,.v y)::E) C:=RunK.as _ h hr
theorem RL(s:Nat){T:TypeId}(ht:P.underlying T=some td)(hx:E.at x=some (.v (.pointer (some ⟨b,0,none⟩))))(hblk:E.look s=some (blk b e xs))(hsz:SizeIs P T xs.length)(hr:RunK P B ops rest ((t,.v (aggV xs))::E) C)
  (hsl:vbase<=s:=by decide)(hp:(match td with | .struct _ | .array _ _=>true|_=>false)=true:=by exact rfl): RunK P B ops (⟨some t,.load T x,ty,pos,after,none⟩::rest) E C:=RunK.step rfl rfl (ok_loadA hsl ht hp hsz hx hblk) hr
theorem RLV(s:Nat){T:TypeId}{o:Nat}{u:Value}(ht:P.underlying T=some td)(hx:E.at x=some (.v (.pointer (some ⟨b,o,none⟩))))(hblk:E.look s=some (blk b e xs))(hu:xs[o]?=some u)(hr:RunK P B ops rest ((t,.v u)::E) C)
  (hsl:vbase<=s:=by decide)(hp:plainTD td=true:=by exact rfl): RunK P B ops (⟨some t,.load T x,ty,pos,after,none⟩::rest) E C:=RunK.step rfl rfl (ok_loadV hsl ht hp hx hblk hu) hr
theorem ZA(s:Nat){T:TypeId}(hsz:SizeIs P T ys.length)(hb:B<=b)(hp:E.at x=some (.v (.pointer (some ⟨b,0,none⟩))))(hx:E.at y=some (.v (aggV ys)))(hblk:E.look s=some (blk b e xs))(hl:LeftS B e b E' E)
  (hr:RunTK P n B ops draw C q ((s,blk b e ys)::E'))(h1:ys.all (·.oneCell')=true:=by exact rfl)(ho:xs.length=ys.length:=by exact rfl): ∃ E₂,Eff P n B ops ⟨none,.store T x y,ty,pos,after,none⟩ E E₂∧RunTK P n B ops draw C q E₂:=⟨_,eff_storeA hsz hp hx h1 hb hblk ho hl,hr⟩
theorem ZN(k:Nat){T:TypeId}{zs:List Value}{e:Nat}(hz:ZeroIs P T zs)(hr:∀ b,NewB B E b->RunTK P n B ops draw C q ((e,.v (.pointer (some ⟨b,0,none⟩)))::(k,blk b T zs)::E))(hd:e<n:=by decide):
  ∃ (G:Nat->Prop) (E₂:Nat->Env),EffG P n B ops ⟨some e,.alloc T,ty,pos,after,none⟩ E G E₂∧∀ b,G b->RunTK P n B ops draw C q (E₂ b):=⟨_,_,eff_alloc hz hd,hr⟩
theorem ZB(k:Nat){T:TypeId}{e:Nat}(hx:E.at x=some (.v (aggV xs)))(hr:∀ b,NewB B E b->RunTK P n B ops draw C q ((e,.v (.pointer (some ⟨b,0,none⟩)))::(k,blk b T xs)::E))(hd:e<n:=by decide):
  ∃ (G:Nat->Prop) (E₂:Nat->Env),EffG P n B ops ⟨some e,.box T x,ty,pos,after,none⟩ E G E₂∧∀ b,G b->RunTK P n B ops draw C q (E₂ b):=⟨_,_,eff_box hx hd,hr⟩
theorem ZM(k:Nat){val:Nat->Value}(hok:∀ B',OpOk P B' o E (newD B' e val xs))(ht:o.dst=some m)(hr:∀ b,NewB B E b->RunTK P n B ops draw C q ((m,.v (val b))::(k,blk b e xs)::E))(hg:o.guard=none:=by exact rfl)(hd:m<n:=by decide)(hnv:n<=vbase:=by decide):
  ∃ (G:Nat->Prop) (E₂:Nat->Env),EffG P n B ops o E G E₂∧∀ b,G b->RunTK P n B ops draw C q (E₂ b):=⟨_,_,eff_name ht hg hok hd hnv,hr⟩
theorem OCB{f:FuncId}{args:Array Operand}{argTypes:Array TypeId}{val:Nat->Value}(hf:FnB P f ds (fun B=>newD B e val xs))(ha:Args E ds args.toList):
  OpOk P B ⟨dst,.call { callee:=.value (.func f),args:=args,argTypes:=argTypes },ty,pos,after,guard⟩ E (newD B e val xs):=ok_callB hf (fun _ _ h=>newD_mono _ _ h) ha
def idxO:Nat->List D->Option Env
 | _,[]=>some []
 | i,d::r=>match idxO (i+1) r with
  | none=>none
  | some E=>some ((i,d)::E)
theorem idxO_start:∀ {ds r:List D} {i:Nat} {E:Env},idxO i r=some E->(∀ j d,r[j]?=some d->ds[i+j]?=some d)->∀ B,Start B ds E
 | ds,[],i,E,h,_,B=>by injection h with h; subst h; exact Start.nil
 | ds,d::r,i,E,h,hd,B=>by
  unfold idxO at h
  split at h
  ·cases h
  ·rename_i hE
   injection h with h; subst h
   exact Start.v (by have:=hd 0 d rfl; simpa using this) (idxO_start hE (fun j e hj=>by have:=hd (j+1) e (by simpa using hj); rwa [show i+1+j=i+(j+1) from by omega]) B)
theorem FV{f:FuncId}{c:Code}(hf:P.funcs[f]?=some fn)(hb:fn.body=some c)(hn:fn.ntmps=n)(hE:idxO 0 ds=some E)(h:∀ w₀,A Cx.top P w₀ n c E (BP P fn (PostOf w₀ d)))(hname:(fn.name == "runtime.NumGoroutine")=false:=by kernel_rfl)(hds:ds.length<=n:=by simp): Fn P f ds d :=
 Fn.of hf hb hname hn hds (fun _=>E) (fun w=>idxO_start hE (fun j e hj=>by simpa using hj) _) h
end
section
variable {κ:Cx} {P:Program} {n:Nat} {w₀:World} {E E' E₁:Env} {y c:Code} {Q:Exit->Act->World->Prop} {id:Nat} {ops:Array Oper}
theorem GT(hr:RunK P w₀.heap.size ops (ops.toList.drop 0) E (fun E₁=>A κ P w₀ n y E₁ Q))(hm:P.follows .mixedOrders=true:=by kernel_rfl)(hf:fits n ops=true:=by kernel_rfl): A κ P w₀ n (.seq (.region id ops false) y) E Q:=A.regs hm hf (.inl rfl) (RunTK.last hr)
theorem GTD(hr:RunK P w₀.heap.size ops (ops.toList.drop 0) E (fun E₁=>A κ P w₀ n y E₁ Q))(hm:P.follows .mixedOrders=true:=by kernel_rfl)(hf:fits n ops=true:=by kernel_rfl)(ht:tied ops=true:=by kernel_rfl): A κ P w₀ n (.seq (.region id ops true) y) E Q:=A.regs hm hf (.inr ht) (RunTK.last hr)
theorem GTE(hr:RunK P w₀.heap.size ops (ops.toList.drop 0) E (fun E₁=>End κ w₀ n E₁ (Q .normal)))(hm:P.follows .mixedOrders=true:=by kernel_rfl)(hf:fits n ops=true:=by kernel_rfl): A κ P w₀ n (.region id ops false) E Q:=A.reg hm hf (.inl rfl) (RunTK.last hr)
theorem GV(h:runV ops ops.size ops.toList E=some ([],E'))(hr:A κ P w₀ n y E' Q)(hm:P.follows .mixedOrders=true:=by kernel_rfl)(hf:fits n ops=true:=by kernel_rfl): A κ P w₀ n (.seq (.region id ops false) y) E Q:=A.regs hm hf (.inl rfl) (RunTK.last (RVN _ h hr))
theorem ER{r:Nat}{e:D}(hr:fn.results=#[.tmp r])(he:E.look r=some e)(hl:Le e d:=by first|exact Le.refl _|exact Le.old _ _): End Cx.top w₀ n E (BP P fn (PostOf w₀ d) .ret):=End.ret1 hr he hl
theorem QSB{x:Code}{id:Nat}(h:A κ P w₀ n x E (Exit.inBlock id (Exit.then (y.wpIn (FR κ.rd) 0 P Q) Q))): A κ P w₀ n (.seq (.block id x) y) E Q:=A.seq (A.block h)
theorem QS{x:Code}(h:A κ P w₀ n x E (Exit.then (y.wpIn (FR κ.rd) 0 P Q) Q)): A κ P w₀ n (.seq x y) E Q:=A.seq h
theorem QK(h:A κ P w₀ n y E Q): A κ P w₀ n .skip E (Exit.then (y.wpIn (FR κ.rd) 0 P Q) Q):=A.skip (End.normal_then (End.code h))
end
theorem SQ(t:Nat){e:D}(h:E.look t=some e)(hs:SubL E' E)(hl:Le e d:=by first|exact Le.refl _|exact Le.old _ _): SubL ((t,d)::E') E:=SubL.cons h hl hs
theorem LQ(t:Nat){T:Nat}(h:E.look t=some (tab b xs))(hr:LeftS B T g E' E)(hs:b≠g:=by omega): LeftS B T g ((t,tab b xs)::E') E:=LeftS.cons h (Surv.tab hs) hr
theorem QC(t:Nat)(h:E.look t=some d)(hs:SubL E' E): SubL ((t,d)::E') E:=SubL.cons h (Le.refl _) hs
theorem QX(t:Nat){e:D}(h:E.look t=some e)(hl:Le e d)(hs:SubL E' E): SubL ((t,d)::E') E:=SubL.cons h hl hs
theorem Rf{C:Env->Prop}{rest:List Oper}{dst:Nat}{t:TypeId}{x:Operand}{off o:Nat}(hf:FieldIs P t i off m)(hr:RunK P B ops rest ((dst,.v (.pointer (some ⟨b,o+off,none⟩)))::E) C)
  (hx:E.at x=some (.v (.pointer (some ⟨b,o,none⟩))):=by exact rfl)(hm:0<m:=by decide): RunK P B ops (⟨some dst,.fieldAddr t x i,ty,pos,after,none⟩::rest) E C:=RunK.step rfl rfl (ok_field hf hm hx) hr
theorem Rw{C:Env->Prop}{rest:List Oper}{t:Nat}(m:Nat){a:Int}(hr:RunK P B ops rest ((t,.v (nI m))::E) C)(h:a=(m:Int):=by omega)(hm:m<9223372036854775808:=by omega): RunK P B ops rest ((t,.v (.int .i64 (IntKind.i64.wrap a)))::E) C :=
 RunK.as _ (by subst h; exact congrArg (Value.int .i64) (wrap_i64 (by omega) (by omega))) hr
theorem Rn{C:Env->Prop}{rest:List Oper}{t:Nat}{p:Prop}[Decidable p](hr:RunK P B ops rest ((t,.v (.bool false))::E) C)(h:¬ p:=by omega): RunK P B ops rest ((t,.v (.bool (decide p)))::E) C:=RunK.as _ (congrArg Value.bool (decide_eq_false h)) hr
theorem Ry{C:Env->Prop}{rest:List Oper}{t:Nat}{p:Prop}[Decidable p](hr:RunK P B ops rest ((t,.v (.bool true))::E) C)(h:p:=by omega): RunK P B ops rest ((t,.v (.bool (decide p)))::E) C:=RunK.as _ (congrArg Value.bool (decide_eq_true h)) hr
end
section
theorem info5: InfoIs Tryz.prog 5 (.int .u8 0) 1:=by unfold InfoIs; kernel_rfl
theorem info3: InfoIs Tryz.prog 3 (.int .i64 0) 8:=by unfold InfoIs; kernel_rfl
theorem info23: InfoIs Tryz.prog 23 (.slice none 0 0) 24:=by unfold InfoIs; kernel_rfl
def chk (len want:Int):Int:=if len<want then 6 else if len > want then 5 else 0
def getV (l:List UInt8) (k:Nat):Int:=if l.length=k then (num l:Int) else 0
theorem checkLength_fn(l:List UInt8)(want:Int): Fn Tryz.prog 170 [byt l,.v (.int .i64 want)] (.v (.int .i64 (chk l.length want))):=by
 refine Fn.of Tryz.func170 rfl (by kernel_rfl) Tryz.ntmps170 (by simp) (fun w=>[(0,old w.heap.size (byt l)),(1,.v (.int .i64 want))]) (fun w=>(Start.old rfl (Start.v rfl Start.nil))) fun w₀=>?_
 refine GV rfl (QSB (GT (RM rfl ?_)));refine RS (ok_lenB U23 rfl LA) ?_;refine RVN 3 rfl ?_;refine A.cond rfl (fun hc5=>?_) (fun hc5=>?_)
 ·refine GV rfl (A.ret (End.ret_block (End.ret_then ?_)));exact End.ret1 rfl rfl (Le.v (by simp[chk] at *; try omega))
 ·refine GT (RM rfl ?_);refine RS (ok_lenB U23 rfl LA) ?_;refine RVN 3 rfl ?_;refine A.cond rfl (fun hc10=>?_) (fun hc10=>?_)
  ·refine GV rfl (A.ret (End.ret_block (End.ret_then ?_)));exact End.ret1 rfl rfl (Le.v (by simp[chk] at *; try omega))
  ·refine A.skip (End.normal_block (EN (GV rfl (A.ret ?_))));exact End.ret1 rfl rfl (Le.v (by simp[chk] at *; try omega))
theorem put_fn(v k:Int)(hv0:0<=v)(hv:v<18446744073709551616)(hk0:0<=k)(hk:k<=8): Fn Tryz.prog 172 [.v (.int .u64 v),.v (.int .i64 k)] (bytes (be k.toNat v.toNat) k.toNat):=by
 obtain⟨V,rfl⟩:=Int.eq_ofNat_of_zero_le hv0
 obtain⟨K,rfl⟩:=Int.eq_ofNat_of_zero_le hk0
 simp only[Int.toNat_natCast]
 refine FV Tryz.func172 rfl Tryz.ntmps172 rfl fun w₀=>?_
 refine GV rfl (GT (RM rfl ?_));refine RS (ok_make K U23 info5 (by decide) rfl rfl rfl rfl rfl (by omega)) ?_;refine RVN 1 rfl ?_;refine A.open (t:=5) (k:=1000000) rfl fun b hb=>?_
 refine QS (GV rfl (A.block ?_));refine A.loop (ι:=Nat) (fun i=>i<=K) (fun i=>[(0,.v (.int .u64 (V:Int))),(1,.v (.int .i64 (K:Int))),(5,.v (.slice (some ⟨b,0,none⟩) K K)),(9,.v (.int .i64 (K:Int))),(10,.v (.int .i64 (i:Int))),(1000000,blk b 5 (((be K V).take i).map byteV++List.replicate ((be K V).length-i) (.int .u8 0)))]) (fun i=>K-i) 0 ?_ ?_ ?_
 ·exact Nat.zero_le _
 ·exact(KC 0 rfl (KC 1 rfl (KE 5 rfl (by simp) (KC 9 rfl (KC 10 rfl (KE 1000000 rfl (by simp[be_length]) KN))))))
 intro i hi
 refine GV rfl (QS ?_);refine A.cond rfl (fun hc11=>?_) (fun hc11=>?_)
 ·have hlt:i<K:=by simpa using hc11
  refine QK (QSB (GV rfl (GE (TF 11 (RV 5 rfl ?_)))));refine RZ (nI (K-1)) (by rw[wrap_i64 (by omega) (by omega)]; congr 1; omega) ?_;refine RV 2 rfl ?_;refine RZ (nI (K-1-i)) (by rw[wrap_i64 (by omega) (by omega)]; congr 1; omega) ?_;refine RB rfl rfl rfl ?_;refine RZ (nI (8*(K-1-i))) (by rw[wrap_i64 (by omega) (by omega)]; congr 1) ?_;refine RS (ok_shr rfl rfl (by omega)) ?_;refine RZ (nQ (V / 256^(K-1-i))) (by rw[Int.toNat_natCast,show min (8*(K-1-i)) IntKind.u64.bits=8*(K-1-i) from by simp only[IntKind.bits]; omega,shr_nat,pow256]) ?_;refine RS (ok_conv U33 U5 rfl) ?_;refine RZ (byteV (UInt8.ofNat (V / 256^(K-1-i)))) (by rw[wrap_u8_nat]; rfl) ?_;refine RS (ok_indexV i U23 info5 rfl rfl rfl hlt) ?_;refine RN ?_;refine⟨_,eff_store (n:=26) (s:=1000000) info5 rfl rfl rfl hb rfl (by simp[be_length]; omega) (Left.cons (t:=0) rfl (Stays.v _ _) (Left.cons (t:=1) rfl (Stays.v _ _) (Left.cons (t:=5) rfl (Stays.v _ _) (Left.cons (t:=9) rfl (Stays.v _ _) (Left.cons (t:=10) rfl (Stays.v _ _) Left.nil))))),?_⟩
  refine TL (RN (End.normal_block (EN (GTE (RB rfl rfl rfl ?_)))));refine RZ (nI (i+1)) (by rw[wrap_i64 (by omega) (by omega)]; congr 1) ?_;refine RVN 1 rfl ?_;refine End.normal_then ?_;refine End.again (i+1) ?_ ?_ ?_
  ·show _<=_; omega
  ·show _-_<_-_; omega
  ·exact(KC 0 rfl (KC 1 rfl (KC 5 rfl (KC 9 rfl (KC 10 rfl (KE 1000000 rfl (by rw[Nat.zero_add]; exact congrArg _ (fill_step (be_get hlt))) KN))))))
 ·refine A.exit (End.exit_then (End.exit_then (End.exit_here (EN (GV rfl (A.ret ?_))))))
  have hK:i=K:=by simp at hc11; omega
  subst hK
  refine End.bytes 4 1000000 (be i V) rfl (be_length _ _).symm rfl ?_ (by simp[be_length]) (by simp only[maxLen]; omega) ?_
  ·simp only[be_length,Nat.sub_self,List.replicate_zero,List.append_nil]
   rw[<- List.map_take,List.take_take,Nat.min_self,List.take_of_length_le (by rw[be_length]; omega)]
  ·exact End.ret1 rfl rfl (Le.refl _)
theorem Put64_fn(v:Int)(hv0:0<=v)(hv:v<18446744073709551616): Fn Tryz.prog 189 [.v (.int .u64 v)] (bytes (be 8 v.toNat) 8):=by
 refine FV Tryz.func189 rfl Tryz.ntmps189 rfl fun w₀=>?_
 refine GV rfl (GT (RM rfl ?_));refine RS (ok_call (put_fn v 8 hv0 hv (by omega) (by omega)) (Args.cons rfl LA (Args.cons rfl LA Args.nil))) ?_;refine RVN 1 rfl ?_;refine A.ret ?_;exact ER rfl rfl
theorem Put32_fn(v:Int)(hv0:0<=v)(hv:v<4294967296): Fn Tryz.prog 156 [.v (.int .u32 v)] (bytes (be 4 v.toNat) 4):=by
 refine FV Tryz.func156 rfl Tryz.ntmps156 rfl fun w₀=>?_
 refine GV rfl (GT (RM rfl ?_));refine RS (ok_conv U53 U33 rfl) ?_;refine RZ (.int .u64 v) (by rw[wrap_u64 hv0 (by omega)]) ?_;refine RS (ok_call (put_fn v 4 hv0 (by omega) (by omega) (by omega)) (Args.cons rfl LA (Args.cons rfl LA Args.nil))) ?_;refine RVN 1 rfl ?_;refine A.ret ?_;exact ER rfl rfl
theorem get_fn(l:List UInt8)(k:Int)(hk0:0<=k)(hk:k<=8): Fn Tryz.prog 150 [byt l,.v (.int .i64 k)] (tup [.v (.int .u64 (getV l k.toNat)),.v (.int .i64 (chk l.length k))]):=by
 have hchk:chk l.length k=0↔(l.length:Int)=k:=by unfold chk; split<;>(try split)<;>omega
 refine Fn.of Tryz.func150 rfl (by kernel_rfl) Tryz.ntmps150 (by simp) (fun w=>[(0,old w.heap.size (byt l)),(1,.v (.int .i64 k))]) (fun w=>(Start.old rfl (Start.v rfl Start.nil))) fun w₀=>?_
 refine GV rfl (QS (GT (RV 2 rfl ?_)));refine RS (ok_call (checkLength_fn _ _) (Args.cons rfl LA (Args.cons rfl LA Args.nil))) ?_;refine RVN 1 rfl ?_;refine GV rfl ?_;refine A.cond rfl (fun hc14=>?_) (fun hc14=>?_)
 ·have hne:¬ (l.length:Int)=k:=fun h=>by simp[hchk.2 h] at hc14
  refine GV rfl (A.ret (End.ret_then ?_))
  first|exact End.ret2 rfl rfl (Le.v (by rw[getV,if_neg (by omega)])) rfl (Le.refl _)|exact End.ret2 rfl rfl (Le.v (by rw[getV,if_pos (by omega),List.take_of_length_le (by simp at hc19; omega)])) rfl (Le.v (by rw[hchk.2 heq]))
 ·have heq:(l.length:Int)=k:=hchk.1 (by simpa using hc14)
  have hl8:l.length<=8:=by omega
  refine QK (GV rfl (QS (GT (RM rfl ?_))));refine RS (ok_lenB U23 rfl LA) ?_;refine RVN 1 rfl ?_;refine A.block ?_;refine A.loop (ι:=Nat) (fun i=>i<=l.length) (fun i=>[(7,.v (nQ (num (l.take i)))),(16,old w₀.heap.size (byt l)),(17,.v (.int .i64 (l.length:Int))),(18,.v (.int .i64 (i:Int)))]) (fun i=>l.length-i) 0 ?_ ?_ ?_
  ·exact Nat.zero_le _
  ·exact(Sv [7,16,17,18] rfl)
  intro i hi
  refine GV rfl (QS ?_);refine A.cond rfl (fun hc19=>?_) (fun hc19=>?_)
  ·have hlt:i<l.length:=by simpa using hc19
   have hnum:num (l.take i)<256^7:=Nat.lt_of_lt_of_le (num_lt _) (Nat.pow_le_pow_right (by decide) (by rw[List.length_take]; omega))
   have hcn:=l[i].toNat_lt
   refine QK (QSB (GT (RS (ok_index (d:=byteD l[i]) U23 info5 rfl LA rfl (by omega) (by simp[hlt])) ?_)));refine RS (ok_load U5 rfl rfl) ?_;refine RVN 1 rfl ?_;refine GTE (RM rfl ?_);refine RS (ok_shl rfl rfl (by decide)) ?_;refine RZ (nQ (num (l.take i)*256)) (by rw[show(min (Int.toNat 8) IntKind.u64.bits)=8 from rfl,wrap_u64 (by omega) (by omega)]; congr 1) ?_;refine RM rfl ?_;refine RS (ok_conv U5 U33 rfl) ?_;refine RZ (.int .u64 (l[i].toNat:Int)) (by rw[wrap_u64 (by omega) (by omega)]) ?_;refine RB rfl rfl rfl ?_;refine RZ (nQ (num (l.take (i+1)))) (by rw[show IntKind.u64.bits=64 from rfl,or_u64_nat (by omega) (by omega),mul256_or,List.take_add_one,List.getElem?_eq_getElem hlt,Option.toList_some,num_snoc]) ?_;refine RVN 1 rfl ?_;refine End.normal_block (EN (GTE (RB rfl rfl rfl ?_)));refine RZ (nI (i+1)) (by rw[wrap_i64 (by omega) (by omega)]; congr 1) ?_;refine RVN 1 rfl ?_;refine End.normal_then ?_;refine End.again (i+1) ?_ ?_ ?_
   ·show _<=_; omega
   ·show _-_<_-_; omega
   ·exact(Sv [7,16,17,18] rfl)
  ·refine A.exit (End.exit_then (End.exit_then (End.exit_here (EN (GV rfl (A.ret ?_))))))
   first|exact End.ret2 rfl rfl (Le.v (by rw[getV,if_neg (by omega)])) rfl (Le.refl _)|exact End.ret2 rfl rfl (Le.v (by rw[getV,if_pos (by omega),List.take_of_length_le (by simp at hc19; omega)])) rfl (Le.v (by rw[hchk.2 heq]))
theorem Get64_fn(l:List UInt8): Fn Tryz.prog 171 [byt l] (tup [.v (.int .u64 (getV l 8)),.v (.int .i64 (chk l.length 8))]):=by
 refine Fn.of Tryz.func171 rfl (by kernel_rfl) Tryz.ntmps171 (by simp) (fun w=>[(0,old w.heap.size (byt l))]) (fun w=>(Start.old rfl Start.nil)) fun w₀=>?_
 refine GV rfl (GT (RM rfl ?_));refine RS (ok_call (get_fn l 8 (by decide) (by decide)) (Args.cons rfl LA (Args.cons rfl LA Args.nil))) ?_;refine RS (ok_extract rfl rfl) ?_;refine RS (ok_extract rfl rfl) ?_;refine RVN 2 rfl ?_;refine A.ret ?_;exact End.ret2 rfl rfl (by first|exact Le.refl _|exact Le.old _ _) rfl (by first|exact Le.refl _|exact Le.old _ _)
theorem Get32_fn(l:List UInt8): Fn Tryz.prog 130 [byt l] (tup [.v (.int .u32 (getV l 4)),.v (.int .i64 (chk l.length 4))]):=by
 have hv:0<=getV l 4∧getV l 4<4294967296:=by
  unfold getV
  split
  ·rename_i h; have:=num_lt l; rw[h] at this; omega
  ·omega
 refine Fn.of Tryz.func130 rfl (by kernel_rfl) Tryz.ntmps130 (by simp) (fun w=>[(0,old w.heap.size (byt l))]) (fun w=>(Start.old rfl Start.nil)) fun w₀=>?_
 refine GV rfl (GT (RM rfl ?_));refine RS (ok_call (get_fn l 4 (by decide) (by decide)) (Args.cons rfl LA (Args.cons rfl LA Args.nil))) ?_;refine RM rfl ?_;refine RS (ok_extract rfl rfl) ?_;refine RS (ok_extract rfl rfl) ?_;refine RVN 2 rfl ?_;refine GT (RM rfl ?_);refine RS (ok_conv U33 U53 rfl) ?_;refine RZ (.int .u32 (getV l 4)) (congrArg _ (wrap_u32 hv.1 hv.2)) ?_;refine RVN 3 rfl ?_;refine A.ret ?_;exact End.ret2 rfl rfl (by first|exact Le.refl _|exact Le.old _ _) rfl (by first|exact Le.refl _|exact Le.old _ _)
end
section
theorem refPut_fnB(v k:Int)(hv0:0<=v)(hv:v<18446744073709551616)(hk0:0<=k)(hk:k<=8): FnB Tryz.prog 138 [.v (.int .u64 v),.v (.int .i64 k)] (fun B=>fresh B 5 ((be k.toNat v.toNat).map byteV) k.toNat):=by
 obtain⟨V,rfl⟩:=Int.eq_ofNat_of_zero_le hv0
 obtain⟨K,rfl⟩:=Int.eq_ofNat_of_zero_le hk0
 simp only[Int.toNat_natCast]
 refine FnB.of Tryz.func138 rfl (by kernel_rfl) Tryz.ntmps138 (by simp) (fun w=>[(0,.v (.int .u64 (V:Int))),(1,.v (.int .i64 (K:Int)))]) (fun w=>(Start.v rfl (Start.v rfl Start.nil))) fun w₀=>?_
 refine GV rfl (GT (RM rfl ?_));refine RS (ok_make K U23 info5 (by decide) rfl rfl rfl rfl rfl (by omega)) ?_;refine RVN 1 rfl ?_;refine A.open (t:=5) (k:=1000000) rfl fun b hb=>?_
 refine QS (GT (RV 2 rfl ?_));refine RZ (.int .i64 ((K:Int)-1-((0:Nat):Int))) (by rw[wrap_i64 (by omega) (by omega)]; congr 1; omega) ?_;refine RVN 1 rfl ?_;refine A.block ?_;refine A.loop (ι:=Nat) (fun j=>j<=K) (fun j=>[(0,.v (nQ (V / 256^j))),(5,.v (.slice (some ⟨b,0,none⟩) K K)),(6,.v (.int .i64 ((K:Int)-1-(j:Int)))),(1000000,blk b 5 (List.replicate ((be K V).length-j) (.int .u8 0)++((be K V).drop ((be K V).length-j)).map byteV))]) (fun j=>K-j) 0 ?_ ?_ ?_
 ·exact Nat.zero_le _
 ·exact(KE 0 rfl (by simp) (KE 5 rfl (by simp) (KC 6 rfl (KE 1000000 rfl (by rw[Nat.sub_zero,List.drop_length]; simp[be_length]) KN))))
 intro j hj
 refine QS (GV rfl ?_);refine A.cond rfl (fun hc12=>?_) (fun hc12=>?_)
 ·have hlt:j<K:=by simp at hc12; omega
  refine QK (QSB (GS (TF 6 (RV 3 rfl ?_))));refine RS (ok_rem rfl rfl (by decide)) ?_;refine RZ (nQ (V / 256^j%256)) (by rw[tmod_lit _ (by decide)]; rfl) ?_;refine RS (ok_conv U33 U5 rfl) ?_;refine RZ (byteV (UInt8.ofNat (V / 256^j))) (by rw[wrap_u8_nat,ofNat_mod]; rfl) ?_;refine RS (ok_indexV (K-1-j) U23 info5 rfl rfl (by omega) (by omega)) ?_;refine RN ?_;refine⟨_,eff_store (n:=24) (s:=1000000) info5 rfl rfl rfl hb rfl (by simp[be_length]; omega) (Left.cons (t:=0) rfl (Stays.v _ _) (Left.cons (t:=5) rfl (Stays.v _ _) (Left.cons (t:=6) rfl (Stays.v _ _) Left.nil))),?_⟩
  refine TL (RN (GTE (RM rfl ?_)));refine RS (ok_div rfl rfl (by decide)) ?_;refine RZ (nQ (V / 256^(j+1))) (by rw[tdiv_lit _ (by decide),show Int.toNat 256=256 from rfl,wrapN_u64 (Nat.lt_of_le_of_lt (Nat.le_trans (Nat.div_le_self _ _) (Nat.div_le_self _ _)) (by omega)),Nat.pow_succ,<- Nat.div_div_eq_div_mul]) ?_;refine RVN 1 rfl ?_;refine End.normal_block (EN (GTE (RV 2 rfl ?_)));refine RZ (.int .i64 ((K:Int)-1-((j+1:Nat):Int))) (by rw[wrap_i64 (by omega) (by omega)]; congr 1; omega) ?_;refine RVN 1 rfl ?_;refine End.normal_then ?_;refine End.again (j+1) ?_ ?_ ?_
  ·show _<=_; omega
  ·show _-_<_-_; omega
  ·exact(KC 0 rfl (KC 5 rfl (KC 6 rfl (KE 1000000 rfl (by rw[Nat.zero_add]; have h:=fill_back (l:=be K V) (f:=byteV) (z:=.int .u8 0) (c:=UInt8.ofNat (V / 256^j)) (j:=j) (by rw[be_length]; exact hlt) (by rw[be_length,be_get (by omega)]; congr 3; congr 1; omega); rw[be_length] at h ⊢; exact congrArg _ h) KN))))
 ·refine A.exit (End.exit_then (End.exit_then (End.exit_here (EN (GV rfl (A.ret ?_))))))
  have hK:j=K:=by simp at hc12; omega
  subst hK
  exact End.fresh rfl hb rfl (by rw[List.length_map,be_length]) (k:=1000000) rfl (by simp only[be_length,Nat.sub_self,List.replicate_zero,List.nil_append,List.drop_zero])
theorem refPut_fn(v k:Int)(hv0:0<=v)(hv:v<18446744073709551616)(hk0:0<=k)(hk:k<=8): Fn Tryz.prog 138 [.v (.int .u64 v),.v (.int .i64 k)] (bytes (be k.toNat v.toNat) k.toNat) :=
 (refPut_fnB v k hv0 hv hk0 hk).fn fun _=>fresh_bytes (be_length _ _).symm (by simp only[maxLen]; omega)
theorem refPut32_fnB(v:Int)(hv0:0<=v)(hv:v<4294967296): FnB Tryz.prog 105 [.v (.int .u32 v)] (fun B=>fresh B 5 ((be 4 v.toNat).map byteV) 4):=by
 refine FnB.of Tryz.func105 rfl (by kernel_rfl) Tryz.ntmps105 (by simp) (fun w=>[(0,.v (.int .u32 v))]) (fun w=>(Start.v rfl Start.nil)) fun w₀=>?_
 refine GV rfl (GT (RM rfl ?_));refine RS (ok_conv U53 U33 rfl) ?_;refine RZ (.int .u64 v) (by rw[wrap_u64 hv0 (by omega)]) ?_;refine RS (ok_callB (refPut_fnB v 4 hv0 (by omega) (by omega) (by omega)) (fun _ _=>fresh_mono _ _) (A2 rfl rfl)) ?_;refine RVN 1 rfl ?_;refine A.ret ?_;exact ER rfl rfl
theorem refPut64_fn(v:Int)(hv0:0<=v)(hv:v<18446744073709551616): Fn Tryz.prog 102 [.v (.int .u64 v)] (bytes (be 8 v.toNat) 8):=by
 refine FV Tryz.func102 rfl Tryz.ntmps102 rfl fun w₀=>?_
 refine GV rfl (GT (RM rfl ?_));refine RS (ok_call (refPut_fn v 8 hv0 hv (by omega) (by omega)) (Args.cons rfl LA (Args.cons rfl LA Args.nil))) ?_;refine RVN 1 rfl ?_;refine A.ret ?_;exact ER rfl rfl
theorem refPut32_fn(v:Int)(hv0:0<=v)(hv:v<4294967296): Fn Tryz.prog 105 [.v (.int .u32 v)] (bytes (be 4 v.toNat) 4):=by
 refine FV Tryz.func105 rfl Tryz.ntmps105 rfl fun w₀=>?_
 refine GV rfl (GT (RM rfl ?_));refine RS (ok_conv U53 U33 rfl) ?_;refine RZ (.int .u64 v) (by rw[wrap_u64 hv0 (by omega)]) ?_;refine RS (ok_call (refPut_fn v 4 hv0 (by omega) (by omega) (by omega)) (Args.cons rfl LA (Args.cons rfl LA Args.nil))) ?_;refine RVN 1 rfl ?_;refine A.ret ?_;exact ER rfl rfl
theorem refGet_fn(l:List UInt8)(k:Int)(hk0:0<=k)(hk:k<=8): Fn Tryz.prog 139 [byt l,.v (.int .i64 k)] (tup [.v (.int .u64 (getV l k.toNat)),.v (.int .i64 (chk l.length k))]):=by
 refine Fn.of Tryz.func139 rfl (by kernel_rfl) Tryz.ntmps139 (by simp) (fun w=>[(0,old w.heap.size (byt l)),(1,.v (.int .i64 k))]) (fun w=>(Start.old rfl (Start.v rfl Start.nil))) fun w₀=>?_
 refine GV rfl (QS (GT (RM rfl ?_)));refine RS (ok_lenB U23 rfl LA) ?_;refine RVN 2 rfl ?_;refine A.cond rfl (fun hc11=>?_) (fun hc11=>?_)
 ·refine GV rfl (A.ret (End.ret_then ?_))
  first|exact End.ret2 rfl rfl (Le.v (by simp at hc11; rw[getV,if_neg (by omega)])) rfl (Le.v (by simp at hc11; rw[chk,if_pos hc11]))|exact End.ret2 rfl rfl (Le.v (by simp at hc15; rw[getV,if_neg (by omega)])) rfl (Le.v (by simp at hc11 hc15; rw[chk,if_neg (by omega),if_pos hc15]))|exact End.ret2 rfl rfl (Le.v (by simp at hc18; rw[getV,if_pos (by omega),List.take_of_length_le (by omega)])) rfl (Le.v (by rw[chk,if_neg (by omega),if_neg (by omega)]))
 ·refine QK (QS (GT (RM rfl ?_)));refine RS (ok_lenB U23 rfl LA) ?_;refine RVN 2 rfl ?_;refine A.cond rfl (fun hc15=>?_) (fun hc15=>?_)
  ·refine GV rfl (A.ret (End.ret_then ?_))
   first|exact End.ret2 rfl rfl (Le.v (by simp at hc11; rw[getV,if_neg (by omega)])) rfl (Le.v (by simp at hc11; rw[chk,if_pos hc11]))|exact End.ret2 rfl rfl (Le.v (by simp at hc15; rw[getV,if_neg (by omega)])) rfl (Le.v (by simp at hc11 hc15; rw[chk,if_neg (by omega),if_pos hc15]))|exact End.ret2 rfl rfl (Le.v (by simp at hc18; rw[getV,if_pos (by omega),List.take_of_length_le (by omega)])) rfl (Le.v (by rw[chk,if_neg (by omega),if_neg (by omega)]))
  ·refine QK (GV rfl (QS (GV rfl (A.block ?_))));refine A.loop (ι:=Nat) (fun i=>(i:Int)<=k) (fun i=>[(0,old w₀.heap.size (byt l)),(1,.v (.int .i64 k)),(6,.v (nQ (num (l.take i)))),(7,.v (.int .i64 (i:Int)))]) (fun i=>l.length-i) 0 ?_ ?_ ?_
   ·exact hk0
   ·exact(Sv [0,1,6,7] rfl)
   intro i hi
   refine QS (GV rfl ?_);refine A.cond rfl (fun hc18=>?_) (fun hc18=>?_)
   ·have hlt:i<l.length:=by simp at hc11 hc15 hc18; omega
    have heq:(l.length:Int)=k:=by simp at hc11 hc15; omega
    have hnum:num (l.take i)<256^7:=Nat.lt_of_lt_of_le (num_lt _) (Nat.pow_le_pow_right (by decide) (by rw[List.length_take]; omega))
    have hcn:=l[i].toNat_lt
    refine QK (QSB (GTE (RV 2 rfl ?_)));refine RZ (nQ (num (l.take i)*256)) (by rw[wrap_u64 (by omega) (by omega)]; congr 1) ?_;refine RV 2 rfl ?_;refine RS (ok_index (d:=byteD l[i]) U23 info5 rfl LA rfl (by omega) (by simp[hlt])) ?_;refine RS (ok_load U5 rfl rfl) ?_;refine RS (ok_conv U5 U33 rfl) ?_;refine RZ (.int .u64 (l[i].toNat:Int)) (by rw[wrap_u64 (by omega) (by omega)]) ?_;refine RB rfl rfl rfl ?_;refine RZ (nQ (num (l.take (i+1)))) (by rw[wrap_u64 (by omega) (by omega),List.take_add_one,List.getElem?_eq_getElem hlt,Option.toList_some,num_snoc]; congr 1) ?_;refine RVN 1 rfl ?_;refine End.normal_block (EN (GTE (RV 2 rfl ?_)));refine RZ (nI (i+1)) (by rw[wrap_i64 (by omega) (by omega)]; congr 1) ?_;refine RVN 1 rfl ?_;refine End.normal_then ?_;refine End.again (i+1) ?_ ?_ ?_
    ·show((i+1:Nat):Int)<=k; omega
    ·show _-_<_-_; omega
    ·exact(Sv [0,1,6,7] rfl)
   ·have heq:(l.length:Int)=k:=by simp at hc11 hc15; omega
    refine A.exit (End.exit_then (End.exit_then (End.exit_here (EN (GV rfl (A.ret ?_))))))
    first|exact End.ret2 rfl rfl (Le.v (by simp at hc11; rw[getV,if_neg (by omega)])) rfl (Le.v (by simp at hc11; rw[chk,if_pos hc11]))|exact End.ret2 rfl rfl (Le.v (by simp at hc15; rw[getV,if_neg (by omega)])) rfl (Le.v (by simp at hc11 hc15; rw[chk,if_neg (by omega),if_pos hc15]))|exact End.ret2 rfl rfl (Le.v (by simp at hc18; rw[getV,if_pos (by omega),List.take_of_length_le (by omega)])) rfl (Le.v (by rw[chk,if_neg (by omega),if_neg (by omega)]))
end
section
theorem Join_fnB(ps:List (List UInt8))(hps:ps.length<=1000000)(htot:ps.flatten.length<=1000000): FnB Tryz.prog 173 [lst (ps.map byt)] (fun B=>fresh B 5 (ps.flatten.map byteV) ps.flatten.length):=by
 refine FnB.of Tryz.func173 rfl (by kernel_rfl) Tryz.ntmps173 (by simp) (fun w=>[(0,old w.heap.size (lst (ps.map byt)))]) (fun w=>(Start.old rfl Start.nil)) fun w₀=>?_
 refine GV rfl (GV rfl (QS (GT (RM rfl ?_))));refine RS (ok_len U259 rfl LA) ?_;refine RZ (.int .i64 (ps.length:Int)) (by simp) ?_;refine RVN 1 rfl ?_;refine A.block ?_;refine A.loop (ι:=Nat) (fun i=>i<=ps.length) (fun i=>[(0,old w₀.heap.size (lst (ps.map byt))),(3,.v (nI ((ps.take i).flatten.length))),(10,old w₀.heap.size (lst (ps.map byt))),(11,.v (.int .i64 (ps.length:Int))),(12,.v (.int .i64 (i:Int)))]) (fun i=>ps.length-i) 0 ?_ ?_ ?_
 ·exact Nat.zero_le _
 ·exact(Sv [0,3,10,11,12] rfl)
 intro i hi
 refine GV rfl (QS ?_);refine A.cond rfl (fun hc13=>?_) (fun hc13=>?_)
 ·have hlt:i<ps.length:=by simpa using hc13
  have hget:ps[i]?=some ps[i]:=List.getElem?_eq_getElem hlt
  have hT:=flatten_take_le ps (i+1)
  rw[flatten_take_succ hget,List.length_append] at hT
  refine QK (QSB (GT (RS (ok_index (d:=byt ps[i]) U259 info23 rfl LA rfl (by omega) (by simp[hlt])) ?_)));refine RS (ok_load U23 rfl rfl) ?_;refine RVN 1 rfl ?_;refine GTE (RV 2 rfl ?_);refine RS (ok_lenB U23 rfl LA) ?_;refine RB rfl rfl rfl ?_;refine RZ (nI ((ps.take (i+1)).flatten.length)) (by rw[wrap_i64 (by omega) (by omega),flatten_take_succ hget,List.length_append]; congr 1) ?_;refine RVN 1 rfl ?_;refine End.normal_block (EN (GTE (RB rfl rfl rfl ?_)));refine RZ (nI (i+1)) (by rw[wrap_i64 (by omega) (by omega)]; congr 1) ?_;refine RVN 1 rfl ?_;refine End.normal_then ?_;refine End.again (i+1) ?_ ?_ ?_
  ·show _<=_; omega
  ·show _-_<_-_; omega
  ·exact(Sv [0,3,10,11,12] rfl)
 ·have hi2:i=ps.length:=by simp at hc13; omega
  refine A.exit (End.exit_then (End.exit_then (End.exit_here (EN (GT (RM rfl ?_))))));refine RS (ok_make ps.flatten.length U23 info5 (by decide) rfl rfl rfl (by rw[hi2,List.take_length]) (by rw[hi2,List.take_length]) (by omega)) ?_;refine RVN 1 rfl ?_;refine A.open (t:=6) (k:=1000000) rfl fun b hb=>?_
  refine GV rfl (QS (GT (RM rfl ?_)));refine RS (ok_len U259 rfl LA) ?_;refine RZ (.int .i64 (ps.length:Int)) (by simp) ?_;refine RVN 1 rfl ?_;refine A.block ?_;refine A.loop (ι:=Nat) (fun i=>i<=ps.length) (fun i=>[(6,.v (.slice (some ⟨b,0,none⟩) ps.flatten.length ps.flatten.length)),(7,.v (nI ((ps.take i).flatten.length))),(23,old w₀.heap.size (lst (ps.map byt))),(24,.v (.int .i64 (ps.length:Int))),(25,.v (.int .i64 (i:Int))),(1000000,blk b 5 ((ps.take i).flatten.map byteV++List.replicate (ps.flatten.length-(ps.take i).flatten.length) (.int .u8 0)))]) (fun i=>ps.length-i) 0 ?_ ?_ ?_
  ·exact Nat.zero_le _
  ·exact(KE 6 rfl (by simp) (KC 7 rfl (KC 23 rfl (KC 24 rfl (KC 25 rfl (KE 1000000 rfl (by simp) KN))))))
  intro i hi
  refine GV rfl (QS ?_);refine A.cond rfl (fun hc26=>?_) (fun hc26=>?_)
  ·have hlt:i<ps.length:=by simpa using hc26
   have hget:ps[i]?=some ps[i]:=List.getElem?_eq_getElem hlt
   have hT:=flatten_take_le ps (i+1)
   rw[flatten_take_succ hget,List.length_append] at hT
   refine QK (QSB (GT (RS (ok_index (d:=byt ps[i]) U259 info23 rfl LA rfl (by omega) (by simp[hlt])) ?_)));refine RS (ok_load U23 rfl rfl) ?_;refine RVN 1 rfl ?_;refine GE (TF 5 (RV 3 rfl ?_));refine RS (ok_sliceV (ps.take i).flatten.length U23 info5 rfl rfl (by omega) (Nat.le_refl _)) ?_;refine RVN 1 rfl ?_;refine⟨_,eff_copy (s:=1000000) (l:=ps[i]) U23 info5 rfl rfl (Le.refl _) (by omega) hb rfl (by simp only[List.length_append,List.length_map,List.length_replicate]; split<;>omega) (by decide) (Left.cons (t:=6) rfl (Stays.v _ _) (Left.cons (t:=23) rfl (Stays.old _ _) (Left.cons (t:=24) rfl (Stays.v _ _) (Left.cons (t:=25) rfl (Stays.v _ _) (Left.cons (t:=29) rfl (Stays.v _ _) Left.nil))))),?_⟩
   refine TL (RB rfl rfl rfl ?_);refine RZ (nI ((ps.take (i+1)).flatten.length)) (by rw[wrap_i64 (by omega) (by omega),flatten_take_succ hget,List.length_append]; congr 1) ?_;refine RVN 1 rfl ?_;refine End.normal_block (EN (GTE (RB rfl rfl rfl ?_)));refine RZ (nI (i+1)) (by rw[wrap_i64 (by omega) (by omega)]; congr 1) ?_;refine RVN 1 rfl ?_;refine End.normal_then ?_;refine End.again (i+1) ?_ ?_ ?_
   ·show _<=_; omega
   ·show _-_<_-_; omega
   ·exact(KC 6 rfl (KC 7 rfl (KC 23 rfl (KC 24 rfl (KC 25 rfl (KE 1000000 rfl (congrArg _ (copy_step hget (by omega) rfl)) KN))))))
  ·have hi2:i=ps.length:=by simp at hc26; omega
   refine A.exit (End.exit_then (End.exit_then (End.exit_here (EN (GV rfl (A.ret ?_))))))
   subst hi2
   exact End.fresh rfl hb rfl (by rw[List.length_map]) (k:=1000000) rfl (by rw[List.take_length,Nat.sub_self,List.replicate_zero,List.append_nil])
theorem Join_fn(ps:List (List UInt8))(hps:ps.length<=1000000)(htot:ps.flatten.length<=1000000): Fn Tryz.prog 173 [lst (ps.map byt)] (bytes ps.flatten ps.flatten.length) :=
 (Join_fnB ps hps htot).fn fun _=>fresh_bytes rfl (by simp only[maxLen]; omega)
end
section
variable {κ:Cx}
def mx (cs:List Nat):Nat:=cs.foldl max 0
def nonceL (s c:Nat):List UInt8:=be 4 s++be 8 c
theorem nonceL_length(s c:Nat): (nonceL s c).length=12:=by simp[nonceL,be_length]
section
variable {P:Program} {B:Nat} {E:Env} {dst:Option Tmp} {ty:TypeId} {pos:String} {after:Array Edge} {guard:Option (Nat×Bool)}
def LitS (E:Env):List (Nat×Value)->List (Nat×Operand)->Prop
 | [],[]=>True
 | (i,u)::us,(j,x)::ps=>i=j∧E.at x=some (.v u)∧LitS E us ps
 | _,_=>False
theorem LitS.map {ρ:Operand->Value}:∀ {us:List (Nat×Value)} {ps:List (Nat×Operand)},LitS E us ps->(∀ x,x∈ps.map (·.2)->∀ v,E.at x=some (.v v)->ρ x=v)->ps.map (fun p=>(p.1,ρ p.2))=us
 | [],[],_,_=>rfl
 | [],_::_,h,_=>h.elim
 | _::_,[],h,_=>h.elim
 | (i,u)::us,(j,x)::ps,⟨h1,h2,h3⟩,hρ=>by
  subst h1
  simp only[List.map_cons,hρ x (by simp) u h2]
  rw[LitS.map h3 fun y hy v hv=>hρ y (by simp only[List.map_cons,List.mem_cons]; exact .inr hy) v hv]
theorem ok_litS{t:TypeId}{ps:Array (Nat×Operand)}(us:List (Nat×Value))(ys:List Value)(hl:LitS E us ps.toList)(hb:P.built t us=some ys.toArray): OpOk P B ⟨dst,.build t ps,ty,pos,after,guard⟩ E (.v (aggV ys)) :=
 ok_lit us ys (fun _ hρ=>hl.map hρ) hb
end
section
variable {P:Program} {n B:Nat} {ops:Array Oper} {E:Env} {ty:TypeId} {pos:String} {after:Array Edge}
theorem eff_callVR{f:FuncId}{M:Env}{T dst:Nat}{us:List Value}{u:Value}{x:Operand}{args:Array Operand}{argTypes:Array TypeId}(hf:FnWR P f M T g xs ys (ds++us.map D.v) u)(hM:∀ p∈M,∃ k,vbase<=k∧E.look k=some p.2)
  (hx:E.at x=some (.v (.func (.func f) #[] us.toArray)))(ha:Args E ds args.toList)(hg:B<=g)(hblk:E.look s=some (blk g T xs))(hn:n<=vbase)(hdst:dst<n)(hl:LeftS B T g E' E):
  Eff P n B ops ⟨some dst,.call { callee:=.value x,args:=args,argTypes:=argTypes },ty,pos,after,none⟩ E ((dst,.v u)::(s,blk g T ys)::E'):=by
 intro κ a w K Q h hK
 obtain⟨fn,h1,h2,h3⟩:=hf.body
 have hfun:a.eval x = .func (.func f) #[] us.toArray:=h.at_ x _ hx
 have hrun:(execOp a.eval ⟨some dst,.call { callee:=.value x,args:=args,argTypes:=argTypes },ty,pos,after,none⟩).run P w = .ok (.enter f (args.map a.eval++us.toArray)) w:=by
  have h2':¬ fn.name = "runtime.NumGoroutine":=by simpa using h2
  have h3':¬ fn.body=none:=by intro h; rw[h] at h3; cases h3
  simp[execOp,resolve,Deferred.ofValue,hfun,invoke,callFunc,h1,h2',h3']
 obtain⟨hlt,hh⟩:=h.of s _ hblk
 have hcall:=hf.calls (args.toList.map a.eval++us) w (by simp[ha.length]) (fun j e v he hv=>by
  rcases Nat.lt_or_ge j ds.length with hj|hj
  ·rw[List.getElem?_append_left hj] at he
   rw[List.getElem?_append_left (by rw[List.length_map,<- ha.length]; exact hj),List.getElem?_map] at hv
   cases hxj:args.toList[j]? with
   | none=>rw[hxj] at hv; cases hv
   | some y =>
    rw[hxj] at hv; injection hv with hv; subst hv
    obtain⟨e',h4,h5⟩:=ha.nth he hxj
    exact h5.of (h.at_ y _ h4)
  ·rw[List.getElem?_append_right hj,List.getElem?_map] at he
   rw[List.getElem?_append_right (by rw[List.length_map,<- ha.length]; exact hj),List.length_map,<- ha.length] at hv
   rw[hv] at he
   injection he with he; subst he; rfl) (fun p hp=>by
  obtain⟨k,h4,h5⟩:=hM p hp
  have h6:=h.of k _ h5
  rwa [show a.tmps.getD k undef=undef from by
   rw[Array.getD_eq_getD_getElem?,Array.getElem?_eq_none (by rw[h.size]; omega)]; rfl] at h6) hlt hh
 have harr:(args.toList.map a.eval++us).toArray=args.map a.eval++us.toArray:=by apply Array.ext'; simp
 rw[harr] at hcall
 rw[if_pos (by simp[Region.wanted])]
 refine opR (by nofun) ?_
 unfold Oper.wp
 rw[hrun,Oper.upon_enter]
 refine Calls.mono hcall ?_
 rintro e w' ⟨rfl,hw,hh'⟩
 have hwr:Wrote B T g w w':=⟨hg,hw.os,hw.tape,hw.output,hw.size,hw.cel,hw.other⟩
 have hst:=hl.st h hwr
 have hlt':g<w'.heap.size:=(Array.getElem?_eq_some_iff.1 hh').1
 exact hK _ _ (hwr.below h.base) (St.put (hst.push (d:=blk g T ys) ⟨hlt',hh'⟩) hdst rfl)
end
end
section
theorem info53: InfoIs Tryz.prog 53 (.int .u32 0) 4:=by unfold InfoIs; kernel_rfl
theorem info33: InfoIs Tryz.prog 33 (.int .u64 0) 8:=by unfold InfoIs; kernel_rfl
theorem zero55: ZeroIs Tryz.prog 55 ([.int .u32 0]++[.int .u64 0]):=by unfold ZeroIs; kernel_rfl
theorem size55: SizeIs Tryz.prog 55 2:=by unfold SizeIs; kernel_rfl
theorem field55_0: FieldIs Tryz.prog 55 0 0 1:=by unfold FieldIs; kernel_rfl
theorem field55_1: FieldIs Tryz.prog 55 1 1 1:=by unfold FieldIs; kernel_rfl
theorem ref8Put_fn(s c:Nat)(hs:s<4294967296)(hc:c<18446744073709551616): Fn Tryz.prog 120 [.v (aggV ([nW s,nQ c]))] (byt (nonceL s c)):=by
 refine FV Tryz.func120 rfl Tryz.ntmps120 rfl fun w₀=>?_
 refine GS (TN 0 (RN ?_));refine ZB 1000001 rfl fun b1 ⟨hBb1,hb1⟩=>?_
 refine TL (RVN 1 rfl ?_);refine GTD (Rf field55_0 ?_);refine RLV 1000001 U53 rfl rfl rfl ?_;refine RS (ok_call ((refPut32_fn ((s:Nat):Int) (by omega) (by omega)).le (d':=bytes (be 4 s) 4) (Le.refl _)) (A1 rfl)) ?_;refine Rf field55_1 ?_;refine RLV 1000001 U33 rfl rfl rfl ?_;refine RS (ok_call ((refPut64_fn ((c:Nat):Int) (by omega) (by omega)).le (d':=bytes (be 8 c) 8) (Le.refl _)) (A1 rfl)) ?_;refine RS (ok_appendFull (l:=be 4 s) (m:=be 8 c) U23 info5 (by decide) rfl rfl (Le.eq (by rw[be_length])) rfl (le_byt _ _) (by rw[be_length]; decide) (by rw[be_length]; decide) (by rw[be_length,be_length]; decide)) ?_;refine RVN 1 rfl ?_;refine A.ret ?_;exact End.ret1 rfl rfl (own_byt (B:=w₀.heap.size) (e:=5) (n:=(be 4 s).length+(be 8 c).length) (l:=nonceL s c) (by rw[nonceL_length,be_length,be_length]))
theorem Put_fn(s c:Nat)(hs:s<4294967296)(hc:c<18446744073709551616): Fn Tryz.prog 174 [.v (aggV ([nW s,nQ c]))] (bytes (nonceL s c) 12):=by
 refine FV Tryz.func174 rfl Tryz.ntmps174 rfl fun w₀=>?_
 refine GS (TN 0 (RN ?_));refine ZB 1000001 rfl fun b1 ⟨hBb1,hb1⟩=>?_
 refine TL (RVN 1 rfl ?_);refine GTD (Rf field55_0 ?_);refine RLV 1000001 U53 rfl rfl rfl ?_;refine RS (ok_call ((Put32_fn ((s:Nat):Int) (by omega) (by omega)).le (d':=bytes (be 4 s) 4) (Le.refl _)) (A1 rfl)) ?_;refine Rf field55_1 ?_;refine RLV 1000001 U33 rfl rfl rfl ?_;refine RS (ok_call ((Put64_fn ((c:Nat):Int) (by omega) (by omega)).le (d':=bytes (be 8 c) 8) (Le.refl _)) (A1 rfl)) ?_;refine RS (ok_build [bytes (be 4 s) 4,bytes (be 8 c) 8] U259 info23 rfl (by decide) (by decide) rfl ⟨rfl,rfl,rfl,rfl,trivial⟩ (fun d hd w x h=>by simp only[List.mem_cons,List.not_mem_nil,or_false] at hd; rcases hd with rfl|rfl<;>exact list_one h)) ?_;refine RS ((ok_call (Join_fn [be 4 s,be 8 c] (by simp) (by simp[be_length])) (Args.cons rfl (list_lst2 (le_byt _ 4) (le_byt _ 8)) Args.nil)).le (d':=bytes (nonceL s c) 12) (Le.eq (by simp[be_length]; rfl))) ?_;refine RVN 1 rfl ?_;refine A.ret ?_;exact ER rfl rfl
theorem chk_lo{n:Nat}{k:Int}(h:(n:Int)<k): chk n k=6:=by
 unfold chk
 repeat' split
 all_goals omega
theorem chk_hi{n:Nat}{k:Int}(h:k<(n:Int)): chk n k=5:=by
 unfold chk
 repeat' split
 all_goals omega
theorem chk_eq{n:Nat}{k:Int}(h:(n:Int)=k): chk n k=0:=by
 unfold chk
 repeat' split
 all_goals omega
theorem Get_lo(l:List UInt8)(h:l.length<4): Fn Tryz.prog 154 [byt l] (tup [.v (aggV [.int .u32 0,.int .u64 0]),.v (.int .i64 6)]):=by
 refine Fn.of Tryz.func154 rfl (by kernel_rfl) Tryz.ntmps154 (by simp) (fun w=>[(0,old w.heap.size (byt l))]) (fun w=>(Start.old rfl Start.nil)) fun w₀=>?_
 refine GS (TN 0 (RN ?_));refine ZN 1000002 zero55 fun b2 ⟨hBb2,hb2⟩=>?_
 refine TL (RVN 1 rfl ?_);refine GT (RM rfl ?_);refine RS (ok_lenB U23 rfl LA) ?_;refine RS (ok_min rfl rfl) ?_;refine RZ (nI (l.length)) (congrArg (Value.int .i64) (by omega)) ?_;refine RVN 1 rfl ?_;refine GT (RV 2 rfl ?_);refine RS ((ok_slice (ds:=l.map byteD) 0 (l.length) U23 info5 rfl (Le.old _ _) (.inr ⟨rfl,rfl⟩) (.inl ⟨_,_,rfl,rfl⟩) (by omega) (by first|(simp; done)|(simp; omega))).le (d':=byt (l.take (l.length))) (Le.eq (by rw[List.drop_zero,<- List.map_take]; rfl))) ?_;refine RS (ok_call (Get32_fn (l.take (l.length))) (A1 rfl)) ?_;refine RM rfl ?_;refine RS (ok_extract rfl rfl) ?_;refine RS (ok_extract rfl rfl) ?_;refine RZ (.int .i64 6) (congrArg (Value.int .i64) (chk_lo (by first|(simp; done)|(simp; omega)))) ?_;refine RVN 2 rfl ?_;refine QS (GT (RV 2 rfl ?_));refine RT ?_;refine RN (A.yes rfl ?_);refine GS (TF 2 (RS (ok_lit [] ([.int .u32 0]++[.int .u64 0]) (fun _ _=>rfl) (by kernel_rfl)) ?_));refine RVN 1 rfl ?_;refine ZA 1000002 (size55.of rfl) hBb2 rfl rfl rfl (LW [2,21] rfl) ?_;refine TL (RVN 1 rfl ?_);refine A.ret (End.ret_then ?_);exact End.cellT (s:=1000002) rfl U55 rfl (size55.of (rfl)) rfl rfl (Le.refl _) rfl (Le.refl _)
theorem Get_short(l:List UInt8)(h:4<=l.length)(h2:l.length<12): Fn Tryz.prog 154 [byt l] (tup [.v (aggV [.int .u32 0,.int .u64 0]),.v (.int .i64 6)]):=by
 refine Fn.of Tryz.func154 rfl (by kernel_rfl) Tryz.ntmps154 (by simp) (fun w=>[(0,old w.heap.size (byt l))]) (fun w=>(Start.old rfl Start.nil)) fun w₀=>?_
 refine GS (TN 0 (RN ?_));refine ZN 1000002 zero55 fun b2 ⟨hBb2,hb2⟩=>?_
 refine TL (RVN 1 rfl ?_);refine GT (RM rfl ?_);refine RS (ok_lenB U23 rfl LA) ?_;refine RS (ok_min rfl rfl) ?_;refine RZ (nI 4) (congrArg (Value.int .i64) (by omega)) ?_;refine RVN 1 rfl ?_;refine GT (RV 2 rfl ?_);refine RS ((ok_slice (ds:=l.map byteD) 0 (4) U23 info5 rfl (Le.old _ _) (.inr ⟨rfl,rfl⟩) (.inl ⟨_,_,rfl,rfl⟩) (by omega) (by first|(simp; done)|(simp; omega))).le (d':=byt (l.take (4))) (Le.eq (by rw[List.drop_zero,<- List.map_take]; rfl))) ?_;refine RS (ok_call (Get32_fn (l.take (4))) (A1 rfl)) ?_;refine RM rfl ?_;refine RS (ok_extract rfl rfl) ?_;refine RS (ok_extract rfl rfl) ?_;refine RZ (.int .i64 0) (congrArg (Value.int .i64) (chk_eq (by first|(simp; done)|(simp; omega)))) ?_;refine RVN 2 rfl ?_;refine QS (GT (RV 2 rfl ?_));refine RF ?_;refine RN (A.no rfl ?_);refine QK (GT (RV 2 rfl ?_));refine RS ((ok_slice (ds:=l.map byteD) 4 l.length U23 info5 rfl (Le.old _ _) (.inl ⟨_,_,rfl,rfl⟩) (.inr ⟨rfl,by simp⟩) (by omega) (by simp)).le (d':=byt (l.drop 4)) (Le.eq (by rw[List.take_of_length_le (by simp),<- List.map_drop]; rfl))) ?_;refine RS (ok_call (Get64_fn (l.drop 4)) (A1 rfl)) ?_;refine RM rfl ?_;refine RS (ok_extract rfl rfl) ?_;refine RS (ok_extract rfl rfl) ?_;refine RZ (.int .i64 6) (congrArg (Value.int .i64) (chk_lo (by first|(simp; done)|(simp; omega)))) ?_;refine RVN 2 rfl ?_;refine A.sub (Sv [2,5,6,7,1000002] rfl) ?_;refine QS (GT (RV 2 rfl ?_));refine RT ?_;refine RN (A.yes rfl ?_);refine GS (TF 2 (RS (ok_lit [] ([.int .u32 0]++[.int .u64 0]) (fun _ _=>rfl) (by kernel_rfl)) ?_));refine RVN 1 rfl ?_;refine ZA 1000002 (size55.of rfl) hBb2 rfl rfl rfl (LW [2,32] rfl) ?_;refine TL (RVN 1 rfl ?_);refine A.ret (End.ret_then ?_);exact End.cellT (s:=1000002) rfl U55 rfl (size55.of (rfl)) rfl rfl (Le.refl _) rfl (Le.refl _)
theorem Get_long(l:List UInt8)(h:12<l.length): Fn Tryz.prog 154 [byt l] (tup [.v (aggV [.int .u32 0,.int .u64 0]),.v (.int .i64 5)]):=by
 refine Fn.of Tryz.func154 rfl (by kernel_rfl) Tryz.ntmps154 (by simp) (fun w=>[(0,old w.heap.size (byt l))]) (fun w=>(Start.old rfl Start.nil)) fun w₀=>?_
 refine GS (TN 0 (RN ?_));refine ZN 1000002 zero55 fun b2 ⟨hBb2,hb2⟩=>?_
 refine TL (RVN 1 rfl ?_);refine GT (RM rfl ?_);refine RS (ok_lenB U23 rfl LA) ?_;refine RS (ok_min rfl rfl) ?_;refine RZ (nI 4) (congrArg (Value.int .i64) (by omega)) ?_;refine RVN 1 rfl ?_;refine GT (RV 2 rfl ?_);refine RS ((ok_slice (ds:=l.map byteD) 0 (4) U23 info5 rfl (Le.old _ _) (.inr ⟨rfl,rfl⟩) (.inl ⟨_,_,rfl,rfl⟩) (by omega) (by first|(simp; done)|(simp; omega))).le (d':=byt (l.take (4))) (Le.eq (by rw[List.drop_zero,<- List.map_take]; rfl))) ?_;refine RS (ok_call (Get32_fn (l.take (4))) (A1 rfl)) ?_;refine RM rfl ?_;refine RS (ok_extract rfl rfl) ?_;refine RS (ok_extract rfl rfl) ?_;refine RZ (.int .i64 0) (congrArg (Value.int .i64) (chk_eq (by first|(simp; done)|(simp; omega)))) ?_;refine RVN 2 rfl ?_;refine QS (GT (RV 2 rfl ?_));refine RF ?_;refine RN (A.no rfl ?_);refine QK (GT (RV 2 rfl ?_));refine RS ((ok_slice (ds:=l.map byteD) 4 l.length U23 info5 rfl (Le.old _ _) (.inl ⟨_,_,rfl,rfl⟩) (.inr ⟨rfl,by simp⟩) (by omega) (by simp)).le (d':=byt (l.drop 4)) (Le.eq (by rw[List.take_of_length_le (by simp),<- List.map_drop]; rfl))) ?_;refine RS (ok_call (Get64_fn (l.drop 4)) (A1 rfl)) ?_;refine RM rfl ?_;refine RS (ok_extract rfl rfl) ?_;refine RS (ok_extract rfl rfl) ?_;refine RZ (.int .i64 5) (congrArg (Value.int .i64) (chk_hi (by first|(simp; done)|(simp; omega)))) ?_;refine RVN 2 rfl ?_;refine A.sub (Sv [2,5,6,7,1000002] rfl) ?_;refine QS (GT (RV 2 rfl ?_));refine RT ?_;refine RN (A.yes rfl ?_);refine GS (TF 2 (RS (ok_lit [] ([.int .u32 0]++[.int .u64 0]) (fun _ _=>rfl) (by kernel_rfl)) ?_));refine RVN 1 rfl ?_;refine ZA 1000002 (size55.of rfl) hBb2 rfl rfl rfl (LW [2,32] rfl) ?_;refine TL (RVN 1 rfl ?_);refine A.ret (End.ret_then ?_);exact End.cellT (s:=1000002) rfl U55 rfl (size55.of (rfl)) rfl rfl (Le.refl _) rfl (Le.refl _)
theorem Get_good(l:List UInt8)(h:l.length=12): Fn Tryz.prog 154 [byt l] (tup [.v (aggV [.int .u32 (getV (l.take 4) 4),.int .u64 (getV (l.drop 4) 8)]),.v (.int .i64 0)]):=by
 refine Fn.of Tryz.func154 rfl (by kernel_rfl) Tryz.ntmps154 (by simp) (fun w=>[(0,old w.heap.size (byt l))]) (fun w=>(Start.old rfl Start.nil)) fun w₀=>?_
 refine GS (TN 0 (RN ?_));refine ZN 1000002 zero55 fun b2 ⟨hBb2,hb2⟩=>?_
 refine TL (RVN 1 rfl ?_);refine GT (RM rfl ?_);refine RS (ok_lenB U23 rfl LA) ?_;refine RS (ok_min rfl rfl) ?_;refine RZ (nI 4) (congrArg (Value.int .i64) (by omega)) ?_;refine RVN 1 rfl ?_;refine GT (RV 2 rfl ?_);refine RS ((ok_slice (ds:=l.map byteD) 0 (4) U23 info5 rfl (Le.old _ _) (.inr ⟨rfl,rfl⟩) (.inl ⟨_,_,rfl,rfl⟩) (by omega) (by first|(simp; done)|(simp; omega))).le (d':=byt (l.take (4))) (Le.eq (by rw[List.drop_zero,<- List.map_take]; rfl))) ?_;refine RS (ok_call (Get32_fn (l.take (4))) (A1 rfl)) ?_;refine RM rfl ?_;refine RS (ok_extract rfl rfl) ?_;refine RS (ok_extract rfl rfl) ?_;refine RZ (.int .i64 0) (congrArg (Value.int .i64) (chk_eq (by first|(simp; done)|(simp; omega)))) ?_;refine RVN 2 rfl ?_;refine QS (GT (RV 2 rfl ?_));refine RF ?_;refine RN (A.no rfl ?_);refine QK (GT (RV 2 rfl ?_));refine RS ((ok_slice (ds:=l.map byteD) 4 l.length U23 info5 rfl (Le.old _ _) (.inl ⟨_,_,rfl,rfl⟩) (.inr ⟨rfl,by simp⟩) (by omega) (by simp)).le (d':=byt (l.drop 4)) (Le.eq (by rw[List.take_of_length_le (by simp),<- List.map_drop]; rfl))) ?_;refine RS (ok_call (Get64_fn (l.drop 4)) (A1 rfl)) ?_;refine RM rfl ?_;refine RS (ok_extract rfl rfl) ?_;refine RS (ok_extract rfl rfl) ?_;refine RZ (.int .i64 0) (congrArg (Value.int .i64) (chk_eq (by first|(simp; done)|(simp; omega)))) ?_;refine RVN 2 rfl ?_;refine A.sub (Sv [2,5,6,7,1000002] rfl) ?_;refine QS (GT (RV 2 rfl ?_));refine RF ?_;refine RN (A.no rfl ?_);refine QK (GS (TF 3 (RV 2 rfl ?_)));refine RS (ok_litS [(0,.int .u32 (getV (l.take 4) 4)),(1,.int .u64 (getV (l.drop 4) 8))] [.int .u32 (getV (l.take 4) 4),.int .u64 (getV (l.drop 4) 8)] ⟨rfl,rfl,rfl,rfl,trivial⟩ (by kernel_rfl)) ?_;refine RN ?_;refine ZA 1000002 (size55.of rfl) hBb2 rfl rfl rfl (LV 2 rfl LN) ?_;refine TL (RVN 1 rfl ?_);refine A.ret ?_;exact End.cellT (s:=1000002) rfl U55 rfl (size55.of (rfl)) rfl rfl (Le.refl _) rfl (Le.refl _)
def gS (l:List UInt8):Nat:=if l.length=12 then (getV (l.take 4) 4).toNat else 0
def gC (l:List UInt8):Nat:=if l.length=12 then (getV (l.drop 4) 8).toNat else 0
def gE (n:Nat):Int:=if n<12 then 6 else if n=12 then 0 else 5
theorem getV_nat(l:List UInt8)(k:Nat): ((getV l k).toNat:Int)=getV l k:=by unfold getV; split<;>simp
theorem Get_fn(l:List UInt8): Fn Tryz.prog 154 [byt l] (tup [.v (aggV [nW (gS l),nQ (gC l)]),.v (.int .i64 (gE l.length))]):=by
 by_cases h4:l.length<4
 ·rw[gS,gC,gE,if_neg (by omega),if_neg (by omega),if_pos (by omega)]; exact Get_lo l h4
 by_cases h12:l.length<12
 ·rw[gS,gC,gE,if_neg (by omega),if_neg (by omega),if_pos h12]; exact Get_short l (by omega) h12
 by_cases h:l.length=12
 ·rw[gS,gC,gE,if_pos h,if_pos h,if_neg (by omega),if_pos h]; simp only[nW,nQ,getV_nat]; exact Get_good l h
 ·rw[gS,gC,gE,if_neg h,if_neg h,if_neg (by omega),if_neg h]; exact Get_long l (by omega)
theorem gS_lt(l:List UInt8): gS l<4294967296:=by
 unfold gS
 split
 ·unfold getV
  split
  ·rename_i h; have:=num_lt (l.take 4); rw[h] at this; omega
  ·decide
 ·decide
theorem gC_lt(l:List UInt8): gC l<18446744073709551616:=by
 unfold gC
 split
 ·unfold getV
  split
  ·rename_i h; have:=num_lt (l.drop 4); rw[h] at this; omega
  ·decide
 ·decide
theorem gS_nonce{c:Nat}(hs:s<4294967296): gS (nonceL s c)=s:=by
 rw[gS,if_pos (nonceL_length s c),show(nonceL s c).take 4=be 4 s from by rw[nonceL,List.take_left' (be_length 4 s)],getV,if_pos (be_length 4 s),num_be,Nat.mod_eq_of_lt (by omega),Int.toNat_natCast]
theorem gC_nonce{c:Nat}(hc:c<18446744073709551616): gC (nonceL s c)=c:=by
 rw[gC,if_pos (nonceL_length s c),show(nonceL s c).drop 4=be 8 c from by rw[nonceL,List.drop_left' (be_length 4 s)],getV,if_pos (be_length 8 c),num_be,Nat.mod_eq_of_lt (by omega),Int.toNat_natCast]
end
section
variable {κ:Cx}
theorem vL(h:Nat.ble vbase k=true): vbase<=k:=Nat.le_of_ble_eq_true h
structure WroteL (gs:List (TypeId×Nat)) (w w':World):Prop where
 os:w'.os=w.os
 tape:w'.tape=w.tape
 output:w'.output=w.output
 size:w.heap.size<=w'.heap.size
 lt:∀ p∈gs,p.2<w.heap.size
 cel:∀ p∈gs,∀ o,w.heap[p.2]?=some o->∃ cs fr,o = .cells cs p.1 fr
 other:∀ k,k<w.heap.size->(∀ p∈gs,k≠p.2)->w'.heap[k]?=w.heap[k]?
theorem WroteL.refl{gs:List (TypeId×Nat)}(h:∀ p∈gs,p.2<w.heap.size)(hc:∀ p∈gs,∀ o,w.heap[p.2]?=some o->∃ cs fr,o = .cells cs p.1 fr): WroteL gs w w :=
 ⟨rfl,rfl,rfl,Nat.le_refl _,h,hc,fun _ _ _=>rfl⟩
theorem WroteL.keep {B:Nat} {d:D}:∀ {gs:List (TypeId×Nat)},(∀ p∈gs,B<=p.2)->(∀ p∈gs,Surv B p.1 p.2 d)->∀ {w w':World} {x:Value},WroteL gs w w'->d.Of w x->d.Of w' x
 | [],_,_,w,w',x,h,hx=>D.Of.grow hx ⟨h.os,h.tape,h.output,h.size,fun k hk=>h.other k hk (fun _ hp=>by cases hp)⟩
 | p::gs,hB,hs,w,w',x,h,hx=>by
  have hlt:=h.lt p List.mem_cons_self
  have hlt':p.2<w'.heap.size:=Nat.lt_of_lt_of_le hlt h.size
  obtain⟨wm,e1,e2,e3,e4,hat⟩:∃ wm:World,wm.os=w'.os∧wm.tape=w'.tape∧wm.output=w'.output∧wm.heap.size=w'.heap.size∧∀ k,wm.heap[k]?=if k=p.2 then w.heap[k]? else w'.heap[k]? :=
   ⟨{ w' with heap:=w'.heap.setIfInBounds p.2 w.heap[p.2] },rfl,rfl,rfl,by simp,fun k=>by
    show(w'.heap.setIfInBounds p.2 w.heap[p.2])[k]?=_
    split
    ·rename_i hk; subst hk; simp[hlt',hlt]
    ·rename_i hk; exact Array.getElem?_setIfInBounds_ne (fun e=>hk e.symm)⟩
  have h1:WroteL gs w wm:=⟨e1.trans h.os,e2.trans h.tape,e3.trans h.output,by rw[e4]; exact h.size,fun q hq=>h.lt q (List.mem_cons_of_mem _ hq),fun q hq=>h.cel q (List.mem_cons_of_mem _ hq),fun k hk hne=>by
   rw[hat]
   split
   ·rfl
   ·rename_i hkp
    exact h.other k hk fun q hq=>by
     rcases List.mem_cons.1 hq with rfl|hq
     ·exact hkp
     ·exact hne q hq⟩
  have h2:=WroteL.keep (fun q hq=>hB q (List.mem_cons_of_mem _ hq)) (fun q hq=>hs q (List.mem_cons_of_mem _ hq)) h1 hx
  refine hs p List.mem_cons_self wm w' x ⟨hB p List.mem_cons_self,e1.symm,e2.symm,e3.symm,Nat.le_of_eq e4,fun o ho=>?_,fun k hk hne=>?_⟩ h2
  ·rw[hat,if_pos rfl] at ho
   exact h.cel p List.mem_cons_self o ho
  ·rw[hat,if_neg hne]
theorem WroteL.below{gs:List (TypeId×Nat)}{w':World}(h:WroteL gs w w')(hB:∀ p∈gs,B<=p.2)(hw:B<=w.heap.size): Below B w w' :=
 ⟨h.os,h.tape,h.output,h.size,fun k hk=>h.other k (by omega) fun p hp=>by have:=hB p hp; omega⟩
def wroteL (gs:List (TypeId×Nat)) (w₁:World):D :=
 .p (fun B w _=>w₁.heap.size<=B∧WroteL gs w₁ w) (fun _ _ _ _ h ⟨h1,h2⟩=>⟨h1,⟨h.os.trans h2.os,h.tape.trans h2.tape,h.output.trans h2.output,Nat.le_trans h2.size h.size,h2.lt,h2.cel,fun k hk hne=>(h.block k (Nat.lt_of_lt_of_le hk h1)).trans (h2.other k hk hne)⟩⟩)
  (fun _ _ _ _ h ⟨h1,h2⟩=>⟨Nat.le_trans h1 h,h2⟩)
theorem Surv.wroteL {B T g:Nat} {gs:List (TypeId×Nat)} {w₁:World} (hg:∃ p∈gs,p.2=g):Surv B T g (wroteL gs w₁):=fun _ _ _ k ⟨h1,h2⟩=>by
 obtain⟨p,hp,rfl⟩:=hg
 exact⟨Nat.le_trans h1 k.size,⟨k.os.trans h2.os,k.tape.trans h2.tape,k.output.trans h2.output,Nat.le_trans h2.size k.size,h2.lt,h2.cel,fun j hj hne=>(k.other j (Nat.lt_of_lt_of_le hj h1) (hne p hp)).trans (h2.other j hj hne)⟩⟩
theorem Surv.wroteLN{T:Nat}{gs:List (TypeId×Nat)}{w₁:World}(h:w₁.heap.size<=b): Surv B T b (Go.Proofs.YtjigbkamgfidkaaGreatDoor.wroteL gs w₁):=fun _ _ _ k ⟨h1,h2⟩ =>
 ⟨Nat.le_trans h1 k.size,⟨k.os.trans h2.os,k.tape.trans h2.tape,k.output.trans h2.output,Nat.le_trans h2.size k.size,h2.lt,h2.cel,fun j hj hne=>(k.other j (Nat.lt_of_lt_of_le hj h1) (by omega)).trans (h2.other j hj hne)⟩⟩
def LeftL (B:Nat) (gs:List (TypeId×Nat)) (E' E:Env):Prop:=∀ q∈E',E.look q.1=some q.2∧∀ p∈gs,Surv B p.1 p.2 q.2
theorem LeftL.one{T:Nat}(h:LeftS B T g E' E): LeftL B [(T,g)] E' E:=fun q hq=>⟨(h q hq).1,fun p hp=>by
 rcases List.mem_cons.1 hp with rfl|hp
 ·exact(h q hq).2
 ·cases hp⟩
theorem LeftL.cons{T:Nat}{gs:List (TypeId×Nat)}(h:LeftS B T g E' E)(hr:LeftL B gs E' E): LeftL B ((T,g)::gs) E' E:=fun q hq=>⟨(h q hq).1,fun p hp=>by
 rcases List.mem_cons.1 hp with rfl|hp
 ·exact(h q hq).2
 ·exact(hr q hq).2 p hp⟩
theorem LeftL.st{gs:List (TypeId×Nat)}{a:Act}{w':World}(hl:LeftL B gs E' E)(hB:∀ p∈gs,B<=p.2)(h:St κ n B E a w)(k:WroteL gs w w'): St κ n B E' a w' :=
 ⟨Nat.le_trans h.base k.size,h.defers,h.size,fun t d hd=>by
  obtain⟨h1,h2⟩:=hl _ (look_mem hd)
  exact k.keep hB h2 (h.of t d h1)⟩
theorem look_append{E₁ E₂:Env}{t:Nat}(h:(E₁++E₂).look t=some d): E₁.look t=some d∨E₂.look t=some d:=by
 induction E₁ with
 | nil=>exact .inr h
 | cons p r ih =>
  obtain⟨s,e⟩:=p
  by_cases hs:s=t
  ·subst hs
   rw[List.cons_append,look_here] at h
   exact .inl (by rw[look_here]; exact h)
  ·rw[List.cons_append,look_past _ _ hs] at h
   rw[look_past _ _ hs]
   exact ih h
def selfL (gs:List (TypeId×Nat)):D :=
 .p (fun B w _=>∀ p∈gs,p.2<B∧∃ cs fr,w.heap[p.2]?=some (.cells cs p.1 fr)) (fun _ _ _ _ g h p hp=>⟨(h p hp).1,by rw[g.block _ (h p hp).1]; exact(h p hp).2⟩) (fun _ _ _ _ g h p hp=>⟨Nat.lt_of_lt_of_le (h p hp).1 g,(h p hp).2⟩)
structure FnL (P:Program) (f:FuncId) (B:Nat) (gs:List (TypeId×Nat)) (us:List Value) (M:Env) (G:Nat->Nat->Prop) (u:Nat->Value) (M':Nat->Env):Prop where
 body:∃ fn,P.funcs[f]?=some fn∧(fn.name == "runtime.NumGoroutine")=false∧fn.body.isNone=false
 calls:∀ w:World,B<=w.heap.size->(∀ p∈M,p.2.Of w undef)->WroteL gs w w ->
  Calls P f us.toArray w fun e w'=>∃ i,G w.heap.size i∧e = .returned (u i)∧WroteL gs w w'∧∀ p∈M' i,p.2.Of w' undef
def PL (gs:List (TypeId×Nat)) (w₁:World) (G:Nat->Nat->Prop) (u:Nat->Value) (M':Nat->Env):Ending->World->Prop :=
 fun e w'=>∃ i,G w₁.heap.size i∧e = .returned (u i)∧WroteL gs w₁ w'∧∀ p∈M' i,p.2.Of w' undef
theorem FnL.of{f:FuncId}{c:Code}{gs:List (TypeId×Nat)}{us:List Value}{M:Env}{G:Nat->Nat->Prop}{u:Nat->Value}{M':Nat->Env}{kw ks:Nat}
  (hf:P.funcs[f]?=some fn)(hb:fn.body=some c)(hname:(fn.name == "runtime.NumGoroutine")=false)(hn:fn.ntmps=n)(hds:us.length<=n)(hnv:n<=vbase)(hMb:∀ p∈M,vbase<=p.1)(hkw:vbase<=kw)(hks:vbase<=ks)(args:Env)(hargs:∀ p∈args,∃ v,p.2 = .v v∧us[p.1]?=some v)
  (h:∀ w₀ w₁:World,w₀.heap.size=B->B<=w₁.heap.size->A Cx.top P w₀ n c (args++((kw,wroteL gs w₁)::(ks,selfL gs)::M)) (BP P fn (PL gs w₁ G u M'))): FnL P f B gs us M G u M':=by
 refine⟨⟨fn,hf,hname,by rw[hb]; rfl⟩,fun w hB hM hgs=>?_⟩
 have hsz:=cutW_size (w:=w) (g:=B) hB
 refine callsIn_FR.1 (callsIn_of_wp_marks (F:=FR none) (n:=0) hf hb trivial (h (cutW w B) w hsz hB _ w (cutW_below hB) ⟨by rw[hsz]; exact hB,rfl,?_,fun t e he=>?_⟩))
 ·simp[hn]; omega
 ·show e.Of w ((us.toArray++Array.replicate (fn.ntmps-us.toArray.size) undef).getD t undef)
  have hund:vbase<=t->(us.toArray++Array.replicate (fn.ntmps-us.toArray.size) undef).getD t undef=undef:=fun ht=>by
   rw[Array.getD_eq_getD_getElem?,Array.getElem?_eq_none (by simp[hn]; omega)]; rfl
  rcases List.mem_append.1 (look_mem he) with hm|hm
  ·obtain⟨v,h1,h2⟩:=hargs _ hm
   simp only at h1 h2
   have hj:t<us.length:=(List.getElem?_eq_some_iff.1 h2).1
   rw[Array.getD_eq_getD_getElem?,Array.getElem?_append_left (by simpa using hj)]
   subst h1
   simp[h2]; rfl
  ·rcases List.mem_cons.1 hm with h1|hm
   ·injection h1 with h1 h2; subst h1; subst h2
    exact⟨Nat.le_refl _,hgs⟩
   ·rcases List.mem_cons.1 hm with h1|hm
    ·injection h1 with h1 h2; subst h1; subst h2
     exact fun p hp=>⟨hgs.lt p hp,by
      have h3:=Array.getElem?_eq_getElem (hgs.lt p hp)
      obtain⟨cs,fr,h4⟩:=hgs.cel p hp _ h3
      exact⟨cs,fr,by rw[h3,h4]⟩⟩
    ·have h1:=hMb _ hm
     rw[hund h1]
     exact hM _ hm
section
variable {P:Program} {n B:Nat} {ops:Array Oper} {E:Env} {ty:TypeId} {pos:String} {after:Array Edge}
def NewL (B:Nat) (E:Env) (b:Nat):Prop:=B<=b∧(∀ s b' e xs,E.look s=some (blk b' e xs)->b'<b)∧∀ s gs w₁,E.look s=some (wroteL gs w₁)->w₁.heap.size<=b
theorem eff_nameL{o:Oper}{d:Nat}{val:Nat->Value}(ht:o.dst=some d)(hg:o.guard=none)(hok:∀ B',OpOk P B' o E (newD B' e val xs))(hdn:d<n)(hnv:n<=vbase):
  EffG P n B ops o E (NewL B E) (fun b=>(d,.v (val b))::(k,blk b e xs)::E):=by
 intro κ a w K Q h hK
 rw[if_pos (by simp[Region.wanted,hg])]
 refine wp_of_out ht ((hok w.heap.size a.eval w (Nat.le_refl _) (h.virt hnv) fun x _ u hu=>h.at_ x _ hu).mono ?_)
 rintro x w' ⟨hgr,b,rfl,hb,hlt,hh⟩
 refine hK b _ _ ⟨Nat.le_trans h.base hb,fun s b' e ys hs=>Nat.lt_of_lt_of_le (h.of s _ hs).1 hb,fun s gs w₁ hs=>Nat.le_trans (h.of s _ hs).2.size hb⟩ (Below.mono hgr h.base) (St.put ?_ hdn rfl)
 exact(h.grow hgr).push (t:=k) (d:=blk b e xs) ⟨hlt,hh⟩
theorem subL_M{M:Env}(h:Sub M E)(hb:∀ p∈M,vbase<=p.1): ∀ p∈M,∃ k,vbase<=k∧E.look k=some p.2:=fun p hp=>⟨p.1,hb p hp,h p hp⟩
theorem vbL_nil: ∀ p∈([]:Env),vbase<=p.1:=fun _ h=>by cases h
theorem vbL_cons{M:Env}{t:Nat}(h:vbase<=t)(hr:∀ p∈M,vbase<=p.1): ∀ p∈(t,d)::M,vbase<=p.1:=fun p hp=>by
 rcases List.mem_cons.1 hp with rfl|hp
 ·exact h
 ·exact hr p hp
def GsL (B:Nat) (gs:List (TypeId×Nat)) (E:Env):Prop:=∀ p∈gs,B<=p.2∧∃ k xs,E.look k=some (blk p.2 p.1 xs)
theorem gsL_nil: GsL B [] E:=fun _ h=>by cases h
theorem gsL_cons{gs:List (TypeId×Nat)}{T:TypeId}(hB:B<=g)(hk:E.look k=some (blk g T xs))(hr:GsL B gs E): GsL B ((T,g)::gs) E:=fun p hp=>by
 rcases List.mem_cons.1 hp with rfl|hp
 ·exact⟨hB,k,xs,hk⟩
 ·exact hr p hp
theorem GsL.self{gs:List (TypeId×Nat)}(h:GsL B gs E){a:Act}(hs:St κ n B E a w): WroteL gs w w :=
 WroteL.refl (fun p hp=>by obtain⟨_,k,xs,h4⟩:=h p hp; exact(hs.of k _ h4).1) fun p hp o ho=>by
  obtain⟨_,k,xs,h4⟩:=h p hp
  have h5:=(hs.of k _ h4).2
  rw[h5] at ho; injection ho with ho; exact⟨_,_,ho.symm⟩
theorem eff_callL{f:FuncId}{gs:List (TypeId×Nat)}{us vs:List Value}{M:Env}{G:Nat->Nat->Prop}{u:Nat->Value}{M':Nat->Env}{dst:Nat}{x:Operand}{args:Array Operand}{argTypes:Array TypeId}
  (hf:FnL P f B gs (vs++us) M G u M')(hx:E.at x=some (.v (.func (.func f) #[] us.toArray)))(ha:Args E (vs.map D.v) args.toList)(hM:∀ p∈M,∃ k,vbase<=k∧E.look k=some p.2)(hMb:∀ i,∀ p∈M' i,vbase<=p.1)
  (hgB:∀ p∈gs,B<=p.2)(hgs:∀ (κ:Cx) (a:Act) (w:World),St κ n B E a w->WroteL gs w w)(hn:n<=vbase)(hdst:dst<n)(hl:LeftL B gs E' E):
  EffG P n B ops ⟨some dst,.call { callee:=.value x,args:=args,argTypes:=argTypes },ty,pos,after,none⟩ E (fun i=>∃ m,B<=m∧(∀ s b' e xs,E.look s=some (blk b' e xs)->b'<m)∧(∀ s gs w₁,E.look s=some (wroteL gs w₁)->w₁.heap.size<=m)∧G m i) (fun i=>(dst,.v (u i))::(M' i++E')):=by
 intro κ a w K Q h hK
 obtain⟨fn,h1,h2,h3⟩:=hf.body
 have hfun:a.eval x = .func (.func f) #[] us.toArray:=h.at_ x _ hx
 have hrun:(execOp a.eval ⟨some dst,.call { callee:=.value x,args:=args,argTypes:=argTypes },ty,pos,after,none⟩).run P w = .ok (.enter f (args.map a.eval++us.toArray)) w:=by
  have h2':¬ fn.name = "runtime.NumGoroutine":=by simpa using h2
  have h3':¬ fn.body=none:=by intro h; rw[h] at h3; cases h3
  simp[execOp,resolve,Deferred.ofValue,hfun,invoke,callFunc,h1,h2',h3']
 have hund:∀ k,vbase<=k->a.tmps.getD k undef=undef:=fun k hk=>by
  rw[Array.getD_eq_getD_getElem?,Array.getElem?_eq_none (by rw[h.size]; omega)]; rfl
 have hargs:args.toList.map a.eval=vs:=by
  apply List.ext_getElem?
  intro j
  have hlen:args.toList.length=vs.length:=by have:=ha.length; simpa using this.symm
  rcases Nat.lt_or_ge j vs.length with hj|hj
  ·have hxj:args.toList[j]?=some (args.toList[j]'(by omega)):=List.getElem?_eq_getElem (by omega)
   have he:(vs.map D.v)[j]?=some (.v vs[j]):=by simp[hj]
   obtain⟨e',h4,h5⟩:=ha.nth he hxj
   have h6:a.eval (args.toList[j]'(by omega))=vs[j]:=h5.of (h.at_ _ _ h4)
   rw[List.getElem?_map,hxj,Option.map_some,h6,List.getElem?_eq_getElem hj]
  ·rw[List.getElem?_eq_none (by rw[List.length_map]; omega),List.getElem?_eq_none hj]
 have hcall:=hf.calls w h.base (fun p hp=>by
  obtain⟨k,h4,h5⟩:=hM p hp
  have h6:=h.of k _ h5
  rwa [hund k h4] at h6) (hgs κ a w h)
 have harr:(vs++us).toArray=args.map a.eval++us.toArray:=by
  apply Array.ext'
  rw[<- hargs]; simp
 rw[harr] at hcall
 rw[if_pos (by simp[Region.wanted])]
 refine opR (by nofun) ?_
 unfold Oper.wp
 rw[hrun,Oper.upon_enter]
 refine Calls.mono hcall ?_
 rintro e w' ⟨i,hG,rfl,hw,hM'⟩
 have hst:=hl.st hgB h hw
 refine hK i _ _ ⟨w.heap.size,h.base,fun s b' e ys hs=>(h.of s _ hs).1,fun s gs w₁ hs=>(h.of s _ hs).2.size,hG⟩ (hw.below hgB h.base) (St.put ⟨hst.base,hst.defers,hst.size,fun t d hd=>?_⟩ hdst rfl)
 rcases look_append hd with h4|h4
 ·have h5:=hM' _ (look_mem h4)
  have h6:vbase<=t:=hMb i _ (look_mem h4)
  rw[hund t h6]; exact h5
 ·exact hst.of t d h4
theorem eff_callL1{f:FuncId}{gs:List (TypeId×Nat)}{us vs:List Value}{M:Env}{G:Nat->Nat->Prop}{u:Value}{M':Env}{dst:Nat}{x:Operand}{args:Array Operand}{argTypes:Array TypeId}
  (hf:FnL P f B gs (vs++us) M G (fun _=>u) (fun _=>M'))(hx:E.at x=some (.v (.func (.func f) #[] us.toArray)))(ha:Args E (vs.map D.v) args.toList)(hM:∀ p∈M,∃ k,vbase<=k∧E.look k=some p.2)(hMb:∀ p∈M',vbase<=p.1)
  (hgs:GsL B gs E)(hn:n<=vbase)(hdst:dst<n)(hl:LeftL B gs E' E):
  Eff P n B ops ⟨some dst,.call { callee:=.value x,args:=args,argTypes:=argTypes },ty,pos,after,none⟩ E ((dst,.v u)::(M'++E')):=fun κ a w K Q h hK =>
 eff_callL hf hx ha hM (fun _=>hMb) (fun p hp=>(hgs p hp).1) (fun _ _ _ h=>hgs.self h) hn hdst hl κ a w K Q h fun _ a' w' _ hw hst=>hK a' w' hw hst
theorem lookL_nil: ∀ p∈([]:Env),∃ k,vbase<=k∧E.look k=some p.2:=fun _ h=>by cases h
theorem lookL_cons{M:Env}{t:Nat}(hk:vbase<=k)(h:E.look k=some d)(hr:∀ p∈M,∃ k,vbase<=k∧E.look k=some p.2): ∀ p∈(t,d)::M,∃ k,vbase<=k∧E.look k=some p.2:=fun p hp=>by
 rcases List.mem_cons.1 hp with rfl|hp
 ·exact⟨k,hk,h⟩
 ·exact hr p hp
theorem End.wroteL{w₁:World}{gs:List (TypeId×Nat)}{G:Nat->Nat->Prop}{u:Nat->Value}{M':Nat->Env}{kw:Nat}{x:Exit}(hex:x = .ret∨x = .normal)(hw:E.look kw=some (Go.Proofs.YtjigbkamgfidkaaGreatDoor.wroteL gs w₁))(i:Nat)(hG:G w₁.heap.size i)(hn:n<=vbase)
  (hr:∀ (a:Act) (w:World),St Cx.top n w₀.heap.size E a w->(results fn a.tmps).run P w = .ok (u i) w)(hM:∀ p∈M' i,∃ k,vbase<=k∧E.look k=some p.2): End Cx.top w₀ n E (BP P fn (PL gs w₁ G u M') x):=fun a w _ hs=>by
 have key:LeavesInM (FR none) 0 P fn a.tmps (PL gs w₁ G u M') a.defers .returning w:=by
  rw[show a.defers=[] from hs.defers]
  refine⟨u i,hr a w hs,i,hG,rfl,(hs.of kw _ hw).2,fun p hp=>?_⟩
  obtain⟨k,h2,h3⟩:=hM p hp
  have h4:=hs.of k _ h3
  rwa [show a.tmps.getD k undef=undef from by
   rw[Array.getD_eq_getD_getElem?,Array.getElem?_eq_none (by rw[hs.size]; omega)]; rfl] at h4
 rcases hex with rfl|rfl
 ·exact key
 ·exact key
theorem End.wroteL0{w₁:World}{gs:List (TypeId×Nat)}{G:Nat->Nat->Prop}{M':Nat->Env}{kw:Nat}{x:Exit}(hex:x = .ret∨x = .normal)(hr:fn.results=#[])(hw:E.look kw=some (Go.Proofs.YtjigbkamgfidkaaGreatDoor.wroteL gs w₁))(i:Nat)(hG:G w₁.heap.size i)(hn:n<=vbase)
  (hM:∀ p∈M' i,∃ k,vbase<=k∧E.look k=some p.2): End Cx.top w₀ n E (BP P fn (PL gs w₁ G (fun _=>.tuple #[]) M') x) :=
 End.wroteL hex hw i hG hn (fun a w _=>by simp[results,hr]) hM
end
section
variable {P:Program} {n:Nat} {w₀:World} {E:Env}
theorem End.newTT{r kg:Nat}{zs:List Value}{u v:Value}{val:Nat->Value}(hr:fn.results=#[.tmp r,.tmp s])(h1:E.look r=some (.v u))(h2:E.look s=some (.v v))(h4:E.look kg=some (blk g e zs))(hg:w₀.heap.size<=g)(hv:val g = .tuple #[u,v])(hz:zs=xs):
  End Cx.top w₀ n E (BP P fn (PostOf w₀ (newD w₀.heap.size e val xs)) .ret):=fun a w gr hs=>by
 subst hz
 have h3:a.tmps[r]?.getD undef=u:=by rw[<- Array.getD_eq_getD_getElem?]; exact hs.of r _ h1
 have h6:a.tmps[s]?.getD undef=v:=by rw[<- Array.getD_eq_getD_getElem?]; exact hs.of s _ h2
 obtain⟨hl',hh'⟩:=hs.of kg _ h4
 exact BP.ret hs.defers ⟨.tuple #[u,v],by simp[results,hr,h3,h6],_,rfl,gr,g,hv.symm,hg,hl',hh'⟩
end
theorem slice_bytes{o c:Nat}(l:List UInt8)(hn:n=l.length)(hc:n<=c)(hm:c<=maxLen)(hl:(xs.drop o).take n=l.map byteV)(B:Nat)(w:World)(hb:b<B)(hh:w.heap[b]?=some (.cells xs.toArray e (0,0))): (bytes l c).OfB B w (.slice (some ⟨b,o,none⟩) n c):=by
 subst hn
 refine bytes_mk hc hm fun j u hu=>?_
 rw[<- hl,List.getElem?_take] at hu
 split at hu
 ·rw[List.getElem?_drop] at hu
  refine⟨_,rfl,hb,?_⟩
  rw[add_lit0]
  simp[World.cell?,hh,hu]
 ·cases hu
def arrP (l:List UInt8):D:=.p (fun B w x=>∃ ad,x = .pointer (some ad)∧RowIn B w (some ad) (l.map byteV)) (fun _ _ _ _ g ⟨ad,h1,h2⟩=>⟨ad,h1,h2.keep g⟩) (fun _ _ _ _ g ⟨ad,h1,h2⟩=>⟨ad,h1,fun j u hu=>by
 obtain⟨a,h3,h4,h5⟩:=h2 j u hu
 exact⟨a,h3,Nat.lt_of_lt_of_le h4 g,h5⟩⟩)
section
variable {P:Program} {B:Nat} {E:Env} {dst:Option Tmp} {ty:TypeId} {pos:String} {after:Array Edge} {guard:Option (Nat×Bool)}
theorem ok_arrayB{t:TypeId}{x:Operand}{f:D}(l:List UInt8)(ht:P.underlying t=some (.array l.length e))(hx:E.at x=some f)(hf:Le f (byt l))(hl:0<l.length):
  OpOk P B ⟨dst,.sliceToArrayPointer t x,ty,pos,after,guard⟩ E (arrP l):=fun ρ w _ _ hρ=>by
 obtain⟨c,hb⟩:=hf.of (hρ x (by simp[Op.operands]) _ hx)
 obtain⟨A,hxe,hle,hcm,hrow⟩:=bytes_open (l:=l) hb
 cases A with
 | none =>
  cases l with
  | nil=>cases hl
  | cons b l=>obtain⟨ad,h,_⟩:=hrow 0 (byteV b) rfl; cases h
 | some ad=>exact out_val (x:=.pointer (some ad)) (w':=w) (by simp[execOp,hxe,Instr.arrayAt,run_underlying ht]) ⟨Grow.refl w,ad,rfl,hrow⟩
theorem ok_loadB{T:TypeId}{x:Operand}{l:List UInt8}(ht:P.underlying T=some td)(hp:td.isRow=true)(hsz:SizeIs P T l.length)(hx:E.at x=some (arrP l)): OpOk P B ⟨dst,.load T x,ty,pos,after,guard⟩ E (.v (aggV (l.map byteV))):=fun ρ w _ _ hρ=>by
 obtain⟨ad,h1,hrow⟩:=hρ x (by simp[Op.operands]) _ hx
 have hl:(loadCells ad (l.map byteV).length).run P w = .ok (l.map byteV).toArray w:=run_loadCells_list (P:=P) w ad (l.map byteV) fun j v hv=>by
  obtain⟨a,h2,_,h3⟩:=hrow j v hv
  injection h2 with h2; subst h2; exact h3
 have hr:(loadVar T ad).run P w = .ok (.agg (l.map byteV).toArray) w:=by
  unfold SizeIs at hsz
  cases hq:P.info? T with
  | none=>simp[hq] at hsz
  | some i =>
   have hs:i.size=l.length:=by simpa [hq] using hsz
   have hagg:(isAgg T).run P w = .ok true w:=by
    unfold isAgg
    rw[Sem.run_bind,run_underlying ht w]
    cases td<;>simp_all
   rw[List.length_map] at hl
   simp[loadVar,Sem.run_bind,hagg,sizeOf,typeInfo,hq,hs,hl]
 exact out_val (w':=w) (by simp[execOp,h1,Instr.loadAt,Instr.sureAddr,hr,aggV]) ⟨Grow.refl w,rfl⟩
end
end
section
variable {κ:Cx}
def cutA (c k:Nat) (A:Option Addr):Option Addr:=if c=k then A else A.map (·.add k)
section
variable {P:Program} {B:Nat} {E:Env} {dst:Option Tmp} {ty:TypeId} {pos:String} {after:Array Edge} {guard:Option (Nat×Bool)}
theorem ok_sliceHi{t:TypeId}{z:Value}{x o:Operand}{A:Option Addr}{len c:Nat}{kd:IntKind}(h:Nat)(ht:P.underlying t=some (.slice e))(hs:InfoIs P e z nb)(hx:E.at x=some (.v (.slice A len c)))(ho:E.at o=some (.v (.int kd (h:Int))))(hh:h<=c)(h0:0<c):
  OpOk P B ⟨dst,.slice t x none (some o) none,ty,pos,after,guard⟩ E (.v (.slice A h c)):=fun ρ w _ _ hρ=>by
 have h1:ρ x=_:=hρ x (by simp[Op.operands]) _ hx
 have h2:ρ o = .int kd (h:Int):=hρ o (by simp[Op.operands]) _ ho
 have hr:=run_slice_list (P:=P) ht hs w A len c 0 h none (some (.int kd (h:Int))) kd kd (.inr ⟨rfl,rfl⟩) (.inl rfl) (Nat.zero_le _) hh
 have hA:A.map (·.add 0)=A:=by cases A<;>simp[Addr.add] 
 rw[if_neg (by omega),hA,Nat.sub_zero,Nat.sub_zero] at hr
 exact out_val (x:=.slice A h c) (w':=w) (by simp[execOp,h1,h2,hr]) ⟨Grow.refl w,rfl⟩
theorem ok_sliceLo{t:TypeId}{z:Value}{x o:Operand}{A:Option Addr}{len c:Nat}{kd:IntKind}(l:Nat)(ht:P.underlying t=some (.slice e))(hs:InfoIs P e z nb)(hx:E.at x=some (.v (.slice A len c)))(ho:E.at o=some (.v (.int kd (l:Int))))(hl:l<=len)(hc:len<=c):
  OpOk P B ⟨dst,.slice t x (some o) none none,ty,pos,after,guard⟩ E (.v (.slice (cutA c l A) (len-l) (c-l))):=fun ρ w _ _ hρ=>by
 have h1:ρ x=_:=hρ x (by simp[Op.operands]) _ hx
 have h2:ρ o = .int kd (l:Int):=hρ o (by simp[Op.operands]) _ ho
 have hr:=run_slice_list (P:=P) ht hs w A len c l len (some (.int kd (l:Int))) none kd kd (.inl rfl) (.inr ⟨rfl,rfl⟩) hl hc
 exact out_val (x:=.slice (cutA c l A) (len-l) (c-l)) (w':=w) (by simp[execOp,h1,h2,hr,cutA]) ⟨Grow.refl w,rfl⟩
end
section
variable {P:Program} {n B:Nat} {ops:Array Oper} {E:Env} {ty:TypeId} {pos:String} {after:Array Edge}
theorem eff_callBR{f:FuncId}{M:Env}{T dst:Nat}{us:List Value}{u:Value}{x:Operand}{args:Array Operand}{argTypes:Array TypeId}(hf:FnWR P f M T g xs ys (us.map D.v++ds) u)(hM:∀ p∈M,∃ k,vbase<=k∧E.look k=some p.2)
  (hx:E.at x=some (.v (.func (.func f) us.toArray #[])))(ha:Args E ds args.toList)(hg:B<=g)(hblk:E.look s=some (blk g T xs))(hn:n<=vbase)(hdst:dst<n)(hl:LeftS B T g E' E):
  Eff P n B ops ⟨some dst,.call { callee:=.value x,args:=args,argTypes:=argTypes },ty,pos,after,none⟩ E ((dst,.v u)::(s,blk g T ys)::E'):=by
 intro κ a w K Q h hK
 obtain⟨fn,h1,h2,h3⟩:=hf.body
 have hfun:a.eval x = .func (.func f) us.toArray #[]:=h.at_ x _ hx
 have hrun:(execOp a.eval ⟨some dst,.call { callee:=.value x,args:=args,argTypes:=argTypes },ty,pos,after,none⟩).run P w = .ok (.enter f (us.toArray++args.map a.eval)) w:=by
  have h2':¬ fn.name = "runtime.NumGoroutine":=by simpa using h2
  have h3':¬ fn.body=none:=by intro h; rw[h] at h3; cases h3
  simp[execOp,resolve,Deferred.ofValue,hfun,invoke,callFunc,h1,h2',h3']
 obtain⟨hlt,hh⟩:=h.of s _ hblk
 have hcall:=hf.calls (us++args.toList.map a.eval) w (by simp[ha.length]) (fun j e v he hv=>by
  rcases Nat.lt_or_ge j us.length with hj|hj
  ·rw[List.getElem?_append_left (by simpa using hj),List.getElem?_map] at he
   rw[List.getElem?_append_left hj] at hv
   rw[hv] at he
   injection he with he; subst he; rfl
  ·rw[List.getElem?_append_right (by simpa using hj),List.length_map] at he
   rw[List.getElem?_append_right hj,List.getElem?_map] at hv
   cases hxj:args.toList[j-us.length]? with
   | none=>rw[hxj] at hv; cases hv
   | some y =>
    rw[hxj] at hv; injection hv with hv; subst hv
    obtain⟨e',h4,h5⟩:=ha.nth he hxj
    exact h5.of (h.at_ y _ h4)) (fun p hp=>by
  obtain⟨k,h4,h5⟩:=hM p hp
  have h6:=h.of k _ h5
  rwa [show a.tmps.getD k undef=undef from by
   rw[Array.getD_eq_getD_getElem?,Array.getElem?_eq_none (by rw[h.size]; omega)]; rfl] at h6) hlt hh
 have harr:(us++args.toList.map a.eval).toArray=us.toArray++args.map a.eval:=by apply Array.ext'; simp
 rw[harr] at hcall
 rw[if_pos (by simp[Region.wanted])]
 refine opR (by nofun) ?_
 unfold Oper.wp
 rw[hrun,Oper.upon_enter]
 refine Calls.mono hcall ?_
 rintro e w' ⟨rfl,hw,hh'⟩
 have hwr:Wrote B T g w w':=⟨hg,hw.os,hw.tape,hw.output,hw.size,hw.cel,hw.other⟩
 have hst:=hl.st h hwr
 have hlt':g<w'.heap.size:=(Array.getElem?_eq_some_iff.1 hh').1
 exact hK _ _ (hwr.below h.base) (St.put (hst.push (d:=blk g T ys) ⟨hlt',hh'⟩) hdst rfl)
end
section
variable {P:Program} {n:Nat} {w₀:World} {E:Env}
theorem A.nameC{c:Code}{Q:Exit->Act->World->Prop}{t B':Nat}{l:List UInt8}(ht:E.look t=some (old B' (byt l)))
  (h:∀ (A₀:Option Addr) (m:Nat),l.length<=m->m<=maxLen->A κ P w₀ n c ((t,.v (.slice A₀ l.length m))::(k,old B' (valM (.slice A₀ l.length m) (byt l)))::E) Q): A κ P w₀ n c E Q:=fun a w g hs=>by
 obtain⟨hB,m,hb⟩:=hs.of t _ ht
 obtain⟨A₀,h1,h2,h3,h4⟩:=bytes_open (l:=l) hb
 exact h A₀ m h2 h3 a w g ((hs.push (t:=k) (d:=old B' (valM (.slice A₀ l.length m) (byt l))) ⟨hB,h1▸⟨m,hb⟩⟩).push (d:=.v (.slice A₀ l.length m)) h1)
theorem RowIn.take{A:Option Addr}{vs:List Value}(h:RowIn B w A vs)(k:Nat): RowIn B w A (vs.take k):=fun j u hu=>by
 rw[List.getElem?_take] at hu
 split at hu
 ·exact h j u hu
 ·cases hu
theorem RowIn.drop{A:Option Addr}{vs:List Value}(h:RowIn B w A vs)(k:Nat): RowIn B w (A.map (·.add k)) (vs.drop k):=fun j u hu=>by
 rw[List.getElem?_drop] at hu
 obtain⟨ad,h1,h2,h3⟩:=h _ u hu
 exact⟨ad.add k,by rw[h1]; rfl,by rw[block_of_add]; exact h2,by rw[add_of_add]; exact h3⟩
theorem A.cut{c:Code}{Q:Exit->Act->World->Prop}{k₀ k₁ k₂ B' len:Nat}{A₀:Option Addr}{l:List UInt8}(hk:E.look k₀=some (old B' (valM (.slice A₀ len m) (byt l))))(hi:i<=len)
  (h:A κ P w₀ n c ((k₁,old B' (valM (.slice A₀ i m) (byt (l.take i))))::(k₂,old B' (valM (.slice (cutA m i A₀) (len-i) (m-i)) (byt (l.drop i))))::E) Q): A κ P w₀ n c E Q:=fun a w g hs=>by
 obtain⟨hB,m',hb⟩:=hs.of k₀ _ hk
 obtain⟨A₁,h1,h2,h3,h4⟩:=bytes_open (l:=l) hb
 injection h1 with h5 h6 h7
 subst h5; subst h6; subst h7
 have e1:(bytes (l.take i) m).OfB B' w (.slice A₀ i m):=by
  have:=bytes_mk (l:=l.take i) (c:=m) (A:=A₀) (B:=B') (w:=w) (by simp; omega) h3 (by rw[List.map_take]; exact h4.take i)
  rwa [List.length_take,Nat.min_eq_left hi] at this
 have e2:(bytes (l.drop i) (m-i)).OfB B' w (.slice (cutA m i A₀) (l.length-i) (m-i)):=by
  have:=bytes_mk (l:=l.drop i) (c:=m-i) (A:=cutA m i A₀) (B:=B') (w:=w) (by simp; omega) (by omega) (by
   rw[List.map_drop,cutA]
   split
   ·rw[List.drop_eq_nil_of_le (by simp; omega)]; exact RowIn.nil
   ·exact h4.drop i)
  rwa [List.length_drop] at this
 exact h a w g ((hs.push (t:=k₂) (d:=old B' (valM (.slice (cutA m i A₀) (l.length-i) (m-i)) (byt (l.drop i)))) ⟨hB,_,e2⟩).push (t:=k₁) (d:=old B' (valM (.slice A₀ i m) (byt (l.take i)))) ⟨hB,_,e1⟩)
end
end
set_option maxRecDepth 100000
def mask (t:Bool) (c:Nat):Nat:=bif t then c else 0
def xt (a:Nat):Nat:=(2*a%256) ^^^ mask (a.testBit 7) 27
def xts (a:Nat):Nat->Nat
 | 0=>a
 | k+1=>xt (xts a k)
def gacc (a b:Nat):Nat->Nat
 | 0=>0
 | k+1=>gacc a b k ^^^ mask (b.testBit k) (xts a k)
def gm (a b:Nat):Nat:=gacc a b 8
def itab:List UInt8:=[0,1,141,246,203,82,123,209,232,79,41,192,176,225,229,199,116,180,170,75,153,43,96,95,88,63,253,204,255,64,238,178,58,110,90,241,85,77,168,201,193,10,152,21,48,68,162,194,44,69,146,108,243,57,102,66,242,53,32,111,119,187,89,25,29,254,55,103,45,49,245,105,167,100,171,19,84,37,233,9,237,92,5,202,76,36,135,191,24,62,34,240,81,236,97,23,22,94,175,211,73,166,54,67,244,71,145,223,51,147,33,59,121,183,151,133,16,181,186,60,182,112,208,6,161,250,129,130,131,126,127,128,150,115,190,86,155,158,149,217,247,2,185,164,222,106,50,109,216,138,132,114,42,20,159,136,249,220,137,154,251,124,46,195,143,184,101,72,38,200,18,74,206,231,210,98,12,224,31,239,17,117,120,113,165,142,118,61,189,188,134,87,11,40,47,163,218,212,228,15,169,39,83,4,27,252,172,230,122,7,174,99,197,219,226,234,148,139,196,213,157,248,144,107,177,13,214,235,198,14,207,173,8,78,215,227,93,80,30,179,91,35,56,52,104,70,3,140,221,156,125,160,205,26,65,28]
def ginv (a:Nat):Nat:=(itab.getD a 0).toNat
def rotl8 (a k:Nat):Nat:=(a*2^k%256) ||| (a / 2^(8-k))
def subI (b:Nat):Nat:=b ^^^ rotl8 b 1 ^^^ rotl8 b 2 ^^^ rotl8 b 3 ^^^ rotl8 b 4 ^^^ 99
def sub8 (a:Nat):Nat:=subI (ginv a)
section
set_option maxRecDepth 100000
def rowV (n:Nat) (f:Nat->Nat):List Value:=(List.range n).map fun i=>.int .u8 ((f i:Nat):Int)
theorem rowV_length(n:Nat)(f:Nat->Nat): (rowV n f).length=n:=by simp[rowV]
theorem rowV_get{f:Nat->Nat}(h:i<n): (rowV n f)[i]?=some (.int .u8 ((f i:Nat):Int)):=by simp[rowV,h]
def byL (l:List UInt8) (i:Nat):Nat:=(l.getD i 0).toNat
theorem byL_lt(l:List UInt8)(i:Nat): byL l i<256:=(l.getD i 0).toNat_lt
theorem rowV_byL{l:List UInt8}(h:l.length=n): l.map byteV=rowV n (byL l):=by
 apply List.ext_getElem?
 intro j
 rcases Nat.lt_or_ge j n with hj|hj
 ·rw[rowV_get hj,List.getElem?_map,List.getElem?_eq_getElem (by omega),Option.map_some]
  simp only[byL,List.getD_eq_getElem?_getD,List.getElem?_eq_getElem (show j<l.length by omega),Option.getD_some]
  rfl
 ·rw[List.getElem?_eq_none (by rw[List.length_map]; omega),List.getElem?_eq_none (by rw[rowV_length]; omega)]
abbrev Sta:=Nat->Nat
def By (f:Sta):Prop:=∀ i,f i<256
def addS (f k:Sta):Sta:=fun i=>f i ^^^ k i
def subS (f:Sta):Sta:=fun i=>sub8 (f i)
def rotS (f:Sta):Sta:=fun i=>f (4*((i / 4+i%4)%4)+i%4)
def col (a:Nat->Nat) (r:Nat):Nat:=gm 2 (a (r%4) ^^^ a ((r+1)%4)) ^^^ a ((r+1)%4) ^^^ a ((r+2)%4) ^^^ a ((r+3)%4)
def mixS (f:Sta):Sta:=fun i=>col (fun r=>f (4*(i / 4)+r)) (i%4)
def keyS (s:Nat->Nat) (k:Nat):Sta:=fun i=>s (16*k+i)
def encR (s:Nat->Nat) (f:Sta):Nat->Sta
 | 0=>addS f (keyS s 0)
 | r+1=>addS (mixS (rotS (subS (encR s f r)))) (keyS s (r+1))
def enc (s:Nat->Nat) (f:Sta):Sta:=addS (rotS (subS (encR s f 9))) (keyS s 10)
theorem v8{a:Nat}(h:a=b): Value.int .u8 ((a:Nat):Int) = .int .u8 ((b:Nat):Int):=by rw[h]
end
theorem kinB{l:List UInt8}(h:l.length=n): Kin (fun _ _=>True) (List.replicate n .u8) (l.map byteV):=by
 refine⟨by simp[h],fun i k hk=>?_⟩
 rw[List.getElem?_replicate] at hk
 split at hk
 ·rename_i hi
  injection hk with hk; subst hk
  exact⟨_,by rw[List.getElem?_map,List.getElem?_eq_getElem (by omega)]; rfl,trivial⟩
 ·cases hk
theorem decB(a b:List UInt8): decide (a=b)=true↔a.map byteV=b.map byteV:=by
 rw[decide_eq_true_iff]
 exact⟨fun h=>by rw[h],fun h=>bytes_inj h⟩
section
def zD:List UInt8:=List.replicate 32 0
def recV (x:UInt8) (s c:Nat) (t:List UInt8):List Value:=byteV x :: .int .u32 ((s:Nat):Int) :: .int .u64 ((c:Nat):Int)::t.map byteV
def entV (x:UInt8) (t:List UInt8):List Value:=byteV x::t.map byteV
def celV (t:List UInt8) (e m:Nat):List Value:=t.map byteV++[.int .u64 ((e:Nat):Int),.int .u64 ((m:Nat):Int)]
def recL (x:UInt8) (s c:Nat) (t:List UInt8):List UInt8:=x::(nonceL s c++t)
def entL (x:UInt8) (t:List UInt8):List UInt8:=x::t
def BadR (x:UInt8) (s c:Nat) (t:List UInt8):Prop:=2<x.toNat∨(x.toNat=0∧¬ (s=0∧c=0∧t=zD))
def BadE (x:UInt8) (t:List UInt8):Prop:=2<x.toNat∨(x.toNat=0∧¬ t=zD)
instance {x:UInt8} {s c:Nat} {t:List UInt8}:Decidable (BadR x s c t):=by unfold BadR; infer_instance
instance {x:UInt8} {t:List UInt8}:Decidable (BadE x t):=by unfold BadE; infer_instance
def szE (a n:Nat):Int:=if a<n then 6 else if n<a then 5 else 0
theorem szE_eq{a:Nat}(h:a=n): szE a n=0:=by unfold szE; rw[if_neg (by omega),if_neg (by omega)]
theorem szE_lo{a:Nat}(h:a<n): szE a n=6:=by unfold szE; rw[if_pos h]
theorem szE_hi{a:Nat}(h:n<a): szE a n=5:=by unfold szE; rw[if_neg (by omega),if_pos h]
def ckS (n:Nat) (z:Bool):Int:=if 2<n∨(n=0∧z=false) then 1 else 0
def ckR (x:UInt8) (s c:Nat) (t:List UInt8):Int:=if BadR x s c t then 1 else 0
def ckE (x:UInt8) (t:List UInt8):Int:=if BadE x t then 1 else 0
theorem ckS_rec(x:UInt8)(s c:Nat)(t:List UInt8): ckS x.toNat (decide (x.toNat=0∧s=0∧c=0∧t=zD))=ckR x s c t:=by
 unfold ckS ckR BadR
 by_cases h:x.toNat=0<;>by_cases h2:s=0∧c=0∧t=zD<;>simp[h,h2]
theorem ckS_ent(x:UInt8)(t:List UInt8): ckS x.toNat (decide (x.toNat=0∧t=zD))=ckE x t:=by
 unfold ckS ckE BadE
 by_cases h:x.toNat=0<;>by_cases h2:t=zD<;>simp[h,h2]
theorem ckR_bad{x:UInt8}{c:Nat}{t:List UInt8}(h:BadR x s c t): ckR x s c t=1:=if_pos h
theorem ckR_ok{x:UInt8}{c:Nat}{t:List UInt8}(h:¬ BadR x s c t): ckR x s c t=0:=if_neg h
theorem ckE_bad{x:UInt8}{t:List UInt8}(h:BadE x t): ckE x t=1:=if_pos h
theorem ckE_ok{x:UInt8}{t:List UInt8}(h:¬ BadE x t): ckE x t=0:=if_neg h
theorem byteV_inj{a b:UInt8}(h:byteV a=byteV b): a=b:=by
 have:=bytes_inj (a:=[a]) (b:=[b]) (by rw[List.map_cons,List.map_cons,h])
 simpa using this
theorem byteV_zero{x:UInt8}: byteV x=byteV 0↔x.toNat=0:=by
 refine⟨fun h=>by rw[byteV_inj h]; rfl,fun h=>?_⟩
 rw[show x=0 from UInt8.toNat_inj.1 h]
theorem dec_rec(x:UInt8)(s c:Nat)(t:List UInt8): decide (x.toNat=0∧s=0∧c=0∧t=zD)=true↔recV x s c t=recV 0 0 0 zD:=by
 rw[decide_eq_true_iff]
 refine⟨fun⟨h1,h2,h3,h4⟩=>by rw[h2,h3,h4,recV,recV,byteV_zero.2 h1],fun h=>?_⟩
 unfold recV at h
 injection h with h1 h
 injection h with h2 h
 injection h with h3 h
 injection h2 with _ h2
 injection h3 with _ h3
 exact⟨byteV_zero.1 h1,by omega,by omega,bytes_inj h⟩
theorem dec_ent(x:UInt8)(t:List UInt8): decide (x.toNat=0∧t=zD)=true↔entV x t=entV 0 zD:=by
 rw[decide_eq_true_iff]
 refine⟨fun⟨h1,h4⟩=>by rw[h4,entV,entV,byteV_zero.2 h1],fun h=>?_⟩
 unfold entV at h
 injection h with h1 h
 exact⟨byteV_zero.1 h1,bytes_inj h⟩
theorem kinRec(x:UInt8)(s c:Nat){t:List UInt8}(h:t.length=32): Kin (fun _ _=>True) (.u8 :: .u32 :: .u64::List.replicate 32 .u8) (recV x s c t):=kin_cons (kin_cons (kin_cons (kinB h)))
theorem kinEnt(x:UInt8){t:List UInt8}(h:t.length=32): Kin (fun _ _=>True) (.u8::List.replicate 32 .u8) (entV x t):=kin_cons (kinB h)
theorem rec_len(x:UInt8)(s c:Nat){t:List UInt8}(h:t.length=32): (recV x s c t).length=35:=by simp[recV,h]
theorem ent_len(x:UInt8){t:List UInt8}(h:t.length=32): (entV x t).length=33:=by simp[entV,h]
theorem cel_len{t:List UInt8}(h:t.length=32)(e m:Nat): (celV t e m).length=34:=by simp[celV,h]
theorem recL_len(x:UInt8)(s c:Nat){t:List UInt8}(h:t.length=32): (recL x s c t).length=45:=by simp[recL,h,nonceL_length]
theorem entL_len(x:UInt8){t:List UInt8}(h:t.length=32): (entL x t).length=33:=by simp[entL,h]
theorem all_byte(l:List UInt8): (l.map byteV).all (·.oneCell')=true:=by simp[List.all_eq_true,byteV,Value.oneCell']
theorem rec_one(x:UInt8)(s c:Nat)(t:List UInt8): (recV x s c t).all (·.oneCell')=true:=by simp only[recV,List.all_cons,all_byte]; rfl
theorem ent_one(x:UInt8)(t:List UInt8): (entV x t).all (·.oneCell')=true:=by simp only[entV,List.all_cons,all_byte]; rfl
theorem cel_one(t:List UInt8)(e m:Nat): (celV t e m).all (·.oneCell')=true:=by simp only[celV,List.all_append,all_byte]; rfl
theorem rec_tag{x:UInt8}{c:Nat}{t:List UInt8}(h:t.length=32): ((recV x s c t).drop 3).take 32=t.map byteV:=List.take_of_length_le (by rw[List.length_drop,rec_len x s c h]; decide)
theorem ent_tag{x:UInt8}{t:List UInt8}(h:t.length=32): ((entV x t).drop 1).take 32=t.map byteV:=List.take_of_length_le (by rw[List.length_drop,ent_len x h]; decide)
theorem cel_root{t:List UInt8}(h:t.length=32)(e m:Nat): ((celV t e m).drop 0).take 32=t.map byteV:=List.take_left' (by simp[h])
theorem cel_e{t:List UInt8}(h:t.length=32)(e m:Nat): (celV t e m)[32]?=some (.int .u64 ((e:Nat):Int)):=by
 rw[celV,List.getElem?_append_right (by simp[h])]; simp[h]
theorem rec_set3(x:UInt8)(s c:Nat){t t':List UInt8}(h:t.length=32)(h':t'.length=32): (recV x s c t').take 3++t.map byteV++(recV x s c t').drop (3+(t.map byteV).length)=recV x s c t:=by
 rw[List.length_map,h,List.drop_eq_nil_of_le (by rw[rec_len x s c h']; decide),List.append_nil]; rfl
theorem ent_set1(x:UInt8){t t':List UInt8}(h:t.length=32)(h':t'.length=32): (entV x t').take 1++t.map byteV++(entV x t').drop (1+(t.map byteV).length)=entV x t:=by
 rw[List.length_map,h,List.drop_eq_nil_of_le (by rw[ent_len x h']; decide),List.append_nil]; rfl
def pX (l:List UInt8):UInt8:=l.getD 0 0
def sumL (l:List UInt8):Nat:=(l.map UInt8.toNat).sum
def rest (l:List UInt8):Nat:=sumL (l.drop 1)
end
section
variable {κ:Cx}
structure Mk where
 eff:Bool
 stab:Bool
 kill:Option Nat
end
section
variable {κ:Cx}
end
end Go.Proofs.YtjigbkamgfidkaaGreatDoor
