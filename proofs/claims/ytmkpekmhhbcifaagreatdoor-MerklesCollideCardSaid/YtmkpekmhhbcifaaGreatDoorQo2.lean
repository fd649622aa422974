/-
  OWN TEXTS of this seat, put together, part 2: Range, Eq, Flat, Vals, Fresh, Mark, Var, Write, Scope, Nest, Calls, More, Any, Hold, Auto, Keep, Chain, Pair, Use, PredF, Text, RangeX, Nonce, Shape, C12a, C12c, C01a, C01b.
-/
import Derived.Test.YtmkpekmhhbcifaaGreatDoorQo0
import Derived.Test.YtmkpekmhhbcifaaGreatDoorQo1
import Derived.RangeFuncOwn
import Derived.ChangeKeysEq
import Derived.Laws.StructEq
import Derived.Laws.IdiomStrings
import Derived.Scope
import Derived.Lib.SliceRun
import Derived.Test.YtmkpekmhhbcifaaGreatDoorProg
namespace Go.Proofs.YtmkpekmhhbcifaaGreatDoor
set_option linter.unusedVariables false
set_option linter.unusedSimpArgs false
set_option maxRecDepth 20000
open Go Go.RowKit
section
variable {κ : Cx}
def recD (b : Nat) (o : Obj) (m : Nat) : D := .p (fun B w _ => b < B ∧ m ≤ B ∧ w.heap[b]? = some o) (fun _ _ _ _ g ⟨h1, h2, h3⟩ => ⟨h1, h2, (g.block b h1).trans h3⟩) (fun _ _ _ _ g ⟨h1, h2, h3⟩ => ⟨Nat.lt_of_lt_of_le h1 g, Nat.le_trans h2 g, h3⟩)
theorem Surv.rec {B T g b m : Nat} {o : Obj} (h : o.isCells = false) : Surv B T g (recD b o m) := fun w _ _ k ⟨h1, h2, h3⟩ => by
 refine ⟨Nat.lt_of_lt_of_le h1 k.size, Nat.le_trans h2 k.size, (k.other b h1 fun hb => ?_).trans h3⟩
 subst hb
 obtain ⟨cs, fr, hx⟩ := k.cel _ h3
 subst hx; cases h
def jD (J : World → Prop) : D := .p (fun B w _ => ∃ v : World, J v ∧ v.heap.size ≤ B ∧ Below v.heap.size v w) (fun _ _ _ _ g ⟨v, h1, h2, h3⟩ => ⟨v, h1, h2, h3.trans (g.mono h2)⟩) (fun _ _ _ _ g ⟨v, h1, h2, h3⟩ => ⟨v, h1, Nat.le_trans h2 g, h3⟩)
theorem jD_get {J : World → Prop} (hst : ∀ a b, J a → Grow a b → J b) {w : World} {x : Value} (h : (jD J).Of w x) : J w := by
 obtain ⟨v, h1, _, h3⟩ := h
 exact hst v w h1 h3
theorem jD_mk {J : World → Prop} {w : World} {x : Value} (h : J w) : (jD J).Of w x := ⟨w, h, Nat.le_refl _, Below.refl _ _⟩
theorem below_two {B : Nat} {w₀ w w' : World} (h : Below B w₀ w) (h' : Below B w₀ w') (hs : w.heap.size ≤ w'.heap.size) : Below B w w' :=
 ⟨h'.os.trans h.os.symm, h'.tape.trans h.tape.symm, h'.output.trans h.output.symm, hs, fun k hk => (h'.block k hk).trans (h.block k hk).symm⟩
def Firm (l : Nat) (d : D) : Prop := ∀ (w : World) (o o' : Obj) (x : Value), w.heap[l]? = some o → o.isCells = false → d.Of w x → d.Of (w.putObj l o') x
theorem Firm.v (l : Nat) (x : Value) : Firm l (.v x) := fun _ _ _ _ _ _ h => h
theorem below_putObj {B l : Nat} (w : World) (o' : Obj) (h : B ≤ l) : Below B w (w.putObj l o') := ⟨rfl, rfl, rfl, by simp, fun _ hk => World.putObj_heap_other (by omega)⟩
theorem Firm.old {l B : Nat} {d : D} (h : B ≤ l) : Firm l (Go.Proofs.YtmkpekmhhbcifaaGreatDoor.old B d) := fun w _ o' _ _ _ ⟨h1, h2⟩ => ⟨by simpa using h1, D.OfB.keep h2 (below_putObj w o' h)⟩
theorem Firm.blk {l b : Nat} {e : TypeId} {xs : List Value} : Firm l (Go.Proofs.YtmkpekmhhbcifaaGreatDoor.blk b e xs) := fun w o o' _ hl ho ⟨h1, h2⟩ => ⟨by simpa using h1, (World.putObj_heap_other (fun hb => by
 subst hb; rw [h2] at hl; injection hl with hl; subst hl; cases ho)).trans h2⟩
theorem Firm.tab {l b : Nat} {xs : List Value} : Firm l (Go.Proofs.YtmkpekmhhbcifaaGreatDoor.tab b xs) := fun w o o' _ hl ho ⟨h1, e, h2⟩ => ⟨by simpa using h1, e, (World.putObj_heap_other (fun hb => by
 subst hb; rw [h2] at hl; injection hl with hl; subst hl; cases ho)).trans h2⟩
def Holds (w₀ : World) (V : Env) (w : World) : Prop := Below w₀.heap.size w₀ w ∧ w₀.heap.size ≤ w.heap.size ∧ ∀ p ∈ V, p.2.Of w undef
theorem Holds.grow {w₀ w w' : World} {V : Env} (h : Holds w₀ V w) (g : Grow w w') : Holds w₀ V w' := ⟨h.1.trans (g.mono h.2.1), Nat.le_trans h.2.1 g.size, fun p hp => (h.2.2 p hp).grow g⟩
theorem Holds.putObj {w₀ w : World} {V : Env} {l : Nat} {o : Obj} (o' : Obj) (h : Holds w₀ V w) (hl : w.heap[l]? = some o) (ho : o.isCells = false) (hB : w₀.heap.size ≤ l) (hf : ∀ p ∈ V, Firm l p.2) : Holds w₀ V (w.putObj l o') :=
 ⟨h.1.trans (below_putObj w o' hB), by simpa using h.2.1, fun p hp => hf p hp w o o' _ hl ho (h.2.2 p hp)⟩
theorem vle {k : Nat} {d : D} (h : Nat.ble 1000000 k = true) : vbase ≤ (k, d).1 := Nat.le_of_ble_eq_true h
theorem vlt {k : Nat} {d : D} (h : Nat.blt k 1000000 = true) : (k, d).1 < vbase := Nat.le_of_ble_eq_true h
section
variable {P : Program} {n : Nat} {w₀ : World} {ops : Array Oper} {E : Env} {ty : TypeId} {pos : String} {after : Array Edge}
def Yields (P : Program) (N : Nat) (l : Nat) (arg : Nat → D) (J : Nat → World → Prop) : Prop :=
 ∀ (i : Nat) (W : World) (u : Value), i < N → J i W → (arg i).Of W u → YieldAt (FR none) 0 P l #[u] W fun e W' => e = .returned (.bool true) ∧ J (i + 1) W' ∧ W.heap.size ≤ W'.heap.size
structure Seqs (P : Program) (w₀ : World) (N : Nat) (l : Nat) (arg : Nat → D) (V : Nat → Env) (J : Nat → World → Prop) : Prop where
 grow : ∀ i a b, J i a → Grow a b → J i b
 holds : ∀ i W, J i W → Holds w₀ (V i) W
 yields : Yields P N l arg J
theorem Seqs.sub {N l : Nat} {arg : Nat → D} {V V' : Nat → Env} {J : Nat → World → Prop} (h : Seqs P w₀ N l arg V J) (hs : ∀ i, ∀ p ∈ V' i, p ∈ V i) : Seqs P w₀ N l arg V' J :=
 ⟨h.grow, fun i W hJ => ⟨(h.holds i W hJ).1, (h.holds i W hJ).2.1, fun p hp => (h.holds i W hJ).2.2 p (hs i p hp)⟩, h.yields⟩
theorem eff_yield {N l : Nat} {arg : Nat → D} {V : Nat → Env} {J : Nat → World → Prop} {d vJ : Nat} {fv x : Operand} {ex : D} {tys : Array TypeId} {E' : Env} (hq : Seqs P w₀ N l arg V J) (i : Nat) (hi : i < N)
  (hJ : E.look vJ = some (jD (J i))) (hf : E.at fv = some (.v (.func (.yield l) #[] #[]))) (hx : E.at x = some ex) (hle : Le ex (arg i)) (hd : d < n) (hV : ∀ p ∈ V (i + 1), vbase ≤ p.1) (hn : n ≤ vbase)
  (hl : Left w₀.heap.size E' E) :
  Eff P n w₀.heap.size ops ⟨some d, .call { callee := .value fv, args := #[x], argTypes := tys }, ty, pos, after, none⟩ E ((d, .v (.bool true)) :: (vJ, jD (J (i + 1))) :: (V (i + 1) ++ E')) := by
 intro κ a w K Q h hK
 have h1 : a.eval fv = _ := h.at_ fv _ hf
 have h2 := hle.of (h.at_ x _ hx)
 have hJw : J i w := jD_get (hq.grow i) (h.of vJ _ hJ)
 obtain ⟨fn, tmps, assign, body, hy, hr⟩ := hq.yields i w _ hi hJw h2
 rw [if_pos (by simp [Region.wanted])]
 refine ⟨fun _ _ => trivial, ?_⟩
 rw [Oper.semAt_eq _ _ _ (by nofun)]
 have hrun : (execOp a.eval ⟨some d, .call { callee := .value fv, args := #[x], argTypes := tys }, ty, pos, after, none⟩).run P w = .ok (.round l fn tmps assign body) w := by
  simp [execOp, resolve, Deferred.ofValue, h1, invoke, hy]
 rw [hrun, Oper.uponIn_round]
 refine ⟨fun e => absurd e (by simp [FR, Fence.wide]), RoundIn.mono (F := FR κ.rd) (n := 0) hr ?_⟩
 rintro e W' ⟨rfl, hJ', hs⟩
 obtain ⟨hb, hsz, hv⟩ := hq.holds _ _ hJ'
 have hb0 := (hq.holds _ _ hJw).1
 have hbel := below_two hb0 hb hs
 refine hK _ _ hbel (St.put ⟨hsz, h.defers, h.size, fun t e he => ?_⟩ hd rfl)
 have hund : ∀ t, vbase ≤ t → a.tmps.getD t undef = undef := fun t ht => by
  rw [Array.getD_eq_getD_getElem?, Array.getElem?_eq_none (by rw [h.size]; omega)]; rfl
 by_cases hts : vJ = t
 ·subst hts
  rw [look_here] at he; injection he with he; subst he
  exact jD_mk hJ'
 ·rw [look_past _ _ hts] at he
  rcases List.mem_append.1 (look_mem he) with hm | hm
  ·have := hv _ hm
   rwa [hund t (hV _ hm)]
  ·obtain ⟨h7, h8⟩ := hl _ hm
   exact h8 _ _ _ hbel h.base (h.of t e h7)
theorem Calls.within {f : FuncId} {fn : Func} {c : Code} {vs : List Value} {w : World} {R : Ending → World → Prop} (hf : P.funcs[f]? = some fn) (hb : fn.body = some c) (hn : fn.ntmps = n) (hl : vs.length ≤ n) (hnv : n ≤ vbase) (hw : Below w₀.heap.size w₀ w) (hs : w₀.heap.size ≤ w.heap.size)
  (hE : ∀ p ∈ E, (vbase ≤ p.1 ∧ p.2.Of w undef) ∨ ∃ v, vs[p.1]? = some v ∧ p.2.Of w v) (h : A Cx.top P w₀ n c E (BP P fn R)) : Calls P f vs.toArray w R := by
 refine callsIn_FR.1 (callsIn_of_wp_marks (F := FR none) (n := 0) hf hb trivial (h _ w hw ⟨hs, rfl, ?_, fun t e he => ?_⟩))
 ·simp [hn]; omega
 ·show e.Of w ((vs.toArray ++ Array.replicate (fn.ntmps - vs.toArray.size) undef).getD t undef)
  rcases hE _ (look_mem he) with ⟨ht, hx⟩ | ⟨v, hv, hx⟩
  ·rwa [Array.getD_eq_getD_getElem?, Array.getElem?_eq_none (by simp [hn]; simp only at ht; omega)]
  ·have hlt : t < vs.length := (List.getElem?_eq_some_iff.1 hv).1
   rw [Array.getD_eq_getD_getElem?, Array.getElem?_append_left (by simpa using hlt)]
   simp only at hv
   simp [hv]; exact hx
theorem End.seq {fn : Func} {N l : Nat} {arg : Nat → D} {V : Nat → Env} {J : Nat → World → Prop} {vJ : Nat} (hq : Seqs P w₀ N l arg V J) (hr : fn.results = #[]) (hJ : E.look vJ = some (jD (J N))) :
  End Cx.top w₀ n E (BP P fn (fun e W => (∃ v, e = .returned v) ∧ J N W) .normal) := fun a w _ hs => by
 show LeavesInM (FR none) 0 P fn a.tmps _ a.defers .returning w
 rw [show a.defers = [] from hs.defers]
 exact ⟨_, by simp [results, hr]; rfl, ⟨_, rfl⟩, jD_get (hq.grow N) (hs.of vJ _ hJ)⟩
def RoundQ (w₀ : World) (V : Env) : Exit → Act → World → Prop
 | .normal, _, w => Holds w₀ V w
 | _, _, _ => False
theorem End.round {V : Env} (hs : Sub V E) (hV : ∀ p ∈ V, vbase ≤ p.1) (hn : n ≤ vbase) : End κ w₀ n E (RoundQ w₀ V .normal) := fun a w g hst => ⟨g, hst.base, fun p hp => by
 have h1 := hst.of p.1 p.2 (hs p hp)
 have := hV p hp
 rwa [Array.getD_eq_getD_getElem?, Array.getElem?_eq_none (by rw [hst.size]; omega)] at h1⟩
theorem assign_one {l id tp t : Nat} {ty pos after} {E : Env} {d : D} {a : Act} {w : World} (ht : t < n) (htp : tp < n) (hn : n ≤ vbase) (h : St ⟨some l, []⟩ n w₀.heap.size ((tp, d) :: E) a w) :
  (Code.region id #[⟨some t, .assign (.tmp tp), ty, pos, after, none⟩] false).wpIn (FR (some l)) 0 P (fun e a' w' => e = .normal ∧ Grow w w' ∧ St ⟨some l, []⟩ n w₀.heap.size ((t, d) :: (tp, d) :: E) a' w') a w := by
 have hr : Run P w₀.heap.size #[⟨some t, .assign (.tmp tp), ty, pos, after, none⟩] [⟨some t, .assign (.tmp tp), ty, pos, after, none⟩] ((tp, d) :: E) ((t, d) :: (tp, d) :: E) := .step rfl rfl (ok_assign (look_here _ _ _)) .nil
 have := wp_text (Q := fun e a' w' => e = .normal ∧ Grow w w' ∧ St ⟨some l, []⟩ n w₀.heap.size ((t, d) :: (tp, d) :: E) a' w') (rest := []) hn hr h (fun o ho => by
  simp only [List.mem_cons, List.not_mem_nil, or_false] at ho
  subst ho
  refine ⟨fun s hs => ?_, fun s hs => by simp only [Option.some.injEq] at hs; exact hs ▸ ht⟩
  simp [Oper.looksAt, Op.operands] at hs
  exact hs ▸ htp) fun a' w' g h' => wpListIn_nil ⟨rfl, g, h'⟩
 exact wpIn_region_list (by simpa using this)
theorem A.range {Q : Exit → Act → World → Prop} {g : Operand} {tp gf N vL vD : Nat} {assign body : Code} {lb : List Value} {S : Env} {V Eb : Nat → Env} {arg : Nat → D} (hg : E.at g = some (.v (.func (.func gf) #[] lb.toArray)))
  (hgf : ∃ fn, P.funcs[gf]? = some fn ∧ (fn.name == "runtime.NumGoroutine") = false ∧ fn.body.isNone = false) (htp : tp < n) (hn : n ≤ vbase) (h0 : Sub (V 0 ++ S) E)
  (hS : ∀ p ∈ S, p.1 < vbase ∧ ((∃ x, p.2 = .v x) ∨ ∃ d, p.2 = old w₀.heap.size d)) (hV : ∀ i, ∀ p ∈ V i, vbase ≤ p.1)
  (hfV : ∀ i l, w₀.heap.size ≤ l → ∀ p ∈ V i, Firm l p.2) (hfE : ∀ i l, w₀.heap.size ≤ l → ∀ p ∈ Eb i, Firm l p.2)
  (hseq : ∀ (J : Nat → World → Prop) (l : Nat) (w : World), Seqs P w₀ N l arg V J → J 0 w → Calls P gf (.func (.yield l) #[] #[] :: lb).toArray w fun e W => (∃ v, e = .returned v) ∧ J N W)
  (hassign : ∀ i l a w, i < N → St ⟨some l, []⟩ n w₀.heap.size ((tp, arg i) :: (V i ++ S)) a w → assign.wpIn (FR (some l)) 0 P (fun e a' w' => e = .normal ∧ Grow w w' ∧ St ⟨some l, []⟩ n w₀.heap.size (Eb i) a' w') a w)
  (hbody : ∀ i l D r m, i < N → A ⟨some l, []⟩ P w₀ n body ((vL, recD l (.loop r) m) :: (vD, recD D (.deferred (some [])) 0) :: Eb i) (RoundQ w₀ ((vL, recD l (.loop r) m) :: (vD, recD D (.deferred (some [])) 0) :: V (i + 1))))
  (hend : ∀ D, w₀.heap.size ≤ D → End ⟨none, [{ target := .collected D, args := #[] }]⟩ w₀ n ((vD, recD D (.deferred (some [])) 0) :: (V N ++ S)) (Q .normal)) :
  A ⟨none, []⟩ P w₀ n (.rangeFunc g #[tp] assign body) E Q := fun a w hb hst => by
 show (Code.rangeFunc g #[tp] assign body).wpIn (FR none) 0 P Q a w
 refine wpIn_rangeFunc fun fn _ => ?_
 obtain ⟨rec, hrec⟩ : ∃ rec : LoopState → Option Code → Loop, rec = fun st pe => { state := st, pending := pe, fn, tmps := a.tmps, params := #[tp], assign, body, defers := w.heap.size } := ⟨_, rfl⟩
 obtain ⟨W1, hW1⟩ : ∃ W1, (w.alloc (.deferred (some []))).alloc (.loop (rec .ready none)) = W1 := ⟨_, rfl⟩
 have hg' : a.eval g = .func (.func gf) #[] lb.toArray := hst.at_ g _ hg
 obtain ⟨gfn, hf1, hf2, hf3⟩ := hgf
 have eg : ∀ args w, (callFunc gf args).run P w = .ok (.enter gf args) w := fun args w => by
  have h2' : ¬ gfn.name = "runtime.NumGoroutine" := by simpa using hf2
  have h3' : ¬ gfn.body = none := by intro h; rw [h] at hf3; cases hf3
  simp [callFunc, hf1, h2', h3']
 have hgr : Grow w W1 := by
  rw [← hW1]; exact (Grow.alloc w _).trans (Grow.alloc _ _)
 have hL1 : W1.heap[w.heap.size + 1]? = some (.loop (rec .ready none)) := by
  rw [← hW1]; have := World.alloc_heap_new (w.alloc (.deferred (some []))) (.loop (rec .ready none)); rwa [World.size_alloc] at this
 have hK1 : W1.heap[w.heap.size]? = some (.deferred (some [])) := by
  rw [← hW1]; exact (Below.heap_alloc _ _ _ (by simp)).trans (World.alloc_heap_new w _)
 have hund : ∀ t, vbase ≤ t → a.tmps.getD t undef = undef := fun t ht => by
  rw [Array.getD_eq_getD_getElem?, Array.getElem?_eq_none (by rw [hst.size]; omega)]; rfl
 have hH0 : Holds w₀ (V 0) w := ⟨hb, hst.base, fun p hp => by
  have h1 := hst.of p.1 p.2 (h0 p (List.mem_append_left _ hp))
  rwa [hund _ (hV 0 p hp)] at h1⟩
 -- what holds between two rounds
 have hstS : ∀ (κ' : Cx) (i : Nat) (W : World) (a' : Act) (E' : Env), κ'.df = a'.defers → a'.tmps.size = n → Holds w₀ (V i) W → w.heap.size ≤ W.heap.size → (∀ t e, E'.look t = some e → e.Of W (a'.tmps.getD t undef) ∨ ((t, e) ∈ V i ++ S ∧ (t < vbase → a'.tmps.getD t undef = a.tmps.getD t undef))) → St κ' n w₀.heap.size E' a' W := by
  intro κ' i W a' E' hd hsz hH hs hE
  refine ⟨hH.2.1, hd.symm, hsz, fun t e he => ?_⟩
  rcases hE t e he with h | ⟨hm, hsame⟩
  ·exact h
  ·rcases List.mem_append.1 hm with hm | hm
   ·have h1 := hH.2.2 _ hm
    have ht := hV i _ hm
    simp only at ht
    rwa [Array.getD_eq_getD_getElem?, Array.getElem?_eq_none (by rw [hsz]; omega)]
   ·obtain ⟨ht, hk⟩ := hS _ hm
    rw [hsame ht]
    have h1 := hst.of t e (h0 _ (List.mem_append_right _ hm))
    rcases hk with ⟨x, hx⟩ | ⟨d, hd'⟩
    ·simp only at hx; subst hx; exact h1
    ·simp only at hd'; subst hd'
     exact ⟨hH.2.1, D.OfB.keep h1.2 (below_two hb hH.1 hs)⟩
 refine ⟨w.heap.size + 1, [{ target := .collected w.heap.size, args := #[] }], W1, { target := .fn (.func gf) lb.toArray, args := #[.func (.yield (w.heap.size + 1)) #[] #[]] }, W1, gf,
  #[.func (.yield (w.heap.size + 1)) #[] #[]] ++ lb.toArray, W1, ?_, ?_, fun _ _ => trivial, ?_, fun e => absurd e (by simp [FR, Fence.wide]), ?_⟩
 ·rw [← hW1, hrec]; exact run_enterLoop_outer _ _ _ _ _
 ·have hy : a.eval (.const (.func (.yield (w.heap.size + 1)) #[] #[])) = .func (.yield (w.heap.size + 1)) #[] #[] := rfl
  simp only [resolve, hg']
  simp [Deferred.ofValue, hy]
 ·simp [invoke, eg]
 ·have harr : (#[.func (.yield (w.heap.size + 1)) #[] #[]] ++ lb.toArray : Array Value) = (.func (.yield (w.heap.size + 1)) #[] #[] :: lb).toArray := by simp
  rw [harr]
  refine callsIn_FR.2 ((hseq (fun i W => Holds w₀ (V i) W ∧ W.heap[w.heap.size + 1]? = some (.loop (rec .ready none)) ∧ W.heap[w.heap.size]? = some (.deferred (some []))) (w.heap.size + 1) W1 ⟨?_, fun i W h => h.1, ?_⟩ ⟨hH0.grow hgr, hL1, hK1⟩).mono ?_)
  ·rintro i x y ⟨h1, h2, h3⟩ k
   exact ⟨h1.grow k, (k.block _ (Array.getElem?_eq_some_iff.1 h2).1).trans h2, (k.block _ (Array.getElem?_eq_some_iff.1 h3).1).trans h3⟩
  ·-- one round
   rintro i W u hi ⟨hH, hl, hk⟩ hu
   have hlt : w.heap.size + 1 < W.heap.size := (Array.getElem?_eq_some_iff.1 hl).1
   have hBl : w₀.heap.size ≤ w.heap.size + 1 := by have := hst.base; omega
   have hy := run_yield (P := P) (args := #[u]) hl (by rw [hrec]; rfl)
   rw [hrec] at hy
   refine ⟨fn, _, assign, body, hy, roundIn_of_wpIn (F := FR none) trivial ?_⟩
   have htm : (List.foldl (fun (tmps : Array Value) (x : Tmp × Value) => tmps.setIfInBounds x.1 x.2) a.tmps ((#[tp].zip #[u]).toList)) = a.tmps.setIfInBounds tp u := by simp
   have hsta : St ⟨some (w.heap.size + 1), []⟩ n w₀.heap.size ((tp, arg i) :: (V i ++ S)) { tmps := a.tmps.setIfInBounds tp u, defers := [] } W := by
    refine hstS _ i W _ _ rfl (by simp [hst.size]) hH (by omega) fun t e he => ?_
    by_cases hts : tp = t
    ·subst hts
     rw [look_here] at he; injection he with he; subst he
     left
     have : tp < a.tmps.size := by rw [hst.size]; exact htp
     simpa [this] using hu
    ·rw [look_past _ _ hts] at he
     exact .inr ⟨look_mem he, fun _ => by simp [Array.getElem?_setIfInBounds_ne hts]⟩
   have has := hassign i (w.heap.size + 1) _ W hi hsta
   have hrun0 : ({ tmps := Array.foldl (fun (tmps : Array Value) (x : Tmp × Value) => tmps.setIfInBounds x.1 x.2) a.tmps (#[tp].zip #[u]), defers := [] } : Act) = { tmps := a.tmps.setIfInBounds tp u, defers := [] } := by simp
   show assign.wpIn (FR (some (w.heap.size + 1))) 0 P _ _ W
   refine wpIn_mono (F := FR (some (w.heap.size + 1))) (n := 0) (by first | exact has | (rw [← hrun0] at has; exact has)) ?_
   rintro e a1 W2 ⟨rfl, hg2, hst2⟩
   have hl2 : W2.heap[w.heap.size + 1]? = some (.loop (rec .ready none)) := (hg2.block _ hlt).trans hl
   have hk2 : W2.heap[w.heap.size]? = some (.deferred (some [])) := (hg2.block _ (by omega)).trans hk
   have hH2 := hH.grow hg2
   have hlt2 : w.heap.size + 1 < W2.heap.size := (Array.getElem?_eq_some_iff.1 hl2).1
   refine ⟨_, run_beginRound hl2 (by rw [hrec]), ?_⟩
   have hl3 : (W2.putObj (w.heap.size + 1) (.loop { rec .ready none with state := .busy })).heap[w.heap.size + 1]? = some (.loop { rec .ready none with state := .busy }) := World.putObj_heap_same hlt2
   have hk3 : (W2.putObj (w.heap.size + 1) (.loop { rec .ready none with state := .busy })).heap[w.heap.size]? = some (.deferred (some [])) := (World.putObj_heap_other (by omega)).trans hk2
   have hH3 := hH2.putObj (.loop { rec .ready none with state := .busy }) hl2 rfl hBl (hfV i _ hBl)
   have hst3 : St ⟨some (w.heap.size + 1), []⟩ n w₀.heap.size ((vL, recD (w.heap.size + 1) (.loop { rec .ready none with state := .busy }) W.heap.size) :: (vD, recD w.heap.size (.deferred (some [])) 0) :: Eb i) a1 (W2.putObj (w.heap.size + 1) (.loop { rec .ready none with state := .busy })) := by
    refine ⟨hH3.2.1, hst2.defers, hst2.size, fun t e he => ?_⟩
    by_cases hts : vL = t
    ·subst hts
     rw [look_here] at he; injection he with he; subst he
     exact ⟨by simpa using hlt2, by simpa using hg2.size, hl3⟩
    ·rw [look_past _ _ hts] at he
     by_cases hts' : vD = t
     ·subst hts'
      rw [look_here] at he; injection he with he; subst he
      exact ⟨by simp; omega, Nat.zero_le _, hk3⟩
     ·rw [look_past _ _ hts'] at he
      exact hfE i _ hBl _ (look_mem he) W2 _ _ _ hl2 rfl (hst2.of t e he)
   refine wpIn_mono (F := FR (some (w.heap.size + 1))) (n := 0) (hbody i _ _ _ _ hi a1 _ hH3.1 hst3) ?_
   rintro e a3 W3 hp
   cases e with
   | normal =>
    obtain ⟨hb3, hs3, hv3⟩ := hp
    obtain ⟨hlt3, hm3, hl4⟩ := hv3 _ List.mem_cons_self
    obtain ⟨_, _, hk4⟩ := hv3 _ (List.mem_cons_of_mem _ List.mem_cons_self)
    have hH4 : Holds w₀ (V (i + 1)) W3 := ⟨hb3, hs3, fun p hp => hv3 p (List.mem_cons_of_mem _ (List.mem_cons_of_mem _ hp))⟩
    have hend := run_endRound (P := P) none hl4
    refine ⟨_, _, hend, rfl, ⟨hH4.putObj _ hl4 rfl hBl (hfV _ _ hBl), ?_, (World.putObj_heap_other (by omega)).trans hk4⟩, by simpa using hm3⟩
    have := World.putObj_heap_same (o := .loop { { rec .ready none with state := .busy } with state := .ready, pending := none }) hlt3
    rw [hrec] at this ⊢
    exact this
   | _ => exact hp.elim
  ·-- behind it
   rintro e W2 ⟨⟨v, rfl⟩, hH, hl, hk⟩
   have hBl : w₀.heap.size ≤ w.heap.size + 1 := by have := hst.base; omega
   have hlt2 : w.heap.size + 1 < W2.heap.size := (Array.getElem?_eq_some_iff.1 hl).1
   have hel := run_endLoop (P := P) hl (by rw [hrec]; simp)
   refine ⟨none, _, by rw [hrec] at hel; exact hel, ?_⟩
   have hH3 := hH.putObj (.loop { state := .exhausted, pending := none, fn, tmps := a.tmps, params := #[tp], assign, body, defers := w.heap.size }) hl rfl hBl (hfV N _ hBl)
   refine hend w.heap.size hst.base _ _ hH3.1 (hstS _ N _ _ _ (by simp [hst.defers]) hst.size hH3 (by simp; omega) fun t e he => ?_)
   by_cases hts : vD = t
   ·subst hts
    rw [look_here] at he; injection he with he; subst he
    exact .inl ⟨by simp; omega, Nat.zero_le _, (World.putObj_heap_other (by omega)).trans hk⟩
   ·rw [look_past _ _ hts] at he
    exact .inr ⟨look_mem he, fun _ => rfl⟩
theorem ok_makeFunc2 {B : Nat} {dst : Option Tmp} {guard : Option (Nat × Bool)} {f : FuncId} {x y : Operand} {u v : Value} (hx : E.at x = some (.v u)) (hy : E.at y = some (.v v)) :
  OpOk P B ⟨dst, .makeFunc (.func f) #[] #[x, y], ty, pos, after, guard⟩ E (.v (.func (.func f) #[] #[u, v])) := fun ρ w _ _ hρ => by
 have h1 : ρ x = _ := hρ x (by simp [Op.operands]) _ hx
 have h2 : ρ y = _ := hρ y (by simp [Op.operands]) _ hy
 exact out_val (w' := w) (by simp [execOp, h1, h2, Instr.makeFunc]) ⟨Grow.refl w, rfl⟩
def closD (base f : Nat) (e₁ e₂ : TypeId) (u₁ u₂ : Value) : D :=
 .p (fun B w x => ∃ p q, base ≤ p ∧ p < q ∧ q < B ∧ x = .func (.func f) #[] #[.pointer (some ⟨p, 0, none⟩), .pointer (some ⟨q, 0, none⟩)] ∧ w.heap[p]? = some (.cells #[u₁] e₁ (0,0)) ∧ w.heap[q]? = some (.cells #[u₂] e₂ (0,0)))
  (fun _ _ _ _ g ⟨p, q, h1, h2, h3, h4, h5, h6⟩ => ⟨p, q, h1, h2, h3, h4, (g.block p (by omega)).trans h5, (g.block q h3).trans h6⟩) (fun _ _ _ _ g ⟨p, q, h1, h2, h3, h4, h5, h6⟩ => ⟨p, q, h1, h2, by omega, h4, h5, h6⟩)
theorem closD_mono {f : Nat} {e₁ e₂ : TypeId} {u₁ u₂ : Value} (B B' : Nat) (h : B ≤ B') : Le (closD B' f e₁ e₂ u₁ u₂) (closD B f e₁ e₂ u₁ u₂) := fun _ _ _ ⟨p, q, h1, h2⟩ => ⟨p, q, by omega, h2⟩
theorem End.clos {fn : Func} {r k₁ k₂ p q f : Nat} {e₁ e₂ : TypeId} {u₁ u₂ : Value} (hr : fn.results = #[.tmp r]) (hp : w₀.heap.size ≤ p) (hpq : p < q) (ht : E.look r = some (.v (.func (.func f) #[] #[.pointer (some ⟨p, 0, none⟩), .pointer (some ⟨q, 0, none⟩)])))
  (h1 : E.look k₁ = some (blk p e₁ [u₁])) (h2 : E.look k₂ = some (blk q e₂ [u₂])) : End Cx.top w₀ n E (BP P fn (PostOf w₀ (closD w₀.heap.size f e₁ e₂ u₁ u₂)) .ret) := fun a w g hs => by
 obtain ⟨_, h4⟩ := hs.of k₁ _ h1
 obtain ⟨h5, h6⟩ := hs.of k₂ _ h2
 exact BP.ret hs.defers ⟨a.tmps.getD r undef, by simp [results, hr], _, rfl, g, p, q, hp, hpq, h5, hs.of r _ ht, h4, h6⟩
theorem A.openClos {c : Code} {Q : Exit → Act → World → Prop} {t k₁ k₂ f : Nat} {e₁ e₂ : TypeId} {u₁ u₂ : Value} {B : Nat} (ht : E.look t = some (closD B f e₁ e₂ u₁ u₂))
  (h : ∀ p q, B ≤ p → p < q → A κ P w₀ n c ((t, .v (.func (.func f) #[] #[.pointer (some ⟨p, 0, none⟩), .pointer (some ⟨q, 0, none⟩)])) :: (k₁, blk p e₁ [u₁]) :: (k₂, blk q e₂ [u₂]) :: E) Q) : A κ P w₀ n c E Q := fun a w g hs => by
 obtain ⟨p, q, h1, h2, h3, h4, h5, h6⟩ := hs.of t _ ht
 refine h p q h1 h2 a w g ⟨hs.base, hs.defers, hs.size, fun s d hd => ?_⟩
 by_cases hts : t = s
 ·subst hts
  rw [look_here] at hd; injection hd with hd; subst hd; exact h4
 ·rw [look_past _ _ hts] at hd
  by_cases hks : k₁ = s
  ·subst hks
   rw [look_here] at hd; injection hd with hd; subst hd
   exact ⟨Nat.lt_trans h2 h3, h5⟩
  ·rw [look_past _ _ hks] at hd
   by_cases hks' : k₂ = s
   ·subst hks'
    rw [look_here] at hd; injection hd with hd; subst hd
    exact ⟨h3, h6⟩
   ·rw [look_past _ _ hks'] at hd
    exact hs.of s d hd
theorem End.cell1C {fn : Func} {D vD r s b : Nat} {T e : TypeId} {td : TypeDesc} {xs : List Value} {d : Go.Proofs.YtmkpekmhhbcifaaGreatDoor.D} {m : Nat} (hD : E.look vD = some (recD D (.deferred (some [])) m)) (hDB : w₀.heap.size ≤ D) (hr : fn.results = #[.cell r T]) (ht : P.underlying T = some td) (hp : (match td with | .struct _ | .array _ _ => true | _ => false) = true) (hsz : SizeIs P T xs.length)
  (h1 : E.look r = some (.v (.pointer (some ⟨b, 0, none⟩)))) (h2 : E.look s = some (blk b e xs)) (hl : ∀ w, d.Of w (aggV xs)) : End ⟨none, [{ target := .collected D, args := #[] }]⟩ w₀ n E (BP P fn (PostOf w₀ d) .ret) := fun a w g hs => by
 have h3 : a.tmps[r]?.getD undef = .pointer (some ⟨b, 0, none⟩) := by rw [← Array.getD_eq_getD_getElem?]; exact hs.of r _ h1
 obtain ⟨hlt, _, hk⟩ := hs.of vD _ hD
 obtain ⟨_, hh⟩ := hs.of s _ h2
 have hne : b ≠ D := fun h => by subst h; rw [hh] at hk; cases hk
 have hh' : (w.putObj D (.deferred none)).heap[b]? = some (.cells xs.toArray e (0,0)) := (World.putObj_heap_other hne).trans hh
 have := run_loadVar_row (P := P) (w.putObj D (.deferred none)) b e T xs.toArray (0,0) td hh' ht hp (by simpa [SizeIs] using hsz)
 show LeavesInM (FR none) 0 P fn a.tmps _ a.defers .returning w
 rw [show a.defers = [{ target := .collected D, args := #[] }] from hs.defers]
 refine ⟨by simp, .inl ⟨D, _, rfl, run_takeDeferred hk, ?_⟩⟩
 refine ⟨aggV xs, by simp [results, hr, h3, asAddr, this, aggV], _, rfl, ?_, hl _⟩
 exact Below.trans g (below_putObj w _ hDB)
end
end
section
section
variable {P : Program} {B : Nat} {E : Env} {dst : Option Tmp} {ty : TypeId} {pos : String} {after : Array Edge} {guard : Option (Nat × Bool)}
theorem bytes_inj {a b : List UInt8} (h : a.map byteV = b.map byteV) : a = b := (List.map_inj_right fun x y hxy => by
 simp only [byteV, Value.int.injEq, true_and] at hxy
 exact UInt8.toNat_inj.1 (by omega)).1 h
end
end
section
open Go Go.RowKit Go.ChangeShapes Go.WideShapes
def flatFs (F : TypeId → Option (List IntKind)) : List Field → Nat → Option (List IntKind)
 | [], _ => some []
 | f :: r, o => match F f.type with
  | none => none
  | some ks => if f.offset = o ∧ f.name ≠ "_" then (flatFs F r (o + ks.length)).map (ks ++ ·) else none
def flat (P : Program) : Nat → TypeId → Option (List IntKind)
 | 0, _ => none
 | n + 1, t => if P.cellsOf t = 0 then none else match P.underlying t with
  | some (.int k) => if P.cellsOf t = 1 then some [k] else none
  | some (.array len e) => match flat P n e with
   | none => none
   | some ks => if P.cellsOf t = len * ks.length then some (List.replicate len ks).flatten else none
  | some (.struct fs) => match flatFs (flat P n) fs.toList 0 with
   | none => none
   | some ks => if P.cellsOf t = ks.length ∧ P.stoodInHeld t = false then some ks else none
  | _ => none
def isAggT (P : Program) (t : TypeId) : Bool := match P.underlying t with | some (.struct _) => true | some (.array _ _) => true | _ => false
def packT (P : Program) (t : TypeId) (xs : List Value) : Value := if isAggT P t then .agg xs.toArray else xs.headD undef
def Kin (Q : IntKind → Int → Prop) (ks : List IntKind) (xs : List Value) : Prop := xs.length = ks.length ∧ ∀ (i : Nat) (k : IntKind), ks[i]? = some k → ∃ n, xs[i]? = some (.int k n) ∧ Q k n
section
variable {Q : IntKind → Int → Prop}
theorem Kin.nil {xs : List Value} (h : Kin Q [] xs) : xs = [] := List.eq_nil_of_length_eq_zero h.1
theorem Kin.one {k : IntKind} {xs : List Value} (h : Kin Q [k] xs) : ∃ n, xs = [.int k n] ∧ Q k n := by
 obtain ⟨n, h1, h2⟩ := h.2 0 k rfl
 refine ⟨n, ?_, h2⟩
 have hl : xs.length = 1 := h.1
 match xs, hl, h1 with
 | [x], _, h1 => simp at h1; rw [h1]
theorem Kin.split {a b : List IntKind} {xs : List Value} (h : Kin Q (a ++ b) xs) : Kin Q a (xs.take a.length) ∧ Kin Q b (xs.drop a.length) := by
 have hl : xs.length = a.length + b.length := by simpa using h.1
 refine ⟨⟨by simp; omega, fun i k hk => ?_⟩, ⟨by simp; omega, fun i k hk => ?_⟩⟩
 ·have hi : i < a.length := (List.getElem?_eq_some_iff.1 hk).1
  obtain ⟨n, h1, h2⟩ := h.2 i k (by rw [List.getElem?_append_left hi]; exact hk)
  exact ⟨n, by rw [List.getElem?_take, if_pos hi]; exact h1, h2⟩
 ·obtain ⟨n, h1, h2⟩ := h.2 (a.length + i) k (by rw [List.getElem?_append_right (by omega), Nat.add_sub_cancel_left]; exact hk)
  exact ⟨n, by rw [List.getElem?_drop]; exact h1, h2⟩
theorem Kin.join {a b : List IntKind} {xs ys : List Value} (h : Kin Q a xs) (h' : Kin Q b ys) : Kin Q (a ++ b) (xs ++ ys) := by
 refine ⟨by simp [h.1, h'.1], fun i k hk => ?_⟩
 rcases Nat.lt_or_ge i a.length with hi | hi
 ·rw [List.getElem?_append_left hi] at hk
  rw [List.getElem?_append_left (by rw [h.1]; exact hi)]
  exact h.2 i k hk
 ·rw [List.getElem?_append_right hi] at hk
  rw [List.getElem?_append_right (by rw [h.1]; exact hi), h.1]
  exact h'.2 _ k hk
theorem Kin.append {a b : List IntKind} {xs : List Value} (h : Kin Q (a ++ b) xs) : ∃ x y, xs = x ++ y ∧ Kin Q a x ∧ Kin Q b y :=
 ⟨_, _, (List.take_append_drop a.length xs).symm, h.split.1, h.split.2⟩
theorem Kin.cons {k : IntKind} {b : List IntKind} {xs : List Value} (h : Kin Q (k :: b) xs) : ∃ n y, xs = .int k n :: y ∧ Q k n ∧ Kin Q b y := by
 obtain ⟨x, y, rfl, h1, h2⟩ := Kin.append (a := [k]) h
 obtain ⟨n, rfl, h3⟩ := h1.one
 exact ⟨n, y, rfl, h3, h2⟩
theorem Kin.rep {ks : List IntKind} : ∀ {n : Nat} {xs : List Value}, Kin Q (List.replicate n ks).flatten xs → ∀ i, i < n → Kin Q ks ((xs.drop (i * ks.length)).take ks.length)
 | 0, _, _, i, hi => by omega
 | n + 1, xs, h, 0, _ => by
  rw [List.replicate_succ, List.flatten_cons] at h
  simpa using h.split.1
 | n + 1, xs, h, i + 1, hi => by
  rw [List.replicate_succ, List.flatten_cons] at h
  have := Kin.rep h.split.2 i (by omega)
  rwa [List.drop_drop, show ks.length + i * ks.length = (i + 1) * ks.length from by rw [Nat.succ_mul]; omega] at this
end
theorem rep_length {ks : List IntKind} (n : Nat) : (List.replicate n ks).flatten.length = n * ks.length := by
 induction n with
 | zero => simp
 | succ n ih => rw [List.replicate_succ, List.flatten_cons, List.length_append, ih, Nat.succ_mul]; omega
section
variable {P : Program}
theorem flat_cells : ∀ {n : Nat} {t : TypeId} {ks : List IntKind}, flat P n t = some ks → P.cellsOf t = ks.length ∧ 0 < ks.length := by
 intro n t ks h
 cases n with
 | zero => cases h
 | succ n =>
  unfold flat at h
  split at h
  ·cases h
  ·rename_i h0
   have hk : P.cellsOf t = ks.length := by
    split at h
    ·split at h
     ·rename_i h1; injection h with h; subst h; exact h1
     ·cases h
    ·split at h
     ·cases h
     ·split at h
      ·rename_i h1; injection h with h; subst h; rw [h1, rep_length]
      ·cases h
    ·split at h
     ·cases h
     ·split at h
      ·rename_i h1; injection h with h; subst h; exact h1.1
      ·cases h
    ·cases h
   exact ⟨hk, by omega⟩
theorem info_of_cells {t : TypeId} (h : 0 < P.cellsOf t) : ∃ i, P.info? t = some i := by
 unfold Program.cellsOf at h
 cases hi : P.info? t with
 | none => rw [hi] at h; simp at h
 | some i => exact ⟨i, rfl⟩
theorem run_isAgg {t : TypeId} {td : TypeDesc} (h : P.underlying t = some td) (w : World) : (isAgg t).run P w = .ok (isAggT P t) w := by
 unfold isAgg isAggT
 rw [Sem.run_bind, run_underlying h w, h]
 cases td <;> simp
theorem flat_under {n : Nat} {t : TypeId} {ks : List IntKind} (h : flat P n t = some ks) : ∃ td, P.underlying t = some td := by
 cases n with
 | zero => cases h
 | succ n =>
  unfold flat at h
  split at h
  ·cases h
  ·cases hu : P.underlying t with
   | none => rw [hu] at h; cases h
   | some td => exact ⟨td, rfl⟩
theorem flat_part {n : Nat} {t : TypeId} {ks : List IntKind} (h : flat P n t = some ks) (zs : List Value) (o : Nat) (ho : o + ks.length ≤ zs.length) (w : World) : (part t zs.toArray o).run P w = .ok (packT P t ((zs.drop o).take ks.length)) w := by
 obtain ⟨td, hu⟩ := flat_under h
 obtain ⟨hc, hp⟩ := flat_cells h
 obtain ⟨i, hi⟩ := info_of_cells (P := P) (t := t) (by omega)
 simp only [part, Sem.run_bind, run_isAgg hu, Result.andThen_ok]
 unfold packT
 cases hb : isAggT P t with
 | true =>
  simp only [if_true, Sem.run_bind, run_sizeOf w hi, Result.andThen_ok, hc]
  simp
 | false =>
  have hlt : o < zs.length := by omega
  have : ((zs.drop o).take ks.length).headD undef = zs[o] := by
   rw [List.drop_eq_getElem_cons hlt]
   obtain ⟨m, hm⟩ : ∃ m, ks.length = m + 1 := ⟨ks.length - 1, by omega⟩
   rw [hm]
   rfl
  rw [if_neg (by simp), if_neg (by simp), this]
  simp [hlt]
theorem two_parts {xs ys : List Value} {o a b : Nat} (hx : o + (a + b) ≤ xs.length) (hy : o + (a + b) ≤ ys.length) :
  (xs.drop o).take (a + b) = (ys.drop o).take (a + b) ↔ (xs.drop o).take a = (ys.drop o).take a ∧ (xs.drop (o + a)).take b = (ys.drop (o + a)).take b := by
 rw [List.take_add, List.take_add, List.drop_drop, List.drop_drop]
 constructor
 ·intro h
  exact List.append_inj h (by simp; omega)
 ·rintro ⟨h1, h2⟩
  rw [h1, h2]
theorem flat_eq : ∀ (n : Nat) {t : TypeId} {ks : List IntKind}, flat P n t = some ks → ∀ (d : Nat) (w : World) (xs ys : List Value), Kin (fun _ _ => True) ks xs → Kin (fun _ _ => True) ks ys →
  ∃ r : Bool, (Op.equalIn (d + n) t (packT P t xs) (packT P t ys)).run P w = .ok r w ∧ (r = true ↔ xs = ys) := by
 intro n
 induction n with
 | zero => intro t ks h; cases h
 | succ n ih =>
  intro t ks h d w xs ys hx hy
  have hks := flat_cells h
  unfold flat at h
  split at h
  ·cases h
  ·split at h
   ·rename_i k hu
    split at h
    ·injection h with h; subst h
     obtain ⟨a, rfl, _⟩ := hx.one
     obtain ⟨b, rfl, _⟩ := hy.one
     have hg : isAggT P t = false := by unfold isAggT; rw [hu]
     refine ⟨a == b, ?_, by simp⟩
     unfold packT
     rw [hg]
     exact run_equalIn_int w (d + n) t k k a b hu
    ·cases h
   ·rename_i len e hu
    split at h
    ·cases h
    ·rename_i ks' hf
     split at h
     ·injection h with h; subst h
      have hg : isAggT P t = true := by unfold isAggT; rw [hu]
      obtain ⟨hc, hp⟩ := flat_cells hf
      obtain ⟨i, hi⟩ := info_of_cells (P := P) (t := e) (by omega)
      unfold packT
      rw [hg, if_pos rfl, if_pos rfl, ← Nat.add_assoc, run_equalIn_array (w := w) (d + n) xs.toArray ys.toArray hu hi, hc]
      have hxl : xs.length = len * ks'.length := by rw [hx.1, rep_length]
      have hyl : ys.length = len * ks'.length := by rw [hy.1, rep_length]
      have key : ∀ is : List Nat, (∀ i ∈ is, i < len) → ∃ r : Bool, (Op.eqItems (d + n) e ks'.length xs.toArray ys.toArray is).run P w = .ok r w ∧ (r = true ↔ ∀ i ∈ is, (xs.drop (i * ks'.length)).take ks'.length = (ys.drop (i * ks'.length)).take ks'.length) := by
       intro is
       induction is with
       | nil => intro _; exact ⟨true, by simp [Op.eqItems], by simp⟩
       | cons j is ihs =>
        intro hj
        have hjl := hj j List.mem_cons_self
        have hb : j * ks'.length + ks'.length ≤ len * ks'.length := by
         rw [← Nat.succ_mul]; exact Nat.mul_le_mul_right _ hjl
        obtain ⟨r, hr, hri⟩ := ihs fun i hi => hj i (List.mem_cons_of_mem _ hi)
        obtain ⟨r', hr', hri'⟩ := ih hf d w _ _ (hx.rep j hjl) (hy.rep j hjl)
        simp only [Op.eqItems, Sem.run_bind, flat_part hf xs (j * ks'.length) (by omega) w, flat_part hf ys (j * ks'.length) (by omega) w, Result.andThen_ok, hr']
        cases r' with
        | true => exact ⟨r, by simpa using hr, by simp [hri, hri'.1 rfl]⟩
        | false => exact ⟨false, by simp, by simpa using fun h => absurd (hri'.2 h) (by simp)⟩
      obtain ⟨r, hr, hri⟩ := key (List.range len) fun i hi => List.mem_range.1 hi
      refine ⟨r, hr, hri.trans ⟨fun h => ?_, fun h => by subst h; exact fun _ _ => rfl⟩⟩
      apply List.ext_getElem?
      intro j
      rcases Nat.lt_or_ge j (len * ks'.length) with hj | hj
      ·have h1 := h (j / ks'.length) (List.mem_range.2 ((Nat.div_lt_iff_lt_mul hp).2 hj))
       have h2 := congrArg (·[j % ks'.length]?) h1
       simp only [List.getElem?_take, if_pos (Nat.mod_lt _ hp), List.getElem?_drop] at h2
       rwa [Nat.mul_comm, Nat.div_add_mod] at h2
      ·rw [List.getElem?_eq_none (by omega), List.getElem?_eq_none (by omega)]
     ·cases h
   ·rename_i fs hu
    split at h
    ·cases h
    ·rename_i ks' hf
     split at h
     ·rename_i hst
      injection h with h; subst h
      have hg : isAggT P t = true := by unfold isAggT; rw [hu]
      have hfo : P.fieldsOf t = fs := by unfold Program.fieldsOf; rw [hu]
      unfold packT
      rw [hg, if_pos rfl, if_pos rfl, ← Nat.add_assoc, run_equalIn_struct w (d + n) t xs.toArray ys.toArray (by rw [hfo]; exact hu) hst.2, hfo]
      have key : ∀ (l : List Field) (o : Nat) (kz : List IntKind), flatFs (flat P n) l o = some kz → ∀ ka : List IntKind, Kin (fun _ _ => True) (ka ++ kz) xs → Kin (fun _ _ => True) (ka ++ kz) ys → ka.length = o →
        ∃ r : Bool, (Op.eqFields (d + n) xs.toArray ys.toArray l).run P w = .ok r w ∧ (r = true ↔ (xs.drop o).take kz.length = (ys.drop o).take kz.length) := by
       intro l
       induction l with
       | nil =>
        intro o kz hl ka _ _ _
        unfold flatFs at hl
        injection hl with hl; subst hl
        exact ⟨true, by simp [Op.eqFields], by simp⟩
       | cons f l ihl =>
        intro o kz hl ka hxa hya ho
        unfold flatFs at hl
        split at hl
        ·cases hl
        ·rename_i kf hff
         split at hl
         ·rename_i hfn
          obtain ⟨kr, hr, rfl⟩ := Option.map_eq_some_iff.1 hl
          have lx : xs.length = o + (kf.length + kr.length) := by rw [hxa.1]; simp; omega
          have ly : ys.length = o + (kf.length + kr.length) := by rw [hya.1]; simp; omega
          obtain ⟨r, h1, h2⟩ := ihl (o + kf.length) kr hr (ka ++ kf) (by rw [List.append_assoc]; exact hxa) (by rw [List.append_assoc]; exact hya) (by simp; omega)
          have kx := hxa.split.2.split.1
          have ky := hya.split.2.split.1
          rw [ho] at kx ky
          obtain ⟨r', h3, h4⟩ := ih hff d w _ _ kx ky
          simp only [Op.eqFields, if_pos hfn.2, Sem.run_bind, hfn.1, flat_part hff xs o (by omega) w, flat_part hff ys o (by omega) w, Result.andThen_ok, h3]
          rw [List.length_append, two_parts (by omega) (by omega)]
          cases r' with
          | true => exact ⟨r, by simpa using h1, by simp [h2, h4.1 rfl]⟩
          | false => exact ⟨false, by simp, by simpa using fun h => absurd (h4.2 h) (by simp)⟩
         ·cases hl
      obtain ⟨r, h1, h2⟩ := key fs.toList 0 ks' hf [] hx hy rfl
      refine ⟨r, h1, ?_⟩
      rwa [List.drop_zero, List.drop_zero, List.take_of_length_le (Nat.le_of_eq hx.1), List.take_of_length_le (Nat.le_of_eq hy.1)] at h2
     ·cases h
   ·cases h
variable {B : Nat} {E : Env} {dst : Option Tmp} {ty : TypeId} {pos : String} {after : Array Edge} {guard : Option (Nat × Bool)}
theorem equal_flat {t : TypeId} {ks : List IntKind} (n : Nat) (hf : flat P n t = some ks) (hn : n ≤ 10000) (hg : isAggT P t = true) {xs ys : List Value} (hx : Kin (fun _ _ => True) ks xs) (hy : Kin (fun _ _ => True) ks ys) (b : Bool) (hb : b = true ↔ xs = ys) (w : World) :
  (Op.equalIn 10000 t (.agg xs.toArray) (.agg ys.toArray)).run P w = .ok b w := by
 obtain ⟨r, hr, hri⟩ := flat_eq (P := P) n hf (10000 - n) w xs ys hx hy
 unfold packT at hr
 rw [hg, if_pos rfl, if_pos rfl, Nat.sub_add_cancel hn] at hr
 have : r = b := by
  rw [← hb] at hri
  cases r <;> cases b <;> simp_all
 rw [← this]; exact hr
theorem ok_eqlT {t t' : TypeId} {ks : List IntKind} {x y : Operand} {xs ys : List Value} (n : Nat) (b : Bool) (hf : flat P n t = some ks) (hn : n ≤ 10000) (hg : isAggT P t = true) (hm : P.eqGuardType P.depth t = false) (hx : E.at x = some (.v (aggV xs))) (hy : E.at y = some (.v (aggV ys)))
  (hkx : Kin (fun _ _ => True) ks xs) (hky : Kin (fun _ _ => True) ks ys) (hb : b = true ↔ xs = ys) : OpOk P B ⟨dst, .binOp .eql t x y t', ty, pos, after, guard⟩ E (.v (.bool b)) := fun ρ w _ _ hρ => by
 have h1 : ρ x = .agg xs.toArray := hρ x (by simp [Op.operands]) _ hx
 have h2 : ρ y = .agg ys.toArray := hρ y (by simp [Op.operands]) _ hy
 have := equal_flat (P := P) n hf hn hg hkx hky b hb w
 exact out_val (w' := w) (by simp [execOp, h1, h2, Sem.run_bind, run_eqGuard_agg, hm, run_eql_struct, this]) ⟨Grow.refl w, rfl⟩
theorem ok_neqT {t t' : TypeId} {ks : List IntKind} {x y : Operand} {xs ys : List Value} (n : Nat) (b : Bool) (hf : flat P n t = some ks) (hn : n ≤ 10000) (hg : isAggT P t = true) (hm : P.eqGuardType P.depth t = false) (hx : E.at x = some (.v (aggV xs))) (hy : E.at y = some (.v (aggV ys)))
  (hkx : Kin (fun _ _ => True) ks xs) (hky : Kin (fun _ _ => True) ks ys) (hb : b = true ↔ xs = ys) : OpOk P B ⟨dst, .binOp .neq t x y t', ty, pos, after, guard⟩ E (.v (.bool (!b))) := fun ρ w _ _ hρ => by
 have h1 : ρ x = .agg xs.toArray := hρ x (by simp [Op.operands]) _ hx
 have h2 : ρ y = .agg ys.toArray := hρ y (by simp [Op.operands]) _ hy
 have := equal_flat (P := P) n hf hn hg hkx hky b hb w
 exact out_val (w' := w) (by simp [execOp, h1, h2, Sem.run_bind, run_eqGuard_agg, hm, run_neq_struct, this]) ⟨Grow.refl w, rfl⟩
end
theorem kin_nil : Kin (fun _ _ => True) [] [] := ⟨rfl, fun i k h => by simp at h⟩
theorem kin_cons {k : IntKind} {n : Int} {ks : List IntKind} {xs : List Value} (h : Kin (fun _ _ => True) ks xs) : Kin (fun _ _ => True) (k :: ks) (.int k n :: xs) :=
 Kin.join (a := [k]) (xs := [.int k n]) ⟨rfl, fun i k' h' => by
  match i, h' with
  | 0, h' => simp at h'; subst h'; exact ⟨n, rfl, trivial⟩
  | i + 1, h' => simp at h'⟩ h
section
variable {H : Type} {enc : TypeId × Value → H} {P : Program} {w : World} {base : Nat} {spare : Nat → Bool} {held : Bool}
theorem trod_flat : ∀ (n : Nat) {t : TypeId} {ks : List IntKind}, flat P n t = some ks → ∀ {fuel : Nat} {cs : List Value} {x : DataW H × List MemPlace}, DataW.trod enc P w base spare held fuel t cs = some x → Kin (fun k m => (Lit.int k m).wf = true) ks cs := by
 intro n
 induction n with
 | zero => intro t ks h; cases h
 | succ n ih =>
  intro t ks h fuel cs x ht
  have hks := flat_cells h
  unfold flat at h
  split at h
  ·cases h
  ·split at h
   ·rename_i k hu
    split at h
    ·injection h with h; subst h
     obtain ⟨a, rfl, _, h3⟩ := DataW.trod_int hu ht
     exact ⟨rfl, fun i k' hk => by
      match i, hk with
      | 0, hk => simp at hk; subst hk; exact ⟨a, rfl, h3⟩
      | i + 1, hk => simp at hk⟩
    ·cases h
   ·rename_i len e hu
    split at h
    ·cases h
    ·rename_i ks' hf
     split at h
     ·injection h with h; subst h
      obtain ⟨xs, m, _, _, hlen, hxl, hel⟩ := DataW.trod_array hu ht
      obtain ⟨hc, hp⟩ := flat_cells hf
      have hl : cs.length = len * ks'.length := by rw [hlen, hks.1, rep_length]
      refine ⟨by rw [hl, rep_length], fun i k hk => ?_⟩
      have hi : i < len * ks'.length := by rw [← rep_length]; exact (List.getElem?_eq_some_iff.1 hk).1
      have hj : i / ks'.length < len := (Nat.div_lt_iff_lt_mul hp).2 hi
      have h1 := hel (i / ks'.length) hj
      rw [List.getElem?_eq_getElem (by omega), hc] at h1
      have h2 := ih hf h1
      have hr : ∀ (m j : Nat), j < m * ks'.length → (List.replicate m ks').flatten[j]? = ks'[j % ks'.length]? := by
       intro m
       induction m with
       | zero => intro j hj; simp at hj
       | succ m ihm =>
        intro j hj
        rw [List.replicate_succ, List.flatten_cons]
        rcases Nat.lt_or_ge j ks'.length with h | h
        ·rw [List.getElem?_append_left h, Nat.mod_eq_of_lt h]
        ·rw [List.getElem?_append_right h, ihm _ (by rw [Nat.succ_mul] at hj; omega), Nat.mod_eq_sub_mod h]
      rw [hr len i hi] at hk
      obtain ⟨a, h3, h4⟩ := h2.2 _ k hk
      refine ⟨a, ?_, h4⟩
      rw [List.getElem?_take, if_pos (Nat.mod_lt _ hp), List.getElem?_drop, Nat.mul_comm, Nat.div_add_mod] at h3
      exact h3
     ·cases h
   ·rename_i fs hu
    split at h
    ·cases h
    ·rename_i ks' hf
     split at h
     ·injection h with h; subst h
      obtain ⟨xs, m, _, _, hlen, hxl, hel⟩ := DataW.trod_struct hu ht
      have key : ∀ (l : List Field) (o j : Nat) (kz : List IntKind), flatFs (flat P n) l o = some kz → fs.toList.drop j = l → o + kz.length = cs.length → Kin (fun k m => (Lit.int k m).wf = true) kz (cs.drop o) := by
       intro l
       induction l with
       | nil =>
        intro o j kz hl _ ho
        unfold flatFs at hl
        injection hl with hl; subst hl
        simp only [List.length_nil, Nat.add_zero] at ho
        exact ⟨by simp [ho], fun i k h => by simp at h⟩
       | cons f l ihl =>
        intro o j kz hl hd ho
        unfold flatFs at hl
        split at hl
        ·cases hl
        ·rename_i kf hff
         split at hl
         ·rename_i hfn
          obtain ⟨kr, hr, rfl⟩ := Option.map_eq_some_iff.1 hl
          simp only [List.length_append] at ho
          have hj : j < fs.size := by
           rcases Nat.lt_or_ge j fs.size with h | h
           ·exact h
           ·rw [List.drop_eq_nil_of_le (by simpa using h)] at hd; cases hd
          have hfj : fs[j]? = some f := by
           have := congrArg (·[0]?) hd
           simp only [List.getElem?_drop, Nat.add_zero, List.getElem?_cons_zero] at this
           simpa using this
          have h1 := hel j f hfj
          rw [List.getElem?_eq_getElem (by omega), (flat_cells hff).1, hfn.1] at h1
          have h2 := ih hff h1
          have h3 := ihl (o + kf.length) (j + 1) kr hr (by
           rw [← List.drop_drop, hd]; rfl) (by omega)
          have : cs.drop o = (cs.drop o).take kf.length ++ cs.drop (o + kf.length) := by
           rw [← List.drop_drop, List.take_append_drop]
          rw [this]
          exact h2.join h3
         ·cases hl
      have := key fs.toList 0 0 ks' hf rfl (by omega)
      simpa using this
     ·cases h
   ·cases h
theorem nat_u8 {n : Int} (h : (Lit.int .u8 n).wf = true) : ∃ a : Nat, n = (a : Int) ∧ a < 256 := ⟨n.toNat, by have := bounds_u8 h; omega, by have := bounds_u8 h; omega⟩
theorem nat_u32 {n : Int} (h : (Lit.int .u32 n).wf = true) : ∃ a : Nat, n = (a : Int) ∧ a < 4294967296 := ⟨n.toNat, by have := bounds_u32 h; omega, by have := bounds_u32 h; omega⟩
theorem nat_u64 {n : Int} (h : (Lit.int .u64 n).wf = true) : ∃ a : Nat, n = (a : Int) ∧ a < 18446744073709551616 := ⟨n.toNat, by have := bounds_u64 h; omega, by have := bounds_u64 h; omega⟩
theorem Kin.bytes : ∀ {m : Nat} {xs : List Value}, Kin (fun k n => (Lit.int k n).wf = true) (List.replicate m .u8) xs → ∃ l : List UInt8, l.length = m ∧ xs = l.map byteV
 | 0, xs, h => ⟨[], rfl, h.nil⟩
 | m + 1, xs, h => by
  rw [List.replicate_succ] at h
  obtain ⟨n, y, rfl, h1, h2⟩ := h.cons
  obtain ⟨l, h3, rfl⟩ := Kin.bytes h2
  exact ⟨UInt8.ofNat n.toNat :: l, by simp [h3], by rw [List.map_cons, ← wf_u8 h1]⟩
end
end
section
variable {κ : Cx}
def ownM (base : Nat) (v : Value) (e : TypeId) (n : Nat) (xs : List Value) : D :=
 .p (fun B w _ => (own base e n xs).OfB B w v) (fun _ _ _ _ g h => D.OfB.keep h g) (fun _ _ _ _ g h => D.OfB.up h g)
def NewV (B : Nat) (E : Env) (g : Nat) : Prop := B ≤ g ∧ (∀ s b' e xs, E.look s = some (blk b' e xs) → b' < g) ∧ ∀ s B' v e n xs, E.look s = some (ownM B' v e n xs) → v.ownBlock ≠ some g
def Step (B : Nat) (E : Env) (v v' : Value) : Prop := v'.ownBlock = v.ownBlock ∨ ∃ g, v'.ownBlock = some g ∧ NewV B E g
end
section
section
variable {P : Program} {n B : Nat} {ops : Array Oper} {E : Env} {ty : TypeId} {pos : String} {after : Array Edge}
def freshV (base : Nat) (L : List Nat) (T : TypeId) (zs : List Value) : D :=
 .p (fun B w x => ∃ b, x = .pointer (some ⟨b, 0, none⟩) ∧ base ≤ b ∧ (∀ b' ∈ L, b' < b) ∧ b < B ∧ w.heap[b]? = some (.cells zs.toArray T (0,0)))
  (fun _ _ _ _ g ⟨b, h1, h2, h3, h4, h5⟩ => ⟨b, h1, h2, h3, h4, (g.block b h4).trans h5⟩) (fun _ _ _ _ g ⟨b, h1, h2, h3, h4, h5⟩ => ⟨b, h1, h2, h3, by omega, h5⟩)
end
end
structure Marks (m : Nat) (w w' : World) : Prop where
 os : w'.os = w.os
 tape : w'.tape = w.tape
 output : w'.output = w.output
 size : w.heap.size ≤ w'.heap.size
 block : ∀ k o, w.heap[k]? = some o → w'.heap[k]? = some o ∨ (m ≤ k ∧ ∃ cs e fr fr', o = .cells cs e fr ∧ w'.heap[k]? = some (.cells cs e fr'))
theorem Marks.cell {m : Nat} {w w' : World} (h : Marks m w w') {a : Addr} {v : Value} (hc : w.cell? a = some v) : w'.cell? a = some v := by
 unfold World.cell? at hc ⊢
 cases hb : w.heap[a.block]? with
 | none => rw [hb] at hc; cases hc
 | some o =>
  rw [hb] at hc
  rcases h.block _ _ hb with h1 | ⟨_, cs, e, fr, fr', rfl, h1⟩
  ·rw [h1]; exact hc
  ·rw [h1]; exact hc
class StbM (d : D) : Prop where
 st : ∀ m w w' B x, Marks m w w' → d.OfB B w x → d.OfB B w' x
instance (x : Value) : StbM (.v x) := ⟨fun _ _ _ _ _ _ h => h⟩
class StbL (ds : List D) : Prop where
 st : ∀ (j : Nat) (d : D), ds[j]? = some d → StbM d
instance : StbL [] := ⟨fun _ _ h => by simp at h⟩
instance (d : D) (ds : List D) [hd : StbM d] [hl : StbL ds] : StbL (d :: ds) := ⟨fun j e h => by
 cases j with
 | zero => simp at h; subst h; exact hd
 | succ j => exact hl.st j e (by simpa using h)⟩
instance (l : List UInt8) : StbL (l.map byteD) := ⟨fun j d h => by
 simp only [List.getElem?_map, Option.map_eq_some_iff] at h
 obtain ⟨b, _, rfl⟩ := h
 exact inferInstanceAs (StbM (.v _))⟩
instance (b : UInt8) : StbM (byteD b) := inferInstanceAs (StbM (.v _))
theorem ListF.mark {ds : List D} [hl : StbL ds] {c B m : Nat} {w w' : World} {x : Value} (k : Marks m w w') : ListF ds c B w x → ListF ds c B w' x :=
 fun ⟨A, vs, h1, h2, h3, h4, h5, h6⟩ => ⟨A, vs, h1, h2, h3, h4, fun j u hu => by
  obtain ⟨ad, g1, g2, g3⟩ := h5 j u hu
  exact ⟨ad, g1, g2, k.cell g3⟩, fun j d u hd hu => (hl.st j d hd).st m w w' B u k (h6 j d u hd hu)⟩
instance (ds : List D) (c : Nat) [StbL ds] : StbM (list ds c) := ⟨fun _ _ _ _ _ k h => ListF.mark k h⟩
instance (ds : List D) [StbL ds] : StbM (lst ds) := ⟨fun _ _ _ _ _ k ⟨c, h⟩ => ⟨c, ListF.mark k h⟩⟩
instance (l : List UInt8) (c : Nat) : StbM (bytes l c) := inferInstanceAs (StbM (list _ c))
instance (l : List UInt8) : StbM (byt l) := inferInstanceAs (StbM (lst _))
def newL (m : Nat) (ds : List D) (c : Nat) : D := .p (fun B w x => (∃ (a : Addr) (len : Nat), x = .slice (some a) len c ∧ m ≤ a.block ∧ a.block < B) ∧ ListF ds c B w x) (fun _ _ _ _ g ⟨h1, h2⟩ => ⟨h1, h2.keep g⟩) (fun _ _ _ _ g ⟨⟨a, l, h0, h1, h2⟩, h3⟩ => ⟨⟨a, l, h0, h1, by omega⟩, h3.up g⟩)
instance (m : Nat) (ds : List D) (c : Nat) [StbL ds] : StbM (newL m ds c) := ⟨fun _ _ _ _ _ k ⟨h1, h2⟩ => ⟨h1, ListF.mark k h2⟩⟩
def newT (B : Nat) (e : TypeId) (l : List UInt8) (c : Nat) : D := .p (fun B' w x => (∃ (a : Addr) (len : Nat) (cs : Array Value) (fr : Nat × Nat), x = .slice (some a) len c ∧ B ≤ a.block ∧ a.block < B' ∧ w.heap[a.block]? = some (.cells cs e fr)) ∧ ListF (l.map byteD) c B' w x)
 (fun _ _ _ _ g ⟨⟨a, len, cs, fr, h0, h1, h2, h3⟩, h4⟩ => ⟨⟨a, len, cs, fr, h0, h1, h2, (g.block _ h2).trans h3⟩, h4.keep g⟩)
 (fun _ _ _ _ g ⟨⟨a, len, cs, fr, h0, h1, h2, h3⟩, h4⟩ => ⟨⟨a, len, cs, fr, h0, h1, by omega, h3⟩, h4.up g⟩)
instance (B : Nat) (e : TypeId) (l : List UInt8) (c : Nat) : StbM (newT B e l c) := ⟨fun m w w' B' x k ⟨⟨a, len, cs, fr, h0, h1, h2, h3⟩, h4⟩ => ⟨by
 rcases k.block _ _ h3 with h | ⟨_, cs', e', fr', fr'', h5, h⟩
 ·exact ⟨a, len, cs, fr, h0, h1, h2, h⟩
 ·injection h5 with h6 h7 h8
  subst h6; subst h7
  exact ⟨a, len, _, _, h0, h1, h2, h⟩, ListF.mark k h4⟩⟩
section
variable {κ : Cx}
theorem St.push {n B : Nat} {E : Env} {a : Act} {w : World} {t : Nat} {d : D} (h : St κ n B E a w) (hd : d.Of w (a.tmps.getD t undef)) : St κ n B ((t, d) :: E) a w :=
 ⟨h.base, h.defers, h.size, fun s e he => by
  by_cases hts : t = s
  ·subst hts
   rw [look_here] at he; injection he with he; subst he; exact hd
  ·rw [look_past _ _ hts] at he
   exact h.of s e he⟩
def varD (b : Nat) (T : TypeId) (d : D) : D :=
 .p (fun B w _ => b < B ∧ ∃ u : Value, w.heap[b]? = some (.cells #[u] T (0,0)) ∧ d.OfB B w u)
  (fun _ _ _ _ g ⟨h1, u, h2, h3⟩ => ⟨h1, u, (g.block b h1).trans h2, h3.keep g⟩) (fun _ _ _ _ g ⟨h1, u, h2, h3⟩ => ⟨by omega, u, h2, h3.up g⟩)
theorem varD_eq {b : Nat} {T : TypeId} {d d' : D} (h : d = d') : varD b T d = varD b T d' := by rw [h]
theorem Firm.varD {l b : Nat} {e : TypeId} {d : D} (hd : Firm l d) : Firm l (Go.Proofs.YtmkpekmhhbcifaaGreatDoor.varD b e d) := fun w o o' _ hl ho ⟨h1, u, h2, h3⟩ => by
 have hne : b ≠ l := fun hb => by subst hb; rw [h2] at hl; injection hl with hl; subst hl; cases ho
 exact ⟨by simpa using h1, u, (World.putObj_heap_other hne).trans h2, hd w o o' u hl ho h3⟩
section
variable {P : Program} {n B : Nat} {ops : Array Oper} {E : Env} {dst : Option Tmp} {ty : TypeId} {pos : String} {after : Array Edge} {guard : Option (Nat × Bool)}
theorem eff_storeD {t : TypeId} {z : Value} {nb : Nat} {p x : Operand} {b s : Nat} {e : TypeId} {z₀ : Value} {d : D} {E' : Env} (hinfo : InfoIs P t z nb) (hp : E.at p = some (.v (.pointer (some ⟨b, 0, none⟩)))) (hx : E.at x = some d) (hu : ∀ w u, d.Of w u → u.oneCell' = true)
  (hb : B ≤ b) (hblk : E.look s = some (blk b e [z₀])) (hd : Surv B e b d) (hl : LeftS B e b E' E) :
  Eff P n B ops ⟨none, .store t p x, ty, pos, after, none⟩ E ((s, varD b e d) :: E') := by
 obtain ⟨i, hi, _, hs, _⟩ := hinfo.get
 intro κ a w K Q h hK
 have hp' : a.eval p = _ := h.at_ p _ hp
 have hx' : d.Of w (a.eval x) := h.at_ x _ hx
 obtain ⟨u, hu'⟩ : ∃ u, a.eval x = u := ⟨_, rfl⟩
 rw [hu'] at hx'
 have hu := hu w u hx'
 obtain ⟨hlt, hh⟩ := h.of s _ hblk
 have hcell : w.cell? ⟨b, 0, none⟩ = some z₀ := by simp [World.cell?, hh]
 have hfr : w.frozen? ⟨b, 0, none⟩ = false := by simp [World.frozen?, hh]
 have hcu : u.cells = #[u] := by cases u <;> simp_all [Value.oneCell', Value.cells]
 have hadd : (⟨b, 0, none⟩ : Addr).add 0 = ⟨b, 0, none⟩ := rfl
 have hset := setCell_eq_setRow w b 0 [z₀].toArray e (0,0) u hh
 have hrun : (execOp a.eval ⟨none, .store t p x, ty, pos, after, none⟩).run P w = .ok .skip (w.setRow b ([z₀].toArray.setIfInBounds 0 u)) := by
  rw [← hset]
  simp [execOp, hp', hu', Instr.storeAt, Instr.sureAddr, storeVar, hcu, sizeOf, typeInfo, hi, hs, storeCells, hadd, run_store P w ⟨b, 0, none⟩ u .plain hu, hcell, hfr]
 rw [if_pos (by simp [Region.wanted])]
 refine opR (by nofun) ?_
 unfold Oper.wp
 rw [hrun, Oper.upon_skip]
 have hwr := Wrote.setRow hb hh ([z₀].toArray.setIfInBounds 0 u)
 have hst := hl.st h hwr
 refine hK _ _ (hwr.below h.base) (hst.push ?_);exact ⟨by simpa using hlt, u, by rw [setRow_heap w b _ _ e _ hh]; simp, hd _ _ _ hwr hx'⟩
theorem ok_loadD {t : TypeId} {td : TypeDesc} {x : Operand} {b s : Nat} {e : TypeId} {d : D} (hsl : vbase ≤ s) (ht : P.underlying t = some td) (hp : plainTD td = true) (hx : E.at x = some (.v (.pointer (some ⟨b, 0, none⟩)))) (hblk : E.look s = some (varD b e d)) :
  OpOk P B ⟨dst, .load t x, ty, pos, after, guard⟩ E d := fun ρ w _ hv hρ => by
 have h1 : ρ x = _ := hρ x (by simp [Op.operands]) _ hx
 obtain ⟨hlt, u, hh, hd⟩ := hv s _ hsl hblk
 have hc : w.cell? ⟨b, 0, none⟩ = some u := by simp [World.cell?, hh]
 exact out_val (w' := w) (by simp [execOp, h1, run_load_plain ht hp hc]) ⟨Grow.refl w, hd⟩
end
def VArgs (E : Env) : List Value → List Operand → Prop
 | [], [] => True
 | u :: us, x :: xs => E.at x = some (.v u) ∧ VArgs E us xs
 | _, _ => False
theorem VArgs.map {E : Env} {ρ : Operand → Value} : ∀ {us : List Value} {xs : List Operand}, VArgs E us xs → (∀ x ∈ xs, ∀ v, E.at x = some (.v v) → ρ x = v) → xs.map ρ = us
 | [], [], _, _ => rfl
 | [], _ :: _, h, _ => h.elim
 | _ :: _, [], h, _ => h.elim
 | u :: us, x :: xs, ⟨h1, h2⟩, hρ => by rw [List.map_cons, hρ x List.mem_cons_self u h1, VArgs.map h2 fun y hy v hv => hρ y (List.mem_cons_of_mem _ hy) v hv]
section
variable {P : Program} {n B : Nat} {w₀ : World} {ops : Array Oper} {E : Env} {dst : Option Tmp} {ty : TypeId} {pos : String} {after : Array Edge} {guard : Option (Nat × Bool)}
theorem ok_makeFuncN {f : FuncId} {xs : Array Operand} (us : List Value) (h : VArgs E us xs.toList) : OpOk P B ⟨dst, .makeFunc (.func f) #[] xs, ty, pos, after, guard⟩ E (.v (.func (.func f) #[] us.toArray)) := fun ρ w _ _ hρ => by
 have hmem : ∀ x ∈ xs.toList, x ∈ (Op.makeFunc (.func f) #[] xs).operands := fun x hx => by
  have hx' : x ∈ xs := by simpa using hx
  simp [Op.operands, hx']
 have h1 := h.map (ρ := ρ) fun x hx v hv => hρ x (hmem x hx) _ hv
 have h2 : xs.map ρ = us.toArray := by
  apply Array.ext'
  rw [Array.toList_map]; exact h1
 exact out_val (w' := w) (by simp [execOp, h2, Instr.makeFunc]) ⟨Grow.refl w, rfl⟩
abbrev ptr (b : Nat) : Value := .pointer (some ⟨b, 0, none⟩)
variable {f : Nat} {T₁ T₂ T₃ : TypeId} {d₁ d₂ d₃ : D}
theorem A.openFresh {c : Code} {Q : Exit → Act → World → Prop} {t k B' : Nat} {L : List Nat} {T : TypeId} {zs : List Value} (ht : E.look t = some (freshV B' L T zs)) (h : ∀ b, B' ≤ b → A κ P w₀ n c ((t, .v (ptr b)) :: (k, blk b T zs) :: E) Q) : A κ P w₀ n c E Q := fun a w g hs => by
 obtain ⟨b, h1, h2, _, h4, h5⟩ := hs.of t _ ht
 exact h b h2 a w g ((hs.push (t := k) (d := blk b T zs) ⟨h4, h5⟩).push (d := .v _) h1)
theorem Firm.freshV {l base : Nat} {L : List Nat} {T : TypeId} {zs : List Value} : Firm l (Go.Proofs.YtmkpekmhhbcifaaGreatDoor.freshV base L T zs) := fun w o o' _ hl ho ⟨b, h1, h2, h3, h4, h5⟩ => by
 have hne : b ≠ l := fun hb => by subst hb; rw [h5] at hl; injection hl with hl; subst hl; cases ho
 exact ⟨b, h1, h2, h3, by simpa using h4, (World.putObj_heap_other hne).trans h5⟩
end
end
section
variable {κ : Cx}
def cutW (w : World) (g : Nat) : World := { w with heap := w.heap.extract 0 g }
theorem cutW_size {w : World} {g : Nat} (h : g ≤ w.heap.size) : (cutW w g).heap.size = g := by simp [cutW]; omega
theorem cutW_below {w : World} {g : Nat} (h : g ≤ w.heap.size) : Below (cutW w g).heap.size (cutW w g) w :=
 ⟨rfl, rfl, rfl, by rw [cutW_size h]; exact h, fun k hk => by
  rw [cutW_size h] at hk
  simp only [cutW, Array.getElem?_extract]
  rw [if_pos (by omega), Nat.zero_add]⟩
end
section
variable {κ : Cx}
end
section
variable {κ : Cx}
theorem SizeIs.get {P : Program} {T : TypeId} {m : Nat} (h : SizeIs P T m) : ∃ i, P.info? T = some i ∧ i.size = m := by
 unfold SizeIs at h
 cases hi : P.info? T with
 | none => rw [hi] at h; cases h
 | some i => rw [hi] at h; exact ⟨i, rfl, by simpa using h⟩
section
variable {P : Program} {n B : Nat} {ops : Array Oper} {E : Env} {dst : Option Tmp} {ty : TypeId} {pos : String} {after : Array Edge} {guard : Option (Nat × Bool)}
theorem ok_indexN {t e : TypeId} {len sz : Nat} {x i : Operand} {b o : Nat} {k : IntKind} {j : Int} (m : Nat) (ht : P.underlying t = some (.array len e)) (hs : SizeIs P e sz) (hx : E.at x = some (.v (.pointer (some ⟨b, o, none⟩)))) (hi : E.at i = some (.v (.int k j)))
  (h0 : j = (m : Int)) (hn : m < len) : OpOk P B ⟨dst, .indexAddr t x i, ty, pos, after, guard⟩ E (.v (.pointer (some ⟨b, o + m * sz, none⟩))) := fun ρ w _ _ hρ => by
 have h1 : ρ x = _ := hρ x (by simp [Op.operands]) _ hx
 have hi' : ρ i = .int k j := hρ i (by simp [Op.operands]) _ hi
 obtain ⟨info, hinfo, hsize⟩ := hs.get
 refine out_val (w' := w) ?_ ⟨Grow.refl w, rfl⟩
 subst h0
 have hadd : (⟨b, o, none⟩ : Addr).add (m * sz) = ⟨b, o + m * sz, none⟩ := add_lit0 _ _ _
 simp [execOp, h1, hi', Instr.indexAt, Instr.sureAddr, asIntOf, run_underlying ht, sizeOf, typeInfo, hinfo, hsize, hadd]
 intro hle
 omega
theorem ok_callVM {f : FuncId} {M : Env} {x : Operand} {us : List Value} {args : Array Operand} {argTypes : Array TypeId} {ds : List D} {d : D} (hf : FnM P f M (ds ++ us.map D.v) d) (hM : Sub M E) (hMb : ∀ p ∈ M, vbase ≤ p.1)
  (hx : E.at x = some (.v (.func (.func f) #[] us.toArray))) (ha : Args E ds args.toList) :
  OpOk P B ⟨dst, .call { callee := .value x, args := args, argTypes := argTypes }, ty, pos, after, guard⟩ E d := fun ρ w _ hv hρ => by
 obtain ⟨fn, h1, h2, h3⟩ := hf.body
 have hfun : ρ x = .func (.func f) #[] us.toArray := hρ x (by simp [Op.operands, Call.operands]) _ hx
 have hrun : (execOp ρ ⟨dst, .call { callee := .value x, args := args, argTypes := argTypes }, ty, pos, after, guard⟩).run P w = .ok (.enter f (args.map ρ ++ us.toArray)) w := by
  have h2' : ¬ fn.name = "runtime.NumGoroutine" := by simpa using h2
  have h3' : ¬ fn.body = none := by intro h; rw [h] at h3; cases h3
  simp [execOp, resolve, Deferred.ofValue, hfun, invoke, callFunc, h1, h2', h3']
 unfold Out
 rw [hrun]
 have := hf.calls (args.toList.map ρ ++ us) w (fun p hp => hv p.1 p.2 (hMb p hp) (hM p hp)) (by rw [List.length_append, List.length_append, List.length_map, List.length_map, ha.length]) fun j e u he hu => by
  rcases Nat.lt_or_ge j ds.length with hj | hj
  ·rw [List.getElem?_append_left hj] at he
   rw [List.getElem?_append_left (by rw [List.length_map, ← ha.length]; exact hj), List.getElem?_map] at hu
   cases hx : args.toList[j]? with
   | none => rw [hx] at hu; cases hu
   | some x =>
    rw [hx] at hu; injection hu with hu; subst hu
    obtain ⟨e', h4, h5⟩ := ha.nth he hx
    exact h5.of (hρ x (by simp [Op.operands, Call.operands]; exact .inr (by simpa using List.mem_of_getElem? hx)) _ h4)
  ·rw [List.getElem?_append_right hj, List.getElem?_map] at he
   rw [List.getElem?_append_right (by rw [List.length_map, ← ha.length]; exact hj), List.length_map, ← ha.length] at hu
   rw [hu] at he
   injection he with he; subst he; rfl
 have harr : (args.toList.map ρ ++ us).toArray = args.map ρ ++ us.toArray := by apply Array.ext'; simp
 rw [harr] at this
 exact this.mono fun e w' ⟨x, he, g, hx⟩ => ⟨x, he, g, hx⟩
end
end
section
variable {κ : Cx}
section
variable {P : Program} {n : Nat} {w₀ : World} {E : Env}
def closR (base f : Nat) (e₁ : TypeId) (xs : List Value) (e₂ : TypeId) (ys : List Value) : D :=
 .p (fun B w x => ∃ p q, base ≤ p ∧ base ≤ q ∧ p ≠ q ∧ p < B ∧ q < B ∧ x = .func (.func f) #[] #[ptr p, ptr q] ∧ w.heap[p]? = some (.cells xs.toArray e₁ (0,0)) ∧ w.heap[q]? = some (.cells ys.toArray e₂ (0,0)))
  (fun _ _ _ _ g ⟨p, q, h1, h2, h3, h4, h5, h6, h7, h8⟩ => ⟨p, q, h1, h2, h3, h4, h5, h6, (g.block p h4).trans h7, (g.block q h5).trans h8⟩)
  (fun _ _ _ _ g ⟨p, q, h1, h2, h3, h4, h5, h6⟩ => ⟨p, q, h1, h2, h3, by omega, by omega, h6⟩)
theorem closR_mono {f : Nat} {e₁ e₂ : TypeId} {xs ys : List Value} (B B' : Nat) (h : B ≤ B') : Le (closR B' f e₁ xs e₂ ys) (closR B f e₁ xs e₂ ys) := fun _ _ _ ⟨p, q, h1, h2, h3⟩ => ⟨p, q, by omega, by omega, h3⟩
theorem End.closR {fn : Func} {r k₁ k₂ p q f : Nat} {e₁ e₂ : TypeId} {xs ys : List Value} {x : Exit} (hx : x = .ret ∨ x = .normal) (hr : fn.results = #[.tmp r]) (hp : w₀.heap.size ≤ p) (hq : w₀.heap.size ≤ q) (hpq : p ≠ q) (ht : E.look r = some (.v (.func (.func f) #[] #[ptr p, ptr q])))
  (h1 : E.look k₁ = some (blk p e₁ xs)) (h2 : E.look k₂ = some (blk q e₂ ys)) : End Cx.top w₀ n E (BP P fn (PostOf w₀ (Go.Proofs.YtmkpekmhhbcifaaGreatDoor.closR w₀.heap.size f e₁ xs e₂ ys)) x) := fun a w g hs => by
 obtain ⟨h3, h4⟩ := hs.of k₁ _ h1
 obtain ⟨h5, h6⟩ := hs.of k₂ _ h2
 have key : ∃ v, (results fn a.tmps).run P w = .ok v w ∧ PostOf w₀ (Go.Proofs.YtmkpekmhhbcifaaGreatDoor.closR w₀.heap.size f e₁ xs e₂ ys) (.returned v) w :=
  ⟨a.tmps.getD r undef, by simp [results, hr], _, rfl, g, p, q, hp, hq, hpq, h3, h5, hs.of r _ ht, h4, h6⟩
 rcases hx with rfl | rfl
 ·exact BP.ret hs.defers key
 ·exact BP.ret hs.defers key
theorem A.openClosR {c : Code} {Q : Exit → Act → World → Prop} {t k₁ k₂ f : Nat} {e₁ e₂ : TypeId} {xs ys : List Value} {B : Nat} (ht : E.look t = some (closR B f e₁ xs e₂ ys))
  (h : ∀ p q, B ≤ p → B ≤ q → p ≠ q → A κ P w₀ n c ((t, .v (.func (.func f) #[] #[ptr p, ptr q])) :: (k₁, blk p e₁ xs) :: (k₂, blk q e₂ ys) :: E) Q) : A κ P w₀ n c E Q := fun a w g hs => by
 obtain ⟨p, q, h1, h2, h3, h4, h5, h6, h7, h8⟩ := hs.of t _ ht
 exact h p q h1 h2 h3 a w g (((hs.push (t := k₂) (d := blk q e₂ ys) ⟨h5, h8⟩).push (t := k₁) (d := blk p e₁ xs) ⟨h4, h7⟩).push (d := .v _) h6)
def valM (v : Value) (d : D) : D := .p (fun B w _ => d.OfB B w v) (fun _ _ _ _ g h => h.keep g) (fun _ _ _ _ g h => h.up g)
end
section
variable {P : Program} {B : Nat} {E : Env} {dst : Option Tmp} {ty : TypeId} {pos : String} {after : Array Edge} {guard : Option (Nat × Bool)}
theorem OpOk.fact {o : Oper} {v : Value} {d : D} {s b : Nat} {e : TypeId} {xs : List Value} (h : OpOk P B o E (.v v)) (hs : vbase ≤ s) (hk : E.look s = some (blk b e xs)) (hd : ∀ B w, b < B → w.heap[b]? = some (.cells xs.toArray e (0,0)) → d.OfB B w v) : OpOk P B o E d := fun ρ w hB hv hρ => by
 refine (h ρ w hB hv hρ).mono fun x w' hx => ⟨hx.1, ?_⟩
 obtain ⟨h1, h2⟩ := (hv s _ hs hk : (blk b e xs).Of w undef)
 have h3 : (blk b e xs).Of w' undef := D.Of.grow (d := blk b e xs) ⟨h1, h2⟩ hx.1
 obtain ⟨h4, h5⟩ := h3
 rw [show x = v from hx.2]
 exact hd _ _ h4 h5
theorem slice_byt {b o n c : Nat} {e : TypeId} {xs : List Value} (l : List UInt8) (hn : n = l.length) (hc : n ≤ c) (hm : c ≤ maxLen) (hl : (xs.drop o).take n = l.map byteV) (B : Nat) (w : World) (hb : b < B) (hh : w.heap[b]? = some (.cells xs.toArray e (0,0))) : (byt l).OfB B w (.slice (some ⟨b, o, none⟩) n c) := by
 subst hn
 refine ⟨c, bytes_mk hc hm fun j u hu => ?_⟩
 rw [← hl, List.getElem?_take] at hu
 split at hu
 ·rw [List.getElem?_drop] at hu
  refine ⟨_, rfl, hb, ?_⟩
  rw [add_lit0]
  simp [World.cell?, hh, hu]
 ·cases hu
theorem ok_appendFull {t e : TypeId} {z : Value} {nb : Nat} {r x : Operand} {f g : D} {l m : List UInt8} (ht : P.underlying t = some (.slice e)) (hinfo : InfoIs P e z nb) (hnb : nb ≤ 64) (hz1 : z.cells.size = 1)
  (hr : E.at r = some g) (hg : Le g (bytes l l.length)) (hx : E.at x = some f) (hf : Le f (byt m)) (hl : 0 < l.length) (hpos : 0 < m.length) (hk : l.length + m.length ≤ 1099511627776) :
  OpOk P B ⟨dst, .call { callee := .builtin .append, args := #[r, x], argTypes := #[t, t] }, ty, pos, after, guard⟩ E (own B e (l.length + m.length) ((l ++ m).map byteV)) := fun ρ w hB hv hρ => by
 obtain ⟨i, hi, hz, hs, hby⟩ := hinfo.get
 obtain ⟨A1, hre, _, hlm, hrow1⟩ := bytes_open (l := l) (hg.of (hρ r (by simp [Op.operands, Call.operands]) _ hr))
 obtain ⟨c, hb⟩ := hf.of (hρ x (by simp [Op.operands, Call.operands]) _ hx)
 obtain ⟨A2, hxe, hle, hcm, hrow⟩ := bytes_open (l := m) hb
 have h1 : ∃ a1, A1 = some a1 := by
  cases l with
  | nil => simp at hl
  | cons b l => obtain ⟨ad, h, _⟩ := hrow1 0 (byteV b) rfl; exact ⟨ad, h⟩
 have h2 : ∃ a2, A2 = some a2 := by
  cases m with
  | nil => simp at hpos
  | cons b l => obtain ⟨ad, h, _⟩ := hrow 0 (byteV b) rfl; exact ⟨ad, h⟩
 obtain ⟨a1, rfl⟩ := h1
 obtain ⟨a2, rfl⟩ := h2
 have hbb : (l.length + m.length) * i.bytes ≤ (l.length + m.length) * 64 := Nat.mul_le_mul_left _ (by omega)
 obtain ⟨v', w', h2, h3, h4⟩ := run_append_arg_grows (P := P) w t ty e i z 1 i.bytes ht hi hz hs rfl hz1 (by omega) a1 l.length l.length (l.map byteV) (by simp) hrow1.cell a2 m.length c (m.map byteV) (by simp) hrow.cell (by omega) (by simp only [maxLen]; omega) (by omega)
 refine out_val (x := v') (w' := w') (by simp [execOp, resolve, invoke, builtin, hre, hxe, h2]) ⟨(Below.refl w.heap.size w).grown h4 (Nat.le_refl _) (fun g hg => by cases hg), ?_⟩
 rw [List.map_append]
 refine ⟨⟨h3.1, h3.2.imp id ?_⟩, fun g hg => ?_⟩
 ·rintro ⟨g, cap, cur, h5, h6, h7⟩; exact ⟨g, cap, cur, h5, by omega, h7⟩
 ·rcases h3.2 with ⟨hv', _⟩ | ⟨g', cap, cur, hv', _, hh', _⟩
  ·rw [hv'] at hg; simp [Value.ownBlock] at hg
  ·rw [hv'] at hg; simp [Value.ownBlock] at hg; subst hg
   rcases Nat.lt_or_ge g' w'.heap.size with h | h
   ·exact h
   ·rw [Array.getElem?_eq_none h] at hh'; cases hh'
end
end

section
section
variable {P : Program} {n B : Nat} {ops : Array Oper} {C : Env → Prop} {κ : Cx} {Q : Exit → Act → World → Prop}
def AnyT (P : Program) (n B : Nat) (ops : Array Oper) (C : Env → Prop) : Nat → Array Bool → Env → Prop
 | 0, listed, E => Region.ready .any ops listed = [] ∧ C E
 | fuel + 1, listed, E => (Region.ready .any ops listed = [] ∧ C E) ∨ (Region.ready .any ops listed ≠ [] ∧ ∀ i ∈ Region.ready .any ops listed, ∃ o, ops[i]? = some o ∧ ∃ (ι : Type) (G : ι → Prop) (E₂ : ι → Env), EffG P n B ops o E G E₂ ∧ ∀ j, G j → AnyT P n B ops C fuel (listed.setIfInBounds i true) (E₂ j))
def NextT (P : Program) (n B : Nat) (ops : Array Oper) (C : Env → Prop) (fuel : Nat) (listed : Array Bool) (E : Env) : List Nat → Prop
 | [] => True
 | i :: r => (∃ o, ops[i]? = some o ∧ ∃ (ι : Type) (G : ι → Prop) (E₂ : ι → Env), EffG P n B ops o E G E₂ ∧ ∀ j, G j → AnyT P n B ops C fuel (listed.setIfInBounds i true) (E₂ j)) ∧ NextT P n B ops C fuel listed E r
theorem NextT.all {fuel : Nat} {listed : Array Bool} {E : Env} : ∀ {is : List Nat}, NextT P n B ops C fuel listed E is → ∀ i ∈ is, ∃ o, ops[i]? = some o ∧ ∃ (ι : Type) (G : ι → Prop) (E₂ : ι → Env), EffG P n B ops o E G E₂ ∧ ∀ j, G j → AnyT P n B ops C fuel (listed.setIfInBounds i true) (E₂ j)
 | [], _, i, hi => by cases hi
 | k :: r, h, i, hi => by
  rcases List.mem_cons.1 hi with rfl | hi
  ·exact h.1
  ·exact NextT.all h.2 i hi
theorem AnyT.last {fuel : Nat} {listed : Array Bool} {E : Env} (hr : Region.ready .any ops listed = []) (hC : C E) : AnyT P n B ops C fuel listed E := by
 cases fuel with
 | zero => exact ⟨hr, hC⟩
 | succ fuel => exact .inl ⟨hr, hC⟩
theorem AnyT.step {fuel : Nat} {listed : Array Bool} {E : Env} (i : Nat) (is : List Nat) (hr : Region.ready .any ops listed = i :: is) (h : NextT P n B ops C fuel listed E (i :: is)) : AnyT P n B ops C (fuel + 1) listed E :=
 .inr ⟨by rw [hr]; simp, by rw [hr]; exact h.all⟩
theorem OpOk.asV {o : Oper} {E : Env} (x : Value) {y : Value} (h : y = x) (hok : OpOk P B o E (.v y)) : OpOk P B o E (.v x) := h ▸ hok
theorem NextT.pure {fuel : Nat} {listed : Array Bool} {E : Env} {i t : Nat} {d : D} {o : Oper} {r : List Nat} (hf : fits n ops = true) (ho : ops[i]? = some o) (ht : o.dst = some t) (hg : o.guard = none) (hok : OpOk P B o E d) (h : AnyT P n B ops C fuel (listed.setIfInBounds i true) ((t, d) :: E)) (hr : NextT P n B ops C fuel listed E r) :
  NextT P n B ops C fuel listed E (i :: r) := by
 refine ⟨⟨o, ho, Unit, fun _ => True, fun _ => (t, d) :: E, fun κ a w K Q hs hK => ?_, fun _ _ => h⟩, hr⟩
 have hfo := fits_mem hf (o := o) (by simpa using Array.mem_of_getElem? ho)
 exact good_wp hs.base (hs.virt (fits_base hf)) ht (.inl ⟨by simp [GuardIs, hg], hok⟩) (fun s e _ he => hs.of s e he) (fun s hs' => by rw [hs.size]; exact hfo.1 s hs') fun x w' g hx => hK () _ _ trivial (Below.mono g hs.base) ((hs.grow g).put (hfo.2 t ht) hx)
theorem NextT.eff {fuel : Nat} {listed : Array Bool} {E E' : Env} {i : Nat} {o : Oper} {r : List Nat} (ho : ops[i]? = some o) (he : Eff P n B ops o E E') (h : AnyT P n B ops C fuel (listed.setIfInBounds i true) E') (hr : NextT P n B ops C fuel listed E r) :
  NextT P n B ops C fuel listed E (i :: r) := ⟨⟨o, ho, Unit, fun _ => True, fun _ => E', he.g, fun _ _ => h⟩, hr⟩
theorem wp_anyE : ∀ {fuel : Nat} {listed : Array Bool} {E : Env} {a : Act} {w : World}, AnyT P n B ops C fuel listed E → St κ n B E a w → (∀ E' a' w', C E' → Below B w w' → St κ n B E' a' w' → Q .normal a' w') → wpAnyIn (FR κ.rd) 0 P .any ops Q fuel listed a w
 | 0, _, _, _, w, ⟨hr, hC⟩, hs, hQ => ⟨hr, hQ _ _ _ hC (Below.refl B w) hs⟩
 | fuel + 1, _, _, _, w, .inl ⟨hr, hC⟩, hs, hQ => ⟨fun _ => hQ _ _ _ hC (Below.refl B w) hs, fun i hi => by rw [hr] at hi; cases hi⟩
 | fuel + 1, _, _, _, w, .inr ⟨hne, h⟩, hs, hQ => ⟨fun hr => absurd hr hne, fun i hi => by
  obtain ⟨o, ho, ι, G, E₂, he, hn⟩ := h i hi
  exact wpOpR_step ho fun K hK => he κ _ _ K Q hs fun j a' w' hj g' h' => hK _ _ (wp_anyE (hn j hj) h' fun E' a3 w3 hC g3 h3 => hQ E' a3 w3 hC (g'.trans g3) h3)⟩
end
end
section
variable {κ : Cx}
section
variable {P : Program} {B : Nat} {E : Env} {o : Oper}
theorem OpOk.valP {v : Value} {f : D} {k : Nat} (h : OpOk P B o E (.v v)) (hk : vbase ≤ k) (hl : E.look k = some (valM v f)) : OpOk P B o E f := fun ρ w hB hv hρ => by
 refine (h ρ w hB hv hρ).mono fun x w' hx => ⟨hx.1, ?_⟩
 have h2 : (valM v f).Of w' undef := D.Of.grow (hv k _ hk hl) hx.1
 rw [show x = v from hx.2]
 exact h2
variable {dst : Option Tmp} {ty : TypeId} {pos : String} {after : Array Edge} {guard : Option (Nat × Bool)}
theorem ok_extractV {x : Operand} {i : Nat} {xs : List Value} {u : Value} (hx : E.at x = some (.v (.tuple xs.toArray))) (hi : xs[i]? = some u) : OpOk P B ⟨dst, .extract x i, ty, pos, after, guard⟩ E (.v u) := fun ρ w _ _ hρ => by
 have h1 : ρ x = .tuple xs.toArray := hρ x (by simp [Op.operands]) _ hx
 exact out_val (x := u) (w' := w) (by simp [execOp, h1, Instr.extract, hi]) ⟨Grow.refl w, rfl⟩
end
def newD (base : Nat) (e : TypeId) (val : Nat → Value) (xs : List Value) : D :=
 .p (fun B w x => ∃ b, x = val b ∧ base ≤ b ∧ b < B ∧ w.heap[b]? = some (.cells xs.toArray e (0,0)))
  (fun _ _ _ _ g ⟨b, h1, h2, h3, h4⟩ => ⟨b, h1, h2, h3, (g.block b h3).trans h4⟩) (fun _ _ _ _ g ⟨b, h1, h2, h3, h4⟩ => ⟨b, h1, h2, by omega, h4⟩)
theorem newD_mono {e : TypeId} {val : Nat → Value} {xs : List Value} (B B' : Nat) (h : B ≤ B') : Le (newD B' e val xs) (newD B e val xs) := fun _ _ _ ⟨b, h1, h2, h3, h4⟩ => ⟨b, h1, by omega, h3, h4⟩
theorem fresh_newD {B : Nat} {e : TypeId} {xs : List Value} {n : Nat} : Le (fresh B e xs n) (newD B e (fun b => .slice (some ⟨b, 0, none⟩) n xs.length) xs) := fun _ _ _ ⟨b, h1, h2, h3, h4⟩ => ⟨b, h1, h2, h3, h4⟩
theorem eff_name {P : Program} {n B : Nat} {ops : Array Oper} {E : Env} {o : Oper} {d k : Nat} {e : TypeId} {val : Nat → Value} {xs : List Value} (ht : o.dst = some d) (hg : o.guard = none) (hok : ∀ B', OpOk P B' o E (newD B' e val xs)) (hdn : d < n) (hnv : n ≤ vbase) :
  EffG P n B ops o E (NewB B E) (fun b => (d, .v (val b)) :: (k, blk b e xs) :: E) := by
 intro κ a w K Q h hK
 rw [if_pos (by simp [Region.wanted, hg])]
 refine wp_of_out ht ((hok w.heap.size a.eval w (Nat.le_refl _) (h.virt hnv) fun x _ u hu => h.at_ x _ hu).mono ?_)
 rintro x w' ⟨hgr, b, rfl, hb, hlt, hh⟩
 refine hK b _ _ ⟨Nat.le_trans h.base hb, fun s b' e ys hs => Nat.lt_of_lt_of_le (h.of s _ hs).1 hb⟩ (Below.mono hgr h.base) (St.put ?_ hdn rfl)
 exact (h.grow hgr).push (t := k) (d := blk b e xs) ⟨hlt, hh⟩
theorem eff_nameF {P : Program} {n B : Nat} {ops : Array Oper} {E : Env} {o : Oper} {d k m : Nat} {e : TypeId} {xs : List Value} {c : Nat} (hc : xs.length = c) (ht : o.dst = some d) (hg : o.guard = none) (hok : ∀ B', OpOk P B' o E (fresh B' e xs m)) (hdn : d < n) (hnv : n ≤ vbase) :
  EffG P n B ops o E (NewB B E) (fun b => (d, .v (.slice (some ⟨b, 0, none⟩) m c)) :: (k, blk b e xs) :: E) := hc ▸ eff_name ht hg (fun B' => (hok B').le fresh_newD) hdn hnv
section
variable {P : Program} {n : Nat} {w₀ : World} {E : Env}
theorem load_cell {w : World} {b : Nat} {e T : TypeId} {td : TypeDesc} {xs : List Value} (ht : P.underlying T = some td) (hp : (match td with | .struct _ | .array _ _ => true | _ => false) = true) (hsz : SizeIs P T xs.length) (hh : w.heap[b]? = some (.cells xs.toArray e (0,0))) :
  (loadVar T ⟨b, 0, none⟩).run P w = .ok (aggV xs) w := by
 have := run_loadVar_row (P := P) w b e T xs.toArray (0,0) td hh ht hp (by simpa [SizeIs] using hsz)
 simpa [aggV] using this
theorem End.new1 {fn : Func} {r s b g kg : Nat} {T e' e : TypeId} {td : TypeDesc} {ys zs xs : List Value} {val : Nat → Value} (hr : fn.results = #[.cell r T]) (ht : P.underlying T = some td) (hp : (match td with | .struct _ | .array _ _ => true | _ => false) = true) (hsz : SizeIs P T ys.length)
  (h1 : E.look r = some (.v (.pointer (some ⟨b, 0, none⟩)))) (h2 : E.look s = some (blk b e' ys)) (h4 : E.look kg = some (blk g e zs)) (hg : w₀.heap.size ≤ g) (hv : val g = aggV ys) (hz : zs = xs) :
  End Cx.top w₀ n E (BP P fn (PostOf w₀ (newD w₀.heap.size e val xs)) .ret) := fun a w gr hs => by
 subst hz
 have h3 : a.tmps[r]?.getD undef = .pointer (some ⟨b, 0, none⟩) := by rw [← Array.getD_eq_getD_getElem?]; exact hs.of r _ h1
 obtain ⟨_, hh⟩ := hs.of s _ h2
 obtain ⟨hl', hh'⟩ := hs.of kg _ h4
 exact BP.ret hs.defers ⟨aggV ys, by simp [results, hr, h3, asAddr, load_cell ht hp hsz hh], _, rfl, gr, g, hv.symm, hg, hl', hh'⟩
theorem End.cellV {fn : Func} {r s b r' : Nat} {T e' : TypeId} {td : TypeDesc} {ys : List Value} {v' : Value} (hr : fn.results = #[.cell r T, .tmp r']) (ht : P.underlying T = some td) (hp : (match td with | .struct _ | .array _ _ => true | _ => false) = true) (hsz : SizeIs P T ys.length)
  (h1 : E.look r = some (.v (.pointer (some ⟨b, 0, none⟩)))) (h2 : E.look s = some (blk b e' ys)) (h5 : E.look r' = some (.v v')) : End Cx.top w₀ n E (BP P fn (PostOf w₀ (.v (.tuple #[aggV ys, v']))) .ret) := fun a w gr hs => by
 have h3 : a.tmps[r]?.getD undef = .pointer (some ⟨b, 0, none⟩) := by rw [← Array.getD_eq_getD_getElem?]; exact hs.of r _ h1
 have h6 : a.tmps[r']?.getD undef = v' := by rw [← Array.getD_eq_getD_getElem?]; exact hs.of r' _ h5
 obtain ⟨_, hh⟩ := hs.of s _ h2
 exact BP.ret hs.defers ⟨.tuple #[aggV ys, v'], by simp [results, hr, h3, h6, asAddr, load_cell ht hp hsz hh], _, rfl, gr, rfl⟩
theorem End.newF {fn : Func} {r g kg : Nat} {e : TypeId} {zs xs : List Value} {v : Value} {val : Nat → Value} (hr : fn.results = #[.tmp r]) (h1 : E.look r = some (.v v)) (h4 : E.look kg = some (blk g e zs)) (hg : w₀.heap.size ≤ g) (hv : val g = v) (hz : zs = xs) :
  End Cx.top w₀ n E (BP P fn (PostOf w₀ (newD w₀.heap.size e val xs)) .ret) := fun a w gr hs => by
 subst hz
 obtain ⟨hl', hh'⟩ := hs.of kg _ h4
 exact BP.ret hs.defers ⟨a.tmps.getD r undef, by simp [results, hr], _, rfl, gr, g, by rw [hv]; exact hs.of r _ h1, hg, hl', hh'⟩
theorem End.ret2V {fn : Func} {r s : Nat} {u v : Value} (hr : fn.results = #[.tmp r, .tmp s]) (h1 : E.look r = some (.v u)) (h2 : E.look s = some (.v v)) : End Cx.top w₀ n E (BP P fn (PostOf w₀ (.v (.tuple #[u, v]))) .ret) := fun a w gr hs => by
 have h3 : a.tmps[r]?.getD undef = u := by rw [← Array.getD_eq_getD_getElem?]; exact hs.of r _ h1
 have h4 : a.tmps[s]?.getD undef = v := by rw [← Array.getD_eq_getD_getElem?]; exact hs.of s _ h2
 exact BP.ret hs.defers ⟨.tuple #[u, v], by simp [results, hr, h3, h4], _, rfl, gr, rfl⟩
end
end
section
def opV (o : Op) (E : Env) : Option D := match o with
 | .move x => E.at x
 | .assign x => E.at x
 | .pick c x y => match E.at c with
  | some (.v (.bool true)) => E.at x
  | some (.v (.bool false)) => E.at y
  | _ => none
 | .binOp op _ x y _ => match E.at x, E.at y with
  | some (.v a), some (.v b) => match binV op a b with
   | some c => some (.v c)
   | none => none
  | _, _ => none
 | .unOp .not _ x => match E.at x with
  | some (.v (.bool b)) => some (.v (.bool (!b)))
  | _ => none
 | .extract x i => match E.at x with
  | some (.v (.tuple xs)) => match xs.toList[i]? with
   | some u => some (.v u)
   | none => none
  | _ => none
 | _ => none
theorem opV_ok {P : Program} {B : Nat} {E : Env} {d : D} {o : Oper} (h : opV o.op E = some d) : OpOk P B o E d := by
 obtain ⟨dst, op, ty, pos, after, guard⟩ := o
 simp only at h
 unfold opV at h
 split at h
 ·exact ok_move h
 ·exact ok_assign h
 ·split at h
  ·rename_i hc; exact ok_pick hc h
  ·rename_i hc; exact ok_pick hc h
  ·cases h
 ·split at h
  ·rename_i hx hy
   split at h
   ·rename_i hb; injection h with h; subst h; exact ok_bin hx hy hb
   ·cases h
  ·cases h
 ·split at h
  ·rename_i hx; injection h with h; subst h; exact ok_not hx
  ·cases h
 ·split at h
  ·rename_i hx
   split at h
   ·rename_i hi; injection h with h; subst h; exact ok_extractV (by rw [hx, Array.toArray_toList]) hi
   ·cases h
  ·cases h
 ·cases h
def runV (ops : Array Oper) : Nat → List Oper → Env → Option (List Oper × Env)
 | 0, l, E => some (l, E)
 | _ + 1, [], _ => none
 | k + 1, o :: l, E => match o.dst with
  | none => none
  | some t => match o.guard with
   | none => match opV o.op E with
    | none => none
    | some d => runV ops k l ((t, d) :: E)
   | some (j, want) => match (ops[j]?).bind (·.dst) with
    | none => none
    | some s => match E.look s with
     | some (.v (.bool c)) => match c == want with
      | true => match opV o.op E with
       | none => none
       | some d => runV ops k l ((t, d) :: E)
      | false => runV ops k l ((t, .v undef) :: E)
     | _ => none
section
variable {P : Program} {B n : Nat} {ops : Array Oper} {E E' : Env} {C : Env → Prop} {l l' : List Oper}
theorem RV : ∀ (k : Nat) {l : List Oper} {E : Env}, runV ops k l E = some (l', E') → RunK P B ops l' E' C → RunK P B ops l E C
 | 0, l, E, h, hr => by
  simp only [runV, Option.some.injEq, Prod.mk.injEq] at h
  obtain ⟨rfl, rfl⟩ := h; exact hr
 | k + 1, [], E, h, hr => by simp [runV] at h
 | k + 1, o :: l, E, h, hr => by
  unfold runV at h
  split at h
  ·cases h
  ·rename_i ht
   split at h
   ·rename_i hg
    split at h
    ·cases h
    ·rename_i hv; exact RunK.step ht hg (opV_ok hv) (RV k h hr)
   ·rename_i hg
    split at h
    ·cases h
    ·rename_i hj
     split at h
     ·rename_i hE
      split at h
      ·rename_i hc
       split at h
       ·cases h
       ·rename_i hv
        have hc2 := eq_of_beq hc
        subst hc2
        exact RunK.guarded ht hg hj hE (opV_ok hv) (RV k h hr)
      ·rename_i hc; exact RunK.skipped ht hg hj hE hc (RV k h hr)
     ·cases h
def pickE (E : Env) : List Nat → Option Env
 | [] => some []
 | t :: r => match E.look t with
  | none => none
  | some d => match pickE E r with
   | none => none
   | some E' => some ((t, d) :: E')
theorem Sv : ∀ (ks : List Nat) {E' : Env}, pickE E ks = some E' → Sub E' E
 | [], E', h => by injection h with h; subst h; exact Sub.nil
 | t :: r, E', h => by
  unfold pickE at h
  split at h
  ·cases h
  ·rename_i hd
   split at h
   ·cases h
   ·rename_i hr; injection h with h; subst h; exact Sub.cons hd (Sv r hr)
def valsE (E : Env) : List Nat → Option Env
 | [] => some []
 | t :: r => match E.look t with
  | some (.v x) => match valsE E r with
   | none => none
   | some E' => some ((t, .v x) :: E')
  | _ => none
variable {T g : Nat}
theorem LW : ∀ (ks : List Nat) {E' : Env}, valsE E ks = some E' → LeftS B T g E' E
 | [], E', h => by injection h with h; subst h; exact LeftS.nil
 | t :: r, E', h => by
  unfold valsE at h
  split at h
  ·rename_i hd
   split at h
   ·cases h
   ·rename_i hr; injection h with h; subst h; exact LeftS.cons hd (Surv.v _) (LW r hr)
  ·cases h
end
section
variable {P : Program} {B n : Nat} {ops : Array Oper} {E E' : Env} {C : Env → Prop} {rest l : List Oper} {t : Nat} {d : D} {ty : TypeId} {pos : String} {after : Array Edge} {o : Oper} {x y : Operand} {draw : Bool} {q : Nat}
theorem RVN (k : Nat) (h : runV ops k l E = some ([], E')) (hC : C E') : RunK P B ops l E C := RV k h (RunK.nil hC)
theorem RF {y : Value} (hr : RunK P B ops rest ((t, .v (.bool false)) :: E) C) (h : y = .bool false := by first | rfl | (simp; done) | (simp; omega) | (simp [*]; done) | (simp [*]; omega)) : RunK P B ops rest ((t, .v y) :: E) C := RunK.as _ h hr
theorem RT {y : Value} (hr : RunK P B ops rest ((t, .v (.bool true)) :: E) C) (h : y = .bool true := by first | rfl | (simp; done) | (simp; omega) | (simp [*]; done) | (simp [*]; omega)) : RunK P B ops rest ((t, .v y) :: E) C := RunK.as _ h hr
theorem RL (s : Nat) {T : TypeId} {td : TypeDesc} {b : Nat} {e : TypeId} {xs : List Value} (ht : P.underlying T = some td) (hx : E.at x = some (.v (.pointer (some ⟨b, 0, none⟩)))) (hblk : E.look s = some (blk b e xs)) (hsz : SizeIs P T xs.length) (hr : RunK P B ops rest ((t, .v (aggV xs)) :: E) C)
  (hsl : vbase ≤ s := by decide) (hp : (match td with | .struct _ | .array _ _ => true | _ => false) = true := by exact rfl) : RunK P B ops (⟨some t, .load T x, ty, pos, after, none⟩ :: rest) E C := RunK.step rfl rfl (ok_loadA hsl ht hp hsz hx hblk) hr
theorem RLV (s : Nat) {T : TypeId} {td : TypeDesc} {b o : Nat} {e : TypeId} {xs : List Value} {u : Value} (ht : P.underlying T = some td) (hx : E.at x = some (.v (.pointer (some ⟨b, o, none⟩)))) (hblk : E.look s = some (blk b e xs)) (hu : xs[o]? = some u) (hr : RunK P B ops rest ((t, .v u) :: E) C)
  (hsl : vbase ≤ s := by decide) (hp : plainTD td = true := by exact rfl) : RunK P B ops (⟨some t, .load T x, ty, pos, after, none⟩ :: rest) E C := RunK.step rfl rfl (ok_loadV hsl ht hp hx hblk hu) hr
theorem ZA (s : Nat) {T : TypeId} {b : Nat} {e : TypeId} {xs ys : List Value} (hsz : SizeIs P T ys.length) (hb : B ≤ b) (hp : E.at x = some (.v (.pointer (some ⟨b, 0, none⟩)))) (hx : E.at y = some (.v (aggV ys))) (hblk : E.look s = some (blk b e xs)) (hl : LeftS B e b E' E)
  (hr : RunTK P n B ops draw C q ((s, blk b e ys) :: E')) (h1 : ys.all (·.oneCell') = true := by exact rfl) (ho : xs.length = ys.length := by exact rfl) : ∃ E₂, Eff P n B ops ⟨none, .store T x y, ty, pos, after, none⟩ E E₂ ∧ RunTK P n B ops draw C q E₂ := ⟨_, eff_storeA hsz hp hx h1 hb hblk ho hl, hr⟩
theorem ZN (k : Nat) {T : TypeId} {zs : List Value} {e : Nat} (hz : ZeroIs P T zs) (hr : ∀ b, NewB B E b → RunTK P n B ops draw C q ((e, .v (.pointer (some ⟨b, 0, none⟩))) :: (k, blk b T zs) :: E)) (hd : e < n := by decide) :
  ∃ (G : Nat → Prop) (E₂ : Nat → Env), EffG P n B ops ⟨some e, .alloc T, ty, pos, after, none⟩ E G E₂ ∧ ∀ b, G b → RunTK P n B ops draw C q (E₂ b) := ⟨_, _, eff_alloc hz hd, hr⟩
theorem ZB (k : Nat) {T : TypeId} {xs : List Value} {e : Nat} (hx : E.at x = some (.v (aggV xs))) (hr : ∀ b, NewB B E b → RunTK P n B ops draw C q ((e, .v (.pointer (some ⟨b, 0, none⟩))) :: (k, blk b T xs) :: E)) (hd : e < n := by decide) :
  ∃ (G : Nat → Prop) (E₂ : Nat → Env), EffG P n B ops ⟨some e, .box T x, ty, pos, after, none⟩ E G E₂ ∧ ∀ b, G b → RunTK P n B ops draw C q (E₂ b) := ⟨_, _, eff_box hx hd, hr⟩
theorem ZM (k : Nat) {e : TypeId} {m : Nat} {val : Nat → Value} {xs : List Value} (hok : ∀ B', OpOk P B' o E (newD B' e val xs)) (ht : o.dst = some m) (hr : ∀ b, NewB B E b → RunTK P n B ops draw C q ((m, .v (val b)) :: (k, blk b e xs) :: E)) (hg : o.guard = none := by exact rfl) (hd : m < n := by decide) (hnv : n ≤ vbase := by decide) :
  ∃ (G : Nat → Prop) (E₂ : Nat → Env), EffG P n B ops o E G E₂ ∧ ∀ b, G b → RunTK P n B ops draw C q (E₂ b) := ⟨_, _, eff_name ht hg hok hd hnv, hr⟩
theorem OCB {f : FuncId} {args : Array Operand} {argTypes : Array TypeId} {ds : List D} {e : TypeId} {val : Nat → Value} {xs : List Value} {dst : Option Tmp} {guard : Option (Nat × Bool)} (hf : FnB P f ds (fun B => newD B e val xs)) (ha : Args E ds args.toList) :
  OpOk P B ⟨dst, .call { callee := .value (.func f), args := args, argTypes := argTypes }, ty, pos, after, guard⟩ E (newD B e val xs) := ok_callB hf (fun _ _ h => newD_mono _ _ h) ha
def idxO : Nat → List D → Option Env
 | _, [] => some []
 | i, d :: r => match idxO (i + 1) r with
  | none => none
  | some E => some ((i, d) :: E)
theorem idxO_start : ∀ {ds r : List D} {i : Nat} {E : Env}, idxO i r = some E → (∀ j d, r[j]? = some d → ds[i + j]? = some d) → ∀ B, Start B ds E
 | ds, [], i, E, h, _, B => by injection h with h; subst h; exact Start.nil
 | ds, d :: r, i, E, h, hd, B => by
  unfold idxO at h
  split at h
  ·cases h
  ·rename_i hE
   injection h with h; subst h
   exact Start.v (by have := hd 0 d rfl; simpa using this) (idxO_start hE (fun j e hj => by have := hd (j + 1) e (by simpa using hj); rwa [show i + 1 + j = i + (j + 1) from by omega]) B)
theorem FV {f : FuncId} {fn : Func} {c : Code} {ds : List D} (hf : P.funcs[f]? = some fn) (hb : fn.body = some c) (hn : fn.ntmps = n) (hE : idxO 0 ds = some E) (h : ∀ w₀, A Cx.top P w₀ n c E (BP P fn (PostOf w₀ d))) (hname : (fn.name == "runtime.NumGoroutine") = false := by kernel_rfl) (hds : ds.length ≤ n := by simp) : Fn P f ds d :=
 Fn.of hf hb hname hn hds (fun _ => E) (fun w => idxO_start hE (fun j e hj => by simpa using hj) _) h
end
section
variable {κ : Cx} {P : Program} {n : Nat} {w₀ : World} {E E' E₁ : Env} {y c : Code} {Q : Exit → Act → World → Prop} {id : Nat} {ops : Array Oper}
theorem GT (hr : RunK P w₀.heap.size ops (ops.toList.drop 0) E (fun E₁ => A κ P w₀ n y E₁ Q)) (hm : P.follows .mixedOrders = true := by kernel_rfl) (hf : fits n ops = true := by kernel_rfl) : A κ P w₀ n (.seq (.region id ops false) y) E Q := A.regs hm hf (.inl rfl) (RunTK.last hr)
theorem GTD (hr : RunK P w₀.heap.size ops (ops.toList.drop 0) E (fun E₁ => A κ P w₀ n y E₁ Q)) (hm : P.follows .mixedOrders = true := by kernel_rfl) (hf : fits n ops = true := by kernel_rfl) (ht : tied ops = true := by kernel_rfl) : A κ P w₀ n (.seq (.region id ops true) y) E Q := A.regs hm hf (.inr ht) (RunTK.last hr)
theorem GTE (hr : RunK P w₀.heap.size ops (ops.toList.drop 0) E (fun E₁ => End κ w₀ n E₁ (Q .normal))) (hm : P.follows .mixedOrders = true := by kernel_rfl) (hf : fits n ops = true := by kernel_rfl) : A κ P w₀ n (.region id ops false) E Q := A.reg hm hf (.inl rfl) (RunTK.last hr)
theorem GV (h : runV ops ops.size ops.toList E = some ([], E')) (hr : A κ P w₀ n y E' Q) (hm : P.follows .mixedOrders = true := by kernel_rfl) (hf : fits n ops = true := by kernel_rfl) : A κ P w₀ n (.seq (.region id ops false) y) E Q := A.regs hm hf (.inl rfl) (RunTK.last (RVN _ h hr))
theorem GVE (h : runV ops ops.size ops.toList E = some ([], E')) (hr : End κ w₀ n E' (Q .normal)) (hm : P.follows .mixedOrders = true := by kernel_rfl) (hf : fits n ops = true := by kernel_rfl) : A κ P w₀ n (.region id ops false) E Q := A.reg hm hf (.inl rfl) (RunTK.last (RVN _ h hr))
theorem ER {fn : Func} {r : Nat} {d e : D} (hr : fn.results = #[.tmp r]) (he : E.look r = some e) (hl : Le e d := by first | exact Le.refl _ | exact Le.old _ _) : End Cx.top w₀ n E (BP P fn (PostOf w₀ d) .ret) := End.ret1 hr he hl
theorem QSB {x : Code} {id : Nat} (h : A κ P w₀ n x E (Exit.inBlock id (Exit.then (y.wpIn (FR κ.rd) 0 P Q) Q))) : A κ P w₀ n (.seq (.block id x) y) E Q := A.seq (A.block h)
theorem QS {x : Code} (h : A κ P w₀ n x E (Exit.then (y.wpIn (FR κ.rd) 0 P Q) Q)) : A κ P w₀ n (.seq x y) E Q := A.seq h
theorem QK (h : A κ P w₀ n y E Q) : A κ P w₀ n .skip E (Exit.then (y.wpIn (FR κ.rd) 0 P Q) Q) := A.skip (End.normal_then (End.code h))
end
theorem SQ (t : Nat) {E' E : Env} {d e : D} (h : E.look t = some e) (hs : SubL E' E) (hl : Le e d := by first | exact Le.refl _ | exact Le.old _ _) : SubL ((t, d) :: E') E := SubL.cons h hl hs
theorem LQ (t : Nat) {B T g b : Nat} {E E' : Env} {xs : List Value} (h : E.look t = some (tab b xs)) (hr : LeftS B T g E' E) (hs : b ≠ g := by omega) : LeftS B T g ((t, tab b xs) :: E') E := LeftS.cons h (Surv.tab hs) hr
theorem QC (t : Nat) {E' E : Env} {d : D} (h : E.look t = some d) (hs : SubL E' E) : SubL ((t, d) :: E') E := SubL.cons h (Le.refl _) hs
theorem QX (t : Nat) {E' E : Env} {d e : D} (h : E.look t = some e) (hl : Le e d) (hs : SubL E' E) : SubL ((t, d) :: E') E := SubL.cons h hl hs
end
section
variable {κ : Cx}
theorem Surv.valM {B T g : Nat} {f : D} {v : Value} (h : Surv B T g f) : Surv B T g (Go.Proofs.YtmkpekmhhbcifaaGreatDoor.valM v f) := fun w w' _ k hx => h w w' v k hx
end
section
variable {κ : Cx}
structure Mk where
 eff : Bool
 stab : Bool
 kill : Option Nat
end
section
variable {κ : Cx}
def ownP (base : Nat) (e : TypeId) (sz n : Nat) (xs : List Value) : D :=
 .p (fun B w x => w.ownsRow base e sz x n xs ∧ ∀ g, x.ownBlock = some g → g < B)
  (fun B w w' x g ⟨h1, h2⟩ => ⟨by
   obtain ⟨h3, h4⟩ := h1
   refine ⟨h3, h4.imp id ?_⟩
   rintro ⟨k, cap, cur, rfl, hk, hh, hr⟩
   exact ⟨k, cap, cur, rfl, hk, (g.block k (h2 k (by simp [Value.ownBlock]))).trans hh, hr⟩, h2⟩)
  (fun _ _ _ _ g ⟨h1, h2⟩ => ⟨h1, fun k hk => Nat.lt_of_lt_of_le (h2 k hk) g⟩)
theorem ownP_nil {B sz : Nat} {e : TypeId} : Le (.v (.slice none 0 0)) (ownP B e sz 0 []) := fun _ _ _ h => by
 have h : _ = _ := h
 subst h
 exact ⟨⟨by simp, .inl ⟨rfl, rfl⟩⟩, fun g hg => by simp [Value.ownBlock] at hg⟩
theorem Surv.ownP {B T g base sz n : Nat} {e : TypeId} {xs : List Value} (h : e ≠ T) : Surv B T g (Go.Proofs.YtmkpekmhhbcifaaGreatDoor.ownP base e sz n xs) := fun w w' x k ⟨h1, h2⟩ => by
 obtain ⟨h3, h4⟩ := h1
 refine ⟨⟨h3, h4.imp id ?_⟩, fun j hj => Nat.lt_of_lt_of_le (h2 j hj) k.size⟩
 rintro ⟨j, cap, cur, rfl, hj, hh, hr⟩
 refine ⟨j, cap, cur, rfl, hj, ?_, hr⟩
 by_cases hjg : j = g
 ·subst hjg; exact absurd (k.row _ _ _ hh) h
 ·rw [k.other j (h2 j (by simp [Value.ownBlock])) hjg]; exact hh
def InfoP (P : Program) (e : TypeId) (z : Value) (sz nb : Nat) : Prop := (P.info? e).map (fun i => (i.zero, i.size, i.bytes)) = some (some z, sz, nb)
theorem InfoP.get {P : Program} {e : TypeId} {z : Value} {sz nb : Nat} (h : InfoP P e z sz nb) : ∃ i, P.info? e = some i ∧ i.zero = some z ∧ i.size = sz ∧ i.bytes = nb := by
 unfold InfoP at h
 cases hi : P.info? e with
 | none => rw [hi] at h; cases h
 | some i =>
  rw [hi] at h
  simp only [Option.map_some, Option.some.injEq, Prod.mk.injEq] at h
  exact ⟨i, rfl, h.1, h.2.1, h.2.2⟩
def elemP (us : List Value) : D :=
 .p (fun B w x => ∃ ad : Addr, x = .pointer (some ad) ∧ ad.block < B ∧ ∀ (j : Nat) (u : Value), us[j]? = some u → w.cell? (ad.add j) = some u)
  (fun _ _ _ _ g ⟨ad, h1, h2, h3⟩ => ⟨ad, h1, h2, fun j u hu => (g.cell (by rw [block_of_add]; exact h2)).trans (h3 j u hu)⟩) (fun _ _ _ _ g ⟨ad, h1, h2, h3⟩ => ⟨ad, h1, by omega, h3⟩)
def oneP (us : List Value) : D :=
 .p (fun B w x => ∃ ad : Addr, x = .slice (some ad) 1 1 ∧ ad.block < B ∧ ∀ (j : Nat) (u : Value), us[j]? = some u → w.cell? (ad.add j) = some u)
  (fun _ _ _ _ g ⟨ad, h1, h2, h3⟩ => ⟨ad, h1, h2, fun j u hu => (g.cell (by rw [block_of_add]; exact h2)).trans (h3 j u hu)⟩) (fun _ _ _ _ g ⟨ad, h1, h2, h3⟩ => ⟨ad, h1, by omega, h3⟩)
section
variable {P : Program} {B : Nat} {E : Env} {dst : Option Tmp} {ty : TypeId} {pos : String} {after : Array Edge} {guard : Option (Nat × Bool)}
theorem ok_build1P {t e : TypeId} {z : Value} {nb : Nat} {x : Operand} {u₁ u₂ : Value} (ht : P.underlying t = some (.slice e)) (hs : InfoP P e z 2 nb) (hz : z.cells.size = 2) (hx : E.at x = some (.v (aggV [u₁, u₂]))) :
  OpOk P B ⟨dst, .buildSlice t 1 #[(0, x)], ty, pos, after, guard⟩ E (oneP [u₁, u₂]) := fun ρ w _ _ hρ => by
 obtain ⟨i, hi, hzv, hsize, _⟩ := hs.get
 have h1 : ρ x = aggV [u₁, u₂] := hρ x (by simp [Op.operands]) _ hx
 have hfill : Instr.fill (fun j => some (j * i.size, i.size)) ((Array.range (1 * i.size)).map (z.cells[· % z.cells.size]!)) [(0, ρ x)] = some #[u₁, u₂] := by
  rw [hsize, h1, hz]
  have h2 : ((Array.range (1 * 2)).map fun y => z.cells[y % 2]!) = #[z.cells[0]!, z.cells[1]!] := by
   rw [show Array.range (1 * 2) = #[0,1] from by decide]
   simp
  rw [h2]
  simp [Instr.fill, aggV, Value.cells]
 have hr := run_buildSlice (P := P) w t e 1 #[(0, ρ x)] #[u₁, u₂] i z ht hi hzv (by rw [hsize]; decide) (by rw [hsize]; decide) (by simpa using hfill)
 refine out_val (x := .slice (some ⟨w.heap.size, 0, none⟩) 1 1) (w' := w.alloc (.cells #[u₁, u₂] e)) (by simp [execOp, hr]) ⟨Grow.alloc w _, _, rfl, by simp, fun j u hu => ?_⟩
 have hh : (w.alloc (.cells #[u₁, u₂] e)).heap[w.heap.size]? = some (.cells #[u₁, u₂] e (0,0)) := heap_alloc_new w _
 rw [show (⟨w.heap.size, 0, none⟩ : Addr).add j = ⟨w.heap.size, j, none⟩ from by unfold Addr.add; split <;> simp_all]
 simp only [World.cell?, hh]
 simpa using hu
end
section
variable {P : Program} {n B : Nat} {ops : Array Oper} {E : Env} {ty : TypeId} {pos : String} {after : Array Edge}
theorem eff_appendP {t e : TypeId} {z : Value} {nb sz : Nat} {r x : Operand} {k dst : Nat} {xs us : List Value} {E' : Env} (ht : P.underlying t = some (.slice e)) (hinfo : InfoP P e z sz nb) (hsz : 0 < sz) (hnb : nb ≤ 64) (hz1 : z.cells.size = sz)
  (hr : E.at r = some (ownP B e sz k xs)) (hx : E.at x = some (oneP us)) (hu : us.length = sz) (h1 : us.all (·.oneCell') = true) (hk : k ≤ 1099511627776) (hdst : dst < n) (hl : ∀ g, B ≤ g → LeftS B e g E' E) :
  Eff P n B ops ⟨some dst, .call { callee := .builtin .append, args := #[r, x], argTypes := #[t, t] }, ty, pos, after, none⟩ E ((dst, ownP B e sz (k + 1) (xs ++ us)) :: E') := by
 obtain ⟨i, hi, hz, hs, hby⟩ := hinfo.get
 intro κ a w K Q h hK
 obtain ⟨hown, hob⟩ := h.at_ r _ hr
 obtain ⟨ad, hxe, _, hcell⟩ := h.at_ x _ hx
 have hbb : (k + 1) * i.bytes ≤ (k + 1) * 64 := Nat.mul_le_mul_left _ (by omega)
 obtain ⟨v', w', hrun, h3, h4, _, h5⟩ := run_append_own_at (P := P) w B t ty e i z sz i.bytes ht hi hz hs rfl hz1 hsz (a.eval r) k xs hown ad 1 1 us (by omega) hcell (fun u hu => List.all_eq_true.1 h1 u hu) (by simp only [maxLen]; omega) (by omega) h.base
 have hexec : (execOp a.eval ⟨some dst, .call { callee := .builtin .append, args := #[r, x], argTypes := #[t, t] }, ty, pos, after, none⟩).run P w = .ok (.value v') w' := by
  simp [execOp, resolve, invoke, builtin, hxe, hrun]
 rw [if_pos (by simp [Region.wanted])]
 refine opR (by nofun) ?_
 unfold Oper.wp
 rw [hexec, Oper.upon_value]
 have hbase : ∀ g, (a.eval r).ownBlock = some g → B ≤ g := fun g hg => by
  rcases hown.2 with ⟨hv, _⟩ | ⟨g', cap, cur, hv, hb, _⟩
  ·rw [hv] at hg; simp [Value.ownBlock] at hg
  ·rw [hv] at hg; simp [Value.ownBlock] at hg; omega
 have hbel : Below B w w' := (Below.refl B w).grown h4 h.base hbase
 have hlt : ∀ g, v'.ownBlock = some g → g < w'.heap.size := fun g hg => by
  rcases h3.2 with ⟨hv, _⟩ | ⟨g', cap, cur, hv, _, hh, _⟩
  ·rw [hv] at hg; simp [Value.ownBlock] at hg
  ·rw [hv] at hg; simp [Value.ownBlock] at hg; subst hg
   rcases Nat.lt_or_ge g' w'.heap.size with h | h
   ·exact h
   ·rw [Array.getElem?_eq_none h] at hh; cases hh
 have hwr : ∃ g, B ≤ g ∧ Wrote B e g w w' := by
  rcases hown.2 with ⟨hv, _⟩ | ⟨g', cap, cur, hv, hb, hh, _⟩
  ·refine ⟨w.heap.size, h.base, h.base, h4.os, h4.tape, h4.output, h4.size, fun o hx => ?_, fun k hk _ => h4.block k hk (by rw [hv]; simp [Value.ownBlock])⟩
   rw [Array.getElem?_eq_none (Nat.le_refl _)] at hx; cases hx
  ·refine ⟨g', hb, hb, h4.os, h4.tape, h4.output, h4.size, fun o hx => ?_, fun k hk hne => h4.block k hk (by rw [hv]; simp [Value.ownBlock]; omega)⟩
   rw [hh] at hx; injection hx with hx; exact ⟨_, _, hx.symm⟩
 obtain ⟨g, hg, hwr⟩ := hwr
 exact hK _ _ hbel (((hl g hg).st h hwr).put hdst ⟨h3, hlt⟩)
end
end
section
variable {κ : Cx}
def memR (A : Option Addr) (xs : List Value) : D :=
 .p (fun B w _ => RowIn B w A xs) (fun _ _ _ _ g h j u hu => by obtain ⟨ad, h1, h2, h3⟩ := h j u hu; exact ⟨ad, h1, h2, (g.cell (by rw [block_of_add]; exact h2)).trans h3⟩)
  (fun _ _ _ _ g h j u hu => by obtain ⟨ad, h1, h2, h3⟩ := h j u hu; exact ⟨ad, h1, Nat.lt_of_lt_of_le h2 g, h3⟩)
def rowD (n : Nat) (xs : List Value) : D :=
 .p (fun B w x => ∃ A c, x = .slice A n c ∧ RowIn B w A xs) (fun _ _ _ _ g ⟨A, c, h1, h2⟩ => ⟨A, c, h1, D.OfB.keep (d := memR A xs) (x := undef) h2 g⟩) (fun _ _ _ _ g ⟨A, c, h1, h2⟩ => ⟨A, c, h1, D.OfB.up (d := memR A xs) (x := undef) h2 g⟩)
theorem rowD_nil {A : Option Addr} {c : Nat} : Le (.v (.slice A 0 c)) (rowD 0 []) := fun _ _ _ h => ⟨A, c, h, fun j u hu => by cases hu⟩
theorem ownP_rowD {base sz n : Nat} {e : TypeId} {xs : List Value} : Le (ownP base e sz n xs) (rowD n xs) := fun B w x ⟨⟨hl, h2⟩, hlt⟩ => by
 rcases h2 with ⟨rfl, rfl⟩ | ⟨g, cap, cur, rfl, _, hh, _, _, _, htk⟩
 ·refine ⟨none, 0, rfl, fun j u hu => ?_⟩
  have : xs = [] := List.length_eq_zero_iff.1 (by omega)
  subst this; cases hu
 ·refine ⟨_, _, rfl, fun j u hu => ⟨_, rfl, hlt g rfl, ?_⟩⟩
  rw [show (⟨g, 0, none⟩ : Addr).add j = ⟨g, j, none⟩ from by unfold Addr.add; split <;> simp_all]
  rw [← htk, List.getElem?_take] at hu
  split at hu
  ·simp [World.cell?, hh]; simpa using hu
  ·cases hu
theorem blk_rowIn {B b : Nat} {w : World} {e : TypeId} {xs : List Value} (hb : b < B) (hh : w.heap[b]? = some (.cells xs.toArray e (0,0))) : RowIn B w (some ⟨b, 0, none⟩) xs := fun j u hu => ⟨_, rfl, hb, by
 rw [show (⟨b, 0, none⟩ : Addr).add j = ⟨b, j, none⟩ from by unfold Addr.add; split <;> simp_all]
 simp [World.cell?, hh]; simpa using hu⟩
section
variable {P : Program} {B : Nat} {E : Env} {dst : Option Tmp} {ty : TypeId} {pos : String} {after : Array Edge} {guard : Option (Nat × Bool)}
theorem ok_indexR {t e : TypeId} {z : Value} {sz nb : Nat} {x i : Operand} {A₀ : Option Addr} {q k s B' : Nat} {xs : List Value} {ki : IntKind} (m : Nat) (ht : P.underlying t = some (.slice e)) (hs : InfoP P e z sz nb) (hx : E.at x = some (.v (.slice A₀ k q)))
  (hr : E.look s = some (old B' (memR A₀ xs))) (hsv : vbase ≤ s) (hi : E.at i = some (.v (.int ki (m : Int)))) (hm : m < k) (hlt : m * sz < xs.length) :
  OpOk P B ⟨dst, .indexAddr t x i, ty, pos, after, guard⟩ E (elemP ((xs.drop (m * sz)).take sz)) := fun ρ w _ hv hρ => by
 have h1 : ρ x = .slice A₀ k q := hρ x (by simp [Op.operands]) _ hx
 have hi' : ρ i = .int ki m := hρ i (by simp [Op.operands]) _ hi
 obtain ⟨hB, hrow⟩ := hv s _ hsv hr
 obtain ⟨info, hinfo, _, hsize, _⟩ := hs.get
 obtain ⟨ad, hA, hab, _⟩ := hrow (m * sz) _ (List.getElem?_eq_getElem hlt)
 subst hA
 refine out_val (x := .pointer (some (ad.add (m * sz)))) (w' := w) ?_ ⟨Grow.refl w, _, rfl, by rw [block_of_add]; omega, fun j u hu => ?_⟩
 ·simp [execOp, h1, hi', Instr.indexAt, asIntOf, run_underlying ht, sizeOf, typeInfo, hinfo, hsize, hm]
 ·rw [List.getElem?_take] at hu
  split at hu
  ·rw [List.getElem?_drop] at hu
   obtain ⟨ad', hA', _, h4⟩ := hrow (m * sz + j) u hu
   injection hA' with hA'; subst hA'
   rw [add_of_add]; exact h4
  ·cases hu
theorem ok_loadP1 {T : TypeId} {td : TypeDesc} {x : Operand} {u : Value} {us : List Value} (ht : P.underlying T = some td) (hp : (match td with | .struct _ | .array _ _ => false | _ => true) = true) (hx : E.at x = some (elemP (u :: us))) :
  OpOk P B ⟨dst, .load T x, ty, pos, after, guard⟩ E (.v u) := fun ρ w _ _ hρ => by
 obtain ⟨ad, h1, _, h3⟩ := hρ x (by simp [Op.operands]) _ hx
 have hagg : (isAgg T).run P w = .ok false w := by
  unfold isAgg
  simp only [Sem.run_bind, run_underlying ht, Result.andThen_ok]
  cases td <;> simp_all
 have hc : w.cell? ad = some u := by have := h3 0 u rfl; rwa [show ad.add 0 = ad from by simp [Addr.add]] at this
 exact out_val (x := u) (w' := w) (by simp [execOp, h1, Instr.loadAt, Instr.sureAddr, loadVar, hagg, hc]) ⟨Grow.refl w, rfl⟩
theorem fill_go (us : List Value) : ∀ (ds pre : List Value), ds.length = us.length → ((us.zipIdx pre.length).foldl (fun cs (x : Value × Nat) => cs.setIfInBounds (0 + x.2) x.1) (pre ++ ds).toArray) = (pre ++ us).toArray := by
 induction us with
 | nil => intro ds pre h; cases ds with
  | nil => rfl
  | cons => cases h
 | cons u us ih =>
  intro ds pre h
  cases ds with
  | nil => cases h
  | cons d ds =>
   rw [List.zipIdx_cons, List.foldl_cons]
   have := ih ds (pre ++ [u]) (by simpa using h)
   rw [show ((pre ++ d :: ds).toArray.setIfInBounds (0 + pre.length) u) = ((pre ++ [u]) ++ ds).toArray from by
    rw [Nat.zero_add, List.setIfInBounds_toArray, List.set_append_right _ _ (Nat.le_refl _)]; simp]
   rw [show pre.length + 1 = (pre ++ [u]).length from by simp, this]; simp
theorem ok_build1K {t e : TypeId} {z : Value} {nb sz : Nat} {x : Operand} {us : List Value} (ht : P.underlying t = some (.slice e)) (hs : InfoP P e z sz nb) (hz : z.cells.size = sz) (h0 : sz ≤ 65536) (hsz : 0 < sz) (hx : E.at x = some (.v (aggV us))) (hu : us.length = sz) :
  OpOk P B ⟨dst, .buildSlice t 1 #[(0, x)], ty, pos, after, guard⟩ E (oneP us) := fun ρ w _ _ hρ => by
 obtain ⟨i, hi, hzv, hsize, _⟩ := hs.get
 have h1 : ρ x = aggV us := hρ x (by simp [Op.operands]) _ hx
 have hfill : Instr.fill (fun j => some (j * i.size, i.size)) ((Array.range (1 * i.size)).map (z.cells[· % z.cells.size]!)) [(0, ρ x)] = some us.toArray := by
  have hlen : ((Array.range (1 * i.size)).map (z.cells[· % z.cells.size]!)).size = us.length := by simp [hsize, hu]
  rw [h1]
  have hc : (aggV us).cells = us.toArray := rfl
  unfold Instr.fill
  simp only [Nat.zero_mul]
  rw [hc, if_neg (by simp [hsize, hu])]
  have hg := fill_go us ((Array.range (1 * i.size)).map (z.cells[· % z.cells.size]!)).toList [] (by rw [Array.length_toList, hlen])
  simp only [List.nil_append, List.length_nil, Array.toArray_toList] at hg
  rw [show us.toArray.zipIdx.foldl (fun cs (x : Value × Nat) => match x with | (c, j) => cs.setIfInBounds (0 + j) c) ((Array.range (1 * i.size)).map (z.cells[· % z.cells.size]!)) = us.toArray from by
   rw [← Array.foldl_toList, Array.toList_zipIdx]; exact hg]
  rfl
 have hr := run_buildSlice (P := P) w t e 1 #[(0, ρ x)] us.toArray i z ht hi hzv (by rw [hsize]; omega) (by rw [hsize]; omega) (by simpa using hfill)
 refine out_val (x := .slice (some ⟨w.heap.size, 0, none⟩) 1 1) (w' := w.alloc (.cells us.toArray e)) (by simp [execOp, hr]) ⟨Grow.alloc w _, _, rfl, by simp, fun j u hu => ?_⟩
 have hh : (w.alloc (.cells us.toArray e)).heap[w.heap.size]? = some (.cells us.toArray e (0,0)) := heap_alloc_new w _
 rw [show (⟨w.heap.size, 0, none⟩ : Addr).add j = ⟨w.heap.size, j, none⟩ from by unfold Addr.add; split <;> simp_all]
 simp only [World.cell?, hh]
 simpa using hu
theorem ok_makeK {t e : TypeId} {x y : Operand} {z : Value} {nb sz : Nat} {k k' : IntKind} (c : Nat) (ht : P.underlying t = some (.slice e)) (hinfo : InfoP P e z sz nb) (hnb : nb ≤ 64)
  (hx : E.at x = some (.v (.int k (c : Int)))) (hy : E.at y = some (.v (.int k' (c : Int)))) (hc : c ≤ 4398046511104) :
  OpOk P B ⟨dst, .makeSlice t x y, ty, pos, after, guard⟩ E (newD B e (fun b => .slice (some ⟨b, 0, none⟩) c c) (madeCells z.cells (c * sz)).toList) := fun ρ w hB _ hρ => by
 obtain ⟨i, hi, hz, hs, hb⟩ := hinfo.get
 have h1 : ρ x = _ := hρ x (by simp [Op.operands]) _ hx
 have h2 : ρ y = _ := hρ y (by simp [Op.operands]) _ hy
 have hbc : i.bytes * c ≤ 64 * c := Nat.mul_le_mul_right c (by omega)
 have hr := run_make (P := P) w t e i z ht hi hz k k' (c : Int) (c : Int) (by omega) (by omega) (by rw [← Int.natCast_mul]; omega) (by omega)
 refine out_val (x := .slice (some ⟨w.heap.size, 0, none⟩) c c) (w' := w.alloc (.cells (madeCells z.cells (c * i.size)) e)) ?_ ⟨Grow.alloc w _, w.heap.size, rfl, hB, by simp, ?_⟩
 ·simp only [execOp, h1, h2, Sem.run_bind, hr, Result.andThen_ok, Sem.run_pure, Int.toNat_natCast]
 ·rw [← hs]; exact heap_alloc_new w _
theorem ok_sliceLoK {t e : TypeId} {z : Value} {nb sz : Nat} {x o : Operand} {b len c : Nat} {kd : IntKind} (l : Nat) (ht : P.underlying t = some (.slice e)) (hs : InfoP P e z sz nb) (hx : E.at x = some (.v (.slice (some ⟨b, 0, none⟩) len c))) (ho : E.at o = some (.v (.int kd (l : Int)))) (hl : l ≤ len) :
  OpOk P B ⟨dst, .slice t x (some o) none none, ty, pos, after, guard⟩ E (.v (.slice (some ⟨b, if c = l then 0 else l * sz, none⟩) (len - l) (c - l))) := fun ρ w _ _ hρ => by
 have h1 : ρ x = _ := hρ x (by simp [Op.operands]) _ hx
 have h2 : ρ o = .int kd (l : Int) := hρ o (by simp [Op.operands]) _ ho
 obtain ⟨info, hinfo, _, hsize, _⟩ := hs.get
 refine out_val (w' := w) ?_ ⟨Grow.refl w, rfl⟩
 simp [execOp, h1, h2, Instr.sliceAt, Instr.slice, run_underlying ht, Instr.sliceBounds, Instr.sliceBound, asIntOf, sizeOf, typeInfo, hinfo, hsize, hl]
 split
 ·rfl
 ·unfold Addr.add
  split
  ·rename_i h; rw [h]
  ·simp
end
section
variable {P : Program} {n B : Nat} {ops : Array Oper} {E : Env} {ty : TypeId} {pos : String} {after : Array Edge}
theorem eff_copyK {t e : TypeId} {z : Value} {nb sz : Nat} {r x : Operand} {b o dn dc s k sn sc dst B' : Nat} {A₀ : Option Addr} {e' : TypeId} {xs ys : List Value} {E' : Env} (ht : P.underlying t = some (.slice e)) (hinfo : InfoP P e z sz nb)
  (hr : E.at r = some (.v (.slice (some ⟨b, o, none⟩) dn dc))) (hx : E.at x = some (.v (.slice A₀ sn sc))) (hk : E.look k = some (old B' (memR A₀ ys))) (h1 : ys.all (·.oneCell') = true) (hl : ys.length = sn * sz) (hsd : sn ≤ dn) (hsz : 0 < sz)
  (hb : B ≤ b) (hblk : E.look s = some (blk b e' xs)) (hfit : o + sn * sz ≤ xs.length) (hdst : dst < n) (hle : LeftS B e' b E' E) :
  Eff P n B ops ⟨some dst, .call { callee := .builtin .copy, args := #[r, x], argTypes := #[t, t] }, ty, pos, after, none⟩ E ((dst, .v (.int .i64 (sn : Int))) :: (s, blk b e' (xs.take o ++ ys ++ xs.drop (o + sn * sz))) :: E') := by
 obtain ⟨i, hi, _, hs, _⟩ := hinfo.get
 intro κ a w K Q h hK
 have hre : a.eval r = _ := h.at_ r _ hr
 have hxe : a.eval x = _ := h.at_ x _ hx
 obtain ⟨hB, hrow⟩ := h.of k _ hk
 obtain ⟨hlt, hh⟩ := h.of s _ hblk
 have hrun : ∃ w', (Builtin.copy_ #[t, t] ty #[a.eval r, a.eval x]).run P w = .ok (.int .i64 (sn : Int)) w' ∧ Wrote B e' b w w' ∧ w'.heap[b]? = some (.cells (xs.take o ++ ys ++ xs.drop (o + sn * sz)).toArray e' (0,0)) ∧ b < w'.heap.size := by
  rw [hre, hxe]
  have hmin : Nat.min sn dn = sn := Nat.min_eq_left hsd
  cases A₀ with
  | none =>
   have hz : ys = [] := by
    cases ys with
    | nil => rfl
    | cons y ys => obtain ⟨_, h0, _⟩ := hrow 0 y rfl; cases h0
   subst hz
   have h0 : sn = 0 := by
    have : sn * sz = 0 := by simpa using hl.symm
    rcases Nat.mul_eq_zero.1 this with h | h
    ·exact h
    ·omega
   subst h0
   refine ⟨w, ?_, ⟨hb, rfl, rfl, rfl, Nat.le_refl _, fun o' ho => by rw [hh] at ho; injection ho with ho; exact ⟨_, _, ho.symm⟩, fun _ _ _ => rfl⟩, by simpa using hh, hlt⟩
   simp [Builtin.copy_, run_underlying ht, Builtin.lenOf, Builtin.firstCells, sizeOf, typeInfo, hi, storeCells, goInt]
  | some ad =>
   have hload := run_loadCells_list (P := P) w ad ys (fun j v hv => by obtain ⟨ad', h1, _, h3⟩ := hrow j v hv; injection h1 with h1; subst h1; exact h3)
   have hst := run_storeCells_at P b o e' ys 0 xs.toArray w hh (by simpa [hl] using hfit) (fun v hv => List.all_eq_true.1 h1 v hv)
   refine ⟨w.setRow b (xs.take o ++ ys ++ xs.drop (o + sn * sz)).toArray, ?_, Wrote.setRow hb hh _, by simp [World.setRow, Array.getElem?_modify, hh], by simpa [World.setRow] using hlt⟩
   simp only [hl] at hst
   simp [Builtin.copy_, run_underlying ht, Builtin.lenOf, Builtin.firstCells, sizeOf, typeInfo, hi, hs, hmin, ← hl, hload, goInt]
   simp [hl, hst]
 obtain ⟨w', hrun, hwr, hh', hlt'⟩ := hrun
 have hexec : (execOp a.eval ⟨some dst, .call { callee := .builtin .copy, args := #[r, x], argTypes := #[t, t] }, ty, pos, after, none⟩).run P w = .ok (.value (.int .i64 (sn : Int))) w' := by
  simp [execOp, resolve, invoke, builtin, hrun]
 rw [if_pos (by simp [Region.wanted])]
 refine opR (by nofun) ?_
 unfold Oper.wp
 rw [hexec, Oper.upon_value]
 exact hK _ _ (hwr.below h.base) (St.put ((hle.st h hwr).push (d := blk b e' (xs.take o ++ ys ++ xs.drop (o + sn * sz))) ⟨hlt', hh'⟩) hdst rfl)
end
end
section
variable {κ : Cx}
end
section
variable {κ : Cx}
section
variable {P : Program} {B : Nat} {E : Env} {dst : Option Tmp} {ty : TypeId} {pos : String} {after : Array Edge} {guard : Option (Nat × Bool)}
theorem ok_make0K {t e : TypeId} {x y : Operand} {z : Value} {nb sz : Nat} {k k' : IntKind} (c : Nat) (ht : P.underlying t = some (.slice e)) (hinfo : InfoP P e z sz nb) (hnb : nb ≤ 64)
  (hx : E.at x = some (.v (.int k 0))) (hy : E.at y = some (.v (.int k' (c : Int)))) (hc : c ≤ 4398046511104) :
  OpOk P B ⟨dst, .makeSlice t x y, ty, pos, after, guard⟩ E (newD B e (fun b => .slice (some ⟨b, 0, none⟩) 0 c) (madeCells z.cells (c * sz)).toList) := fun ρ w hB _ hρ => by
 obtain ⟨i, hi, hz, hs, hb⟩ := hinfo.get
 have h1 : ρ x = _ := hρ x (by simp [Op.operands]) _ hx
 have h2 : ρ y = _ := hρ y (by simp [Op.operands]) _ hy
 have hbc : i.bytes * c ≤ 64 * c := Nat.mul_le_mul_right c (by omega)
 have hr := run_make (P := P) w t e i z ht hi hz k k' 0 (c : Int) (by omega) (by omega) (by rw [← Int.natCast_mul]; omega) (by omega)
 refine out_val (x := .slice (some ⟨w.heap.size, 0, none⟩) 0 c) (w' := w.alloc (.cells (madeCells z.cells (c * i.size)) e)) ?_ ⟨Grow.alloc w _, w.heap.size, rfl, hB, by simp, ?_⟩
 ·simp only [execOp, h1, h2, Sem.run_bind, hr, Result.andThen_ok, Sem.run_pure, Int.toNat_natCast]; rfl
 ·rw [← hs]; exact heap_alloc_new w _
end
section
variable {P : Program} {n B : Nat} {ops : Array Oper} {E : Env} {ty : TypeId} {pos : String} {after : Array Edge}
theorem eff_appendRoom {t e : TypeId} {z : Value} {nb sz : Nat} {r x : Operand} {b k c s dst : Nat} {e' : TypeId} {xs us : List Value} {E' : Env} (ht : P.underlying t = some (.slice e)) (hinfo : InfoP P e z sz nb)
  (hr : E.at r = some (.v (.slice (some ⟨b, 0, none⟩) k c))) (hx : E.at x = some (oneP us)) (hu : us.length = sz) (h1 : us.all (·.oneCell') = true) (hkc : k < c) (hb : B ≤ b) (hblk : E.look s = some (blk b e' xs)) (hfit : c * sz ≤ xs.length) (hnt : ∀ q, P.underlying t ≠ some (.int q)) (hdst : dst < n) (hl : LeftS B e' b E' E) :
  Eff P n B ops ⟨some dst, .call { callee := .builtin .append, args := #[r, x], argTypes := #[t, t] }, ty, pos, after, none⟩ E ((dst, .v (.slice (some ⟨b, 0, none⟩) (k + 1) c)) :: (s, blk b e' (xs.take (k * sz) ++ us ++ xs.drop (k * sz + sz))) :: E') := by
 subst hu
 obtain ⟨i, hi, _, hs, _⟩ := hinfo.get
 intro κ a w K Q h hK
 have hre : a.eval r = _ := h.at_ r _ hr
 obtain ⟨ad, hxe, _, hcell⟩ := h.at_ x _ hx
 obtain ⟨hlt, hh⟩ := h.of s _ hblk
 have hload := run_loadCells_list (P := P) w ad us hcell
 have hkf : k * us.length + us.length ≤ c * us.length := by
  have : (k + 1) * us.length ≤ c * us.length := Nat.mul_le_mul_right _ hkc
  rwa [Nat.add_mul, Nat.one_mul] at this
 have hst := run_storeCells_at P b (k * us.length) e' us 0 xs.toArray w hh (by simp; omega) (fun v hv => List.all_eq_true.1 h1 v hv)
 have haddr : (⟨b, 0, none⟩ : Addr).add (k * us.length) = ⟨b, k * us.length, none⟩ := by unfold Addr.add; split <;> simp_all
 have hrun : (Builtin.append_ #[t, t] ty #[a.eval r, a.eval x]).run P w = .ok (.slice (some ⟨b, 0, none⟩) (k + 1) c) (w.setRow b (xs.take (k * us.length) ++ us ++ xs.drop (k * us.length + us.length)).toArray) := by
  rw [hre, hxe]
  simp only [Nat.add_zero] at hst
  simp [Builtin.append_, run_underlying ht, Builtin.lenOf, Builtin.firstCells, sizeOf, typeInfo, hi, hs, haddr, hload]
  rw [if_pos (by omega)]
  simp [hst]
 have hexec : (execOp a.eval ⟨some dst, .call { callee := .builtin .append, args := #[r, x], argTypes := #[t, t] }, ty, pos, after, none⟩).run P w = .ok (.value (.slice (some ⟨b, 0, none⟩) (k + 1) c)) (w.setRow b (xs.take (k * us.length) ++ us ++ xs.drop (k * us.length + us.length)).toArray) := by
  simp [execOp, resolve, invoke, builtin, hrun]
 have hwr : Wrote B e' b w (w.setRow b (xs.take (k * us.length) ++ us ++ xs.drop (k * us.length + us.length)).toArray) := Wrote.setRow hb hh _
 rw [if_pos (by simp [Region.wanted])]
 refine opR (by nofun) ?_
 unfold Oper.wp
 rw [hexec, Oper.upon_value]
 exact hK _ _ (hwr.below h.base) (St.put ((hl.st h hwr).push (d := blk b e' (xs.take (k * us.length) ++ us ++ xs.drop (k * us.length + us.length))) ⟨by simpa [World.setRow] using hlt, by simp [World.setRow, Array.getElem?_modify, hh]⟩) hdst rfl)
end
section
variable {P : Program} {n : Nat} {w₀ : World} {E : Env}
theorem End.ret3V {fn : Func} {r s t : Nat} {u v x : Value} (hr : fn.results = #[.tmp r, .tmp s, .tmp t]) (h1 : E.look r = some (.v u)) (h2 : E.look s = some (.v v)) (h5 : E.look t = some (.v x)) : End Cx.top w₀ n E (BP P fn (PostOf w₀ (.v (.tuple #[u, v, x]))) .ret) := fun a w gr hs => by
 have h3 : a.tmps[r]?.getD undef = u := by rw [← Array.getD_eq_getD_getElem?]; exact hs.of r _ h1
 have h4 : a.tmps[s]?.getD undef = v := by rw [← Array.getD_eq_getD_getElem?]; exact hs.of s _ h2
 have h6 : a.tmps[t]?.getD undef = x := by rw [← Array.getD_eq_getD_getElem?]; exact hs.of t _ h5
 exact BP.ret hs.defers ⟨.tuple #[u, v, x], by simp [results, hr, h3, h4, h6], _, rfl, gr, rfl⟩
theorem End.cellVV {fn : Func} {r s b r' r'' : Nat} {T e' : TypeId} {td : TypeDesc} {ys : List Value} {v' v'' : Value} (hr : fn.results = #[.cell r T, .tmp r', .tmp r'']) (ht : P.underlying T = some td) (hp : (match td with | .struct _ | .array _ _ => true | _ => false) = true) (hsz : SizeIs P T ys.length)
  (h1 : E.look r = some (.v (.pointer (some ⟨b, 0, none⟩)))) (h2 : E.look s = some (blk b e' ys)) (h5 : E.look r' = some (.v v')) (h7 : E.look r'' = some (.v v'')) : End Cx.top w₀ n E (BP P fn (PostOf w₀ (.v (.tuple #[aggV ys, v', v'']))) .ret) := fun a w gr hs => by
 have h3 : a.tmps[r]?.getD undef = .pointer (some ⟨b, 0, none⟩) := by rw [← Array.getD_eq_getD_getElem?]; exact hs.of r _ h1
 have h6 : a.tmps[r']?.getD undef = v' := by rw [← Array.getD_eq_getD_getElem?]; exact hs.of r' _ h5
 have h8 : a.tmps[r'']?.getD undef = v'' := by rw [← Array.getD_eq_getD_getElem?]; exact hs.of r'' _ h7
 obtain ⟨_, hh⟩ := hs.of s _ h2
 exact BP.ret hs.defers ⟨.tuple #[aggV ys, v', v''], by simp [results, hr, h3, h6, h8, asAddr, load_cell ht hp hsz hh], _, rfl, gr, rfl⟩
end
end
section
variable {κ : Cx}
section
variable {P : Program} {n : Nat} {w₀ : World} {ops : Array Oper} {E : Env} {ty : TypeId} {pos : String} {after : Array Edge}
def YieldsX (P : Program) (N : Nat) (l : Nat) (arg : Nat → D) (J : Nat → World → Prop) {X : Type} (XE : X → Env) : Prop :=
 ∀ (i : Nat) (W : World) (u : Value) (x : X), i < N → J i W → (arg i).Of W u → (∀ p ∈ XE x, p.2.Of W undef) → YieldAt (FR none) 0 P l #[u] W fun e W' => e = .returned (.bool true) ∧ J (i + 1) W' ∧ W.heap.size ≤ W'.heap.size ∧ ∀ p ∈ XE x, p.2.Of W' undef
structure SeqsX (P : Program) (w₀ : World) (N : Nat) (l : Nat) (arg : Nat → D) (V : Nat → Env) (J : Nat → World → Prop) {X : Type} (XE : X → Env) : Prop where
 grow : ∀ i a b, J i a → Grow a b → J i b
 holds : ∀ i W, J i W → Holds w₀ (V i) W
 yields : YieldsX P N l arg J XE
theorem SeqsX.sub {N l : Nat} {arg : Nat → D} {V V' : Nat → Env} {J : Nat → World → Prop} {X : Type} {XE : X → Env} (h : SeqsX P w₀ N l arg V J XE) (hs : ∀ i, ∀ p ∈ V' i, p ∈ V i) : SeqsX P w₀ N l arg V' J XE :=
 ⟨h.grow, fun i W hJ => ⟨(h.holds i W hJ).1, (h.holds i W hJ).2.1, fun p hp => (h.holds i W hJ).2.2 p (hs i p hp)⟩, h.yields⟩
theorem eff_yieldX {N l : Nat} {arg : Nat → D} {V : Nat → Env} {J : Nat → World → Prop} {X : Type} {XE : X → Env} {d vJ : Nat} {fv x : Operand} {ex : D} {tys : Array TypeId} {E' : Env} (hq : SeqsX P w₀ N l arg V J XE) (z : X) (i : Nat) (hi : i < N)
  (hJ : E.look vJ = some (jD (J i))) (hf : E.at fv = some (.v (.func (.yield l) #[] #[]))) (hx : E.at x = some ex) (hle : Le ex (arg i)) (hd : d < n) (hV : ∀ p ∈ V (i + 1), vbase ≤ p.1) (hXv : ∀ p ∈ XE z, vbase ≤ p.1) (hXE : ∀ p ∈ XE z, E.look p.1 = some p.2) (hn : n ≤ vbase)
  (hl : Left w₀.heap.size E' E) :
  Eff P n w₀.heap.size ops ⟨some d, .call { callee := .value fv, args := #[x], argTypes := tys }, ty, pos, after, none⟩ E ((d, .v (.bool true)) :: (vJ, jD (J (i + 1))) :: (V (i + 1) ++ XE z ++ E')) := by
 intro κ a w K Q h hK
 have h1 : a.eval fv = _ := h.at_ fv _ hf
 have h2 := hle.of (h.at_ x _ hx)
 have hJw : J i w := jD_get (hq.grow i) (h.of vJ _ hJ)
 have hund : ∀ t, vbase ≤ t → a.tmps.getD t undef = undef := fun t ht => by
  rw [Array.getD_eq_getD_getElem?, Array.getElem?_eq_none (by rw [h.size]; omega)]; rfl
 obtain ⟨fn, tmps, assign, body, hy, hr⟩ := hq.yields i w _ z hi hJw h2 fun p hp => by
  have := h.of _ _ (hXE p hp)
  rwa [hund _ (hXv p hp)] at this
 rw [if_pos (by simp [Region.wanted])]
 refine ⟨fun _ _ => trivial, ?_⟩
 rw [Oper.semAt_eq _ _ _ (by nofun)]
 have hrun : (execOp a.eval ⟨some d, .call { callee := .value fv, args := #[x], argTypes := tys }, ty, pos, after, none⟩).run P w = .ok (.round l fn tmps assign body) w := by
  simp [execOp, resolve, Deferred.ofValue, h1, invoke, hy]
 rw [hrun, Oper.uponIn_round]
 refine ⟨fun e => absurd e (by simp [FR, Fence.wide]), RoundIn.mono (F := FR κ.rd) (n := 0) hr ?_⟩
 rintro e W' ⟨rfl, hJ', hs, hX'⟩
 obtain ⟨hb, hsz, hv⟩ := hq.holds _ _ hJ'
 have hb0 := (hq.holds _ _ hJw).1
 have hbel := below_two hb0 hb hs
 refine hK _ _ hbel (St.put ⟨hsz, h.defers, h.size, fun t e he => ?_⟩ hd rfl)
 by_cases hts : vJ = t
 ·subst hts
  rw [look_here] at he; injection he with he; subst he
  exact jD_mk hJ'
 ·rw [look_past _ _ hts] at he
  rcases List.mem_append.1 (look_mem he) with hm | hm
  ·rcases List.mem_append.1 hm with hm | hm
   ·have := hv _ hm
    rwa [hund t (hV _ hm)]
   ·have := hX' _ hm
    rwa [hund t (hXv _ hm)]
  ·obtain ⟨h7, h8⟩ := hl _ hm
   exact h8 _ _ _ hbel h.base (h.of t e h7)
theorem End.seqX {fn : Func} {N l : Nat} {arg : Nat → D} {V : Nat → Env} {J : Nat → World → Prop} {X : Type} {XE : X → Env} {vJ : Nat} (hq : SeqsX P w₀ N l arg V J XE) (hr : fn.results = #[]) (hJ : E.look vJ = some (jD (J N))) :
  End Cx.top w₀ n E (BP P fn (fun e W => (∃ v, e = .returned v) ∧ J N W) .normal) := fun a w _ hs => by
 show LeavesInM (FR none) 0 P fn a.tmps _ a.defers .returning w
 rw [show a.defers = [] from hs.defers]
 exact ⟨_, by simp [results, hr]; rfl, ⟨_, rfl⟩, jD_get (hq.grow N) (hs.of vJ _ hJ)⟩
theorem assign_box {l tp t : Nat} {id : Nat} {ty ty' pos pos'} {e1 e2 : Array Edge} {T : TypeId} {zs ys : List Value} {E : Env} {a : Act} {w : World} (hz : ZeroIs P T zs) (hsz : SizeIs P T ys.length) (h1 : ys.all (·.oneCell') = true) (ho : zs.length = ys.length)
  (ht : t < n) (hne : t ≠ tp) (hb : w₀.heap.size ≤ w.heap.size) (h : St ⟨some l, []⟩ n w₀.heap.size ((tp, .v (aggV ys)) :: E) a w) :
  (Code.region id #[⟨some t, .alloc T, ty, pos, e1, none⟩, ⟨none, .store T (.tmp t) (.tmp tp), ty', pos', e2, none⟩] false).wpIn (FR (some l)) 0 P (fun e a' w' => e = .normal ∧ Grow w w' ∧ St ⟨some l, []⟩ n w₀.heap.size ((t, freshV w₀.heap.size [] T ys) :: (tp, .v (aggV ys)) :: E) a' w') a w := by
 obtain ⟨zi, zv, hzi, hzv, hzc⟩ := hz.get
 have ht' : t < a.tmps.size := by rw [h.size]; exact ht
 have hv : a.eval (.tmp tp) = aggV ys := h.at_ (.tmp tp) _ (look_here _ _ _)
 refine wpIn_region_list ?_
 obtain ⟨W1, hW1⟩ : ∃ W1, w.alloc (.cells zs.toArray T) = W1 := ⟨_, rfl⟩
 have hh : W1.heap[w.heap.size]? = some (.cells zs.toArray T (0,0)) := by rw [← hW1]; exact heap_alloc_new w _
 have hg1 : Grow w W1 := by rw [← hW1]; exact Grow.alloc w _
 have hlt : w.heap.size < W1.heap.size := (Array.getElem?_eq_some_iff.1 hh).1
 refine wpListR_step (κ := ⟨some l, []⟩) fun K hK => ?_
 rw [if_pos (by simp [Region.wanted])]
 refine opR (by nofun) ?_
 unfold Oper.wp
 have hr1 : (execOp a.eval ⟨some t, .alloc T, ty, pos, e1, none⟩).run P w = .ok (.value (ptr w.heap.size)) W1 := by
  rw [← hW1]; simp [execOp, Instr.alloc, zeroValue, typeInfo, hzi, hzv, newVar, newRow, hzc]
 rw [hr1, Oper.upon_value]
 refine hK _ _ ?_;refine wpListR_step (κ := ⟨some l, []⟩) fun K' hK' => ?_
 rw [if_pos (by simp [Region.wanted])]
 refine opR (by nofun) ?_
 unfold Oper.wp
 have hp : (a.put (some t) (ptr w.heap.size)).eval (.tmp t) = ptr w.heap.size := getD_put_here a _ ht'
 have hx : (a.put (some t) (ptr w.heap.size)).eval (.tmp tp) = aggV ys := (getD_put_past a _ hne).trans hv
 have hr2 : (execOp (a.put (some t) (ptr w.heap.size)).eval ⟨none, .store T (.tmp t) (.tmp tp), ty', pos', e2, none⟩).run P W1 = .ok .skip (W1.setRow w.heap.size ys.toArray) := by
  have := run_storeVar_row (P := P) W1 w.heap.size T T zs.toArray ys.toArray hh (by simpa [SizeIs] using hsz) (by simpa using ho) (by simpa using h1)
  simp [execOp, hp, hx, Instr.storeAt, Instr.sureAddr, aggV, this]
 rw [hr2, Oper.upon_skip]
 refine hK' _ _ (wpListIn_nil ?_)
 have hwr := Wrote.setRow (B := w.heap.size) (Nat.le_refl _) hh ys.toArray
 have hg2 : Grow w (W1.setRow w.heap.size ys.toArray) := Below.trans hg1 (hwr.below (Nat.le_of_lt hlt))
 refine ⟨rfl, hg2, ?_⟩
 have hst := h.grow hg2
 exact St.put (t := t) (d := freshV w₀.heap.size [] T ys) (h.grow hg2) ht ⟨w.heap.size, rfl, hb, (fun _ h => by cases h), by simpa using hlt, setRow_heap W1 _ _ _ T _ hh⟩
theorem A.rangeX {X : Type} {XE : X → Env} {Q : Exit → Act → World → Prop} {g : Operand} {tp gf N vL vD : Nat} {assign body : Code} {lb : List Value} {S : Env} {V : Nat → Env} {Eb : Nat → X → Env} {arg : Nat → D} (hg : E.at g = some (.v (.func (.func gf) #[] lb.toArray)))
  (hgf : ∃ fn, P.funcs[gf]? = some fn ∧ (fn.name == "runtime.NumGoroutine") = false ∧ fn.body.isNone = false) (htp : tp < n) (hn : n ≤ vbase) (h0 : Sub (V 0 ++ S) E)
  (hS : ∀ p ∈ S, p.1 < vbase ∧ ((∃ x, p.2 = .v x) ∨ ∃ d, p.2 = old w₀.heap.size d)) (hV : ∀ i, ∀ p ∈ V i, vbase ≤ p.1) (hX : ∀ x, ∀ p ∈ XE x, vbase ≤ p.1) (hfX : ∀ x l, w₀.heap.size ≤ l → ∀ p ∈ XE x, Firm l p.2)
  (hfV : ∀ i l, w₀.heap.size ≤ l → ∀ p ∈ V i, Firm l p.2) (hfE : ∀ i x l, w₀.heap.size ≤ l → ∀ p ∈ Eb i x, Firm l p.2)
  (hseq : ∀ (J : Nat → World → Prop) (l : Nat) (w : World), SeqsX P w₀ N l arg V J XE → J 0 w → Calls P gf (.func (.yield l) #[] #[] :: lb).toArray w fun e W => (∃ v, e = .returned v) ∧ J N W)
  (hassign : ∀ i l a w x, i < N → w₀.heap.size ≤ w.heap.size → St ⟨some l, []⟩ n w₀.heap.size ((tp, arg i) :: (V i ++ S ++ XE x)) a w → assign.wpIn (FR (some l)) 0 P (fun e a' w' => e = .normal ∧ Grow w w' ∧ St ⟨some l, []⟩ n w₀.heap.size (Eb i x) a' w') a w)
  (hbody : ∀ i l D r m x, i < N → A ⟨some l, []⟩ P w₀ n body ((vL, recD l (.loop r) m) :: (vD, recD D (.deferred (some [])) 0) :: Eb i x) (RoundQ w₀ ((vL, recD l (.loop r) m) :: (vD, recD D (.deferred (some [])) 0) :: (V (i + 1) ++ XE x))))
  (hend : ∀ D, w₀.heap.size ≤ D → End ⟨none, [{ target := .collected D, args := #[] }]⟩ w₀ n ((vD, recD D (.deferred (some [])) 0) :: (V N ++ S)) (Q .normal)) :
  A ⟨none, []⟩ P w₀ n (.rangeFunc g #[tp] assign body) E Q := fun a w hb hst => by
 show (Code.rangeFunc g #[tp] assign body).wpIn (FR none) 0 P Q a w
 refine wpIn_rangeFunc fun fn _ => ?_
 obtain ⟨rec, hrec⟩ : ∃ rec : LoopState → Option Code → Loop, rec = fun st pe => { state := st, pending := pe, fn, tmps := a.tmps, params := #[tp], assign, body, defers := w.heap.size } := ⟨_, rfl⟩
 obtain ⟨W1, hW1⟩ : ∃ W1, (w.alloc (.deferred (some []))).alloc (.loop (rec .ready none)) = W1 := ⟨_, rfl⟩
 have hg' : a.eval g = .func (.func gf) #[] lb.toArray := hst.at_ g _ hg
 obtain ⟨gfn, hf1, hf2, hf3⟩ := hgf
 have eg : ∀ args w, (callFunc gf args).run P w = .ok (.enter gf args) w := fun args w => by
  have h2' : ¬ gfn.name = "runtime.NumGoroutine" := by simpa using hf2
  have h3' : ¬ gfn.body = none := by intro h; rw [h] at hf3; cases hf3
  simp [callFunc, hf1, h2', h3']
 have hgr : Grow w W1 := by
  rw [← hW1]; exact (Grow.alloc w _).trans (Grow.alloc _ _)
 have hL1 : W1.heap[w.heap.size + 1]? = some (.loop (rec .ready none)) := by
  rw [← hW1]; have := World.alloc_heap_new (w.alloc (.deferred (some []))) (.loop (rec .ready none)); rwa [World.size_alloc] at this
 have hK1 : W1.heap[w.heap.size]? = some (.deferred (some [])) := by
  rw [← hW1]; exact (Below.heap_alloc _ _ _ (by simp)).trans (World.alloc_heap_new w _)
 have hund : ∀ t, vbase ≤ t → a.tmps.getD t undef = undef := fun t ht => by
  rw [Array.getD_eq_getD_getElem?, Array.getElem?_eq_none (by rw [hst.size]; omega)]; rfl
 have hH0 : Holds w₀ (V 0) w := ⟨hb, hst.base, fun p hp => by
  have h1 := hst.of p.1 p.2 (h0 p (List.mem_append_left _ hp))
  rwa [hund _ (hV 0 p hp)] at h1⟩
 -- what holds between two rounds
 have hstS : ∀ (κ' : Cx) (i : Nat) (W : World) (a' : Act) (E' : Env), κ'.df = a'.defers → a'.tmps.size = n → Holds w₀ (V i) W → w.heap.size ≤ W.heap.size → (∀ t e, E'.look t = some e → e.Of W (a'.tmps.getD t undef) ∨ ((t, e) ∈ V i ++ S ∧ (t < vbase → a'.tmps.getD t undef = a.tmps.getD t undef))) → St κ' n w₀.heap.size E' a' W := by
  intro κ' i W a' E' hd hsz hH hs hE
  refine ⟨hH.2.1, hd.symm, hsz, fun t e he => ?_⟩
  rcases hE t e he with h | ⟨hm, hsame⟩
  ·exact h
  ·rcases List.mem_append.1 hm with hm | hm
   ·have h1 := hH.2.2 _ hm
    have ht := hV i _ hm
    simp only at ht
    rwa [Array.getD_eq_getD_getElem?, Array.getElem?_eq_none (by rw [hsz]; omega)]
   ·obtain ⟨ht, hk⟩ := hS _ hm
    rw [hsame ht]
    have h1 := hst.of t e (h0 _ (List.mem_append_right _ hm))
    rcases hk with ⟨x, hx⟩ | ⟨d, hd'⟩
    ·simp only at hx; subst hx; exact h1
    ·simp only at hd'; subst hd'
     exact ⟨hH.2.1, D.OfB.keep h1.2 (below_two hb hH.1 hs)⟩
 refine ⟨w.heap.size + 1, [{ target := .collected w.heap.size, args := #[] }], W1, { target := .fn (.func gf) lb.toArray, args := #[.func (.yield (w.heap.size + 1)) #[] #[]] }, W1, gf,
  #[.func (.yield (w.heap.size + 1)) #[] #[]] ++ lb.toArray, W1, ?_, ?_, fun _ _ => trivial, ?_, fun e => absurd e (by simp [FR, Fence.wide]), ?_⟩
 ·rw [← hW1, hrec]; exact run_enterLoop_outer _ _ _ _ _
 ·have hy : a.eval (.const (.func (.yield (w.heap.size + 1)) #[] #[])) = .func (.yield (w.heap.size + 1)) #[] #[] := rfl
  simp only [resolve, hg']
  simp [Deferred.ofValue, hy]
 ·simp [invoke, eg]
 ·have harr : (#[.func (.yield (w.heap.size + 1)) #[] #[]] ++ lb.toArray : Array Value) = (.func (.yield (w.heap.size + 1)) #[] #[] :: lb).toArray := by simp
  rw [harr]
  refine callsIn_FR.2 ((hseq (fun i W => Holds w₀ (V i) W ∧ W.heap[w.heap.size + 1]? = some (.loop (rec .ready none)) ∧ W.heap[w.heap.size]? = some (.deferred (some []))) (w.heap.size + 1) W1 ⟨?_, fun i W h => h.1, ?_⟩ ⟨hH0.grow hgr, hL1, hK1⟩).mono ?_)
  ·rintro i x y ⟨h1, h2, h3⟩ k
   exact ⟨h1.grow k, (k.block _ (Array.getElem?_eq_some_iff.1 h2).1).trans h2, (k.block _ (Array.getElem?_eq_some_iff.1 h3).1).trans h3⟩
  ·-- one round
   rintro i W u x hi ⟨hH, hl, hk⟩ hu hXE
   have hlt : w.heap.size + 1 < W.heap.size := (Array.getElem?_eq_some_iff.1 hl).1
   have hBl : w₀.heap.size ≤ w.heap.size + 1 := by have := hst.base; omega
   have hy := run_yield (P := P) (args := #[u]) hl (by rw [hrec]; rfl)
   rw [hrec] at hy
   refine ⟨fn, _, assign, body, hy, roundIn_of_wpIn (F := FR none) trivial ?_⟩
   have htm : (List.foldl (fun (tmps : Array Value) (x : Tmp × Value) => tmps.setIfInBounds x.1 x.2) a.tmps ((#[tp].zip #[u]).toList)) = a.tmps.setIfInBounds tp u := by simp
   have hsta : St ⟨some (w.heap.size + 1), []⟩ n w₀.heap.size ((tp, arg i) :: (V i ++ S ++ XE x)) { tmps := a.tmps.setIfInBounds tp u, defers := [] } W := by
    refine hstS _ i W _ _ rfl (by simp [hst.size]) hH (by omega) fun t e he => ?_
    by_cases hts : tp = t
    ·subst hts
     rw [look_here] at he; injection he with he; subst he
     left
     have : tp < a.tmps.size := by rw [hst.size]; exact htp
     simpa [this] using hu
    ·rw [look_past _ _ hts] at he
     rcases List.mem_append.1 (look_mem he) with hm | hm
     ·exact .inr ⟨hm, fun _ => by simp [Array.getElem?_setIfInBounds_ne hts]⟩
     ·left
      have h1 := hXE _ hm
      have h2 := hX x _ hm
      simp only at h2 h1
      have h3 : ({ tmps := a.tmps.setIfInBounds tp u, defers := [] } : Act).tmps.getD t undef = undef := by
       rw [Array.getD_eq_getD_getElem?, Array.getElem?_eq_none (by simp [hst.size]; omega)]; rfl
      rw [h3]; exact h1
   have has := hassign i (w.heap.size + 1) _ W x hi hH.2.1 hsta
   have hrun0 : ({ tmps := Array.foldl (fun (tmps : Array Value) (x : Tmp × Value) => tmps.setIfInBounds x.1 x.2) a.tmps (#[tp].zip #[u]), defers := [] } : Act) = { tmps := a.tmps.setIfInBounds tp u, defers := [] } := by simp
   show assign.wpIn (FR (some (w.heap.size + 1))) 0 P _ _ W
   refine wpIn_mono (F := FR (some (w.heap.size + 1))) (n := 0) (by first | exact has | (rw [← hrun0] at has; exact has)) ?_
   rintro e a1 W2 ⟨rfl, hg2, hst2⟩
   have hl2 : W2.heap[w.heap.size + 1]? = some (.loop (rec .ready none)) := (hg2.block _ hlt).trans hl
   have hk2 : W2.heap[w.heap.size]? = some (.deferred (some [])) := (hg2.block _ (by omega)).trans hk
   have hH2 := hH.grow hg2
   have hlt2 : w.heap.size + 1 < W2.heap.size := (Array.getElem?_eq_some_iff.1 hl2).1
   refine ⟨_, run_beginRound hl2 (by rw [hrec]), ?_⟩
   have hl3 : (W2.putObj (w.heap.size + 1) (.loop { rec .ready none with state := .busy })).heap[w.heap.size + 1]? = some (.loop { rec .ready none with state := .busy }) := World.putObj_heap_same hlt2
   have hk3 : (W2.putObj (w.heap.size + 1) (.loop { rec .ready none with state := .busy })).heap[w.heap.size]? = some (.deferred (some [])) := (World.putObj_heap_other (by omega)).trans hk2
   have hH3 := hH2.putObj (.loop { rec .ready none with state := .busy }) hl2 rfl hBl (hfV i _ hBl)
   have hst3 : St ⟨some (w.heap.size + 1), []⟩ n w₀.heap.size ((vL, recD (w.heap.size + 1) (.loop { rec .ready none with state := .busy }) W.heap.size) :: (vD, recD w.heap.size (.deferred (some [])) 0) :: Eb i x) a1 (W2.putObj (w.heap.size + 1) (.loop { rec .ready none with state := .busy })) := by
    refine ⟨hH3.2.1, hst2.defers, hst2.size, fun t e he => ?_⟩
    by_cases hts : vL = t
    ·subst hts
     rw [look_here] at he; injection he with he; subst he
     exact ⟨by simpa using hlt2, by simpa using hg2.size, hl3⟩
    ·rw [look_past _ _ hts] at he
     by_cases hts' : vD = t
     ·subst hts'
      rw [look_here] at he; injection he with he; subst he
      exact ⟨by simp; omega, Nat.zero_le _, hk3⟩
     ·rw [look_past _ _ hts'] at he
      exact hfE i x _ hBl _ (look_mem he) W2 _ _ _ hl2 rfl (hst2.of t e he)
   refine wpIn_mono (F := FR (some (w.heap.size + 1))) (n := 0) (hbody i _ _ _ _ x hi a1 _ hH3.1 hst3) ?_
   rintro e a3 W3 hp
   cases e with
   | normal =>
    obtain ⟨hb3, hs3, hv3⟩ := hp
    obtain ⟨hlt3, hm3, hl4⟩ := hv3 _ List.mem_cons_self
    obtain ⟨_, _, hk4⟩ := hv3 _ (List.mem_cons_of_mem _ List.mem_cons_self)
    have hH4 : Holds w₀ (V (i + 1)) W3 := ⟨hb3, hs3, fun p hp => hv3 p (List.mem_cons_of_mem _ (List.mem_cons_of_mem _ (List.mem_append_left _ hp)))⟩
    have hX4 : ∀ p ∈ XE x, p.2.Of W3 undef := fun p hp => hv3 p (List.mem_cons_of_mem _ (List.mem_cons_of_mem _ (List.mem_append_right _ hp)))
    have hend := run_endRound (P := P) none hl4
    refine ⟨_, _, hend, rfl, ⟨hH4.putObj _ hl4 rfl hBl (hfV _ _ hBl), ?_, (World.putObj_heap_other (by omega)).trans hk4⟩, by simpa using hm3, fun p hp => hfX x _ hBl p hp W3 _ _ _ hl4 rfl (hX4 p hp)⟩
    have := World.putObj_heap_same (o := .loop { { rec .ready none with state := .busy } with state := .ready, pending := none }) hlt3
    rw [hrec] at this ⊢
    exact this
   | _ => exact hp.elim
  ·-- behind it
   rintro e W2 ⟨⟨v, rfl⟩, hH, hl, hk⟩
   have hBl : w₀.heap.size ≤ w.heap.size + 1 := by have := hst.base; omega
   have hlt2 : w.heap.size + 1 < W2.heap.size := (Array.getElem?_eq_some_iff.1 hl).1
   have hel := run_endLoop (P := P) hl (by rw [hrec]; simp)
   refine ⟨none, _, by rw [hrec] at hel; exact hel, ?_⟩
   have hH3 := hH.putObj (.loop { state := .exhausted, pending := none, fn, tmps := a.tmps, params := #[tp], assign, body, defers := w.heap.size }) hl rfl hBl (hfV N _ hBl)
   refine hend w.heap.size hst.base _ _ hH3.1 (hstS _ N _ _ _ (by simp [hst.defers]) hst.size hH3 (by simp; omega) fun t e he => ?_)
   by_cases hts : vD = t
   ·subst hts
    rw [look_here] at he; injection he with he; subst he
    exact .inl ⟨by simp; omega, Nat.zero_le _, (World.putObj_heap_other (by omega)).trans hk⟩
   ·rw [look_past _ _ hts] at he
    exact .inr ⟨look_mem he, fun _ => rfl⟩
end
end
section
variable {κ : Cx}
def mx (cs : List Nat) : Nat := cs.foldl max 0
def nonceL (s c : Nat) : List UInt8 := be 4 s ++ be 8 c
theorem nonceL_length (s c : Nat) : (nonceL s c).length = 12 := by simp [nonceL, be_length]
section
variable {P : Program} {B : Nat} {E : Env} {dst : Option Tmp} {ty : TypeId} {pos : String} {after : Array Edge} {guard : Option (Nat × Bool)}
def LitS (E : Env) : List (Nat × Value) → List (Nat × Operand) → Prop
 | [], [] => True
 | (i, u) :: us, (j, x) :: ps => i = j ∧ E.at x = some (.v u) ∧ LitS E us ps
 | _, _ => False
theorem LitS.map {ρ : Operand → Value} : ∀ {us : List (Nat × Value)} {ps : List (Nat × Operand)}, LitS E us ps → (∀ x, x ∈ ps.map (·.2) → ∀ v, E.at x = some (.v v) → ρ x = v) → ps.map (fun p => (p.1, ρ p.2)) = us
 | [], [], _, _ => rfl
 | [], _ :: _, h, _ => h.elim
 | _ :: _, [], h, _ => h.elim
 | (i, u) :: us, (j, x) :: ps, ⟨h1, h2, h3⟩, hρ => by
  subst h1
  simp only [List.map_cons, hρ x (by simp) u h2]
  rw [LitS.map h3 fun y hy v hv => hρ y (by simp only [List.map_cons, List.mem_cons]; exact .inr hy) v hv]
theorem ok_litS {t : TypeId} {ps : Array (Nat × Operand)} (us : List (Nat × Value)) (ys : List Value) (hl : LitS E us ps.toList) (hb : P.built t us = some ys.toArray) : OpOk P B ⟨dst, .build t ps, ty, pos, after, guard⟩ E (.v (aggV ys)) :=
 ok_lit us ys (fun _ hρ => hl.map hρ) hb
end
end
section
variable {κ : Cx}
def un (n : Nat) : Nat → Nat
 | 0 => n
 | k + 1 => (un n k + 3) / 4
theorem un_lt (n : Nat) : ∀ (k j : Nat), j < un n k ↔ j * 4 ^ k < n
 | 0, j => by simp [un]
 | k + 1, j => by
  have h1 : j < (un n k + 3) / 4 ↔ j * 4 < un n k := by omega
  show j < (un n k + 3) / 4 ↔ _
  rw [h1, un_lt n k, Nat.mul_assoc, Nat.pow_succ, Nat.mul_comm 4]
theorem un_pos {n : Nat} (h : 1 ≤ n) (k : Nat) : 1 ≤ un n k := (un_lt n k 0).2 (by omega)
theorem un_le {n : Nat} (h : 1 ≤ n) : ∀ k, un n k ≤ n
 | 0 => Nat.le_refl _
 | k + 1 => by
  have := un_le h k
  have := un_pos h k
  show (un n k + 3) / 4 ≤ n
  omega
theorem un_succ (n k : Nat) : un n (k + 1) = (un n k + 3) / 4 := rfl
def hg (n : Nat) : Nat := if n ≤ 4 then 0 else if n ≤ 16 then 1 else if n ≤ 64 then 2 else if n ≤ 256 then 3 else if n ≤ 1024 then 4 else 5
theorem hg_le (n : Nat) : hg n ≤ 5 := by unfold hg; (repeat' split) <;> omega
theorem hg_up {n : Nat} (h : n ≤ 4096) : n ≤ 4 ^ (hg n + 1) := by
 unfold hg
 split
 ·simpa
 split
 ·simpa
 split
 ·simpa
 split
 ·simpa
 split
 ·simpa
 ·simpa
theorem hg_lo {n : Nat} (h0 : hg n ≠ 0) : 4 ^ hg n < n := by
 unfold hg at *
 split at h0
 ·exact absurd rfl h0
 rw [if_neg (by omega)]
 split
 ·simp; omega
 split
 ·simp; omega
 split
 ·simp; omega
 split
 ·simp; omega
 ·simp; omega
theorem un_root {n : Nat} (h1 : 1 ≤ n) (h2 : n ≤ 4096) : un n (hg n + 1) = 1 := by
 have := un_pos h1 (hg n + 1)
 have h3 := un_lt n (hg n + 1) 1
 have := hg_up h2
 omega
theorem un_big {n k : Nat} (hk : k ≤ hg n) (h0 : k ≠ 0) : 1 < un n k := by
 rw [un_lt, Nat.one_mul]
 exact Nat.lt_of_le_of_lt (Nat.pow_le_pow_right (by decide) hk) (hg_lo (by omega))
theorem un_case {n k : Nat} (h1 : 1 ≤ n) (h2 : n ≤ 4096) (hk : k ≤ hg n + 1) : (1 < un n k ∧ k ≤ hg n) ∨ (¬ 1 < un n k ∧ k = 0 ∧ k ≤ hg n) ∨ (¬ 1 < un n k ∧ k ≠ 0 ∧ k = hg n + 1) := by
 by_cases h : k ≤ hg n
 ·by_cases h0 : k = 0
  ·by_cases h3 : 1 < un n k
   ·exact .inl ⟨h3, h⟩
   ·exact .inr (.inl ⟨h3, h0, h⟩)
  ·exact .inl ⟨un_big h h0, h⟩
 ·obtain rfl : k = hg n + 1 := by omega
  exact .inr (.inr ⟨by rw [un_root h1 h2]; decide, by omega, rfl⟩)
def tot (n : Nat) : Nat → Nat
 | 0 => 0
 | l + 1 => tot n l + un n (l + 1)
theorem tot_le {n : Nat} (h : 1 ≤ n) : ∀ l, tot n l ≤ n * l
 | 0 => Nat.le_refl _
 | l + 1 => by
  have := tot_le h l
  have := un_le h (l + 1)
  show tot n l + un n (l + 1) ≤ n * (l + 1)
  rw [Nat.mul_succ]; omega
theorem tot_small {n l : Nat} (h1 : 1 ≤ n) (h2 : n ≤ 4096) (hl : l ≤ 6) : tot n l ≤ 24576 := Nat.le_trans (tot_le h1 l) (Nat.le_trans (Nat.mul_le_mul h2 hl) (by decide))
theorem tot_succ (n l : Nat) : tot n (l + 1) = tot n l + un n (l + 1) := rfl
theorem tot_mono {n : Nat} {a b : Nat} (h : a ≤ b) : tot n a ≤ tot n b := by
 induction h with
 | refl => exact Nat.le_refl _
 | step _ ih => exact Nat.le_trans ih (Nat.le_add_right _ _)
def bs (n l : Nat) : Nat := 2 * n + 2 * tot n l
def pts (n l j : Nat) : Nat := min (un n l - 4 * j) 4
theorem pts_pos {n l j : Nat} (h : j < un n (l + 1)) : 1 ≤ pts n l j ∧ pts n l j ≤ 4 ∧ 4 * j < un n l := by
 rw [un_succ] at h
 unfold pts; omega
theorem pow_small {l : Nat} (h : l ≤ 6) : 4 ^ l ≤ 4096 := Nat.le_trans (Nat.pow_le_pow_right (by decide) h) (by decide)
theorem pow_pos4 (l : Nat) : 1 ≤ 4 ^ l := Nat.pos_of_ne_zero (by simp)
def IsP (n : Nat) (l j : Int) : Prop := ∃ a b : Nat, l = (a : Int) ∧ j = (b : Int) ∧ a ≤ hg n ∧ b < un n (a + 1)
theorem isP_nat {n a b : Nat} : IsP n (a : Int) (b : Int) ↔ a ≤ hg n ∧ b < un n (a + 1) :=
  ⟨fun ⟨a', b', h1, h2, h3, h4⟩ => by obtain rfl : a = a' := by omega
                                      obtain rfl : b = b' := by omega
                                      exact ⟨h3, h4⟩, fun ⟨h3, h4⟩ => ⟨a, b, rfl, rfl, h3, h4⟩⟩
def rowU (n k : Nat) : List Value := (List.range 6).map fun i => nI (if i < k then un n (i + 1) else 0)
theorem rowU_length (n k : Nat) : (rowU n k).length = 6 := by simp [rowU]
theorem rowU_get {n k i : Nat} (h : i < k) (hi : i < 6) : (rowU n k)[i]? = some (nI (un n (i + 1))) := by simp [rowU, hi, h]
theorem rowU_zero (n : Nat) : (List.replicate 6 (.int .i64 0) : List Value) = rowU n 0 := by simp [rowU, List.range, List.range.loop, List.replicate]
theorem rowU_set {n k : Nat} (h : k < 6) : (rowU n k).take (k * 1) ++ [nI (un n (k + 1))] ++ (rowU n k).drop (k * 1 + 1) = rowU n (k + 1) := by
 apply List.ext_getElem?
 intro i
 rw [Nat.mul_one]
 have hl : ((rowU n k).take k).length = k := by rw [List.length_take, rowU_length]; omega
 rcases Nat.lt_trichotomy i k with hik | rfl | hik
 ·rw [List.append_assoc, List.getElem?_append_left (by omega), List.getElem?_take, if_pos hik, rowU_get hik (by omega), rowU_get (by omega) (by omega)]
 ·rw [List.append_assoc, List.getElem?_append_right (by omega), hl, Nat.sub_self, rowU_get (by omega) (by omega)]; rfl
 ·rw [List.getElem?_append_right (by simp only [List.length_append, hl, List.length_singleton]; omega)]
  simp only [List.length_append, hl, List.length_singleton, List.getElem?_drop, show k + 1 + (i - (k + 1)) = i from by omega]
  unfold rowU
  simp only [List.getElem?_map]
  cases hi : (List.range 6)[i]? with
  | none => rfl
  | some x =>
   have hx : i < 6 ∧ x = i := by
    obtain ⟨h1, h2⟩ := List.getElem?_eq_some_iff.1 hi
    simp at h1 h2; exact ⟨h1, h2.symm⟩
   obtain ⟨_, rfl⟩ := hx
   simp only [Option.map_some]
   rw [if_neg (by omega), if_neg (by omega)]
def shV (n b : Nat) : List Value := [nI n, .slice (some ⟨b, 0, none⟩) (hg n + 1) 6]
def plV (l j : Nat) : List Value := [nI l, nI j]
def stp (n x i : Nat) : List Value := plV (hg n - i) (x / 4 ^ (hg n - i + 1))
def pathV (n x k : Nat) : List Value := (List.range k).flatMap (stp n x) ++ List.replicate (2 * (hg n + 1 - k)) (.int .i64 0)
theorem steps_length (n x k : Nat) : ((List.range k).flatMap (stp n x)).length = 2 * k := by
 induction k with
 | zero => rfl
 | succ k ih => rw [List.range_succ, List.flatMap_append, List.length_append, ih]; simp [stp, plV]; omega
theorem pathV_length {n x k : Nat} (h : k ≤ hg n + 1) : (pathV n x k).length = 2 * (hg n + 1) := by
 unfold pathV; rw [List.length_append, steps_length, List.length_replicate]; omega
theorem pathV_set {n x k : Nat} (h : k < hg n + 1) : (pathV n x k).take (k * 2) ++ stp n x k ++ (pathV n x k).drop (k * 2 + 2) = pathV n x (k + 1) := by
 have hl := steps_length n x k
 unfold pathV
 rw [List.take_left' (by omega), List.drop_append, List.drop_of_length_le (by omega), List.nil_append, List.drop_replicate, List.range_succ, List.flatMap_append]
 simp only [List.flatMap_cons, List.flatMap_nil, List.append_nil]
 rw [hl, show 2 * (hg n + 1 - k) - (k * 2 + 2 - 2 * k) = 2 * (hg n + 1 - (k + 1)) from by omega]
theorem pathV_full (n x : Nat) : pathV n x (hg n + 1) = (List.range (hg n + 1)).flatMap (stp n x) := by simp [pathV]
theorem pathV_get {n x i : Nat} (h : i < hg n + 1) : ((pathV n x (hg n + 1)).drop (i * 2)).take 2 = stp n x i := by
 rw [pathV_full]
 generalize hg n + 1 = m at h
 induction m with
 | zero => omega
 | succ m ih =>
  have hl := steps_length n x m
  rw [List.range_succ, List.flatMap_append]
  simp only [List.flatMap_cons, List.flatMap_nil, List.append_nil]
  rcases Nat.lt_or_ge i m with hi | hi
  ·rw [List.drop_append_of_le_length (by omega), List.take_append_of_le_length (by rw [List.length_drop]; omega)]
   exact ih hi
  ·obtain rfl : i = m := by omega
   rw [List.drop_append, List.drop_of_length_le (by omega), List.nil_append, hl, show i * 2 - 2 * i = 0 from by omega, List.drop_zero]
   rfl
theorem FnM.key {P : Program} {f : FuncId} {k : Nat} {e d : D} {ds : List D} (k' : Nat) (h : FnM P f [(k, e)] ds d) : FnM P f [(k', e)] ds d :=
 ⟨h.body, fun vs w hM h1 h2 => h.calls vs w (fun p hp => by simp only [List.mem_cons, List.not_mem_nil, or_false] at hp; subst hp; exact hM (k', e) List.mem_cons_self) h1 h2⟩
section
variable {P : Program} {B : Nat} {E : Env} {dst : Option Tmp} {ty : TypeId} {pos : String} {after : Array Edge} {guard : Option (Nat × Bool)}
theorem ok_callK {f : FuncId} {args : Array Operand} {argTypes : Array TypeId} {ds : List D} {d e : D} {k₀ : Nat} (k : Nat) (hf : FnM P f [(k₀, e)] ds d) (hk : vbase ≤ k) (hE : E.look k = some e) (ha : Args E ds args.toList) :
  OpOk P B ⟨dst, .call { callee := .value (.func f), args := args, argTypes := argTypes }, ty, pos, after, guard⟩ E d :=
 ok_callM (hf.key k) (Sub.cons hE Sub.nil) (fun p hp => by simp only [List.mem_cons, List.not_mem_nil, or_false] at hp; subst hp; exact hk) ha
theorem ok_neBoolS {t t' : TypeId} {x y : Operand} {a b : Bool} (ht : P.underlying t = some .bool) (hx : E.at x = some (.v (.bool a))) (hy : E.at y = some (.v (.bool b))) : OpOk P B ⟨dst, .binOp .neq t x y t', ty, pos, after, guard⟩ E (.v (.bool (!(a == b)))) := fun ρ w _ _ hρ => by
 have h1 : ρ x = .bool a := hρ x (by simp [Op.operands]) _ hx
 have h2 : ρ y = .bool b := hρ y (by simp [Op.operands]) _ hy
 have h3 := run_equalIn_bool' (P := P) w 9999 t a b ht
 exact out_val (w' := w) (by simp [execOp, h1, h2, eqGuard, binOp, Op.equal, Op.maxDepth, h3]) ⟨Grow.refl w, rfl⟩
theorem ok_indexS {t e : TypeId} {z : Value} {nb sz : Nat} {x i : Operand} {b o n c : Nat} {k : IntKind} {j : Int} (m : Nat) (ht : P.underlying t = some (.slice e)) (hs : InfoP P e z sz nb) (hx : E.at x = some (.v (.slice (some ⟨b, o, none⟩) n c))) (hi : E.at i = some (.v (.int k j)))
  (h0 : j = (m : Int)) (hn : m < n) : OpOk P B ⟨dst, .indexAddr t x i, ty, pos, after, guard⟩ E (.v (.pointer (some ⟨b, o + m * sz, none⟩))) := fun ρ w _ _ hρ => by
 have h1 : ρ x = _ := hρ x (by simp [Op.operands]) _ hx
 have hi' : ρ i = .int k j := hρ i (by simp [Op.operands]) _ hi
 obtain ⟨info, hinfo, _, hsize, _⟩ := hs.get
 subst h0
 refine out_val (w' := w) ?_ ⟨Grow.refl w, rfl⟩
 simp [execOp, h1, hi', Instr.indexAt, asIntOf, run_underlying ht, sizeOf, typeInfo, hinfo, hsize, hn, add_lit0]
theorem ok_makePl {t e : TypeId} {x y : Operand} {nb : Nat} {k k' : IntKind} (c : Nat) (ht : P.underlying t = some (.slice e)) (hinfo : InfoP P e (.agg #[.int .i64 0, .int .i64 0]) 2 nb) (hnb : nb ≤ 64)
  (hx : E.at x = some (.v (.int k 0))) (hy : E.at y = some (.v (.int k' (c : Int)))) (hc : c ≤ 4398046511104) :
  OpOk P B ⟨dst, .makeSlice t x y, ty, pos, after, guard⟩ E (newD B e (fun b => .slice (some ⟨b, 0, none⟩) 0 c) (List.replicate (2 * c) (.int .i64 0))) := by
 have h := ok_make0K (P := P) (B := B) (E := E) (dst := dst) (ty := ty) (pos := pos) (after := after) (guard := guard) c ht hinfo hnb hx hy hc
 have hm : (madeCells (Value.agg #[.int .i64 0, .int .i64 0]).cells (c * 2)).toList = List.replicate (2 * c) (.int .i64 0) := by
  apply List.ext_getElem
  ·simp [madeCells]; omega
  ·intro i h1 h2
   simp only [List.getElem_replicate]
   simp only [madeCells, Value.cells, Array.toList_map, List.getElem_map]
   have : ∀ m, (#[Value.int .i64 0, Value.int .i64 0] : Array Value)[m % 2]! = .int .i64 0 := fun m => by
    rcases (show m % 2 = 0 ∨ m % 2 = 1 by omega) with h | h <;> rw [h] <;> rfl
   exact this _
 rwa [hm] at h
theorem ok_build1N {t e : TypeId} {z : Value} {nb : Nat} {x : Operand} {k : IntKind} {a : Int} (ht : P.underlying t = some (.slice e)) (hs : InfoP P e z 1 nb) (hz : z.cells.size = 1) (hx : E.at x = some (.v (.int k a))) :
  OpOk P B ⟨dst, .buildSlice t 1 #[(0, x)], ty, pos, after, guard⟩ E (oneP [.int k a]) := fun ρ w _ _ hρ => by
 obtain ⟨i, hi, hzv, hsize, _⟩ := hs.get
 have h1 : ρ x = .int k a := hρ x (by simp [Op.operands]) _ hx
 have hfill : Instr.fill (fun j => some (j * i.size, i.size)) ((Array.range (1 * i.size)).map (z.cells[· % z.cells.size]!)) [(0, ρ x)] = some #[.int k a] := by
  rw [hsize, h1, hz]
  have h2 : ((Array.range (1 * 1)).map fun y => z.cells[y % 1]!) = #[z.cells[0]!] := by
   rw [show Array.range (1 * 1) = #[0] from by decide]
   simp
  rw [h2]
  simp [Instr.fill, Value.cells]
 have hr := run_buildSlice (P := P) w t e 1 #[(0, ρ x)] #[.int k a] i z ht hi hzv (by rw [hsize]; decide) (by rw [hsize]; decide) (by simpa using hfill)
 refine out_val (x := .slice (some ⟨w.heap.size, 0, none⟩) 1 1) (w' := w.alloc (.cells #[.int k a] e)) (by simp [execOp, hr]) ⟨Grow.alloc w _, _, rfl, by simp, fun j u hu => ?_⟩
 have hh : (w.alloc (.cells #[.int k a] e)).heap[w.heap.size]? = some (.cells #[.int k a] e (0,0)) := heap_alloc_new w _
 rw [show (⟨w.heap.size, 0, none⟩ : Addr).add j = ⟨w.heap.size, j, none⟩ from by unfold Addr.add; split <;> simp_all]
 simp only [World.cell?, hh]
 simpa using hu
theorem ok_fieldV {t : TypeId} {x : Operand} {i off : Nat} {xs : List Value} {u : Value} (hf : (P.underlying t).bind (fun d => match d with | .struct fs => (fs[i]?).bind fun f => (P.underlying f.type).map fun _ => (f.offset, isAggT P f.type) | _ => none) = some (off, false)) (hx : E.at x = some (.v (aggV xs))) (hu : xs[off]? = some u) :
  OpOk P B ⟨dst, .field t x i, ty, pos, after, guard⟩ E (.v u) := fun ρ w _ _ hρ => by
 have h1 : ρ x = .agg xs.toArray := hρ x (by simp [Op.operands]) _ hx
 cases hut : P.underlying t with
 | none => rw [hut] at hf; cases hf
 | some d =>
  rw [hut] at hf
  cases d with
  | struct fs =>
   simp only [Option.bind_some] at hf
   cases hfi : fs[i]? with
   | none => rw [hfi] at hf; cases hf
   | some f =>
    rw [hfi] at hf
    simp only [Option.bind_some] at hf
    cases huf : P.underlying f.type with
    | none => rw [huf] at hf; cases hf
    | some td =>
     rw [huf] at hf
     simp only [Option.map_some, Option.some.injEq, Prod.mk.injEq] at hf
     obtain ⟨h2, h3⟩ := hf
     have hp : (part f.type xs.toArray f.offset).run P w = .ok u w := by
      simp only [part, Sem.run_bind, run_isAgg huf, Result.andThen_ok, h3]
      rw [h2]
      simp [hu]
     exact out_val (w' := w) (by simp [execOp, h1, Instr.field, run_underlying hut, hfi, asAgg, hp]) ⟨Grow.refl w, rfl⟩
  | _ => simp at hf
end
theorem End.newTTC {P : Program} {n : Nat} {w₀ : World} {E : Env} {fn : Func} {D vD r s g kg m : Nat} {e : TypeId} {zs xs : List Value} {u v : Value} {val : Nat → Value} (hD : E.look vD = some (recD D (.deferred (some [])) m)) (hDB : w₀.heap.size ≤ D) (hr : fn.results = #[.tmp r, .tmp s])
  (h1 : E.look r = some (.v u)) (h2 : E.look s = some (.v v)) (h4 : E.look kg = some (blk g e zs)) (hg : w₀.heap.size ≤ g) (hv : val g = .tuple #[u, v]) (hz : zs = xs) : End ⟨none, [{ target := .collected D, args := #[] }]⟩ w₀ n E (BP P fn (PostOf w₀ (newD w₀.heap.size e val xs)) .ret) := fun a w gr hs => by
 subst hz
 obtain ⟨hlt, _, hk⟩ := hs.of vD _ hD
 have h5 : a.tmps.getD r undef = u := hs.of r _ h1
 have h6 : a.tmps.getD s undef = v := hs.of s _ h2
 obtain ⟨hl', hh⟩ := hs.of kg _ h4
 have hne : g ≠ D := fun h => by subst h; rw [hh] at hk; cases hk
 show LeavesInM (FR none) 0 P fn a.tmps _ a.defers .returning w
 rw [show a.defers = [{ target := .collected D, args := #[] }] from hs.defers]
 refine ⟨by simp, .inl ⟨D, _, rfl, run_takeDeferred hk, ?_⟩⟩
 refine ⟨.tuple #[a.tmps.getD r undef, a.tmps.getD s undef], by simp [results, hr], _, rfl, Below.trans gr (below_putObj w _ hDB), g, by rw [h5, h6, hv], hg, by simpa using hl', (World.putObj_heap_other hne).trans hh⟩
theorem tdiv_nat (a b : Nat) : (a : Int).tdiv (b : Int) = ((a / b : Nat) : Int) := (Int.ofNat_tdiv a b).symm
theorem wrap_eq {a : Int} {m : Nat} (h : a = (m : Int)) (hm : m < 9223372036854775808) : Value.int .i64 (IntKind.i64.wrap a) = nI m := by rw [h, wrapN_i64 hm]
end
section
abbrev shM (n b : Nat) : Env := [(1900000, blk b 200 (rowU n (hg n + 1)))]
theorem info5 : InfoIs Tryz.prog 5 (.int .u8 0) 1 := by unfold InfoIs; kernel_rfl
theorem info3 : InfoIs Tryz.prog 3 (.int .i64 0) 8 := by unfold InfoIs; kernel_rfl
theorem zero67 : ZeroIs Tryz.prog 67 ([.int .i64 0] ++ [.int .i64 0]) := by unfold ZeroIs; kernel_rfl
theorem size67 : SizeIs Tryz.prog 67 2 := by unfold SizeIs; kernel_rfl
theorem field67_0 : FieldIs Tryz.prog 67 0 0 1 := by unfold FieldIs; kernel_rfl
theorem field67_1 : FieldIs Tryz.prog 67 1 1 1 := by unfold FieldIs; kernel_rfl
theorem zero134 : ZeroIs Tryz.prog 134 ([.int .i64 0] ++ [.slice none 0 0]) := by unfold ZeroIs; kernel_rfl
theorem size134 : SizeIs Tryz.prog 134 2 := by unfold SizeIs; kernel_rfl
theorem field134_0 : FieldIs Tryz.prog 134 0 0 1 := by unfold FieldIs; kernel_rfl
theorem field134_1 : FieldIs Tryz.prog 134 1 1 1 := by unfold FieldIs; kernel_rfl
theorem zero200 : ZeroIs Tryz.prog 200 (List.replicate 6 (.int .i64 0)) := by unfold ZeroIs; kernel_rfl
theorem infoPI : InfoP Tryz.prog 3 (.int .i64 0) 1 8 := by unfold InfoP; kernel_rfl
theorem infoPP : InfoP Tryz.prog 67 (.agg #[.int .i64 0, .int .i64 0]) 2 16 := by unfold InfoP; kernel_rfl
theorem buildSh (n b c d : Nat) : Tryz.prog.built 134 [(0, nI n), (1, .slice (some ⟨b, 0, none⟩) c d)] = some ([nI n, .slice (some ⟨b, 0, none⟩) c d] : List Value).toArray := by kernel_rfl
theorem buildP (a b : Int) : Tryz.prog.built 67 [(0, .int .i64 a), (1, .int .i64 b)] = some ([.int .i64 a, .int .i64 b] : List Value).toArray := by kernel_rfl
theorem within_y (a b : Int) (h0 : 0 ≤ a) (h : a < b) : Fn Tryz.prog 108 [.v (.int .i64 (a)), .v (.int .i64 (b))] (.v (.bool true)) := by
 refine FV Tryz.func108 rfl Tryz.ntmps108 rfl fun w₀ => ?_
 refine GV rfl (GT (RV 2 rfl ?_));refine RT ?_;refine RV 4 rfl ?_;refine RT ?_;refine RVN 2 rfl ?_;refine A.ret ?_;exact ER rfl rfl
theorem within_n1 (a b : Int) (h0 : ¬ 0 ≤ a) : Fn Tryz.prog 108 [.v (.int .i64 (a)), .v (.int .i64 (b))] (.v (.bool false)) := by
 refine FV Tryz.func108 rfl Tryz.ntmps108 rfl fun w₀ => ?_
 refine GV rfl (GT (RV 2 rfl ?_));refine RF ?_;refine RVN 6 rfl ?_;refine A.ret ?_;exact ER rfl rfl
theorem within_n2 (a b : Int) (h0 : 0 ≤ a) (h : ¬ a < b) : Fn Tryz.prog 108 [.v (.int .i64 (a)), .v (.int .i64 (b))] (.v (.bool false)) := by
 refine FV Tryz.func108 rfl Tryz.ntmps108 rfl fun w₀ => ?_
 refine GV rfl (GT (RV 2 rfl ?_));refine RT ?_;refine RV 4 rfl ?_;refine RF ?_;refine RVN 2 rfl ?_;refine A.ret ?_;exact ER rfl rfl
theorem within_n (a b : Int) (h : ¬ (0 ≤ a ∧ a < b)) : Fn Tryz.prog 108 [.v (.int .i64 (a)), .v (.int .i64 (b))] (.v (.bool false)) := by
 by_cases h0 : 0 ≤ a
 ·exact within_n2 a b h0 (by omega)
 ·exact within_n1 a b h0
theorem Check_ok (n : Nat) (h1 : 1 ≤ n) (h2 : n ≤ 4096)  : Fn Tryz.prog 69 [.v (nI (n))] (.v (.int .i64 (0))) := by
 refine FV Tryz.func69 rfl Tryz.ntmps69 rfl fun w₀ => ?_
 refine GV rfl (QS (GT (RV 2 rfl ?_)));refine RF ?_;refine RV 3 rfl ?_;refine RF ?_;refine RVN 1 rfl ?_;refine A.no rfl ?_;refine QK (GV rfl (A.ret ?_));exact ER rfl rfl
theorem Check_lo (m : Int) (h : m < 1) : Fn Tryz.prog 69 [.v (.int .i64 (m))] (.v (.int .i64 (1))) := by
 refine FV Tryz.func69 rfl Tryz.ntmps69 rfl fun w₀ => ?_
 refine GV rfl (QS (GT (RV 2 rfl ?_)));refine RT ?_;refine RVN 4 rfl ?_;refine A.yes rfl ?_;refine GV rfl (A.ret (End.ret_then ?_));exact ER rfl rfl
theorem Check_hi (m : Int) (h : 4096 < m) : Fn Tryz.prog 69 [.v (.int .i64 (m))] (.v (.int .i64 (1))) := by
 refine FV Tryz.func69 rfl Tryz.ntmps69 rfl fun w₀ => ?_
 refine GV rfl (QS (GT (RV 2 rfl ?_)));refine RF ?_;refine RV 3 rfl ?_;refine RT ?_;refine RVN 1 rfl ?_;refine A.yes rfl ?_;refine GV rfl (A.ret (End.ret_then ?_));exact ER rfl rfl
theorem Check_bad (m : Int) (hm : ¬ (1 ≤ m ∧ m ≤ 4096)) : Fn Tryz.prog 69 [.v (.int .i64 (m))] (.v (.int .i64 (1))) := by
 by_cases h0 : m < 1
 ·exact Check_lo m h0
 ·exact Check_hi m (by omega)
theorem span_fn (l : Nat) (hl : l ≤ 5) : Fn Tryz.prog 110 [.v (nI (l))] (.v (nI (4 ^ (l + 1)))) := by
 refine FV Tryz.func110 rfl Tryz.ntmps110 rfl fun w₀ => ?_
 refine GV rfl (GV rfl (QS (GV rfl (A.block ?_))));refine A.loop (ι := Nat) (fun i => i ≤ l) (fun i => [(3, .v (nI (4 ^ (i + 1)))), (4, .v (nI (l))), (5, .v (nI (i)))]) (fun i => l - i) 0 ?_ ?_ ?_
 ·exact Nat.zero_le _
 ·exact (Sv [3,4,5] rfl)
 intro i hi
 refine GV rfl (QS ?_);refine A.cond rfl (fun hc6 => ?_) (fun hc6 => ?_)
 ·have hlt : i < l := by simp at hc6; omega
  refine QK (QSB (GTE (RV 2 rfl ?_)));refine RZ (nI (4 ^ (i + 1 + 1))) (wrap_eq (by rw [Nat.pow_succ 4 (i + 1)]; omega) (by have := pow_small (l := i + 1 + 1) (by omega); omega)) ?_;refine RVN 1 rfl ?_;refine End.normal_block (EN (GTE (RB rfl rfl rfl ?_)));refine RZ (nI (i + 1)) (wrap_eq (by omega) (by omega)) ?_;refine RVN 1 rfl ?_;refine End.normal_then ?_;refine End.again (i + 1) ?_ ?_ ?_
  ·show _ ≤ _; omega
  ·show _ - _ < _ - _; omega
  ·exact (Sv [3,4,5] rfl)
 ·obtain rfl : i = l := by simp at hc6; omega
  refine A.exit (End.exit_then (End.exit_then (End.exit_here (EN (GV rfl (A.ret ?_))))));exact ER rfl rfl
theorem countsOf_fnB (n : Nat) (h1 : 1 ≤ n) (h2 : n ≤ 4096)  : FnB Tryz.prog 97 [.v (nI (n))] (fun B => newD B 200 (fun b => .slice (some ⟨b, 0, none⟩) (hg n + 1) 6) (rowU n (hg n + 1))) := by
 refine FnB.of Tryz.func97 rfl (by kernel_rfl) Tryz.ntmps97 (by simp) (fun w => [(0, .v (nI (n)))]) (fun w => (Start.v rfl Start.nil)) fun w₀ => ?_
 refine GV rfl (GS (TN 0 (RN ?_)));refine ZN 1000003 zero200 fun b3 ⟨hBb3, hb3⟩ => ?_
 refine TL (RN (GT (RS (ok_sliceX (l := 0) (h := 0) (m := 6) U200 info3 rfl (.inr ⟨rfl, rfl⟩) (.inl ⟨_, _, rfl, rfl⟩) (.inl ⟨_, _, rfl, rfl⟩) (by decide) (by decide) (by decide) (.inl (by decide))) ?_)));refine RZ (.slice (some ⟨b3,0, none⟩) 0 6) (rfl) ?_;refine RVN 1 rfl ?_;refine QS (GV rfl (A.block ?_));refine A.loop (ι := Nat) (fun k => k ≤ hg n + 1) (fun k => [(4, .v (.slice (some ⟨b3,0, none⟩) k 6)), (5, .v (nI (un n k))), (1000003, blk b3 200 (rowU n (k)))]) (fun k => hg n + 1 - k) 0 ?_ ?_ ?_
 ·exact Nat.zero_le _
 ·exact (KC 4 rfl (KC 5 rfl (KE 1000003 rfl (congrArg _ (rowU_zero n)) KN)))
 intro k hk
 have hu0 := un_le h1 (k)
 have hv0 := un_pos h1 (k)
 have hu1 := un_le h1 (k + 1)
 have hv1 := un_pos h1 (k + 1)
 have hh := hg_le n
 refine QS ?_
 rcases un_case h1 h2 hk with ⟨hA, hA'⟩ | ⟨hA, hA', hA''⟩ | ⟨hA, hA', hA''⟩
 ·refine GT (RV 2 rfl ?_);refine RT ?_;refine RVN 5 rfl ?_;refine A.yes rfl ?_;refine QK (A.block (GT (RV 2 rfl ?_)));refine RZ (nI (un n k + 4)) (wrap_eq (by omega) (by omega)) ?_;refine RB rfl rfl rfl ?_;refine RZ (nI (un n k + 3)) (wrap_eq (by omega) (by omega)) ?_;refine RS (ok_div rfl rfl (by decide)) ?_;refine RZ (nI (un n (k + 1))) (by rw [tdiv_lit _ (by decide)]; exact wrap_eq rfl (by first | omega | (simp only [Int.toNat]; omega))) ?_;refine RVN 1 rfl ?_;refine GE (TF 3 (RV 2 rfl ?_));refine RS (ok_build1N U27 infoPI rfl rfl) ?_;refine RN ?_;refine ⟨_, eff_appendRoom (n := 24) (s := 1000003) (k := k) (c := 6) (us := [nI (un n (k + 1))]) U27 infoPI rfl rfl rfl rfl (by omega) hBb3 rfl (by rw [rowU_length]; decide) (fun q hq => by rw [U27] at hq; cases hq) (by decide) (LV 5 rfl LN), ?_⟩
  refine TL (RVN 1 rfl ?_);refine End.sub (KC 4 rfl (KC 5 rfl (KE 1000003 rfl (show blk b3 200 _ = blk b3 200 (rowU n (k + 1)) from congrArg _ (rowU_set (by omega))) KN))) ?_;refine End.normal_block (End.normal_then ?_);refine End.again (k + 1) ?_ ?_ ?_
  ·show _ ≤ _; omega
  ·show _ - _ < _ - _; omega
  ·exact (Sv [4,5,1000003] rfl)
 ·refine GT (RV 2 rfl ?_);refine RF ?_;refine RV 2 rfl ?_;refine RQ (ok_lenV U27 rfl) ?_;refine RQ (ok_bin rfl rfl rfl) ?_;refine RT ?_;refine RVN 1 rfl ?_;refine A.yes rfl ?_;refine QK (A.block (GT (RV 2 rfl ?_)));refine RZ (nI (un n k + 4)) (wrap_eq (by omega) (by omega)) ?_;refine RB rfl rfl rfl ?_;refine RZ (nI (un n k + 3)) (wrap_eq (by omega) (by omega)) ?_;refine RS (ok_div rfl rfl (by decide)) ?_;refine RZ (nI (un n (k + 1))) (by rw [tdiv_lit _ (by decide)]; exact wrap_eq rfl (by first | omega | (simp only [Int.toNat]; omega))) ?_;refine RVN 1 rfl ?_;refine GE (TF 3 (RV 2 rfl ?_));refine RS (ok_build1N U27 infoPI rfl rfl) ?_;refine RN ?_;refine ⟨_, eff_appendRoom (n := 24) (s := 1000003) (k := k) (c := 6) (us := [nI (un n (k + 1))]) U27 infoPI rfl rfl rfl rfl (by omega) hBb3 rfl (by rw [rowU_length]; decide) (fun q hq => by rw [U27] at hq; cases hq) (by decide) (LV 5 rfl LN), ?_⟩
  refine TL (RVN 1 rfl ?_);refine End.sub (KC 4 rfl (KC 5 rfl (KE 1000003 rfl (show blk b3 200 _ = blk b3 200 (rowU n (k + 1)) from congrArg _ (rowU_set (by omega))) KN))) ?_;refine End.normal_block (End.normal_then ?_);refine End.again (k + 1) ?_ ?_ ?_
  ·show _ ≤ _; omega
  ·show _ - _ < _ - _; omega
  ·exact (Sv [4,5,1000003] rfl)
 ·refine GT (RV 2 rfl ?_);refine RF ?_;refine RV 2 rfl ?_;refine RQ (ok_lenV U27 rfl) ?_;refine RQ (ok_bin rfl rfl rfl) ?_;refine RF ?_;refine RVN 1 rfl ?_;refine A.no rfl ?_;refine A.exit (End.exit_then (End.exit_then (End.exit_here (EN (GV rfl (A.ret ?_))))));exact End.newF rfl rfl (kg := 1000003) rfl hBb3 (by rw [hA'']) (by rw [hA''])
theorem shapeOf_fnB (n : Nat) (h1 : 1 ≤ n) (h2 : n ≤ 4096)  : FnB Tryz.prog 70 [.v (nI (n))] (fun B => newD B 200 (fun b => aggV (shV n b)) (rowU n (hg n + 1))) := by
 refine FnB.of Tryz.func70 rfl (by kernel_rfl) Tryz.ntmps70 (by simp) (fun w => [(0, .v (nI (n)))]) (fun w => (Start.v rfl Start.nil)) fun w₀ => ?_
 refine GS (TN 0 (RN ?_));refine ZN 1000002 zero134 fun b2 ⟨hBb2, hb2⟩ => ?_
 refine TL (RN (QS (GT (RM rfl ?_))));refine RS (ok_call (Check_ok n h1 h2) (A1 rfl)) ?_;refine RB rfl rfl rfl ?_;refine RF ?_;refine RN (A.no rfl ?_);refine QK (GS (TN 2 (RVN 2 rfl ?_)));refine ZM 1000009 (fun B' => OCB (countsOf_fnB n h1 h2) (A1 rfl)) rfl fun b9 ⟨hBb9, hb9⟩ => ?_
 have hlt_b2_b9 := hb9 1000002 b2 _ _ rfl
 refine TF 4 (RS (ok_litS [(0, nI n), (1, .slice (some ⟨b9,0, none⟩) (hg n + 1) 6)] (shV n b9) ⟨rfl, rfl, rfl, rfl, trivial⟩ (buildSh _ _ _ _)) ?_);refine RN ?_;refine ZA 1000002 (size134.of rfl) hBb2 rfl rfl rfl (LV 2 rfl (LT 1000009 rfl LN)) ?_;refine TL (RN (A.ret ?_));exact End.new1 rfl U134 rfl (size134.of rfl) rfl (s := 1000002) rfl (kg := 1000009) rfl hBb9 rfl rfl
theorem height_fn (n b : Nat) : Fn Tryz.prog 71 [.v (aggV (shV n b))] (.v (nI (hg n))) := by
 have hh := hg_le n
 refine FV Tryz.func71 rfl Tryz.ntmps71 rfl fun w₀ => ?_
 refine GS (TN 0 (RN ?_));refine ZB 1000001 rfl fun b1 ⟨hBb1, hb1⟩ => ?_
 refine TL (RVN 1 rfl ?_);refine GT (RS (ok_field field134_1 (by decide) rfl) ?_);refine RLV 1000001 U27 rfl rfl rfl ?_;refine RS (ok_lenV U27 rfl) ?_;refine RB rfl rfl rfl ?_;refine RZ (nI (hg n)) (wrap_eq (by omega) (by omega)) ?_;refine RVN 1 rfl ?_;refine A.ret ?_;exact ER rfl rfl
theorem hasLevel_y (n b l : Nat) (hl : l ≤ hg n) : Fn Tryz.prog 98 [.v (aggV (shV n b)), .v (nI (l))] (.v (.bool true)) := by
 refine FV Tryz.func98 rfl Tryz.ntmps98 rfl fun w₀ => ?_
 refine GS (TN 0 (RN ?_));refine ZB 1000002 rfl fun b2 ⟨hBb2, hb2⟩ => ?_
 refine TL (RVN 1 rfl ?_);refine GT (RM rfl ?_);refine RS (ok_field field134_1 (by decide) rfl) ?_;refine RLV 1000002 U27 rfl rfl rfl ?_;refine RS (ok_lenV U27 rfl) ?_;refine RS (ok_call (within_y _ _ (by omega) (by omega)) (A2 rfl rfl)) ?_;refine RVN 1 rfl ?_;refine A.ret ?_;exact ER rfl rfl
theorem hasLevel_n (n b : Nat) (l : Int) (hl : ¬ (0 ≤ l ∧ l ≤ hg n)) : Fn Tryz.prog 98 [.v (aggV (shV n b)), .v (.int .i64 (l))] (.v (.bool false)) := by
 refine FV Tryz.func98 rfl Tryz.ntmps98 rfl fun w₀ => ?_
 refine GS (TN 0 (RN ?_));refine ZB 1000002 rfl fun b2 ⟨hBb2, hb2⟩ => ?_
 refine TL (RVN 1 rfl ?_);refine GT (RM rfl ?_);refine RS (ok_field field134_1 (by decide) rfl) ?_;refine RLV 1000002 U27 rfl rfl rfl ?_;refine RS (ok_lenV U27 rfl) ?_;refine RS (ok_call (within_n _ _ (by omega)) (A2 rfl rfl)) ?_;refine RVN 1 rfl ?_;refine A.ret ?_;exact ER rfl rfl
theorem has_y (n b : Nat) (l j : Nat) (hl : l ≤ hg n) (hj : j < un n (l + 1))  : FnM Tryz.prog 81 (shM n b) [.v (aggV (shV n b)), .v (aggV (plV l j))] (.v (.bool true)) := by
 have hh := hg_le n
 refine FnM.of Tryz.func81 rfl (by kernel_rfl) Tryz.ntmps81 (by simp) (by decide) (fun w => [(0, .v (aggV (shV n b))), (1, .v (aggV (plV l j))), (1900000, blk b 200 (rowU n (hg n + 1)))]) (fun w => (StartM.v rfl (StartM.v rfl (StartM.m (by simp [shM]) (by decide) StartM.nil)))) fun w₀ hM => ?_
 skip
 refine GS (TN 0 (RN ?_));refine ZB 1000002 rfl fun b2 ⟨hBb2, hb2⟩ => ?_
 refine TN 1 (RN ?_);refine ZB 1000003 rfl fun b3 ⟨hBb3, hb3⟩ => ?_
 refine TL (RVN 1 rfl ?_);refine GTD (RL 1000002 U134 rfl rfl (size134.of rfl) ?_);refine RS (ok_field field67_0 (by decide) rfl) ?_;refine RLV 1000003 U3 rfl rfl rfl ?_;refine RS (ok_call (hasLevel_y n b l hl) (A2 rfl rfl)) ?_;refine RM rfl ?_;refine RQ (ok_field field67_1 (by decide) rfl) ?_;refine RQ (ok_loadV (s := 1000003) (by decide) U3 rfl rfl rfl (rfl)) ?_;refine RQ (ok_field field134_1 (by decide) rfl) ?_;refine RQ (ok_loadV (s := 1000002) (by decide) U27 rfl rfl rfl (rfl)) ?_;refine RQ (ok_field field67_0 (by decide) rfl) ?_;refine RQ (ok_loadV (s := 1000003) (by decide) U3 rfl rfl rfl (rfl)) ?_;refine RQ (ok_indexV l U27 info3 rfl rfl rfl (by omega)) ?_;refine RQ (ok_loadV (s := 1900000) (by decide) U3 rfl rfl rfl (by rw [Nat.zero_add]; exact rowU_get (by omega) (by omega))) ?_;refine RQ (ok_call (within_y _ _ (by omega) (by omega)) (A2 rfl rfl)) ?_;refine RVN 2 rfl ?_;refine A.ret ?_;exact ER rfl rfl
theorem has_n1 (n b l : Nat) (j : Int) (hl : l ≤ hg n) (hj : ¬ (0 ≤ j ∧ j < un n (l + 1))) : FnM Tryz.prog 81 (shM n b) [.v (aggV (shV n b)), .v (aggV [nI l, .int .i64 j])] (.v (.bool false)) := by
 have hh := hg_le n
 refine FnM.of Tryz.func81 rfl (by kernel_rfl) Tryz.ntmps81 (by simp) (by decide) (fun w => [(0, .v (aggV (shV n b))), (1, .v (aggV [nI l, .int .i64 j])), (1900000, blk b 200 (rowU n (hg n + 1)))]) (fun w => (StartM.v rfl (StartM.v rfl (StartM.m (by simp [shM]) (by decide) StartM.nil)))) fun w₀ hM => ?_
 skip
 refine GS (TN 0 (RN ?_));refine ZB 1000002 rfl fun b2 ⟨hBb2, hb2⟩ => ?_
 refine TN 1 (RN ?_);refine ZB 1000003 rfl fun b3 ⟨hBb3, hb3⟩ => ?_
 refine TL (RVN 1 rfl ?_);refine GTD (RL 1000002 U134 rfl rfl (size134.of rfl) ?_);refine RS (ok_field field67_0 (by decide) rfl) ?_;refine RLV 1000003 U3 rfl rfl rfl ?_;refine RS (ok_call (hasLevel_y n b l hl) (A2 rfl rfl)) ?_;refine RM rfl ?_;refine RQ (ok_field field67_1 (by decide) rfl) ?_;refine RQ (ok_loadV (s := 1000003) (by decide) U3 rfl rfl rfl (rfl)) ?_;refine RQ (ok_field field134_1 (by decide) rfl) ?_;refine RQ (ok_loadV (s := 1000002) (by decide) U27 rfl rfl rfl (rfl)) ?_;refine RQ (ok_field field67_0 (by decide) rfl) ?_;refine RQ (ok_loadV (s := 1000003) (by decide) U3 rfl rfl rfl (rfl)) ?_;refine RQ (ok_indexV l U27 info3 rfl rfl rfl (by omega)) ?_;refine RQ (ok_loadV (s := 1900000) (by decide) U3 rfl rfl rfl (by rw [Nat.zero_add]; exact rowU_get (by omega) (by omega))) ?_;refine RQ (ok_call (within_n _ _ (by omega)) (A2 rfl rfl)) ?_;refine RVN 2 rfl ?_;refine A.ret ?_;exact ER rfl rfl
theorem has_n2 (n b : Nat) (l j : Int) (hl : ¬ (0 ≤ l ∧ l ≤ hg n)) : Fn Tryz.prog 81 [.v (aggV (shV n b)), .v (aggV [.int .i64 l, .int .i64 j])] (.v (.bool false)) := by
 refine FV Tryz.func81 rfl Tryz.ntmps81 rfl fun w₀ => ?_
 refine GS (TN 0 (RN ?_));refine ZB 1000002 rfl fun b2 ⟨hBb2, hb2⟩ => ?_
 refine TN 1 (RN ?_);refine ZB 1000003 rfl fun b3 ⟨hBb3, hb3⟩ => ?_
 refine TL (RVN 1 rfl ?_);refine GTD (RL 1000002 U134 rfl rfl (size134.of rfl) ?_);refine RS (ok_field field67_0 (by decide) rfl) ?_;refine RLV 1000003 U3 rfl rfl rfl ?_;refine RS (ok_call (hasLevel_n n b l hl) (A2 rfl rfl)) ?_;refine RVN 12 rfl ?_;refine A.ret ?_;exact ER rfl rfl
theorem has_n (n b : Nat) (l j : Int) (h : ¬ IsP n l j) : FnM Tryz.prog 81 (shM n b) [.v (aggV (shV n b)), .v (aggV [.int .i64 l, .int .i64 j])] (.v (.bool false)) := by
 by_cases hl : 0 ≤ l ∧ l ≤ hg n
 ·obtain ⟨a, rfl⟩ : ∃ a : Nat, l = (a : Int) := ⟨l.toNat, by omega⟩
  refine has_n1 n b a j (by omega) fun hj => h ⟨a, j.toNat, rfl, by omega, by omega, by omega⟩
 ·exact (has_n2 n b l j hl).m
theorem parts_fn (n b : Nat) (h1 : 1 ≤ n) (h2 : n ≤ 4096) (l j : Nat) (hl : l ≤ hg n) (hj : j < un n (l + 1))  : FnM Tryz.prog 82 (shM n b) [.v (aggV (shV n b)), .v (aggV (plV l j))] (.v (nI (pts n l j))) := by
 have hu0 := un_le h1 (l)
 have hv0 := un_pos h1 (l)
 have hu1 := un_le h1 (l + 1)
 have hv1 := un_pos h1 (l + 1)
 have hh := hg_le n
 have hp := pts_pos hj
 refine FnM.of Tryz.func82 rfl (by kernel_rfl) Tryz.ntmps82 (by simp) (by decide) (fun w => [(0, .v (aggV (shV n b))), (1, .v (aggV (plV l j))), (1900000, blk b 200 (rowU n (hg n + 1)))]) (fun w => (StartM.v rfl (StartM.v rfl (StartM.m (by simp [shM]) (by decide) StartM.nil)))) fun w₀ hM => ?_
 skip
 refine GS (TN 0 (RN ?_));refine ZB 1000002 rfl fun b2 ⟨hBb2, hb2⟩ => ?_
 refine TN 1 (RN ?_);refine ZB 1000003 rfl fun b3 ⟨hBb3, hb3⟩ => ?_
 refine TL (RVN 1 rfl ?_);refine GT (RS (ok_field field134_0 (by decide) rfl) ?_);refine RLV 1000002 U3 rfl rfl rfl ?_;refine RVN 1 rfl ?_;refine QS (GT (RS (ok_field field67_0 (by decide) rfl) ?_));refine RLV 1000003 U3 rfl rfl rfl ?_;refine RVN 1 rfl ?_;refine A.cond rfl (fun hc10 => ?_) (fun hc10 => ?_)
 ·have hl0 : 0 < l := by simp at hc10; omega
  refine GTE (RS (ok_field field134_1 (by decide) rfl) ?_);refine RLV 1000002 U27 rfl rfl rfl ?_;refine RS (ok_field field67_0 (by decide) rfl) ?_;refine RLV 1000003 U3 rfl rfl rfl ?_;refine RB rfl rfl rfl ?_;refine RZ (nI (l - 1)) (wrap_eq (by omega) (by omega)) ?_;refine RS (ok_indexV (l - 1) U27 info3 rfl rfl rfl (by omega)) ?_;refine RS (ok_loadV (s := 1900000) (by decide) U3 rfl rfl rfl (by rw [Nat.zero_add]; exact rowU_get (by omega) (by omega))) ?_;refine RZ (nI (un n l)) (by rw [show l - 1 + 1 = l from by omega]) ?_;refine RVN 1 rfl ?_;refine EN (GT (RM rfl ?_));refine RZ (nI (un n l)) (by first | rfl | (rw [hl0]; rfl)) ?_;refine RS (ok_field field67_1 (by decide) rfl) ?_;refine RLV 1000003 U3 rfl rfl rfl ?_;refine RB rfl rfl rfl ?_;refine RZ (nI (j * 4)) (wrap_eq (by omega) (by omega)) ?_;refine RB rfl rfl rfl ?_;refine RZ (nI (un n l - j * 4)) (wrap_eq (by omega) (by omega)) ?_;refine RS (ok_min rfl rfl) ?_;refine RZ (nI (pts n l j)) (congrArg (Value.int .i64) (by unfold pts; omega)) ?_;refine RVN 1 rfl ?_;refine A.ret ?_;exact ER rfl rfl
 ·have hl0 : l = 0 := by simp at hc10; omega
  refine QK (GT (RM rfl ?_));refine RZ (nI (un n l)) (by first | rfl | (rw [hl0]; rfl)) ?_;refine RS (ok_field field67_1 (by decide) rfl) ?_;refine RLV 1000003 U3 rfl rfl rfl ?_;refine RB rfl rfl rfl ?_;refine RZ (nI (j * 4)) (wrap_eq (by omega) (by omega)) ?_;refine RB rfl rfl rfl ?_;refine RZ (nI (un n l - j * 4)) (wrap_eq (by omega) (by omega)) ?_;refine RS (ok_min rfl rfl) ?_;refine RZ (nI (pts n l j)) (congrArg (Value.int .i64) (by unfold pts; omega)) ?_;refine RVN 1 rfl ?_;refine A.ret ?_;exact ER rfl rfl
theorem hasBlock_y (n : Nat) (h1 : 1 ≤ n) (h2 : n ≤ 4096) (x : Nat) (hx : x < n) : Fn Tryz.prog 80 [.v (nI (n)), .v (nI (x))] (.v (.bool true)) := by
 refine FV Tryz.func80 rfl Tryz.ntmps80 rfl fun w₀ => ?_
 refine GV rfl (GT (RM rfl ?_));refine RS (ok_call (Check_ok n h1 h2) (A1 rfl)) ?_;refine RB rfl rfl rfl ?_;refine RT ?_;refine RV 3 rfl ?_;refine RQ (ok_call (within_y _ _ (by omega) (by omega)) (A2 rfl rfl)) ?_;refine RVN 2 rfl ?_;refine A.ret ?_;exact ER rfl rfl
theorem hasBlock_n (n : Nat) (h1 : 1 ≤ n) (h2 : n ≤ 4096) (x : Int) (hx : ¬ (0 ≤ x ∧ x < n)) : Fn Tryz.prog 80 [.v (nI (n)), .v (.int .i64 (x))] (.v (.bool false)) := by
 refine FV Tryz.func80 rfl Tryz.ntmps80 rfl fun w₀ => ?_
 refine GV rfl (GT (RM rfl ?_));refine RS (ok_call (Check_ok n h1 h2) (A1 rfl)) ?_;refine RB rfl rfl rfl ?_;refine RT ?_;refine RV 3 rfl ?_;refine RQ (ok_call (within_n _ _ (by omega)) (A2 rfl rfl)) ?_;refine RVN 2 rfl ?_;refine A.ret ?_;exact ER rfl rfl
theorem hasBlock_b (m : Int) (hm : ¬ (1 ≤ m ∧ m ≤ 4096)) (x : Int) : Fn Tryz.prog 80 [.v (.int .i64 (m)), .v (.int .i64 (x))] (.v (.bool false)) := by
 refine FV Tryz.func80 rfl Tryz.ntmps80 rfl fun w₀ => ?_
 refine GV rfl (GT (RM rfl ?_));refine RS (ok_call (Check_bad m hm) (A1 rfl)) ?_;refine RB rfl rfl rfl ?_;refine RF ?_;refine RVN 6 rfl ?_;refine A.ret ?_;exact ER rfl rfl
end
section
theorem zero112 : ZeroIs Tryz.prog 112 [.slice none 0 0] := by unfold ZeroIs; kernel_rfl
theorem info112 : InfoIs Tryz.prog 112 (.slice none 0 0) 24 := by unfold InfoIs; kernel_rfl
theorem Path_no (n : Nat) (h1 : 1 ≤ n) (h2 : n ≤ 4096) (x : Int) (hx : ¬ (0 ≤ x ∧ x < n)) : Fn Tryz.prog 54 [.v (nI (n)), .v (.int .i64 (x))] (.v (.tuple #[.slice none 0 0, .int .i64 1])) := by
 refine FV Tryz.func54 rfl Tryz.ntmps54 rfl fun w₀ => ?_
 refine GV rfl (QS (GT (RV 2 rfl ?_)));refine RS (ok_call (hasBlock_n n h1 h2 x hx) (A2 rfl rfl)) ?_;refine RVN 1 rfl ?_;refine A.yes rfl ?_;refine GV rfl (A.ret (End.ret_then ?_));exact End.ret2V rfl rfl rfl
theorem Path_bad (m : Int) (hm : ¬ (1 ≤ m ∧ m ≤ 4096)) (x : Int) : Fn Tryz.prog 54 [.v (.int .i64 (m)), .v (.int .i64 (x))] (.v (.tuple #[.slice none 0 0, .int .i64 1])) := by
 refine FV Tryz.func54 rfl Tryz.ntmps54 rfl fun w₀ => ?_
 refine GV rfl (QS (GT (RV 2 rfl ?_)));refine RS (ok_call (hasBlock_b m hm x) (A2 rfl rfl)) ?_;refine RVN 1 rfl ?_;refine A.yes rfl ?_;refine GV rfl (A.ret (End.ret_then ?_));exact End.ret2V rfl rfl rfl
theorem down_fnB (n b x : Nat) : FnB Tryz.prog 83 [.v (aggV (shV n b)), .v (nI (x))] (fun B => closR B 109 134 (shV n b) 3 [nI x]) := by
 refine FnB.of Tryz.func83 rfl (by kernel_rfl) Tryz.ntmps83 (by simp) (fun w => [(0, .v (aggV (shV n b))), (1, .v (nI (x)))]) (fun w => (Start.v rfl (Start.v rfl Start.nil))) fun w₀ => ?_
 refine GS (TN 0 (RN ?_));refine ZB 1000002 rfl fun b2 ⟨hBb2, hb2⟩ => ?_
 refine TN 1 (RN ?_);refine ⟨_, _, eff_box1 (n := 6) (d := 3) (k := 1000003) rfl rfl (by decide), fun b3 hb3 => ?_⟩
 have hBb3 := hb3.1
 have hlt_b2_b3 : b2 < b3 := hb3.2 1000002 _ _ _ rfl
 refine TL (RVN 1 rfl ?_);refine GT (RS (ok_makeFuncN [ptr b2, ptr b3] ⟨rfl, rfl, trivial⟩) ?_);refine RVN 1 rfl ?_;refine A.ret ?_;exact End.closR (.inl rfl) rfl hBb2 hBb3 (by omega) rfl (k₁ := 1000002) (k₂ := 1000003) rfl rfl
theorem down1_seq {w₀ : World} {n l p q b x : Nat} {J : Nat → World → Prop} (h1 : 1 ≤ n) (h2 : n ≤ 4096) (hx : x < n)
  (hq : SeqsX Tryz.prog w₀ (hg n + 1) l (fun i => .v (aggV (stp n x i))) (fun _ => [(1000091, blk p 134 (shV n b)), (1000092, blk q 3 [nI x])]) J (fun _ : Unit => [])) {w : World} (h0 : J 0 w) :
  Calls Tryz.prog 109 (.func (.yield l) #[] #[] :: [ptr p, ptr q] : List Value).toArray w fun e W => (∃ v, e = .returned v) ∧ J (hg n + 1) W := by
 have hh := hg_le n
 obtain ⟨hb, hs, hV⟩ := hq.holds 0 w h0
 refine Calls.within (n := 20) (E := [(0, .v (.func (.yield l) #[] #[])), (1, .v (ptr p)), (2, .v (ptr q)), (1000090, jD (J 0)), (1000091, blk p 134 (shV n b)), (1000092, blk q 3 [nI x])]) Tryz.func109 rfl Tryz.ntmps109 (by simp) (by decide) hb hs ?_ ?_
 ·intro x hx
  simp only [List.mem_cons, List.not_mem_nil, or_false] at hx
  rcases hx with rfl | rfl | rfl | rfl | rfl | rfl
  ·exact .inr ⟨_, rfl, rfl⟩
  ·exact .inr ⟨_, rfl, rfl⟩
  ·exact .inr ⟨_, rfl, rfl⟩
  ·exact .inl ⟨vle rfl, jD_mk h0⟩
  ·exact .inl ⟨vle rfl, hV _ (by simp)⟩
  ·exact .inl ⟨vle rfl, hV _ (by simp)⟩
 refine GT (RL 1000091 U134 rfl rfl (size134.of rfl) ?_);refine RS (ok_call (height_fn n b) (A1 rfl)) ?_;refine RVN 1 rfl ?_;refine A.block ?_;refine A.loop (ι := Nat) (fun i => i ≤ hg n + 1) (fun i => [(0, .v (.func (.yield l) #[] #[])), (2, .v (ptr q)), (4, .v (.int .i64 ((hg n : Int) - ((i : Nat) : Int)))), (1000090, jD (J i)), (1000091, blk p 134 (shV n b)), (1000092, blk q 3 [nI x])]) (fun i => hg n + 1 - i) 0 ?_ ?_ ?_
 ·exact Nat.zero_le _
 ·exact (KC 0 rfl (KC 2 rfl (KE 4 rfl (congrArg (fun z : Int => D.v (.int .i64 z)) (show (hg n : Int) = _ by omega)) (KC 1000090 rfl (KC 1000091 rfl (KC 1000092 rfl KN))))))
 intro i hi'
 refine QS (GV rfl ?_);refine A.cond rfl (fun hc8 => ?_) (fun hc8 => ?_)
 ·have hlt : i < hg n + 1 := by simp at hc8; omega
  refine QK (QSB (GD (TD 7 ?_)));refine RV 2 rfl ?_;refine RZ (nI (hg n - i)) (congrArg (Value.int .i64) (by omega)) ?_;refine RLV 1000092 U3 rfl rfl rfl ?_;refine RM rfl ?_;refine RZ (nI (hg n - i)) (congrArg (Value.int .i64) (by omega)) ?_;refine RS (ok_call (span_fn (hg n - i) (by omega)) (A1 rfl)) ?_;refine RS (ok_div rfl rfl (by have := pow_pos4 (hg n - i + 1); omega)) ?_;refine RZ (nI (x / 4 ^ (hg n - i + 1))) (by rw [tdiv_nat]; exact wrap_eq rfl (by have := Nat.div_le_self x (4 ^ (hg n - i + 1)); omega)) ?_;refine RS (ok_litS [(0, nI (hg n - i)), (1, nI (x / 4 ^ (hg n - i + 1)))] (stp n x i) ⟨rfl, rfl, rfl, rfl, trivial⟩ (buildP _ _)) ?_;refine RN ?_;refine ⟨_, eff_yieldX (vJ := 1000090) hq () i hlt rfl rfl rfl (Le.refl _) (by decide) (fun p hp => by simp only [List.mem_cons, List.not_mem_nil, or_false] at hp; rcases hp with rfl | rfl <;> exact vle rfl) (fun p hp => by cases hp) (fun p hp => by cases hp) (by decide) (Left.cons (t := 0) rfl (Stays.v _ _) (Left.cons (t := 2) rfl (Stays.v _ _) (Left.cons (t := 4) rfl (Stays.v _ _) Left.nil))), ?_⟩
  refine TL (RVN 1 rfl ?_);refine A.no rfl ?_;refine A.skip (End.normal_block (EN (GTE (RV 2 rfl ?_))));refine RZ (.int .i64 ((hg n : Int) - ((i + 1 : Nat) : Int))) (by rw [wrap_i64 (by omega) (by omega)]; congr 1; omega) ?_;refine RVN 1 rfl ?_;refine End.normal_then ?_;refine End.again (i + 1) ?_ ?_ ?_
  ·show _ ≤ _; omega
  ·show _ - _ < _ - _; omega
  ·exact (Sv [0,2,4,1000090,1000091,1000092] rfl)
 ·obtain rfl : i = hg n + 1 := by simp at hc8; omega
  refine A.exit (End.exit_then (End.exit_then (End.exit_here ?_)));exact End.seqX (vJ := 1000090) hq rfl rfl
set_option maxHeartbeats 2000000 in
theorem Path_fnB (n : Nat) (h1 : 1 ≤ n) (h2 : n ≤ 4096) (x : Nat) (hx : x < n) : FnB Tryz.prog 54 [.v (nI (n)), .v (nI (x))] (fun B => newD B 67 (fun b => .tuple #[.slice (some ⟨b, 0, none⟩) (hg n + 1) (hg n + 1), .int .i64 0]) (pathV n x (hg n + 1))) := by
 have hh := hg_le n
 refine FnB.of Tryz.func54 rfl (by kernel_rfl) Tryz.ntmps54 (by simp) (fun w => [(0, .v (nI (n))), (1, .v (nI (x)))]) (fun w => (Start.v rfl (Start.v rfl Start.nil))) fun w₀ => ?_
 refine GV rfl (QS (GT (RV 2 rfl ?_)));refine RS (ok_call (hasBlock_y n h1 h2 x hx) (A2 rfl rfl)) ?_;refine RVN 1 rfl ?_;refine A.no rfl ?_;refine QK (GS (TN 1 (RVN 1 rfl ?_)));refine ZM 1000014 (fun B' => OCB (shapeOf_fnB n h1 h2) (A1 rfl)) rfl fun b14 ⟨hBb14, hb14⟩ => ?_
 refine TN 2 (RN ?_);refine ZN 1000006 zero134 fun b6 ⟨hBb6, hb6⟩ => ?_
 refine TF 3 (RN ?_);refine ZA 1000006 (size134.of rfl) hBb6 rfl rfl rfl (LT 1000014 rfl (LW [1,6] rfl)) ?_;refine TL (RN (GS (TN 3 (RS (ok_field field134_1 (by decide) rfl) ?_))));refine RLV 1000006 U27 rfl rfl rfl ?_;refine RS (ok_lenV U27 rfl) ?_;refine RN ?_;refine ZM 1000018 (fun B' => ok_makePl (hg n + 1) U112 infoPP (by decide) rfl rfl (by omega)) rfl fun b18 ⟨hBb18, hb18⟩ => ?_
 have hlt_b6_b18 := hb18 1000006 b6 _ _ rfl
 have hlt_b14_b18 := hb18 1000014 b14 _ _ rfl
 refine TN 4 (RN ?_);refine ZN 1000007 zero112 fun b7 ⟨hBb7, hb7⟩ => ?_
 refine TF 5 (RN ?_);refine ⟨_, eff_storeS (n := 28) (s := 1000007) info112 rfl rfl rfl hBb7 rfl (by simp) (LT 1000006 rfl (LT 1000014 rfl (LT 1000018 rfl (LW [1,6,7] rfl)))), ?_⟩
 refine TL (RN (QS (GT (RL 1000006 U134 rfl rfl (size134.of rfl) ?_))));refine RM rfl ?_;refine RS (ok_callB (down_fnB n b14 x) (fun _ _ => closR_mono _ _) (A2 rfl rfl)) ?_;refine RN ?_;refine A.openClosR (t := 21) (k₁ := 1000091) (k₂ := 1000092) rfl fun p q hBp hBq hpq => ?_
 refine A.block ?_;refine A.rangeX (X := Unit) (gf := 109) (N := hg n + 1) (vL := 1000098) (vD := 1000099) (tp := 22) (lb := [ptr p, ptr q]) (S := [(7, .v (ptr b7))]) (XE := fun _ : Unit => [])
  (V := fun i => [(1000007, blk b7 112 [.slice (some ⟨b18,0, none⟩) (i) (hg n + 1)]), (1000018, blk b18 67 (pathV n x (i))), (1000091, blk p 134 (shV n b14)), (1000092, blk q 3 [nI x])])
  (Eb := fun i _ => (8, freshV w₀.heap.size [] 67 (stp n x i)) :: (22, .v (aggV (stp n x i))) :: ([(1000007, blk b7 112 [.slice (some ⟨b18,0, none⟩) (i) (hg n + 1)]), (1000018, blk b18 67 (pathV n x (i))), (1000091, blk p 134 (shV n b14)), (1000092, blk q 3 [nI x])] ++ [(7, .v (ptr b7))] ++ []))
  (arg := fun i => .v (aggV (stp n x i))) rfl ⟨_, Tryz.func109, by kernel_rfl, rfl⟩ (by decide) (by decide) (KC 1000007 rfl (KE 1000018 rfl (by rfl) (KC 1000091 rfl (KC 1000092 rfl (KC 7 rfl KN)))))
  (fun x hx => by simp only [List.mem_cons, List.not_mem_nil, or_false] at hx; rcases hx with rfl; exact ⟨vlt rfl, .inl ⟨_, rfl⟩⟩)
  (fun i x hx => by simp only [List.mem_cons, List.not_mem_nil, or_false] at hx; rcases hx with rfl | rfl | rfl | rfl <;> exact vle rfl)
  (fun z x hx => by cases hx)
  (fun z l _ x hx => by cases hx)
  (fun i l' hl x hx => by simp only [List.mem_cons, List.not_mem_nil, or_false] at hx; rcases hx with rfl | rfl | rfl | rfl <;> first | exact Firm.blk | exact Firm.v _ _ | exact Firm.freshV)
  (fun i z l' hl x hx => by simp only [List.mem_cons, List.mem_append, List.not_mem_nil, or_false] at hx; rcases hx with rfl | rfl | ((rfl | rfl | rfl | rfl) | rfl) <;> first | exact Firm.blk | exact Firm.v _ _ | exact Firm.freshV)
  (fun J l' w hq h0 => down1_seq (b := b14) h1 h2 hx (hq.sub fun i x hx => by simp only [List.mem_cons, List.not_mem_nil, or_false] at hx ⊢; rcases hx with rfl | rfl <;> simp) h0)
  (fun i l' a w z _ hb h => assign_box zero67 (size67.of rfl) rfl rfl (by decide) (by decide) hb h) ?_ ?_
 ·intro i l' D rr mm z hi'
  refine A.openFresh (t := 8) (k := 1000008) rfl fun b8 hBb8 => ?_
  refine A.block (GE (TF 3 (RLV 1000007 U112 rfl rfl rfl ?_)));refine RL 1000008 U67 rfl rfl (size67.of rfl) ?_;refine RS (ok_build1P U112 infoPP rfl rfl) ?_;refine RN ?_;refine ⟨_, eff_appendRoom (n := 28) (s := 1000018) (k := i) (c := hg n + 1) (us := stp n x i) U112 infoPP rfl rfl rfl rfl (by omega) hBb18 rfl (by rw [pathV_length (by omega)]; omega) (fun q hq => by rw [U112] at hq; cases hq) (by decide) (LV 7 rfl (LT 1000007 rfl (LT 1000091 rfl (LT 1000092 rfl (LeftS.cons (t := 1000098) rfl (Surv.rec rfl) (LeftS.cons (t := 1000099) rfl (Surv.rec rfl) LN)))))), ?_⟩
  refine TF 4 (RN ?_);refine ⟨_, eff_storeS (n := 28) (s := 1000007) info112 rfl rfl rfl hBb7 rfl (by simp) (LT 1000018 rfl (LT 1000091 rfl (LT 1000092 rfl (LeftS.cons (t := 1000098) rfl (Surv.rec rfl) (LeftS.cons (t := 1000099) rfl (Surv.rec rfl) LN))))), ?_⟩
  refine TL (RN (End.sub (KC 1000007 rfl (KE 1000018 rfl (show blk b18 67 _ = blk b18 67 (pathV n x (i + 1)) from congrArg _ (pathV_set (by omega))) (KC 1000091 rfl (KC 1000092 rfl (KC 1000098 rfl (KC 1000099 rfl KN)))))) ?_));refine End.normal_block ?_;exact End.round (Sv [1000098,1000099,1000007,1000018,1000091,1000092] rfl) (fun x hx => by simp only [List.mem_cons, List.mem_append, List.not_mem_nil, or_false] at hx; rcases hx with rfl | rfl | (rfl | rfl | rfl | rfl) <;> exact vle rfl) (by decide)
 ·intro D hD
  refine End.normal_block (EN (GT (RLV 1000007 U112 rfl rfl rfl ?_)));refine RVN 2 rfl ?_;refine A.ret ?_;exact End.newTTC (vD := 1000099) rfl hD rfl rfl rfl (kg := 1000018) rfl hBb18 rfl rfl
end
section
theorem info23 : InfoIs Tryz.prog 23 (.slice none 0 0) 24 := by unfold InfoIs; kernel_rfl
def chk (len want : Int) : Int := if len < want then 6 else if len > want then 5 else 0
def getV (l : List UInt8) (k : Nat) : Int := if l.length = k then (num l : Int) else 0
theorem checkLength_fn (l : List UInt8) (want : Int) : Fn Tryz.prog 165 [byt l, .v (.int .i64 want)] (.v (.int .i64 (chk l.length want))) := by
 refine Fn.of Tryz.func165 rfl (by kernel_rfl) Tryz.ntmps165 (by simp) (fun w => [(0, old w.heap.size (byt l)), (1, .v (.int .i64 want))]) (fun w => (Start.old rfl (Start.v rfl Start.nil))) fun w₀ => ?_
 refine GV rfl (QSB (GT (RM rfl ?_)));refine RS (ok_lenB U23 rfl LA) ?_;refine RVN 3 rfl ?_;refine A.cond rfl (fun hc5 => ?_) (fun hc5 => ?_)
 ·refine GV rfl (A.ret (End.ret_block (End.ret_then ?_)));exact End.ret1 rfl rfl (Le.v (by simp [chk] at *; try omega))
 ·refine GT (RM rfl ?_);refine RS (ok_lenB U23 rfl LA) ?_;refine RVN 3 rfl ?_;refine A.cond rfl (fun hc10 => ?_) (fun hc10 => ?_)
  ·refine GV rfl (A.ret (End.ret_block (End.ret_then ?_)));exact End.ret1 rfl rfl (Le.v (by simp [chk] at *; try omega))
  ·refine A.skip (End.normal_block (EN (GV rfl (A.ret ?_))));exact End.ret1 rfl rfl (Le.v (by simp [chk] at *; try omega))
theorem put_fn (v k : Int) (hv0 : 0 ≤ v) (hv : v < 18446744073709551616) (hk0 : 0 ≤ k) (hk : k ≤ 8) : Fn Tryz.prog 144 [.v (.int .u64 v), .v (.int .i64 k)] (bytes (be k.toNat v.toNat) k.toNat) := by
 obtain ⟨V, rfl⟩ := Int.eq_ofNat_of_zero_le hv0
 obtain ⟨K, rfl⟩ := Int.eq_ofNat_of_zero_le hk0
 simp only [Int.toNat_natCast]
 refine FV Tryz.func144 rfl Tryz.ntmps144 rfl fun w₀ => ?_
 refine GV rfl (GT (RM rfl ?_));refine RS (ok_make K U23 info5 (by decide) rfl rfl rfl rfl rfl (by omega)) ?_;refine RVN 1 rfl ?_;refine A.open (t := 5) (k := 1000000) rfl fun b hb => ?_
 refine QS (GV rfl (A.block ?_));refine A.loop (ι := Nat) (fun i => i ≤ K) (fun i => [(0, .v (.int .u64 (V : Int))), (1, .v (.int .i64 (K : Int))), (5, .v (.slice (some ⟨b, 0, none⟩) K K)), (9, .v (.int .i64 (K : Int))), (10, .v (.int .i64 (i : Int))), (1000000, blk b 5 (((be K V).take i).map byteV ++ List.replicate ((be K V).length - i) (.int .u8 0)))]) (fun i => K - i) 0 ?_ ?_ ?_
 ·exact Nat.zero_le _
 ·exact (KC 0 rfl (KC 1 rfl (KE 5 rfl (by simp) (KC 9 rfl (KC 10 rfl (KE 1000000 rfl (by simp [be_length]) KN))))))
 intro i hi
 refine GV rfl (QS ?_);refine A.cond rfl (fun hc11 => ?_) (fun hc11 => ?_)
 ·have hlt : i < K := by simpa using hc11
  refine QK (QSB (GV rfl (GE (TF 11 (RV 5 rfl ?_)))));refine RZ (nI (K - 1)) (by rw [wrap_i64 (by omega) (by omega)]; congr 1; omega) ?_;refine RV 2 rfl ?_;refine RZ (nI (K - 1 - i)) (by rw [wrap_i64 (by omega) (by omega)]; congr 1; omega) ?_;refine RB rfl rfl rfl ?_;refine RZ (nI (8 * (K - 1 - i))) (by rw [wrap_i64 (by omega) (by omega)]; congr 1) ?_;refine RS (ok_shr rfl rfl (by omega)) ?_;refine RZ (nQ (V / 256 ^ (K - 1 - i))) (by rw [Int.toNat_natCast, show min (8 * (K - 1 - i)) IntKind.u64.bits = 8 * (K - 1 - i) from by simp only [IntKind.bits]; omega, shr_nat, pow256]) ?_;refine RS (ok_conv U47 U5 rfl) ?_;refine RZ (byteV (UInt8.ofNat (V / 256 ^ (K - 1 - i)))) (by rw [wrap_u8_nat]; rfl) ?_;refine RS (ok_indexV i U23 info5 rfl rfl rfl hlt) ?_;refine RN ?_;refine ⟨_, eff_store (n := 26) (s := 1000000) info5 rfl rfl rfl hb rfl (by simp [be_length]; omega) (Left.cons (t := 0) rfl (Stays.v _ _) (Left.cons (t := 1) rfl (Stays.v _ _) (Left.cons (t := 5) rfl (Stays.v _ _) (Left.cons (t := 9) rfl (Stays.v _ _) (Left.cons (t := 10) rfl (Stays.v _ _) Left.nil))))), ?_⟩
  refine TL (RN (End.normal_block (EN (GTE (RB rfl rfl rfl ?_)))));refine RZ (nI (i + 1)) (by rw [wrap_i64 (by omega) (by omega)]; congr 1) ?_;refine RVN 1 rfl ?_;refine End.normal_then ?_;refine End.again (i + 1) ?_ ?_ ?_
  ·show _ ≤ _; omega
  ·show _ - _ < _ - _; omega
  ·exact (KC 0 rfl (KC 1 rfl (KC 5 rfl (KC 9 rfl (KC 10 rfl (KE 1000000 rfl (by rw [Nat.zero_add]; exact congrArg _ (fill_step (be_get hlt))) KN))))))
 ·refine A.exit (End.exit_then (End.exit_then (End.exit_here (EN (GV rfl (A.ret ?_))))))
  have hK : i = K := by simp at hc11; omega
  subst hK
  refine End.bytes 4 1000000 (be i V) rfl (be_length _ _).symm rfl ?_ (by simp [be_length]) (by simp only [maxLen]; omega) ?_
  ·simp only [be_length, Nat.sub_self, List.replicate_zero, List.append_nil]
   rw [← List.map_take, List.take_take, Nat.min_self, List.take_of_length_le (by rw [be_length]; omega)]
  ·exact End.ret1 rfl rfl (Le.refl _)
theorem Put64_fn (v : Int) (hv0 : 0 ≤ v) (hv : v < 18446744073709551616) : Fn Tryz.prog 154 [.v (.int .u64 v)] (bytes (be 8 v.toNat) 8) := by
 refine FV Tryz.func154 rfl Tryz.ntmps154 rfl fun w₀ => ?_
 refine GV rfl (GT (RM rfl ?_));refine RS (ok_call (put_fn v 8 hv0 hv (by omega) (by omega)) (Args.cons rfl LA (Args.cons rfl LA Args.nil))) ?_;refine RVN 1 rfl ?_;refine A.ret ?_;exact ER rfl rfl
theorem Put32_fn (v : Int) (hv0 : 0 ≤ v) (hv : v < 4294967296) : Fn Tryz.prog 131 [.v (.int .u32 v)] (bytes (be 4 v.toNat) 4) := by
 refine FV Tryz.func131 rfl Tryz.ntmps131 rfl fun w₀ => ?_
 refine GV rfl (GT (RM rfl ?_));refine RS (ok_conv U46 U47 rfl) ?_;refine RZ (.int .u64 v) (by rw [wrap_u64 hv0 (by omega)]) ?_;refine RS (ok_call (put_fn v 4 hv0 (by omega) (by omega) (by omega)) (Args.cons rfl LA (Args.cons rfl LA Args.nil))) ?_;refine RVN 1 rfl ?_;refine A.ret ?_;exact ER rfl rfl
theorem get_fn (l : List UInt8) (k : Int) (hk0 : 0 ≤ k) (hk : k ≤ 8) : Fn Tryz.prog 163 [byt l, .v (.int .i64 k)] (tup [.v (.int .u64 (getV l k.toNat)), .v (.int .i64 (chk l.length k))]) := by
 have hchk : chk l.length k = 0 ↔ (l.length : Int) = k := by unfold chk; split <;> (try split) <;> omega
 refine Fn.of Tryz.func163 rfl (by kernel_rfl) Tryz.ntmps163 (by simp) (fun w => [(0, old w.heap.size (byt l)), (1, .v (.int .i64 k))]) (fun w => (Start.old rfl (Start.v rfl Start.nil))) fun w₀ => ?_
 refine GV rfl (QS (GT (RV 2 rfl ?_)));refine RS (ok_call (checkLength_fn _ _) (Args.cons rfl LA (Args.cons rfl LA Args.nil))) ?_;refine RVN 1 rfl ?_;refine GV rfl ?_;refine A.cond rfl (fun hc14 => ?_) (fun hc14 => ?_)
 ·have hne : ¬ (l.length : Int) = k := fun h => by simp [hchk.2 h] at hc14
  refine GV rfl (A.ret (End.ret_then ?_))
  first | exact End.ret2 rfl rfl (Le.v (by rw [getV, if_neg (by omega)])) rfl (Le.refl _) | exact End.ret2 rfl rfl (Le.v (by rw [getV, if_pos (by omega), List.take_of_length_le (by simp at hc19; omega)])) rfl (Le.v (by rw [hchk.2 heq]))
 ·have heq : (l.length : Int) = k := hchk.1 (by simpa using hc14)
  have hl8 : l.length ≤ 8 := by omega
  refine QK (GV rfl (QS (GT (RM rfl ?_))));refine RS (ok_lenB U23 rfl LA) ?_;refine RVN 1 rfl ?_;refine A.block ?_;refine A.loop (ι := Nat) (fun i => i ≤ l.length) (fun i => [(7, .v (nQ (num (l.take i)))), (16, old w₀.heap.size (byt l)), (17, .v (.int .i64 (l.length : Int))), (18, .v (.int .i64 (i : Int)))]) (fun i => l.length - i) 0 ?_ ?_ ?_
  ·exact Nat.zero_le _
  ·exact (Sv [7,16,17,18] rfl)
  intro i hi
  refine GV rfl (QS ?_);refine A.cond rfl (fun hc19 => ?_) (fun hc19 => ?_)
  ·have hlt : i < l.length := by simpa using hc19
   have hnum : num (l.take i) < 256 ^ 7 := Nat.lt_of_lt_of_le (num_lt _) (Nat.pow_le_pow_right (by decide) (by rw [List.length_take]; omega))
   have hcn := l[i].toNat_lt
   refine QK (QSB (GT (RS (ok_index (d := byteD l[i]) U23 info5 rfl LA rfl (by omega) (by simp [hlt])) ?_)));refine RS (ok_load U5 rfl rfl) ?_;refine RVN 1 rfl ?_;refine GTE (RM rfl ?_);refine RS (ok_shl rfl rfl (by decide)) ?_;refine RZ (nQ (num (l.take i) * 256)) (by rw [show (min (Int.toNat 8) IntKind.u64.bits) = 8 from rfl, wrap_u64 (by omega) (by omega)]; congr 1) ?_;refine RM rfl ?_;refine RS (ok_conv U5 U47 rfl) ?_;refine RZ (.int .u64 (l[i].toNat : Int)) (by rw [wrap_u64 (by omega) (by omega)]) ?_;refine RB rfl rfl rfl ?_;refine RZ (nQ (num (l.take (i + 1)))) (by rw [show IntKind.u64.bits = 64 from rfl, or_u64_nat (by omega) (by omega), mul256_or, List.take_add_one, List.getElem?_eq_getElem hlt, Option.toList_some, num_snoc]) ?_;refine RVN 1 rfl ?_;refine End.normal_block (EN (GTE (RB rfl rfl rfl ?_)));refine RZ (nI (i + 1)) (by rw [wrap_i64 (by omega) (by omega)]; congr 1) ?_;refine RVN 1 rfl ?_;refine End.normal_then ?_;refine End.again (i + 1) ?_ ?_ ?_
   ·show _ ≤ _; omega
   ·show _ - _ < _ - _; omega
   ·exact (Sv [7,16,17,18] rfl)
  ·refine A.exit (End.exit_then (End.exit_then (End.exit_here (EN (GV rfl (A.ret ?_))))))
   first | exact End.ret2 rfl rfl (Le.v (by rw [getV, if_neg (by omega)])) rfl (Le.refl _) | exact End.ret2 rfl rfl (Le.v (by rw [getV, if_pos (by omega), List.take_of_length_le (by simp at hc19; omega)])) rfl (Le.v (by rw [hchk.2 heq]))
theorem Get32_fn (l : List UInt8) : Fn Tryz.prog 160 [byt l] (tup [.v (.int .u32 (getV l 4)), .v (.int .i64 (chk l.length 4))]) := by
 have hv : 0 ≤ getV l 4 ∧ getV l 4 < 4294967296 := by
  unfold getV
  split
  ·rename_i h; have := num_lt l; rw [h] at this; omega
  ·omega
 refine Fn.of Tryz.func160 rfl (by kernel_rfl) Tryz.ntmps160 (by simp) (fun w => [(0, old w.heap.size (byt l))]) (fun w => (Start.old rfl Start.nil)) fun w₀ => ?_
 refine GV rfl (GT (RM rfl ?_));refine RS (ok_call (get_fn l 4 (by decide) (by decide)) (Args.cons rfl LA (Args.cons rfl LA Args.nil))) ?_;refine RM rfl ?_;refine RS (ok_extract rfl rfl) ?_;refine RS (ok_extract rfl rfl) ?_;refine RVN 2 rfl ?_;refine GT (RM rfl ?_);refine RS (ok_conv U47 U46 rfl) ?_;refine RZ (.int .u32 (getV l 4)) (congrArg _ (wrap_u32 hv.1 hv.2)) ?_;refine RVN 3 rfl ?_;refine A.ret ?_;exact End.ret2 rfl rfl (by first | exact Le.refl _ | exact Le.old _ _) rfl (by first | exact Le.refl _ | exact Le.old _ _)
end
section
theorem refPut_fnB (v k : Int) (hv0 : 0 ≤ v) (hv : v < 18446744073709551616) (hk0 : 0 ≤ k) (hk : k ≤ 8) : FnB Tryz.prog 116 [.v (.int .u64 v), .v (.int .i64 k)] (fun B => fresh B 5 ((be k.toNat v.toNat).map byteV) k.toNat) := by
 obtain ⟨V, rfl⟩ := Int.eq_ofNat_of_zero_le hv0
 obtain ⟨K, rfl⟩ := Int.eq_ofNat_of_zero_le hk0
 simp only [Int.toNat_natCast]
 refine FnB.of Tryz.func116 rfl (by kernel_rfl) Tryz.ntmps116 (by simp) (fun w => [(0, .v (.int .u64 (V : Int))), (1, .v (.int .i64 (K : Int)))]) (fun w => (Start.v rfl (Start.v rfl Start.nil))) fun w₀ => ?_
 refine GV rfl (GT (RM rfl ?_));refine RS (ok_make K U23 info5 (by decide) rfl rfl rfl rfl rfl (by omega)) ?_;refine RVN 1 rfl ?_;refine A.open (t := 5) (k := 1000000) rfl fun b hb => ?_
 refine QS (GT (RV 2 rfl ?_));refine RZ (.int .i64 ((K : Int) - 1 - ((0 : Nat) : Int))) (by rw [wrap_i64 (by omega) (by omega)]; congr 1; omega) ?_;refine RVN 1 rfl ?_;refine A.block ?_;refine A.loop (ι := Nat) (fun j => j ≤ K) (fun j => [(0, .v (nQ (V / 256 ^ j))), (5, .v (.slice (some ⟨b, 0, none⟩) K K)), (6, .v (.int .i64 ((K : Int) - 1 - (j : Int)))), (1000000, blk b 5 (List.replicate ((be K V).length - j) (.int .u8 0) ++ ((be K V).drop ((be K V).length - j)).map byteV))]) (fun j => K - j) 0 ?_ ?_ ?_
 ·exact Nat.zero_le _
 ·exact (KE 0 rfl (by simp) (KE 5 rfl (by simp) (KC 6 rfl (KE 1000000 rfl (by rw [Nat.sub_zero, List.drop_length]; simp [be_length]) KN))))
 intro j hj
 refine QS (GV rfl ?_);refine A.cond rfl (fun hc12 => ?_) (fun hc12 => ?_)
 ·have hlt : j < K := by simp at hc12; omega
  refine QK (QSB (GS (TF 6 (RV 3 rfl ?_))));refine RS (ok_rem rfl rfl (by decide)) ?_;refine RZ (nQ (V / 256 ^ j % 256)) (by rw [tmod_lit _ (by decide)]; rfl) ?_;refine RS (ok_conv U47 U5 rfl) ?_;refine RZ (byteV (UInt8.ofNat (V / 256 ^ j))) (by rw [wrap_u8_nat, ofNat_mod]; rfl) ?_;refine RS (ok_indexV (K - 1 - j) U23 info5 rfl rfl (by omega) (by omega)) ?_;refine RN ?_;refine ⟨_, eff_store (n := 24) (s := 1000000) info5 rfl rfl rfl hb rfl (by simp [be_length]; omega) (Left.cons (t := 0) rfl (Stays.v _ _) (Left.cons (t := 5) rfl (Stays.v _ _) (Left.cons (t := 6) rfl (Stays.v _ _) Left.nil))), ?_⟩
  refine TL (RN (GTE (RM rfl ?_)));refine RS (ok_div rfl rfl (by decide)) ?_;refine RZ (nQ (V / 256 ^ (j + 1))) (by rw [tdiv_lit _ (by decide), show Int.toNat 256 = 256 from rfl, wrapN_u64 (Nat.lt_of_le_of_lt (Nat.le_trans (Nat.div_le_self _ _) (Nat.div_le_self _ _)) (by omega)), Nat.pow_succ, ← Nat.div_div_eq_div_mul]) ?_;refine RVN 1 rfl ?_;refine End.normal_block (EN (GTE (RV 2 rfl ?_)));refine RZ (.int .i64 ((K : Int) - 1 - ((j + 1 : Nat) : Int))) (by rw [wrap_i64 (by omega) (by omega)]; congr 1; omega) ?_;refine RVN 1 rfl ?_;refine End.normal_then ?_;refine End.again (j + 1) ?_ ?_ ?_
  ·show _ ≤ _; omega
  ·show _ - _ < _ - _; omega
  ·exact (KC 0 rfl (KC 5 rfl (KC 6 rfl (KE 1000000 rfl (by rw [Nat.zero_add]; have h := fill_back (l := be K V) (f := byteV) (z := .int .u8 0) (c := UInt8.ofNat (V / 256 ^ j)) (j := j) (by rw [be_length]; exact hlt) (by rw [be_length, be_get (by omega)]; congr 3; congr 1; omega); rw [be_length] at h ⊢; exact congrArg _ h) KN))))
 ·refine A.exit (End.exit_then (End.exit_then (End.exit_here (EN (GV rfl (A.ret ?_))))))
  have hK : j = K := by simp at hc12; omega
  subst hK
  exact End.fresh rfl hb rfl (by rw [List.length_map, be_length]) (k := 1000000) rfl (by simp only [be_length, Nat.sub_self, List.replicate_zero, List.nil_append, List.drop_zero])
theorem refPut_fn (v k : Int) (hv0 : 0 ≤ v) (hv : v < 18446744073709551616) (hk0 : 0 ≤ k) (hk : k ≤ 8) : Fn Tryz.prog 116 [.v (.int .u64 v), .v (.int .i64 k)] (bytes (be k.toNat v.toNat) k.toNat) :=
 (refPut_fnB v k hv0 hv hk0 hk).fn fun _ => fresh_bytes (be_length _ _).symm (by simp only [maxLen]; omega)
theorem refPut32_fnB (v : Int) (hv0 : 0 ≤ v) (hv : v < 4294967296) : FnB Tryz.prog 89 [.v (.int .u32 v)] (fun B => fresh B 5 ((be 4 v.toNat).map byteV) 4) := by
 refine FnB.of Tryz.func89 rfl (by kernel_rfl) Tryz.ntmps89 (by simp) (fun w => [(0, .v (.int .u32 v))]) (fun w => (Start.v rfl Start.nil)) fun w₀ => ?_
 refine GV rfl (GT (RM rfl ?_));refine RS (ok_conv U46 U47 rfl) ?_;refine RZ (.int .u64 v) (by rw [wrap_u64 hv0 (by omega)]) ?_;refine RS (ok_callB (refPut_fnB v 4 hv0 (by omega) (by omega) (by omega)) (fun _ _ => fresh_mono _ _) (A2 rfl rfl)) ?_;refine RVN 1 rfl ?_;refine A.ret ?_;exact ER rfl rfl
theorem refPut64_fn (v : Int) (hv0 : 0 ≤ v) (hv : v < 18446744073709551616) : Fn Tryz.prog 86 [.v (.int .u64 v)] (bytes (be 8 v.toNat) 8) := by
 refine FV Tryz.func86 rfl Tryz.ntmps86 rfl fun w₀ => ?_
 refine GV rfl (GT (RM rfl ?_));refine RS (ok_call (refPut_fn v 8 hv0 hv (by omega) (by omega)) (Args.cons rfl LA (Args.cons rfl LA Args.nil))) ?_;refine RVN 1 rfl ?_;refine A.ret ?_;exact ER rfl rfl
theorem refPut32_fn (v : Int) (hv0 : 0 ≤ v) (hv : v < 4294967296) : Fn Tryz.prog 89 [.v (.int .u32 v)] (bytes (be 4 v.toNat) 4) := by
 refine FV Tryz.func89 rfl Tryz.ntmps89 rfl fun w₀ => ?_
 refine GV rfl (GT (RM rfl ?_));refine RS (ok_conv U46 U47 rfl) ?_;refine RZ (.int .u64 v) (by rw [wrap_u64 hv0 (by omega)]) ?_;refine RS (ok_call (refPut_fn v 4 hv0 (by omega) (by omega) (by omega)) (Args.cons rfl LA (Args.cons rfl LA Args.nil))) ?_;refine RVN 1 rfl ?_;refine A.ret ?_;exact ER rfl rfl
theorem refGet_fn (l : List UInt8) (k : Int) (hk0 : 0 ≤ k) (hk : k ≤ 8) : Fn Tryz.prog 117 [byt l, .v (.int .i64 k)] (tup [.v (.int .u64 (getV l k.toNat)), .v (.int .i64 (chk l.length k))]) := by
 refine Fn.of Tryz.func117 rfl (by kernel_rfl) Tryz.ntmps117 (by simp) (fun w => [(0, old w.heap.size (byt l)), (1, .v (.int .i64 k))]) (fun w => (Start.old rfl (Start.v rfl Start.nil))) fun w₀ => ?_
 refine GV rfl (QS (GT (RM rfl ?_)));refine RS (ok_lenB U23 rfl LA) ?_;refine RVN 2 rfl ?_;refine A.cond rfl (fun hc11 => ?_) (fun hc11 => ?_)
 ·refine GV rfl (A.ret (End.ret_then ?_))
  first | exact End.ret2 rfl rfl (Le.v (by simp at hc11; rw [getV, if_neg (by omega)])) rfl (Le.v (by simp at hc11; rw [chk, if_pos hc11])) | exact End.ret2 rfl rfl (Le.v (by simp at hc15; rw [getV, if_neg (by omega)])) rfl (Le.v (by simp at hc11 hc15; rw [chk, if_neg (by omega), if_pos hc15])) | exact End.ret2 rfl rfl (Le.v (by simp at hc18; rw [getV, if_pos (by omega), List.take_of_length_le (by omega)])) rfl (Le.v (by rw [chk, if_neg (by omega), if_neg (by omega)]))
 ·refine QK (QS (GT (RM rfl ?_)));refine RS (ok_lenB U23 rfl LA) ?_;refine RVN 2 rfl ?_;refine A.cond rfl (fun hc15 => ?_) (fun hc15 => ?_)
  ·refine GV rfl (A.ret (End.ret_then ?_))
   first | exact End.ret2 rfl rfl (Le.v (by simp at hc11; rw [getV, if_neg (by omega)])) rfl (Le.v (by simp at hc11; rw [chk, if_pos hc11])) | exact End.ret2 rfl rfl (Le.v (by simp at hc15; rw [getV, if_neg (by omega)])) rfl (Le.v (by simp at hc11 hc15; rw [chk, if_neg (by omega), if_pos hc15])) | exact End.ret2 rfl rfl (Le.v (by simp at hc18; rw [getV, if_pos (by omega), List.take_of_length_le (by omega)])) rfl (Le.v (by rw [chk, if_neg (by omega), if_neg (by omega)]))
  ·refine QK (GV rfl (QS (GV rfl (A.block ?_))));refine A.loop (ι := Nat) (fun i => (i : Int) ≤ k) (fun i => [(0, old w₀.heap.size (byt l)), (1, .v (.int .i64 k)), (6, .v (nQ (num (l.take i)))), (7, .v (.int .i64 (i : Int)))]) (fun i => l.length - i) 0 ?_ ?_ ?_
   ·exact hk0
   ·exact (Sv [0,1,6,7] rfl)
   intro i hi
   refine QS (GV rfl ?_);refine A.cond rfl (fun hc18 => ?_) (fun hc18 => ?_)
   ·have hlt : i < l.length := by simp at hc11 hc15 hc18; omega
    have heq : (l.length : Int) = k := by simp at hc11 hc15; omega
    have hnum : num (l.take i) < 256 ^ 7 := Nat.lt_of_lt_of_le (num_lt _) (Nat.pow_le_pow_right (by decide) (by rw [List.length_take]; omega))
    have hcn := l[i].toNat_lt
    refine QK (QSB (GTE (RV 2 rfl ?_)));refine RZ (nQ (num (l.take i) * 256)) (by rw [wrap_u64 (by omega) (by omega)]; congr 1) ?_;refine RV 2 rfl ?_;refine RS (ok_index (d := byteD l[i]) U23 info5 rfl LA rfl (by omega) (by simp [hlt])) ?_;refine RS (ok_load U5 rfl rfl) ?_;refine RS (ok_conv U5 U47 rfl) ?_;refine RZ (.int .u64 (l[i].toNat : Int)) (by rw [wrap_u64 (by omega) (by omega)]) ?_;refine RB rfl rfl rfl ?_;refine RZ (nQ (num (l.take (i + 1)))) (by rw [wrap_u64 (by omega) (by omega), List.take_add_one, List.getElem?_eq_getElem hlt, Option.toList_some, num_snoc]; congr 1) ?_;refine RVN 1 rfl ?_;refine End.normal_block (EN (GTE (RV 2 rfl ?_)));refine RZ (nI (i + 1)) (by rw [wrap_i64 (by omega) (by omega)]; congr 1) ?_;refine RVN 1 rfl ?_;refine End.normal_then ?_;refine End.again (i + 1) ?_ ?_ ?_
    ·show ((i + 1 : Nat) : Int) ≤ k; omega
    ·show _ - _ < _ - _; omega
    ·exact (Sv [0,1,6,7] rfl)
   ·have heq : (l.length : Int) = k := by simp at hc11 hc15; omega
    refine A.exit (End.exit_then (End.exit_then (End.exit_here (EN (GV rfl (A.ret ?_))))))
    first | exact End.ret2 rfl rfl (Le.v (by simp at hc11; rw [getV, if_neg (by omega)])) rfl (Le.v (by simp at hc11; rw [chk, if_pos hc11])) | exact End.ret2 rfl rfl (Le.v (by simp at hc15; rw [getV, if_neg (by omega)])) rfl (Le.v (by simp at hc11 hc15; rw [chk, if_neg (by omega), if_pos hc15])) | exact End.ret2 rfl rfl (Le.v (by simp at hc18; rw [getV, if_pos (by omega), List.take_of_length_le (by omega)])) rfl (Le.v (by rw [chk, if_neg (by omega), if_neg (by omega)]))
end
end Go.Proofs.YtmkpekmhhbcifaaGreatDoor
