/-
  OWN TEXTS of this seat, put together, part 2: Range, Eq, Flat, Vals, Fresh, Mark, Var, Write, Scope, Nest, Calls, More, Any, Hold, Auto, C01a, C01b, C02a, C02b, C02c, C01c.
-/
import Derived.Test.YtffiflfjlemggaaGreatDoorM1
import Derived.RangeFuncOwn
import Derived.ChangeKeysEq
import Derived.Laws.StructEq
import Derived.Laws.IdiomStrings
import Derived.Scope
import Derived.Lib.SliceRun
import Derived.Test.YtffiflfjlemggaaGreatDoorProg
namespace Go.Proofs.YtffiflfjlemggaaGreatDoor
open Go Go.RowKit
variable {κ : Cx}

/-! ### Facts on memory -/
/-- Block b is the object o; there are at least m blocks. -/
def recD (b : Nat) (o : Obj) (m : Nat) : D := .p (fun B w _ => b < B ∧ m ≤ B ∧ w.heap[b]? = some o) (fun _ _ _ _ g ⟨h1, h2, h3⟩ => ⟨h1, h2, (g.block b h1).trans h3⟩) (fun _ _ _ _ g ⟨h1, h2, h3⟩ => ⟨Nat.lt_of_lt_of_le h1 g, Nat.le_trans h2 g, h3⟩)
theorem Surv.rec {B T g b m : Nat} {o : Obj} (h : o.isCells = false) : Surv B T g (recD b o m) := fun w _ _ k ⟨h1, h2, h3⟩ => by
  refine ⟨Nat.lt_of_lt_of_le h1 k.size, Nat.le_trans h2 k.size, (k.other b h1 fun hb => ?_).trans h3⟩
  subst hb
  obtain ⟨cs, fr, hx⟩ := k.cel _ h3
  subst hx; cases h
/-- A property of memory that stays while memory grows, as a fact. -/
def jD (J : World → Prop) : D := .p (fun B w _ => ∃ v : World, J v ∧ v.heap.size ≤ B ∧ Below v.heap.size v w) (fun _ _ _ _ g ⟨v, h1, h2, h3⟩ => ⟨v, h1, h2, h3.trans (g.mono h2)⟩) (fun _ _ _ _ g ⟨v, h1, h2, h3⟩ => ⟨v, h1, Nat.le_trans h2 g, h3⟩)
theorem jD_get {J : World → Prop} (hst : ∀ a b, J a → Grow a b → J b) {w : World} {x : Value} (h : (jD J).Of w x) : J w := by
  obtain ⟨v, h1, _, h3⟩ := h
  exact hst v w h1 h3
theorem jD_mk {J : World → Prop} {w : World} {x : Value} (h : J w) : (jD J).Of w x := ⟨w, h, Nat.le_refl _, Below.refl _ _⟩
theorem below_two {B : Nat} {w₀ w w' : World} (h : Below B w₀ w) (h' : Below B w₀ w') (hs : w.heap.size ≤ w'.heap.size) : Below B w w' :=
  ⟨h'.os.trans h.os.symm, h'.tape.trans h.tape.symm, h'.output.trans h.output.symm, hs, fun k hk => (h'.block k hk).trans (h.block k hk).symm⟩
/-- The fact survives a turn of block l, which is no cells before and after. -/
def Firm (l : Nat) (d : D) : Prop := ∀ (w : World) (o o' : Obj) (x : Value), w.heap[l]? = some o → o.isCells = false → d.Of w x → d.Of (w.putObj l o') x
theorem Firm.v (l : Nat) (x : Value) : Firm l (.v x) := fun _ _ _ _ _ _ h => h
theorem below_putObj {B l : Nat} (w : World) (o' : Obj) (h : B ≤ l) : Below B w (w.putObj l o') := ⟨rfl, rfl, rfl, by simp, fun _ hk => World.putObj_heap_other (by omega)⟩
theorem Firm.old {l B : Nat} {d : D} (h : B ≤ l) : Firm l (Go.Proofs.YtffiflfjlemggaaGreatDoor.old B d) := fun w _ o' _ _ _ ⟨h1, h2⟩ => ⟨by simpa using h1, D.OfB.keep h2 (below_putObj w o' h)⟩
theorem Firm.blk {l b : Nat} {e : TypeId} {xs : List Value} : Firm l (Go.Proofs.YtffiflfjlemggaaGreatDoor.blk b e xs) := fun w o o' _ hl ho ⟨h1, h2⟩ => ⟨by simpa using h1, (World.putObj_heap_other (fun hb => by
  subst hb; rw [h2] at hl; injection hl with hl; subst hl; cases ho)).trans h2⟩
theorem Firm.tab {l b : Nat} {xs : List Value} : Firm l (Go.Proofs.YtffiflfjlemggaaGreatDoor.tab b xs) := fun w o o' _ hl ho ⟨h1, e, h2⟩ => ⟨by simpa using h1, e, (World.putObj_heap_other (fun hb => by
  subst hb; rw [h2] at hl; injection hl with hl; subst hl; cases ho)).trans h2⟩
/-- Facts on memory that hold in w, which is above w₀. -/
def Holds (w₀ : World) (V : Env) (w : World) : Prop := Below w₀.heap.size w₀ w ∧ w₀.heap.size ≤ w.heap.size ∧ ∀ p ∈ V, p.2.Of w undef
theorem Holds.grow {w₀ w w' : World} {V : Env} (h : Holds w₀ V w) (g : Grow w w') : Holds w₀ V w' := ⟨h.1.trans (g.mono h.2.1), Nat.le_trans h.2.1 g.size, fun p hp => (h.2.2 p hp).grow g⟩
theorem Holds.putObj {w₀ w : World} {V : Env} {l : Nat} {o : Obj} (o' : Obj) (h : Holds w₀ V w) (hl : w.heap[l]? = some o) (ho : o.isCells = false) (hB : w₀.heap.size ≤ l) (hf : ∀ p ∈ V, Firm l p.2) : Holds w₀ V (w.putObj l o') :=
  ⟨h.1.trans (below_putObj w o' hB), by simpa using h.2.1, fun p hp => hf p hp w o o' _ hl ho (h.2.2 p hp)⟩

theorem vle {k : Nat} {d : D} (h : Nat.ble 1000000 k = true) : vbase ≤ (k, d).1 := Nat.le_of_ble_eq_true h
theorem vlt {k : Nat} {d : D} (h : Nat.blt k 1000000 = true) : (k, d).1 < vbase := Nat.le_of_ble_eq_true h

/-! ### The call of yield -/
section
variable {P : Program} {n : Nat} {w₀ : World} {ops : Array Oper} {E : Env} {ty : TypeId} {pos : String} {after : Array Edge}
/-- What yield does at each round: it goes on, and the property of memory moves on by one. -/
def Yields (P : Program) (N : Nat) (l : Nat) (arg : Nat → D) (J : Nat → World → Prop) : Prop :=
  ∀ (i : Nat) (W : World) (u : Value), i < N → J i W → (arg i).Of W u → YieldAt (FR none) 0 P l #[u] W fun e W' => e = .returned (.bool true) ∧ J (i + 1) W' ∧ W.heap.size ≤ W'.heap.size
structure Seqs (P : Program) (w₀ : World) (N : Nat) (l : Nat) (arg : Nat → D) (V : Nat → Env) (J : Nat → World → Prop) : Prop where
  grow : ∀ i a b, J i a → Grow a b → J i b
  holds : ∀ i W, J i W → Holds w₀ (V i) W
  yields : Yields P N l arg J
theorem Seqs.sub {N l : Nat} {arg : Nat → D} {V V' : Nat → Env} {J : Nat → World → Prop} (h : Seqs P w₀ N l arg V J) (hs : ∀ i, ∀ p ∈ V' i, p ∈ V i) : Seqs P w₀ N l arg V' J :=
  ⟨h.grow, fun i W hJ => ⟨(h.holds i W hJ).1, (h.holds i W hJ).2.1, fun p hp => (h.holds i W hJ).2.2 p (hs i p hp)⟩, h.yields⟩
theorem eff_yield {N l : Nat} {arg : Nat → D} {V : Nat → Env} {J : Nat → World → Prop} {d vJ : Nat} {fv x : Operand} {ex : D} {tys : Array TypeId} {E' : Env} (hq : Seqs P w₀ N l arg V J) (i : Nat) (hi : i < N)
    (hJ : E.look vJ = some (jD (J i))) (hf : E.at fv = some (.v (.func (.yield l) #[] #[]))) (hx : E.at x = some ex) (hle : Le ex (arg i)) (hd : d < n) (hV : ∀ p ∈ V (i + 1), vbase ≤ p.1) (hn : n ≤ vbase)
    (hl : Left w₀.heap.size E' E) :
    Eff P n w₀.heap.size ops ⟨some d, .call { callee := .value fv, args := #[x], argTypes := tys }, ty, pos, after, none⟩ E ((d, .v (.bool true)) :: (vJ, jD (J (i + 1))) :: (V (i + 1) ++ E')) := by
  intro κ a w K Q h hK
  have h1 : a.eval fv = _ := h.at_ fv _ hf
  have h2 := hle.of (h.at_ x _ hx)
  have hJw : J i w := jD_get (hq.grow i) (h.of vJ _ hJ)
  obtain ⟨fn, tmps, assign, body, hy, hr⟩ := hq.yields i w _ hi hJw h2
  rw [if_pos (by simp [Region.wanted])]
  refine ⟨fun _ _ => trivial, ?_⟩
  rw [Oper.semAt_eq _ _ _ (by nofun)]
  have hrun : (execOp a.eval ⟨some d, .call { callee := .value fv, args := #[x], argTypes := tys }, ty, pos, after, none⟩).run P w = .ok (.round l fn tmps assign body) w := by
    simp [execOp, resolve, Deferred.ofValue, h1, invoke, hy]
  rw [hrun, Oper.uponIn_round]
  refine ⟨fun e => absurd e (by simp [FR, Fence.wide]), RoundIn.mono (F := FR κ.rd) (n := 0) hr ?_⟩
  rintro e W' ⟨rfl, hJ', hs⟩
  obtain ⟨hb, hsz, hv⟩ := hq.holds _ _ hJ'
  have hb0 := (hq.holds _ _ hJw).1
  have hbel := below_two hb0 hb hs
  refine hK _ _ hbel (St.put ⟨hsz, h.defers, h.size, fun t e he => ?_⟩ hd rfl)
  have hund : ∀ t, vbase ≤ t → a.tmps.getD t undef = undef := fun t ht => by
    rw [Array.getD_eq_getD_getElem?, Array.getElem?_eq_none (by rw [h.size]; omega)]; rfl
  by_cases hts : vJ = t
  · subst hts
    rw [look_here] at he; injection he with he; subst he
    exact jD_mk hJ'
  · rw [look_past _ _ hts] at he
    rcases List.mem_append.1 (look_mem he) with hm | hm
    · have := hv _ hm
      rwa [hund t (hV _ hm)]
    · obtain ⟨h7, h8⟩ := hl _ hm
      exact h8 _ _ _ hbel h.base (h.of t e h7)
/-- A call that is walked at the caller's base. -/
theorem Calls.within {f : FuncId} {fn : Func} {c : Code} {vs : List Value} {w : World} {R : Ending → World → Prop} (hf : P.funcs[f]? = some fn) (hb : fn.body = some c) (hn : fn.ntmps = n) (hl : vs.length ≤ n) (hnv : n ≤ vbase) (hw : Below w₀.heap.size w₀ w) (hs : w₀.heap.size ≤ w.heap.size)
    (hE : ∀ p ∈ E, (vbase ≤ p.1 ∧ p.2.Of w undef) ∨ ∃ v, vs[p.1]? = some v ∧ p.2.Of w v) (h : A Cx.top P w₀ n c E (BP P fn R)) : Calls P f vs.toArray w R := by
  refine callsIn_FR.1 (callsIn_of_wp_marks (F := FR none) (n := 0) hf hb trivial (h _ w hw ⟨hs, rfl, ?_, fun t e he => ?_⟩))
  · simp [hn]; omega
  · show e.Of w ((vs.toArray ++ Array.replicate (fn.ntmps - vs.toArray.size) undef).getD t undef)
    rcases hE _ (look_mem he) with ⟨ht, hx⟩ | ⟨v, hv, hx⟩
    · rwa [Array.getD_eq_getD_getElem?, Array.getElem?_eq_none (by simp [hn]; simp only at ht; omega)]
    · have hlt : t < vs.length := (List.getElem?_eq_some_iff.1 hv).1
      rw [Array.getD_eq_getD_getElem?, Array.getElem?_append_left (by simpa using hlt)]
      simp only at hv
      simp [hv]; exact hx
/-- The end of a function that is ranged over. -/
theorem End.seq {fn : Func} {N l : Nat} {arg : Nat → D} {V : Nat → Env} {J : Nat → World → Prop} {vJ : Nat} (hq : Seqs P w₀ N l arg V J) (hr : fn.results = #[]) (hJ : E.look vJ = some (jD (J N))) :
    End Cx.top w₀ n E (BP P fn (fun e W => (∃ v, e = .returned v) ∧ J N W) .normal) := fun a w _ hs => by
  show LeavesInM (FR none) 0 P fn a.tmps _ a.defers .returning w
  rw [show a.defers = [] from hs.defers]
  exact ⟨_, by simp [results, hr]; rfl, ⟨_, rfl⟩, jD_get (hq.grow N) (hs.of vJ _ hJ)⟩

/-! ### The statement -/
/-- What the body of a round comes to: it goes on, and these facts hold. -/
def RoundQ (w₀ : World) (V : Env) : Exit → Act → World → Prop
  | .normal, _, w => Holds w₀ V w
  | _, _, _ => False
theorem End.round {V : Env} (hs : Sub V E) (hV : ∀ p ∈ V, vbase ≤ p.1) (hn : n ≤ vbase) : End κ w₀ n E (RoundQ w₀ V .normal) := fun a w g hst => ⟨g, hst.base, fun p hp => by
  have h1 := hst.of p.1 p.2 (hs p hp)
  have := hV p hp
  rwa [Array.getD_eq_getD_getElem?, Array.getElem?_eq_none (by rw [hst.size]; omega)] at h1⟩
/-- The loop's variable is set. -/
theorem assign_one {l id tp t : Nat} {ty pos after} {E : Env} {d : D} {a : Act} {w : World} (ht : t < n) (htp : tp < n) (hn : n ≤ vbase) (h : St ⟨some l, []⟩ n w₀.heap.size ((tp, d) :: E) a w) :
    (Code.region id #[⟨some t, .assign (.tmp tp), ty, pos, after, none⟩] false).wpIn (FR (some l)) 0 P (fun e a' w' => e = .normal ∧ Grow w w' ∧ St ⟨some l, []⟩ n w₀.heap.size ((t, d) :: (tp, d) :: E) a' w') a w := by
  have hr : Run P w₀.heap.size #[⟨some t, .assign (.tmp tp), ty, pos, after, none⟩] [⟨some t, .assign (.tmp tp), ty, pos, after, none⟩] ((tp, d) :: E) ((t, d) :: (tp, d) :: E) := .step rfl rfl (ok_assign (look_here _ _ _)) .nil
  have := wp_text (Q := fun e a' w' => e = .normal ∧ Grow w w' ∧ St ⟨some l, []⟩ n w₀.heap.size ((t, d) :: (tp, d) :: E) a' w') (rest := []) hn hr h (fun o ho => by
    simp only [List.mem_cons, List.not_mem_nil, or_false] at ho
    subst ho
    refine ⟨fun s hs => ?_, fun s hs => by simp only [Option.some.injEq] at hs; exact hs ▸ ht⟩
    simp [Oper.looksAt, Op.operands] at hs
    exact hs ▸ htp) fun a' w' g h' => wpListIn_nil ⟨rfl, g, h'⟩
  exact wpIn_region_list (by simpa using this)

theorem A.range {Q : Exit → Act → World → Prop} {g : Operand} {tp gf N vL vD : Nat} {assign body : Code} {lb : List Value} {S : Env} {V Eb : Nat → Env} {arg : Nat → D} (hg : E.at g = some (.v (.func (.func gf) #[] lb.toArray)))
    (hgf : ∃ fn, P.funcs[gf]? = some fn ∧ (fn.name == "runtime.NumGoroutine") = false ∧ fn.body.isNone = false) (htp : tp < n) (hn : n ≤ vbase) (h0 : Sub (V 0 ++ S) E)
    (hS : ∀ p ∈ S, p.1 < vbase ∧ ((∃ x, p.2 = .v x) ∨ ∃ d, p.2 = old w₀.heap.size d)) (hV : ∀ i, ∀ p ∈ V i, vbase ≤ p.1)
    (hfV : ∀ i l, w₀.heap.size ≤ l → ∀ p ∈ V i, Firm l p.2) (hfE : ∀ i l, w₀.heap.size ≤ l → ∀ p ∈ Eb i, Firm l p.2)
    (hseq : ∀ (J : Nat → World → Prop) (l : Nat) (w : World), Seqs P w₀ N l arg V J → J 0 w → Calls P gf (.func (.yield l) #[] #[] :: lb).toArray w fun e W => (∃ v, e = .returned v) ∧ J N W)
    (hassign : ∀ i l a w, i < N → St ⟨some l, []⟩ n w₀.heap.size ((tp, arg i) :: (V i ++ S)) a w → assign.wpIn (FR (some l)) 0 P (fun e a' w' => e = .normal ∧ Grow w w' ∧ St ⟨some l, []⟩ n w₀.heap.size (Eb i) a' w') a w)
    (hbody : ∀ i l D r m, i < N → A ⟨some l, []⟩ P w₀ n body ((vL, recD l (.loop r) m) :: (vD, recD D (.deferred (some [])) 0) :: Eb i) (RoundQ w₀ ((vL, recD l (.loop r) m) :: (vD, recD D (.deferred (some [])) 0) :: V (i + 1))))
    (hend : ∀ D, w₀.heap.size ≤ D → End ⟨none, [{ target := .collected D, args := #[] }]⟩ w₀ n ((vD, recD D (.deferred (some [])) 0) :: (V N ++ S)) (Q .normal)) :
    A ⟨none, []⟩ P w₀ n (.rangeFunc g #[tp] assign body) E Q := fun a w hb hst => by
  show (Code.rangeFunc g #[tp] assign body).wpIn (FR none) 0 P Q a w
  refine wpIn_rangeFunc fun fn _ => ?_
  obtain ⟨rec, hrec⟩ : ∃ rec : LoopState → Option Code → Loop, rec = fun st pe => { state := st, pending := pe, fn, tmps := a.tmps, params := #[tp], assign, body, defers := w.heap.size } := ⟨_, rfl⟩
  obtain ⟨W1, hW1⟩ : ∃ W1, (w.alloc (.deferred (some []))).alloc (.loop (rec .ready none)) = W1 := ⟨_, rfl⟩
  have hg' : a.eval g = .func (.func gf) #[] lb.toArray := hst.at_ g _ hg
  obtain ⟨gfn, hf1, hf2, hf3⟩ := hgf
  have eg : ∀ args w, (callFunc gf args).run P w = .ok (.enter gf args) w := fun args w => by
    have h2' : ¬ gfn.name = "runtime.NumGoroutine" := by simpa using hf2
    have h3' : ¬ gfn.body = none := by intro h; rw [h] at hf3; cases hf3
    simp [callFunc, hf1, h2', h3']
  have hgr : Grow w W1 := by
    rw [← hW1]; exact (Grow.alloc w _).trans (Grow.alloc _ _)
  have hL1 : W1.heap[w.heap.size + 1]? = some (.loop (rec .ready none)) := by
    rw [← hW1]; have := World.alloc_heap_new (w.alloc (.deferred (some []))) (.loop (rec .ready none)); rwa [World.size_alloc] at this
  have hK1 : W1.heap[w.heap.size]? = some (.deferred (some [])) := by
    rw [← hW1]; exact (Below.heap_alloc _ _ _ (by simp)).trans (World.alloc_heap_new w _)
  have hund : ∀ t, vbase ≤ t → a.tmps.getD t undef = undef := fun t ht => by
    rw [Array.getD_eq_getD_getElem?, Array.getElem?_eq_none (by rw [hst.size]; omega)]; rfl
  have hH0 : Holds w₀ (V 0) w := ⟨hb, hst.base, fun p hp => by
    have h1 := hst.of p.1 p.2 (h0 p (List.mem_append_left _ hp))
    rwa [hund _ (hV 0 p hp)] at h1⟩
  -- what holds between two rounds
  have hstS : ∀ (κ' : Cx) (i : Nat) (W : World) (a' : Act) (E' : Env), κ'.df = a'.defers → a'.tmps.size = n → Holds w₀ (V i) W → w.heap.size ≤ W.heap.size → (∀ t e, E'.look t = some e → e.Of W (a'.tmps.getD t undef) ∨ ((t, e) ∈ V i ++ S ∧ (t < vbase → a'.tmps.getD t undef = a.tmps.getD t undef))) → St κ' n w₀.heap.size E' a' W := by
    intro κ' i W a' E' hd hsz hH hs hE
    refine ⟨hH.2.1, hd.symm, hsz, fun t e he => ?_⟩
    rcases hE t e he with h | ⟨hm, hsame⟩
    · exact h
    · rcases List.mem_append.1 hm with hm | hm
      · have h1 := hH.2.2 _ hm
        have ht := hV i _ hm
        simp only at ht
        rwa [Array.getD_eq_getD_getElem?, Array.getElem?_eq_none (by rw [hsz]; omega)]
      · obtain ⟨ht, hk⟩ := hS _ hm
        rw [hsame ht]
        have h1 := hst.of t e (h0 _ (List.mem_append_right _ hm))
        rcases hk with ⟨x, hx⟩ | ⟨d, hd'⟩
        · simp only at hx; subst hx; exact h1
        · simp only at hd'; subst hd'
          exact ⟨hH.2.1, D.OfB.keep h1.2 (below_two hb hH.1 hs)⟩
  refine ⟨w.heap.size + 1, [{ target := .collected w.heap.size, args := #[] }], W1, { target := .fn (.func gf) lb.toArray, args := #[.func (.yield (w.heap.size + 1)) #[] #[]] }, W1, gf,
    #[.func (.yield (w.heap.size + 1)) #[] #[]] ++ lb.toArray, W1, ?_, ?_, fun _ _ => trivial, ?_, fun e => absurd e (by simp [FR, Fence.wide]), ?_⟩
  · rw [← hW1, hrec]; exact run_enterLoop_outer _ _ _ _ _
  · have hy : a.eval (.const (.func (.yield (w.heap.size + 1)) #[] #[])) = .func (.yield (w.heap.size + 1)) #[] #[] := rfl
    simp only [resolve, hg']
    simp [Deferred.ofValue, hy]
  · simp [invoke, eg]
  · have harr : (#[.func (.yield (w.heap.size + 1)) #[] #[]] ++ lb.toArray : Array Value) = (.func (.yield (w.heap.size + 1)) #[] #[] :: lb).toArray := by simp
    rw [harr]
    refine callsIn_FR.2 ((hseq (fun i W => Holds w₀ (V i) W ∧ W.heap[w.heap.size + 1]? = some (.loop (rec .ready none)) ∧ W.heap[w.heap.size]? = some (.deferred (some []))) (w.heap.size + 1) W1 ⟨?_, fun i W h => h.1, ?_⟩ ⟨hH0.grow hgr, hL1, hK1⟩).mono ?_)
    · rintro i x y ⟨h1, h2, h3⟩ k
      exact ⟨h1.grow k, (k.block _ (Array.getElem?_eq_some_iff.1 h2).1).trans h2, (k.block _ (Array.getElem?_eq_some_iff.1 h3).1).trans h3⟩
    · -- one round
      rintro i W u hi ⟨hH, hl, hk⟩ hu
      have hlt : w.heap.size + 1 < W.heap.size := (Array.getElem?_eq_some_iff.1 hl).1
      have hBl : w₀.heap.size ≤ w.heap.size + 1 := by have := hst.base; omega
      have hy := run_yield (P := P) (args := #[u]) hl (by rw [hrec]; rfl)
      rw [hrec] at hy
      refine ⟨fn, _, assign, body, hy, roundIn_of_wpIn (F := FR none) trivial ?_⟩
      have htm : (List.foldl (fun (tmps : Array Value) (x : Tmp × Value) => tmps.setIfInBounds x.1 x.2) a.tmps ((#[tp].zip #[u]).toList)) = a.tmps.setIfInBounds tp u := by simp
      have hsta : St ⟨some (w.heap.size + 1), []⟩ n w₀.heap.size ((tp, arg i) :: (V i ++ S)) { tmps := a.tmps.setIfInBounds tp u, defers := [] } W := by
        refine hstS _ i W _ _ rfl (by simp [hst.size]) hH (by omega) fun t e he => ?_
        by_cases hts : tp = t
        · subst hts
          rw [look_here] at he; injection he with he; subst he
          left
          have : tp < a.tmps.size := by rw [hst.size]; exact htp
          simpa [this] using hu
        · rw [look_past _ _ hts] at he
          exact .inr ⟨look_mem he, fun _ => by simp [Array.getElem?_setIfInBounds_ne hts]⟩
      have has := hassign i (w.heap.size + 1) _ W hi hsta
      have hrun0 : ({ tmps := Array.foldl (fun (tmps : Array Value) (x : Tmp × Value) => tmps.setIfInBounds x.1 x.2) a.tmps (#[tp].zip #[u]), defers := [] } : Act) = { tmps := a.tmps.setIfInBounds tp u, defers := [] } := by simp
      show assign.wpIn (FR (some (w.heap.size + 1))) 0 P _ _ W
      refine wpIn_mono (F := FR (some (w.heap.size + 1))) (n := 0) (by first | exact has | (rw [← hrun0] at has; exact has)) ?_
      rintro e a1 W2 ⟨rfl, hg2, hst2⟩
      have hl2 : W2.heap[w.heap.size + 1]? = some (.loop (rec .ready none)) := (hg2.block _ hlt).trans hl
      have hk2 : W2.heap[w.heap.size]? = some (.deferred (some [])) := (hg2.block _ (by omega)).trans hk
      have hH2 := hH.grow hg2
      have hlt2 : w.heap.size + 1 < W2.heap.size := (Array.getElem?_eq_some_iff.1 hl2).1
      refine ⟨_, run_beginRound hl2 (by rw [hrec]), ?_⟩
      have hl3 : (W2.putObj (w.heap.size + 1) (.loop { rec .ready none with state := .busy })).heap[w.heap.size + 1]? = some (.loop { rec .ready none with state := .busy }) := World.putObj_heap_same hlt2
      have hk3 : (W2.putObj (w.heap.size + 1) (.loop { rec .ready none with state := .busy })).heap[w.heap.size]? = some (.deferred (some [])) := (World.putObj_heap_other (by omega)).trans hk2
      have hH3 := hH2.putObj (.loop { rec .ready none with state := .busy }) hl2 rfl hBl (hfV i _ hBl)
      have hst3 : St ⟨some (w.heap.size + 1), []⟩ n w₀.heap.size ((vL, recD (w.heap.size + 1) (.loop { rec .ready none with state := .busy }) W.heap.size) :: (vD, recD w.heap.size (.deferred (some [])) 0) :: Eb i) a1 (W2.putObj (w.heap.size + 1) (.loop { rec .ready none with state := .busy })) := by
        refine ⟨hH3.2.1, hst2.defers, hst2.size, fun t e he => ?_⟩
        by_cases hts : vL = t
        · subst hts
          rw [look_here] at he; injection he with he; subst he
          exact ⟨by simpa using hlt2, by simpa using hg2.size, hl3⟩
        · rw [look_past _ _ hts] at he
          by_cases hts' : vD = t
          · subst hts'
            rw [look_here] at he; injection he with he; subst he
            exact ⟨by simp; omega, Nat.zero_le _, hk3⟩
          · rw [look_past _ _ hts'] at he
            exact hfE i _ hBl _ (look_mem he) W2 _ _ _ hl2 rfl (hst2.of t e he)
      refine wpIn_mono (F := FR (some (w.heap.size + 1))) (n := 0) (hbody i _ _ _ _ hi a1 _ hH3.1 hst3) ?_
      rintro e a3 W3 hp
      cases e with
      | normal =>
        obtain ⟨hb3, hs3, hv3⟩ := hp
        obtain ⟨hlt3, hm3, hl4⟩ := hv3 _ List.mem_cons_self
        obtain ⟨_, _, hk4⟩ := hv3 _ (List.mem_cons_of_mem _ List.mem_cons_self)
        have hH4 : Holds w₀ (V (i + 1)) W3 := ⟨hb3, hs3, fun p hp => hv3 p (List.mem_cons_of_mem _ (List.mem_cons_of_mem _ hp))⟩
        have hend := run_endRound (P := P) none hl4
        refine ⟨_, _, hend, rfl, ⟨hH4.putObj _ hl4 rfl hBl (hfV _ _ hBl), ?_, (World.putObj_heap_other (by omega)).trans hk4⟩, by simpa using hm3⟩
        have := World.putObj_heap_same (o := .loop { { rec .ready none with state := .busy } with state := .ready, pending := none }) hlt3
        rw [hrec] at this ⊢
        exact this
      | _ => exact hp.elim
    · -- behind it
      rintro e W2 ⟨⟨v, rfl⟩, hH, hl, hk⟩
      have hBl : w₀.heap.size ≤ w.heap.size + 1 := by have := hst.base; omega
      have hlt2 : w.heap.size + 1 < W2.heap.size := (Array.getElem?_eq_some_iff.1 hl).1
      have hel := run_endLoop (P := P) hl (by rw [hrec]; simp)
      refine ⟨none, _, by rw [hrec] at hel; exact hel, ?_⟩
      have hH3 := hH.putObj (.loop { state := .exhausted, pending := none, fn, tmps := a.tmps, params := #[tp], assign, body, defers := w.heap.size }) hl rfl hBl (hfV N _ hBl)
      refine hend w.heap.size hst.base _ _ hH3.1 (hstS _ N _ _ _ (by simp [hst.defers]) hst.size hH3 (by simp; omega) fun t e he => ?_)
      by_cases hts : vD = t
      · subst hts
        rw [look_here] at he; injection he with he; subst he
        exact .inl ⟨by simp; omega, Nat.zero_le _, (World.putObj_heap_other (by omega)).trans hk⟩
      · rw [look_past _ _ hts] at he
        exact .inr ⟨look_mem he, fun _ => rfl⟩

/-- A function value with captured pointers. -/
theorem ok_makeFunc2 {B : Nat} {dst : Option Tmp} {guard : Option (Nat × Bool)} {f : FuncId} {x y : Operand} {u v : Value} (hx : E.at x = some (.v u)) (hy : E.at y = some (.v v)) :
    OpOk P B ⟨dst, .makeFunc (.func f) #[] #[x, y], ty, pos, after, guard⟩ E (.v (.func (.func f) #[] #[u, v])) := fun ρ w _ _ hρ => by
  have h1 : ρ x = _ := hρ x (by simp [Op.operands]) _ hx
  have h2 : ρ y = _ := hρ y (by simp [Op.operands]) _ hy
  exact out_val (w' := w) (by simp [execOp, h1, h2, Instr.makeFunc]) ⟨Grow.refl w, rfl⟩
/-- A function value that holds two variables of its own, new ones. -/
def closD (base f : Nat) (e₁ e₂ : TypeId) (u₁ u₂ : Value) : D :=
  .p (fun B w x => ∃ p q, base ≤ p ∧ p < q ∧ q < B ∧ x = .func (.func f) #[] #[.pointer (some ⟨p, 0, none⟩), .pointer (some ⟨q, 0, none⟩)] ∧ w.heap[p]? = some (.cells #[u₁] e₁ (0, 0)) ∧ w.heap[q]? = some (.cells #[u₂] e₂ (0, 0)))
    (fun _ _ _ _ g ⟨p, q, h1, h2, h3, h4, h5, h6⟩ => ⟨p, q, h1, h2, h3, h4, (g.block p (by omega)).trans h5, (g.block q h3).trans h6⟩) (fun _ _ _ _ g ⟨p, q, h1, h2, h3, h4, h5, h6⟩ => ⟨p, q, h1, h2, by omega, h4, h5, h6⟩)
theorem closD_mono {f : Nat} {e₁ e₂ : TypeId} {u₁ u₂ : Value} (B B' : Nat) (h : B ≤ B') : Le (closD B' f e₁ e₂ u₁ u₂) (closD B f e₁ e₂ u₁ u₂) := fun _ _ _ ⟨p, q, h1, h2⟩ => ⟨p, q, by omega, h2⟩
theorem End.clos {fn : Func} {r k₁ k₂ p q f : Nat} {e₁ e₂ : TypeId} {u₁ u₂ : Value} (hr : fn.results = #[.tmp r]) (hp : w₀.heap.size ≤ p) (hpq : p < q) (ht : E.look r = some (.v (.func (.func f) #[] #[.pointer (some ⟨p, 0, none⟩), .pointer (some ⟨q, 0, none⟩)])))
    (h1 : E.look k₁ = some (blk p e₁ [u₁])) (h2 : E.look k₂ = some (blk q e₂ [u₂])) : End Cx.top w₀ n E (BP P fn (PostOf w₀ (closD w₀.heap.size f e₁ e₂ u₁ u₂)) .ret) := fun a w g hs => by
  obtain ⟨_, h4⟩ := hs.of k₁ _ h1
  obtain ⟨h5, h6⟩ := hs.of k₂ _ h2
  exact BP.ret hs.defers ⟨a.tmps.getD r undef, by simp [results, hr], _, rfl, g, p, q, hp, hpq, h5, hs.of r _ ht, h4, h6⟩
theorem A.openClos {c : Code} {Q : Exit → Act → World → Prop} {t k₁ k₂ f : Nat} {e₁ e₂ : TypeId} {u₁ u₂ : Value} {B : Nat} (ht : E.look t = some (closD B f e₁ e₂ u₁ u₂))
    (h : ∀ p q, B ≤ p → p < q → A κ P w₀ n c ((t, .v (.func (.func f) #[] #[.pointer (some ⟨p, 0, none⟩), .pointer (some ⟨q, 0, none⟩)])) :: (k₁, blk p e₁ [u₁]) :: (k₂, blk q e₂ [u₂]) :: E) Q) : A κ P w₀ n c E Q := fun a w g hs => by
  obtain ⟨p, q, h1, h2, h3, h4, h5, h6⟩ := hs.of t _ ht
  refine h p q h1 h2 a w g ⟨hs.base, hs.defers, hs.size, fun s d hd => ?_⟩
  by_cases hts : t = s
  · subst hts
    rw [look_here] at hd; injection hd with hd; subst hd; exact h4
  · rw [look_past _ _ hts] at hd
    by_cases hks : k₁ = s
    · subst hks
      rw [look_here] at hd; injection hd with hd; subst hd
      exact ⟨Nat.lt_trans h2 h3, h5⟩
    · rw [look_past _ _ hks] at hd
      by_cases hks' : k₂ = s
      · subst hks'
        rw [look_here] at hd; injection hd with hd; subst hd
        exact ⟨h3, h6⟩
      · rw [look_past _ _ hks'] at hd
        exact hs.of s d hd
/-- return of a variable's value, from a function in which a range over a function ended. -/
theorem End.cell1C {fn : Func} {D vD r s b : Nat} {T e : TypeId} {td : TypeDesc} {xs : List Value} {d : Go.Proofs.YtffiflfjlemggaaGreatDoor.D} {m : Nat} (hD : E.look vD = some (recD D (.deferred (some [])) m)) (hDB : w₀.heap.size ≤ D) (hr : fn.results = #[.cell r T]) (ht : P.underlying T = some td) (hp : (match td with | .struct _ | .array _ _ => true | _ => false) = true) (hsz : SizeIs P T xs.length)
    (h1 : E.look r = some (.v (.pointer (some ⟨b, 0, none⟩)))) (h2 : E.look s = some (blk b e xs)) (hl : ∀ w, d.Of w (aggV xs)) : End ⟨none, [{ target := .collected D, args := #[] }]⟩ w₀ n E (BP P fn (PostOf w₀ d) .ret) := fun a w g hs => by
  have h3 : a.tmps[r]?.getD undef = .pointer (some ⟨b, 0, none⟩) := by rw [← Array.getD_eq_getD_getElem?]; exact hs.of r _ h1
  obtain ⟨hlt, _, hk⟩ := hs.of vD _ hD
  obtain ⟨_, hh⟩ := hs.of s _ h2
  have hne : b ≠ D := fun h => by subst h; rw [hh] at hk; cases hk
  have hh' : (w.putObj D (.deferred none)).heap[b]? = some (.cells xs.toArray e (0, 0)) := (World.putObj_heap_other hne).trans hh
  have := run_loadVar_row (P := P) (w.putObj D (.deferred none)) b e T xs.toArray (0, 0) td hh' ht hp (by simpa [SizeIs] using hsz)
  show LeavesInM (FR none) 0 P fn a.tmps _ a.defers .returning w
  rw [show a.defers = [{ target := .collected D, args := #[] }] from hs.defers]
  refine ⟨by simp, .inl ⟨D, _, rfl, run_takeDeferred hk, ?_⟩⟩
  refine ⟨aggV xs, by simp [results, hr, h3, asAddr, this, aggV], _, rfl, ?_, hl _⟩
  exact Below.trans g (below_putObj w _ hDB)
end
end Go.Proofs.YtffiflfjlemggaaGreatDoor
namespace Go.Proofs.YtffiflfjlemggaaGreatDoor
open Go Go.RowKit
section
variable {P : Program} {B : Nat} {E : Env} {dst : Option Tmp} {ty : TypeId} {pos : String} {after : Array Edge} {guard : Option (Nat × Bool)}
theorem eqItems_same {e : TypeId} {k : IntKind} (d : Nat) (w : World) (he : P.underlying e = some (.int k)) (xs : List Value) (hx : ∀ u ∈ xs, ∃ n, u = .int k n) : ∀ is : List Nat, (∀ i ∈ is, i < xs.length) → (Op.eqItems (d + 1) e 1 xs.toArray xs.toArray is).run P w = .ok true w := by
  have hagg : (isAgg e).run P w = .ok false w := by
    unfold isAgg
    rw [Sem.run_bind, run_underlying he w]
    simp
  intro is
  induction is with
  | nil => intro _; simp [Op.eqItems]
  | cons i is ih =>
    intro h
    have hi := h i List.mem_cons_self
    obtain ⟨n, hn⟩ := hx xs[i] (List.getElem_mem hi)
    have hp : (part e xs.toArray (i * 1)).run P w = .ok (.int k n) w := by
      simp [part, Sem.run_bind, hagg, hi, hn]
    have heq : (Op.equalIn (d + 1) e (.int k n) (.int k n)).run P w = .ok true w := by
      simp [Op.equalIn, Sem.run_bind, run_underlying he]
    simp only [Op.eqItems, Sem.run_bind, hp, Result.andThen_ok, heq]
    simpa using ih fun j hj => h j (List.mem_cons_of_mem _ hj)
theorem equal_same {t e : TypeId} {k : IntKind} {len : Nat} {z : Value} {nb : Nat} {xs : List Value} (w : World) (ht : P.underlying t = some (.array len e)) (he : P.underlying e = some (.int k)) (hs : InfoIs P e z nb) (hl : xs.length = len) (hx : ∀ u ∈ xs, ∃ n, u = .int k n) :
    (Op.equalIn 10000 t (.agg xs.toArray) (.agg xs.toArray)).run P w = .ok true w := by
  obtain ⟨info, hinfo, _, hsize, _⟩ := hs.get
  have hc : P.cellsOf e = 1 := by simp [Program.cellsOf, hinfo, hsize]
  rw [show (10000 : Nat) = 9999 + 1 from rfl, run_equalIn_array (w := w) 9999 xs.toArray xs.toArray ht hinfo, hc]
  exact eqItems_same 9998 w he xs hx _ fun i hi => by rw [hl]; exact List.mem_range.1 hi
theorem ok_neqA {t e t' : TypeId} {k : IntKind} {len : Nat} {z : Value} {nb : Nat} {x y : Operand} {xs ys : List Value} (ht : P.underlying t = some (.array len e)) (he : P.underlying e = some (.int k)) (hs : InfoIs P e z nb) (hm : P.eqGuardType P.depth t = false)
    (hx : E.at x = some (.v (aggV xs))) (hy : E.at y = some (.v (aggV ys))) (hxy : ys = xs) (hl : xs.length = len) (hxs : ∀ u ∈ xs, ∃ n, u = .int k n) : OpOk P B ⟨dst, .binOp .neq t x y t', ty, pos, after, guard⟩ E (.v (.bool false)) := fun ρ w _ _ hρ => by
  subst hxy
  have h1 : ρ x = .agg ys.toArray := hρ x (by simp [Op.operands]) _ hx
  have h2 : ρ y = .agg ys.toArray := hρ y (by simp [Op.operands]) _ hy
  have := equal_same (P := P) w ht he hs hl hxs
  exact out_val (w' := w) (by simp [execOp, h1, h2, Sem.run_bind, run_eqGuard_agg, hm, run_neq_struct, this]) ⟨Grow.refl w, rfl⟩
theorem ints_u8 (xs : List UInt8) : ∀ u ∈ xs.map byteV, ∃ n, u = .int .u8 n := fun u hu => by
  simp only [List.mem_map] at hu; obtain ⟨x, _, rfl⟩ := hu; exact ⟨_, rfl⟩
/-! ### Two arrays of numbers of which nothing is known -/
theorem bytes_inj {a b : List UInt8} (h : a.map byteV = b.map byteV) : a = b := (List.map_inj_right fun x y hxy => by
  simp only [byteV, Value.int.injEq, true_and] at hxy
  exact UInt8.toNat_inj.1 (by omega)).1 h
end
end Go.Proofs.YtffiflfjlemggaaGreatDoor
namespace Go.Proofs.YtffiflfjlemggaaGreatDoor
open Go Go.RowKit Go.ChangeShapes Go.WideShapes

def flatFs (F : TypeId → Option (List IntKind)) : List Field → Nat → Option (List IntKind)
  | [], _ => some []
  | f :: r, o => match F f.type with
    | none => none
    | some ks => if f.offset = o ∧ f.name ≠ "_" then (flatFs F r (o + ks.length)).map (ks ++ ·) else none
/-- The kinds of a type's cells, where it is made of integers, arrays and structs alone. -/
def flat (P : Program) : Nat → TypeId → Option (List IntKind)
  | 0, _ => none
  | n + 1, t => if P.cellsOf t = 0 then none else match P.underlying t with
    | some (.int k) => if P.cellsOf t = 1 then some [k] else none
    | some (.array len e) => match flat P n e with
      | none => none
      | some ks => if P.cellsOf t = len * ks.length then some (List.replicate len ks).flatten else none
    | some (.struct fs) => match flatFs (flat P n) fs.toList 0 with
      | none => none
      | some ks => if P.cellsOf t = ks.length ∧ P.stoodInHeld t = false then some ks else none
    | _ => none
def isAggT (P : Program) (t : TypeId) : Bool := match P.underlying t with | some (.struct _) => true | some (.array _ _) => true | _ => false
def packT (P : Program) (t : TypeId) (xs : List Value) : Value := if isAggT P t then .agg xs.toArray else xs.headD undef
/-- Cells of these kinds, of whose numbers Q holds. -/
def Kin (Q : IntKind → Int → Prop) (ks : List IntKind) (xs : List Value) : Prop := xs.length = ks.length ∧ ∀ (i : Nat) (k : IntKind), ks[i]? = some k → ∃ n, xs[i]? = some (.int k n) ∧ Q k n
section
variable {Q : IntKind → Int → Prop}
theorem Kin.nil {xs : List Value} (h : Kin Q [] xs) : xs = [] := List.eq_nil_of_length_eq_zero h.1
theorem Kin.one {k : IntKind} {xs : List Value} (h : Kin Q [k] xs) : ∃ n, xs = [.int k n] ∧ Q k n := by
  obtain ⟨n, h1, h2⟩ := h.2 0 k rfl
  refine ⟨n, ?_, h2⟩
  have hl : xs.length = 1 := h.1
  match xs, hl, h1 with
  | [x], _, h1 => simp at h1; rw [h1]
theorem Kin.split {a b : List IntKind} {xs : List Value} (h : Kin Q (a ++ b) xs) : Kin Q a (xs.take a.length) ∧ Kin Q b (xs.drop a.length) := by
  have hl : xs.length = a.length + b.length := by simpa using h.1
  refine ⟨⟨by simp; omega, fun i k hk => ?_⟩, ⟨by simp; omega, fun i k hk => ?_⟩⟩
  · have hi : i < a.length := (List.getElem?_eq_some_iff.1 hk).1
    obtain ⟨n, h1, h2⟩ := h.2 i k (by rw [List.getElem?_append_left hi]; exact hk)
    exact ⟨n, by rw [List.getElem?_take, if_pos hi]; exact h1, h2⟩
  · obtain ⟨n, h1, h2⟩ := h.2 (a.length + i) k (by rw [List.getElem?_append_right (by omega), Nat.add_sub_cancel_left]; exact hk)
    exact ⟨n, by rw [List.getElem?_drop]; exact h1, h2⟩
theorem Kin.join {a b : List IntKind} {xs ys : List Value} (h : Kin Q a xs) (h' : Kin Q b ys) : Kin Q (a ++ b) (xs ++ ys) := by
  refine ⟨by simp [h.1, h'.1], fun i k hk => ?_⟩
  rcases Nat.lt_or_ge i a.length with hi | hi
  · rw [List.getElem?_append_left hi] at hk
    rw [List.getElem?_append_left (by rw [h.1]; exact hi)]
    exact h.2 i k hk
  · rw [List.getElem?_append_right hi] at hk
    rw [List.getElem?_append_right (by rw [h.1]; exact hi), h.1]
    exact h'.2 _ k hk
theorem Kin.append {a b : List IntKind} {xs : List Value} (h : Kin Q (a ++ b) xs) : ∃ x y, xs = x ++ y ∧ Kin Q a x ∧ Kin Q b y :=
  ⟨_, _, (List.take_append_drop a.length xs).symm, h.split.1, h.split.2⟩
theorem Kin.cons {k : IntKind} {b : List IntKind} {xs : List Value} (h : Kin Q (k :: b) xs) : ∃ n y, xs = .int k n :: y ∧ Q k n ∧ Kin Q b y := by
  obtain ⟨x, y, rfl, h1, h2⟩ := Kin.append (a := [k]) h
  obtain ⟨n, rfl, h3⟩ := h1.one
  exact ⟨n, y, rfl, h3, h2⟩
theorem Kin.mono {R : IntKind → Int → Prop} {ks : List IntKind} {xs : List Value} (h : Kin Q ks xs) (hq : ∀ k n, Q k n → R k n) : Kin R ks xs :=
  ⟨h.1, fun i k hk => by obtain ⟨n, h1, h2⟩ := h.2 i k hk; exact ⟨n, h1, hq _ _ h2⟩⟩
theorem Kin.rep {ks : List IntKind} : ∀ {n : Nat} {xs : List Value}, Kin Q (List.replicate n ks).flatten xs → ∀ i, i < n → Kin Q ks ((xs.drop (i * ks.length)).take ks.length)
  | 0, _, _, i, hi => by omega
  | n + 1, xs, h, 0, _ => by
    rw [List.replicate_succ, List.flatten_cons] at h
    simpa using h.split.1
  | n + 1, xs, h, i + 1, hi => by
    rw [List.replicate_succ, List.flatten_cons] at h
    have := Kin.rep h.split.2 i (by omega)
    rwa [List.drop_drop, show ks.length + i * ks.length = (i + 1) * ks.length from by rw [Nat.succ_mul]; omega] at this
end
theorem rep_length {ks : List IntKind} (n : Nat) : (List.replicate n ks).flatten.length = n * ks.length := by
  induction n with
  | zero => simp
  | succ n ih => rw [List.replicate_succ, List.flatten_cons, List.length_append, ih, Nat.succ_mul]; omega
section
variable {P : Program}
theorem flat_cells : ∀ {n : Nat} {t : TypeId} {ks : List IntKind}, flat P n t = some ks → P.cellsOf t = ks.length ∧ 0 < ks.length := by
  intro n t ks h
  cases n with
  | zero => cases h
  | succ n =>
    unfold flat at h
    split at h
    · cases h
    · rename_i h0
      have hk : P.cellsOf t = ks.length := by
        split at h
        · split at h
          · rename_i h1; injection h with h; subst h; exact h1
          · cases h
        · split at h
          · cases h
          · split at h
            · rename_i h1; injection h with h; subst h; rw [h1, rep_length]
            · cases h
        · split at h
          · cases h
          · split at h
            · rename_i h1; injection h with h; subst h; exact h1.1
            · cases h
        · cases h
      exact ⟨hk, by omega⟩
theorem info_of_cells {t : TypeId} (h : 0 < P.cellsOf t) : ∃ i, P.info? t = some i := by
  unfold Program.cellsOf at h
  cases hi : P.info? t with
  | none => rw [hi] at h; simp at h
  | some i => exact ⟨i, rfl⟩
theorem run_isAgg {t : TypeId} {td : TypeDesc} (h : P.underlying t = some td) (w : World) : (isAgg t).run P w = .ok (isAggT P t) w := by
  unfold isAgg isAggT
  rw [Sem.run_bind, run_underlying h w, h]
  cases td <;> simp
theorem flat_under {n : Nat} {t : TypeId} {ks : List IntKind} (h : flat P n t = some ks) : ∃ td, P.underlying t = some td := by
  cases n with
  | zero => cases h
  | succ n =>
    unfold flat at h
    split at h
    · cases h
    · cases hu : P.underlying t with
      | none => rw [hu] at h; cases h
      | some td => exact ⟨td, rfl⟩
/-- A part of an aggregate. -/
theorem flat_part {n : Nat} {t : TypeId} {ks : List IntKind} (h : flat P n t = some ks) (zs : List Value) (o : Nat) (ho : o + ks.length ≤ zs.length) (w : World) : (part t zs.toArray o).run P w = .ok (packT P t ((zs.drop o).take ks.length)) w := by
  obtain ⟨td, hu⟩ := flat_under h
  obtain ⟨hc, hp⟩ := flat_cells h
  obtain ⟨i, hi⟩ := info_of_cells (P := P) (t := t) (by omega)
  simp only [part, Sem.run_bind, run_isAgg hu, Result.andThen_ok]
  unfold packT
  cases hb : isAggT P t with
  | true =>
    simp only [if_true, Sem.run_bind, run_sizeOf w hi, Result.andThen_ok, hc]
    simp
  | false =>
    have hlt : o < zs.length := by omega
    have : ((zs.drop o).take ks.length).headD undef = zs[o] := by
      rw [List.drop_eq_getElem_cons hlt]
      obtain ⟨m, hm⟩ : ∃ m, ks.length = m + 1 := ⟨ks.length - 1, by omega⟩
      rw [hm]
      rfl
    rw [if_neg (by simp), if_neg (by simp), this]
    simp [hlt]
theorem two_parts {xs ys : List Value} {o a b : Nat} (hx : o + (a + b) ≤ xs.length) (hy : o + (a + b) ≤ ys.length) :
    (xs.drop o).take (a + b) = (ys.drop o).take (a + b) ↔ (xs.drop o).take a = (ys.drop o).take a ∧ (xs.drop (o + a)).take b = (ys.drop (o + a)).take b := by
  rw [List.take_add, List.take_add, List.drop_drop, List.drop_drop]
  constructor
  · intro h
    exact List.append_inj h (by simp; omega)
  · rintro ⟨h1, h2⟩
    rw [h1, h2]
/-- Equality of values of such a type. -/
theorem flat_eq : ∀ (n : Nat) {t : TypeId} {ks : List IntKind}, flat P n t = some ks → ∀ (d : Nat) (w : World) (xs ys : List Value), Kin (fun _ _ => True) ks xs → Kin (fun _ _ => True) ks ys →
    ∃ r : Bool, (Op.equalIn (d + n) t (packT P t xs) (packT P t ys)).run P w = .ok r w ∧ (r = true ↔ xs = ys) := by
  intro n
  induction n with
  | zero => intro t ks h; cases h
  | succ n ih =>
    intro t ks h d w xs ys hx hy
    have hks := flat_cells h
    unfold flat at h
    split at h
    · cases h
    · split at h
      · rename_i k hu
        split at h
        · injection h with h; subst h
          obtain ⟨a, rfl, _⟩ := hx.one
          obtain ⟨b, rfl, _⟩ := hy.one
          have hg : isAggT P t = false := by unfold isAggT; rw [hu]
          refine ⟨a == b, ?_, by simp⟩
          unfold packT
          rw [hg]
          exact run_equalIn_int w (d + n) t k k a b hu
        · cases h
      · rename_i len e hu
        split at h
        · cases h
        · rename_i ks' hf
          split at h
          · injection h with h; subst h
            have hg : isAggT P t = true := by unfold isAggT; rw [hu]
            obtain ⟨hc, hp⟩ := flat_cells hf
            obtain ⟨i, hi⟩ := info_of_cells (P := P) (t := e) (by omega)
            unfold packT
            rw [hg, if_pos rfl, if_pos rfl, ← Nat.add_assoc, run_equalIn_array (w := w) (d + n) xs.toArray ys.toArray hu hi, hc]
            have hxl : xs.length = len * ks'.length := by rw [hx.1, rep_length]
            have hyl : ys.length = len * ks'.length := by rw [hy.1, rep_length]
            have key : ∀ is : List Nat, (∀ i ∈ is, i < len) → ∃ r : Bool, (Op.eqItems (d + n) e ks'.length xs.toArray ys.toArray is).run P w = .ok r w ∧ (r = true ↔ ∀ i ∈ is, (xs.drop (i * ks'.length)).take ks'.length = (ys.drop (i * ks'.length)).take ks'.length) := by
              intro is
              induction is with
              | nil => intro _; exact ⟨true, by simp [Op.eqItems], by simp⟩
              | cons j is ihs =>
                intro hj
                have hjl := hj j List.mem_cons_self
                have hb : j * ks'.length + ks'.length ≤ len * ks'.length := by
                  rw [← Nat.succ_mul]; exact Nat.mul_le_mul_right _ hjl
                obtain ⟨r, hr, hri⟩ := ihs fun i hi => hj i (List.mem_cons_of_mem _ hi)
                obtain ⟨r', hr', hri'⟩ := ih hf d w _ _ (hx.rep j hjl) (hy.rep j hjl)
                simp only [Op.eqItems, Sem.run_bind, flat_part hf xs (j * ks'.length) (by omega) w, flat_part hf ys (j * ks'.length) (by omega) w, Result.andThen_ok, hr']
                cases r' with
                | true => exact ⟨r, by simpa using hr, by simp [hri, hri'.1 rfl]⟩
                | false => exact ⟨false, by simp, by simpa using fun h => absurd (hri'.2 h) (by simp)⟩
            obtain ⟨r, hr, hri⟩ := key (List.range len) fun i hi => List.mem_range.1 hi
            refine ⟨r, hr, hri.trans ⟨fun h => ?_, fun h => by subst h; exact fun _ _ => rfl⟩⟩
            apply List.ext_getElem?
            intro j
            rcases Nat.lt_or_ge j (len * ks'.length) with hj | hj
            · have h1 := h (j / ks'.length) (List.mem_range.2 ((Nat.div_lt_iff_lt_mul hp).2 hj))
              have h2 := congrArg (·[j % ks'.length]?) h1
              simp only [List.getElem?_take, if_pos (Nat.mod_lt _ hp), List.getElem?_drop] at h2
              rwa [Nat.mul_comm, Nat.div_add_mod] at h2
            · rw [List.getElem?_eq_none (by omega), List.getElem?_eq_none (by omega)]
          · cases h
      · rename_i fs hu
        split at h
        · cases h
        · rename_i ks' hf
          split at h
          · rename_i hst
            injection h with h; subst h
            have hg : isAggT P t = true := by unfold isAggT; rw [hu]
            have hfo : P.fieldsOf t = fs := by unfold Program.fieldsOf; rw [hu]
            unfold packT
            rw [hg, if_pos rfl, if_pos rfl, ← Nat.add_assoc, run_equalIn_struct w (d + n) t xs.toArray ys.toArray (by rw [hfo]; exact hu) hst.2, hfo]
            have key : ∀ (l : List Field) (o : Nat) (kz : List IntKind), flatFs (flat P n) l o = some kz → ∀ ka : List IntKind, Kin (fun _ _ => True) (ka ++ kz) xs → Kin (fun _ _ => True) (ka ++ kz) ys → ka.length = o →
                ∃ r : Bool, (Op.eqFields (d + n) xs.toArray ys.toArray l).run P w = .ok r w ∧ (r = true ↔ (xs.drop o).take kz.length = (ys.drop o).take kz.length) := by
              intro l
              induction l with
              | nil =>
                intro o kz hl ka _ _ _
                unfold flatFs at hl
                injection hl with hl; subst hl
                exact ⟨true, by simp [Op.eqFields], by simp⟩
              | cons f l ihl =>
                intro o kz hl ka hxa hya ho
                unfold flatFs at hl
                split at hl
                · cases hl
                · rename_i kf hff
                  split at hl
                  · rename_i hfn
                    obtain ⟨kr, hr, rfl⟩ := Option.map_eq_some_iff.1 hl
                    have lx : xs.length = o + (kf.length + kr.length) := by rw [hxa.1]; simp; omega
                    have ly : ys.length = o + (kf.length + kr.length) := by rw [hya.1]; simp; omega
                    obtain ⟨r, h1, h2⟩ := ihl (o + kf.length) kr hr (ka ++ kf) (by rw [List.append_assoc]; exact hxa) (by rw [List.append_assoc]; exact hya) (by simp; omega)
                    have kx := hxa.split.2.split.1
                    have ky := hya.split.2.split.1
                    rw [ho] at kx ky
                    obtain ⟨r', h3, h4⟩ := ih hff d w _ _ kx ky
                    simp only [Op.eqFields, if_pos hfn.2, Sem.run_bind, hfn.1, flat_part hff xs o (by omega) w, flat_part hff ys o (by omega) w, Result.andThen_ok, h3]
                    rw [List.length_append, two_parts (by omega) (by omega)]
                    cases r' with
                    | true => exact ⟨r, by simpa using h1, by simp [h2, h4.1 rfl]⟩
                    | false => exact ⟨false, by simp, by simpa using fun h => absurd (h4.2 h) (by simp)⟩
                  · cases hl
            obtain ⟨r, h1, h2⟩ := key fs.toList 0 ks' hf [] hx hy rfl
            refine ⟨r, h1, ?_⟩
            rwa [List.drop_zero, List.drop_zero, List.take_of_length_le (Nat.le_of_eq hx.1), List.take_of_length_le (Nat.le_of_eq hy.1)] at h2
          · cases h
      · cases h
variable {B : Nat} {E : Env} {dst : Option Tmp} {ty : TypeId} {pos : String} {after : Array Edge} {guard : Option (Nat × Bool)}
theorem equal_flat {t : TypeId} {ks : List IntKind} (n : Nat) (hf : flat P n t = some ks) (hn : n ≤ 10000) (hg : isAggT P t = true) {xs ys : List Value} (hx : Kin (fun _ _ => True) ks xs) (hy : Kin (fun _ _ => True) ks ys) (b : Bool) (hb : b = true ↔ xs = ys) (w : World) :
    (Op.equalIn 10000 t (.agg xs.toArray) (.agg ys.toArray)).run P w = .ok b w := by
  obtain ⟨r, hr, hri⟩ := flat_eq (P := P) n hf (10000 - n) w xs ys hx hy
  unfold packT at hr
  rw [hg, if_pos rfl, if_pos rfl, Nat.sub_add_cancel hn] at hr
  have : r = b := by
    rw [← hb] at hri
    cases r <;> cases b <;> simp_all
  rw [← this]; exact hr
/-- Two values of such a type that have several cells: whether they are equal. -/
theorem ok_eqlT {t t' : TypeId} {ks : List IntKind} {x y : Operand} {xs ys : List Value} (n : Nat) (b : Bool) (hf : flat P n t = some ks) (hn : n ≤ 10000) (hg : isAggT P t = true) (hm : P.eqGuardType P.depth t = false) (hx : E.at x = some (.v (aggV xs))) (hy : E.at y = some (.v (aggV ys)))
    (hkx : Kin (fun _ _ => True) ks xs) (hky : Kin (fun _ _ => True) ks ys) (hb : b = true ↔ xs = ys) : OpOk P B ⟨dst, .binOp .eql t x y t', ty, pos, after, guard⟩ E (.v (.bool b)) := fun ρ w _ _ hρ => by
  have h1 : ρ x = .agg xs.toArray := hρ x (by simp [Op.operands]) _ hx
  have h2 : ρ y = .agg ys.toArray := hρ y (by simp [Op.operands]) _ hy
  have := equal_flat (P := P) n hf hn hg hkx hky b hb w
  exact out_val (w' := w) (by simp [execOp, h1, h2, Sem.run_bind, run_eqGuard_agg, hm, run_eql_struct, this]) ⟨Grow.refl w, rfl⟩
theorem ok_neqT {t t' : TypeId} {ks : List IntKind} {x y : Operand} {xs ys : List Value} (n : Nat) (b : Bool) (hf : flat P n t = some ks) (hn : n ≤ 10000) (hg : isAggT P t = true) (hm : P.eqGuardType P.depth t = false) (hx : E.at x = some (.v (aggV xs))) (hy : E.at y = some (.v (aggV ys)))
    (hkx : Kin (fun _ _ => True) ks xs) (hky : Kin (fun _ _ => True) ks ys) (hb : b = true ↔ xs = ys) : OpOk P B ⟨dst, .binOp .neq t x y t', ty, pos, after, guard⟩ E (.v (.bool (!b))) := fun ρ w _ _ hρ => by
  have h1 : ρ x = .agg xs.toArray := hρ x (by simp [Op.operands]) _ hx
  have h2 : ρ y = .agg ys.toArray := hρ y (by simp [Op.operands]) _ hy
  have := equal_flat (P := P) n hf hn hg hkx hky b hb w
  exact out_val (w' := w) (by simp [execOp, h1, h2, Sem.run_bind, run_eqGuard_agg, hm, run_neq_struct, this]) ⟨Grow.refl w, rfl⟩
end
theorem kin_nil : Kin (fun _ _ => True) [] [] := ⟨rfl, fun i k h => by simp at h⟩
theorem kin_cons {k : IntKind} {n : Int} {ks : List IntKind} {xs : List Value} (h : Kin (fun _ _ => True) ks xs) : Kin (fun _ _ => True) (k :: ks) (.int k n :: xs) :=
  Kin.join (a := [k]) (xs := [.int k n]) ⟨rfl, fun i k' h' => by
    match i, h' with
    | 0, h' => simp at h'; subst h'; exact ⟨n, rfl, trivial⟩
    | i + 1, h' => simp at h'⟩ h

/-! ### Parameters -/
section
variable {H : Type} {enc : TypeId × Value → H} {P : Program} {w : World} {base : Nat} {spare : Nat → Bool} {held : Bool}
theorem trod_flat : ∀ (n : Nat) {t : TypeId} {ks : List IntKind}, flat P n t = some ks → ∀ {fuel : Nat} {cs : List Value} {x : DataW H × List MemPlace}, DataW.trod enc P w base spare held fuel t cs = some x → Kin (fun k m => (Lit.int k m).wf = true) ks cs := by
  intro n
  induction n with
  | zero => intro t ks h; cases h
  | succ n ih =>
    intro t ks h fuel cs x ht
    have hks := flat_cells h
    unfold flat at h
    split at h
    · cases h
    · split at h
      · rename_i k hu
        split at h
        · injection h with h; subst h
          obtain ⟨a, rfl, _, h3⟩ := DataW.trod_int hu ht
          exact ⟨rfl, fun i k' hk => by
            match i, hk with
            | 0, hk => simp at hk; subst hk; exact ⟨a, rfl, h3⟩
            | i + 1, hk => simp at hk⟩
        · cases h
      · rename_i len e hu
        split at h
        · cases h
        · rename_i ks' hf
          split at h
          · injection h with h; subst h
            obtain ⟨xs, m, _, _, hlen, hxl, hel⟩ := DataW.trod_array hu ht
            obtain ⟨hc, hp⟩ := flat_cells hf
            have hl : cs.length = len * ks'.length := by rw [hlen, hks.1, rep_length]
            refine ⟨by rw [hl, rep_length], fun i k hk => ?_⟩
            have hi : i < len * ks'.length := by rw [← rep_length]; exact (List.getElem?_eq_some_iff.1 hk).1
            have hj : i / ks'.length < len := (Nat.div_lt_iff_lt_mul hp).2 hi
            have h1 := hel (i / ks'.length) hj
            rw [List.getElem?_eq_getElem (by omega), hc] at h1
            have h2 := ih hf h1
            have hr : ∀ (m j : Nat), j < m * ks'.length → (List.replicate m ks').flatten[j]? = ks'[j % ks'.length]? := by
              intro m
              induction m with
              | zero => intro j hj; simp at hj
              | succ m ihm =>
                intro j hj
                rw [List.replicate_succ, List.flatten_cons]
                rcases Nat.lt_or_ge j ks'.length with h | h
                · rw [List.getElem?_append_left h, Nat.mod_eq_of_lt h]
                · rw [List.getElem?_append_right h, ihm _ (by rw [Nat.succ_mul] at hj; omega), Nat.mod_eq_sub_mod h]
            rw [hr len i hi] at hk
            obtain ⟨a, h3, h4⟩ := h2.2 _ k hk
            refine ⟨a, ?_, h4⟩
            rw [List.getElem?_take, if_pos (Nat.mod_lt _ hp), List.getElem?_drop, Nat.mul_comm, Nat.div_add_mod] at h3
            exact h3
          · cases h
      · rename_i fs hu
        split at h
        · cases h
        · rename_i ks' hf
          split at h
          · injection h with h; subst h
            obtain ⟨xs, m, _, _, hlen, hxl, hel⟩ := DataW.trod_struct hu ht
            have key : ∀ (l : List Field) (o j : Nat) (kz : List IntKind), flatFs (flat P n) l o = some kz → fs.toList.drop j = l → o + kz.length = cs.length → Kin (fun k m => (Lit.int k m).wf = true) kz (cs.drop o) := by
              intro l
              induction l with
              | nil =>
                intro o j kz hl _ ho
                unfold flatFs at hl
                injection hl with hl; subst hl
                simp only [List.length_nil, Nat.add_zero] at ho
                exact ⟨by simp [ho], fun i k h => by simp at h⟩
              | cons f l ihl =>
                intro o j kz hl hd ho
                unfold flatFs at hl
                split at hl
                · cases hl
                · rename_i kf hff
                  split at hl
                  · rename_i hfn
                    obtain ⟨kr, hr, rfl⟩ := Option.map_eq_some_iff.1 hl
                    simp only [List.length_append] at ho
                    have hj : j < fs.size := by
                      rcases Nat.lt_or_ge j fs.size with h | h
                      · exact h
                      · rw [List.drop_eq_nil_of_le (by simpa using h)] at hd; cases hd
                    have hfj : fs[j]? = some f := by
                      have := congrArg (·[0]?) hd
                      simp only [List.getElem?_drop, Nat.add_zero, List.getElem?_cons_zero] at this
                      simpa using this
                    have h1 := hel j f hfj
                    rw [List.getElem?_eq_getElem (by omega), (flat_cells hff).1, hfn.1] at h1
                    have h2 := ih hff h1
                    have h3 := ihl (o + kf.length) (j + 1) kr hr (by
                      rw [← List.drop_drop, hd]; rfl) (by omega)
                    have : cs.drop o = (cs.drop o).take kf.length ++ cs.drop (o + kf.length) := by
                      rw [← List.drop_drop, List.take_append_drop]
                    rw [this]
                    exact h2.join h3
                  · cases hl
            have := key fs.toList 0 0 ks' hf rfl (by omega)
            simpa using this
          · cases h
      · cases h
theorem okWide_agg {t : TypeId} {v : Value} {r : Reach} {b0 : Nat} (hg : isAggT P t = true) (hk : Value.okWide P w r b0 t v) : ∃ cs, v = .agg cs := by
  unfold isAggT at hg
  split at hg
  · rename_i fs hu
    obtain ⟨cs, rfl, _⟩ := okWide_struct hu hk
    exact ⟨cs, rfl⟩
  · rename_i hu
    exact okWide_arr' hu hk
  · cases hg
/-- A parameter of several cells. -/
theorem arg_flat {t : TypeId} {ks : List IntKind} {v : Value} {d : DataW H} {ps : List MemPlace} (n : Nat) (hf : flat P n t = some ks) (hg : isAggT P t = true) {r : Reach} {b0 : Nat} (hk : Value.okWide P w r b0 t v)
    (h : DataW.Trod enc P w base spare held t v d ps) : ∃ xs, v = aggV xs ∧ Kin (fun k m => (Lit.int k m).wf = true) ks xs := by
  obtain ⟨cs, rfl⟩ := okWide_agg hg hk
  obtain ⟨fuel, hf'⟩ := h
  exact ⟨cs.toList, by simp [aggV], trod_flat n hf hf'⟩
/-- A parameter that is a number. -/
theorem arg_num {t : TypeId} {k : IntKind} {v : Value} {d : DataW H} {ps : List MemPlace} (ht : P.underlying t = some (.int k)) {r : Reach} {b0 : Nat} (hk : Value.okWide P w r b0 t v)
    (h : DataW.Trod enc P w base spare held t v d ps) : ∃ n, v = .int k n ∧ (Lit.int k n).wf = true := by
  obtain ⟨n, rfl⟩ := okWide_int ht hk
  obtain ⟨fuel, hf⟩ := h
  obtain ⟨a, h1, _, h3⟩ := DataW.trod_int ht hf
  simp only [Value.cells, List.cons.injEq, Value.int.injEq, true_and, and_true] at h1
  subst h1
  exact ⟨_, rfl, h3⟩
theorem nat_u8 {n : Int} (h : (Lit.int .u8 n).wf = true) : ∃ a : Nat, n = (a : Int) ∧ a < 256 := ⟨n.toNat, by have := bounds_u8 h; omega, by have := bounds_u8 h; omega⟩
theorem nat_u16 {n : Int} (h : (Lit.int .u16 n).wf = true) : ∃ a : Nat, n = (a : Int) ∧ a < 65536 := ⟨n.toNat, by have := bounds_u16 h; omega, by have := bounds_u16 h; omega⟩
theorem nat_u32 {n : Int} (h : (Lit.int .u32 n).wf = true) : ∃ a : Nat, n = (a : Int) ∧ a < 4294967296 := ⟨n.toNat, by have := bounds_u32 h; omega, by have := bounds_u32 h; omega⟩
theorem nat_u64 {n : Int} (h : (Lit.int .u64 n).wf = true) : ∃ a : Nat, n = (a : Int) ∧ a < 18446744073709551616 := ⟨n.toNat, by have := bounds_u64 h; omega, by have := bounds_u64 h; omega⟩
/-- Cells that are bytes. -/
theorem Kin.bytes : ∀ {m : Nat} {xs : List Value}, Kin (fun k n => (Lit.int k n).wf = true) (List.replicate m .u8) xs → ∃ l : List UInt8, l.length = m ∧ xs = l.map byteV
  | 0, xs, h => ⟨[], rfl, h.nil⟩
  | m + 1, xs, h => by
    rw [List.replicate_succ] at h
    obtain ⟨n, y, rfl, h1, h2⟩ := h.cons
    obtain ⟨l, h3, rfl⟩ := Kin.bytes h2
    exact ⟨UInt8.ofNat n.toNat :: l, by simp [h3], by rw [List.map_cons, ← wf_u8 h1]⟩
end
end Go.Proofs.YtffiflfjlemggaaGreatDoor
namespace Go.Proofs.YtffiflfjlemggaaGreatDoor
open Go Go.RowKit
variable {κ : Cx}

/-- The value v is an own row. -/
def ownM (base : Nat) (v : Value) (e : TypeId) (n : Nat) (xs : List Value) : D :=
  .p (fun B w _ => (own base e n xs).OfB B w v) (fun _ _ _ _ g h => D.OfB.keep h g) (fun _ _ _ _ g h => D.OfB.up h g)
def Disj (v u : Value) : Prop := ∀ g, v.ownBlock = some g → u.ownBlock ≠ some g
theorem Disj.symm {v u : Value} (h : Disj v u) : Disj u v := fun g hu hv => h g hv hu
theorem Disj.nil (u : Value) : Disj (.slice none 0 0) u := fun g h => by simp [Value.ownBlock] at h
theorem Surv.ownM {B T g base n : Nat} {e : TypeId} {u : Value} {xs : List Value} (h : u.ownBlock ≠ some g) : Surv B T g (Go.Proofs.YtffiflfjlemggaaGreatDoor.ownM base u e n xs) := fun w w' _ k ⟨h1, h2⟩ => by
  obtain ⟨h3, h4⟩ := h1
  refine ⟨⟨h3, h4.imp id ?_⟩, fun j hj => Nat.lt_of_lt_of_le (h2 j hj) k.size⟩
  rintro ⟨j, cap, cur, rfl, hj, hh, hr⟩
  have hne : j ≠ g := fun hb => h (by subst hb; rfl)
  exact ⟨j, cap, cur, rfl, hj, (k.other j (h2 j (by simp [Value.ownBlock])) hne).trans hh, hr⟩
section
variable {P : Program} {w₀ : World} {n : Nat} {c : Code} {E : Env} {Q : Exit → Act → World → Prop}
end
/-- An operation's fact in an environment that knows more. -/
theorem OpOk.subL {P : Program} {B : Nat} {o : Oper} {E₁ E : Env} {d : D} (hs : SubL E₁ E) (h : OpOk P B o E₁ d) : OpOk P B o E d := fun ρ w hB hv hρ => by
  have look : ∀ t e, E₁.look t = some e → ∃ e', E.look t = some e' ∧ Le e' e := fun t e he => hs (t, e) (look_mem he)
  refine h ρ w hB (fun t e ht he => ?_) fun x hx e he => ?_
  · obtain ⟨e', h1, h2⟩ := look t e he
    exact h2.of (hv t e' ht h1)
  · cases x with
    | tmp s =>
      obtain ⟨e', h1, h2⟩ := look s e he
      exact h2.of (hρ (.tmp s) hx e' h1)
    | const c => exact hρ _ hx e he
    | global g => exact hρ _ hx e he
    | func f => exact hρ _ hx e he
/-- A new block's number: above the base, and no named block's or row's. -/
def NewV (B : Nat) (E : Env) (g : Nat) : Prop := B ≤ g ∧ (∀ s b' e xs, E.look s = some (blk b' e xs) → b' < g) ∧ ∀ s B' v e n xs, E.look s = some (ownM B' v e n xs) → v.ownBlock ≠ some g
/-- What an append makes of a row's value. -/
def Step (B : Nat) (E : Env) (v v' : Value) : Prop := v'.ownBlock = v.ownBlock ∨ ∃ g, v'.ownBlock = some g ∧ NewV B E g
theorem Disj.step {B : Nat} {E : Env} {v v' u : Value} {s B' n : Nat} {e : TypeId} {xs : List Value} (hs : Step B E v v') (hd : Disj v u) (hu : E.look s = some (ownM B' u e n xs)) : Disj v' u := fun g hg => by
  rcases hs with h | ⟨g', h, hn⟩
  · exact hd g (h ▸ hg)
  · rw [h] at hg; injection hg with hg; subst hg
    exact hn.2.2 s _ _ _ _ _ hu
theorem eff_appendV {P : Program} {n B : Nat} {ops : Array Oper} {E E' : Env} {ty : TypeId} {pos : String} {after : Array Edge} {t e : TypeId} {z : Value} {nb : Nat} {r x : Operand} {k m dst : Nat} {v : Value} {xs : List Value} {f : D} {vs : List Value} (ht : P.underlying t = some (.slice e)) (hinfo : InfoIs P e z nb) (hnb : nb ≤ 64) (hz1 : z.cells.size = 1)
    (hr : E.at r = some (.v v)) (hk : E.look k = some (ownM B v e m xs)) (hx : E.at x = some f) (hf : Le f (lst (vs.map .v))) (h1 : ∀ u ∈ vs, u.oneCell' = true) (hbd : m + vs.length ≤ 1099511627776) (hdst : dst < n) (hl : ∀ g, B ≤ g → (v.ownBlock = some g ∨ NewV B E g) → LeftS B e g E' E) :
    EffG P n B ops ⟨some dst, .call { callee := .builtin .append, args := #[r, x], argTypes := #[t, t] }, ty, pos, after, none⟩ E (Step B E v) (fun v' => (dst, .v v') :: (k, ownM B v' e (m + vs.length) (xs ++ vs)) :: E') := by
  obtain ⟨i, hi, hz, hs, hby⟩ := hinfo.get
  intro κ a w K Q h hK
  have hre : a.eval r = v := h.at_ r _ hr
  obtain ⟨hown, hob⟩ : (own B e m xs).OfB w.heap.size w v := h.of k _ hk
  obtain ⟨c, A, us, hxe, hle, hcm, hul, hrow, hus⟩ := hf.of (h.at_ x _ hx)
  have huv : us = vs := by
    apply List.ext_getElem?
    intro j
    simp only [List.length_map] at hul
    rcases Nat.lt_or_ge j vs.length with hj | hj
    · have hu : us[j]? = some us[j] := List.getElem?_eq_getElem (by omega)
      have h2 : us[j] = vs[j] := hus j (.v vs[j]) us[j] (by simp [hj]) hu
      rw [hu, h2, List.getElem?_eq_getElem hj]
    · rw [List.getElem?_eq_none (by omega), List.getElem?_eq_none hj]
  subst huv
  simp only [List.length_map] at hxe hle hul
  have hrun : ∃ v' w', (Builtin.append_ #[t, t] ty #[v, .slice A us.length c]).run P w = .ok v' w' ∧ w'.ownsRow B e 1 v' (m + us.length) (xs ++ us) ∧ w.grownBy w' v.ownBlock ∧ (v'.ownBlock = v.ownBlock ∨ v'.ownBlock = some w.heap.size) := by
    have hbb : (m + us.length) * i.bytes ≤ (m + us.length) * 64 := Nat.mul_le_mul_left _ (by omega)
    have hnil : us = [] → ∀ c', (Builtin.append_ #[t, t] ty #[v, .slice none 0 c']).run P w = .ok v w := by
      intro _ c'
      rcases hown.2 with ⟨hv, hn0⟩ | ⟨g, cap, cur, hv, _, _, hnc, _⟩
      · rw [hv]; simp [Builtin.append_, run_underlying ht, sizeOf, typeInfo, hi, Builtin.lenOf, Builtin.firstCells]
      · rw [hv]; simp [Builtin.append_, run_underlying ht, sizeOf, typeInfo, hi, Builtin.lenOf, Builtin.firstCells, hnc, storeCells]
    cases A with
    | none =>
      have hz : us = [] := by
        cases us with
        | nil => rfl
        | cons b l => obtain ⟨ad, h, _⟩ := hrow 0 b rfl; cases h
      subst hz
      exact ⟨v, w, hnil rfl c, by simpa using hown, World.grownBy.refl w _, .inl rfl⟩
    | some ad =>
      obtain ⟨v', w', h2, h3, h4, _, h6⟩ := run_append_own_at (P := P) w B t ty e i z 1 i.bytes ht hi hz hs rfl hz1 (by omega) v m xs hown ad us.length c us (by simp) hrow.cell h1 (by simp only [maxLen]; omega) (by omega) h.base
      exact ⟨v', w', h2, h3, h4, h6⟩
  obtain ⟨v', w', hrun, h3, h4, h5⟩ := hrun
  have hexec : (execOp a.eval ⟨some dst, .call { callee := .builtin .append, args := #[r, x], argTypes := #[t, t] }, ty, pos, after, none⟩).run P w = .ok (.value v') w' := by
    simp [execOp, resolve, invoke, builtin, hre, hxe, hrun]
  rw [if_pos (by simp [Region.wanted])]
  refine opR (by nofun) ?_
  unfold Oper.wp
  rw [hexec, Oper.upon_value]
  have hnew : NewV B E w.heap.size := ⟨h.base, fun s b' e' ys hs => (h.of s _ hs).1, fun s B' u e' n' ys hs hu => by
    have := (h.of s _ hs).2 _ hu
    omega⟩
  have hbase : ∀ g, v.ownBlock = some g → B ≤ g := fun g hg => by
    rcases hown.2 with ⟨hv, _⟩ | ⟨g', cap, cur, hv, hb, _⟩
    · rw [hv] at hg; simp [Value.ownBlock] at hg
    · rw [hv] at hg; simp [Value.ownBlock] at hg; omega
  have hbel : Below B w w' := (Below.refl B w).grown h4 h.base hbase
  have hlt : ∀ g, v'.ownBlock = some g → g < w'.heap.size := fun g hg => by
    rcases h3.2 with ⟨hv, _⟩ | ⟨g', cap, cur, hv, _, hh, _⟩
    · rw [hv] at hg; simp [Value.ownBlock] at hg
    · rw [hv] at hg; simp [Value.ownBlock] at hg; subst hg
      rcases Nat.lt_or_ge g' w'.heap.size with h | h
      · exact h
      · rw [Array.getElem?_eq_none h] at hh; cases hh
  have hwr : ∃ g, (v.ownBlock = some g ∨ NewV B E g) ∧ Wrote B e g w w' := by
    rcases hown.2 with ⟨hv, _⟩ | ⟨g', cap, cur, hv, hb, hh, _⟩
    · refine ⟨w.heap.size, .inr hnew, h.base, h4.os, h4.tape, h4.output, h4.size, fun o hx => ?_, fun k hk _ => h4.block k hk (by rw [hv]; simp [Value.ownBlock])⟩
      rw [Array.getElem?_eq_none (Nat.le_refl _)] at hx; cases hx
    · refine ⟨g', .inl (by rw [hv]; rfl), hb, h4.os, h4.tape, h4.output, h4.size, fun o hx => ?_, fun k hk hne => h4.block k hk (by rw [hv]; simp [Value.ownBlock]; omega)⟩
      rw [hh] at hx; injection hx with hx; exact ⟨_, _, hx.symm⟩
  obtain ⟨g, hg, hwr⟩ := hwr
  have hst : St κ n B E' a w' := (hl g hwr.base hg).st h hwr
  have hst2 : St κ n B ((k, ownM B v' e (m + us.length) (xs ++ us)) :: E') a w' := ⟨hst.base, hst.defers, hst.size, fun s d hd => by
    by_cases hks : k = s
    · subst hks
      rw [look_here] at hd; injection hd with hd; subst hd
      exact ⟨h3, hlt⟩
    · rw [look_past _ _ hks] at hd
      exact hst.of s d hd⟩
  exact hK v' _ _ (h5.imp id fun h6 => ⟨_, h6, hnew⟩) hbel (hst2.put hdst rfl)
/-- The same, where the row needs no name any more. -/
theorem eff_appendVO {P : Program} {n B : Nat} {ops : Array Oper} {E E' : Env} {ty : TypeId} {pos : String} {after : Array Edge} {t e : TypeId} {z : Value} {nb : Nat} {r x : Operand} {k m dst : Nat} {v : Value} {xs : List Value} {f : D} {vs : List Value} (ht : P.underlying t = some (.slice e)) (hinfo : InfoIs P e z nb) (hnb : nb ≤ 64) (hz1 : z.cells.size = 1)
    (hr : E.at r = some (.v v)) (hk : E.look k = some (ownM B v e m xs)) (hx : E.at x = some f) (hf : Le f (lst (vs.map .v))) (h1 : ∀ u ∈ vs, u.oneCell' = true) (hbd : m + vs.length ≤ 1099511627776) (hdst : dst < n) (hkd : k ≠ dst) (hkE : E'.look k = none) (hl : ∀ g, B ≤ g → (v.ownBlock = some g ∨ NewV B E g) → LeftS B e g E' E) :
    Eff P n B ops ⟨some dst, .call { callee := .builtin .append, args := #[r, x], argTypes := #[t, t] }, ty, pos, after, none⟩ E ((dst, own B e (m + vs.length) (xs ++ vs)) :: E') := fun κ a w K Q h hK =>
  eff_appendV ht hinfo hnb hz1 hr hk hx hf h1 hbd hdst hl κ a w K Q h fun v' a' w' _ hbel hst => hK a' w' hbel ⟨hst.base, hst.defers, hst.size, fun s d hd => by
    by_cases hs : dst = s
    · subst hs
      rw [look_here] at hd; injection hd with hd; subst hd
      have h2 : a'.tmps.getD dst undef = v' := hst.of dst _ (look_here _ _ _)
      have h3 := hst.of k _ (by rw [look_past _ _ (Ne.symm hkd), look_here])
      rw [h2]; exact h3
    · rw [look_past _ _ hs] at hd
      by_cases hks : k = s
      · subst hks
        rw [hkE] at hd; cases hd
      · exact hst.of s d (by rw [look_past _ _ hs, look_past _ _ hks]; exact hd)⟩
end Go.Proofs.YtffiflfjlemggaaGreatDoor
namespace Go.Proofs.YtffiflfjlemggaaGreatDoor
open Go Go.RowKit
section
variable {P : Program} {n B : Nat} {ops : Array Oper} {E : Env} {ty : TypeId} {pos : String} {after : Array Edge}
/-- Blocks that the environment knows whole. -/
def Named (E : Env) (L : List Nat) : Prop := ∀ b ∈ L, ∃ s e xs, vbase ≤ s ∧ E.look s = some (blk b e xs)
theorem Named.nil : Named E [] := fun _ h => by cases h
theorem Named.cons {b s : Nat} {e : TypeId} {xs : List Value} {L : List Nat} (hs : vbase ≤ s) (h : E.look s = some (blk b e xs)) (hr : Named E L) : Named E (b :: L) := fun b' hb => by
  rcases List.mem_cons.1 hb with rfl | hb
  · exact ⟨s, e, xs, hs, h⟩
  · exact hr b' hb
/-- A pointer to a block of its own, above the blocks L. -/
def freshV (base : Nat) (L : List Nat) (T : TypeId) (zs : List Value) : D :=
  .p (fun B w x => ∃ b, x = .pointer (some ⟨b, 0, none⟩) ∧ base ≤ b ∧ (∀ b' ∈ L, b' < b) ∧ b < B ∧ w.heap[b]? = some (.cells zs.toArray T (0, 0)))
    (fun _ _ _ _ g ⟨b, h1, h2, h3, h4, h5⟩ => ⟨b, h1, h2, h3, h4, (g.block b h4).trans h5⟩) (fun _ _ _ _ g ⟨b, h1, h2, h3, h4, h5⟩ => ⟨b, h1, h2, h3, by omega, h5⟩)
theorem ok_allocF {dst : Option Tmp} {guard : Option (Nat × Bool)} {T : TypeId} {zs : List Value} (L : List Nat) (hz : ZeroIs P T zs) (hL : Named E L) : OpOk P B ⟨dst, .alloc T, ty, pos, after, guard⟩ E (freshV B L T zs) := fun ρ w hB hv _ => by
  obtain ⟨i, z, hi, hz, hc⟩ := hz.get
  refine out_val (x := .pointer (some ⟨w.heap.size, 0, none⟩)) (w' := w.alloc (.cells zs.toArray T)) (by simp [execOp, Instr.alloc, zeroValue, typeInfo, hi, hz, newVar, newRow, hc]) ⟨Grow.alloc w _, w.heap.size, rfl, hB, fun b' hb' => ?_, by simp, heap_alloc_new w _⟩
  obtain ⟨s, e, xs, hs, hl⟩ := hL b' hb'
  exact (hv s _ hs hl).1
/-- The number of such a block. -/
def NewF (B : Nat) (L : List Nat) (b : Nat) : Prop := B ≤ b ∧ ∀ b' ∈ L, b' < b
theorem eff_storeF {T : TypeId} {x : Operand} {d k : Nat} {L : List Nat} {zs ys : List Value} {E' : Env} (hsz : SizeIs P T ys.length) (hp : E.look d = some (freshV B L T zs)) (hx : E.at x = some (.v (aggV ys))) (h1 : ys.all (·.oneCell') = true) (ho : zs.length = ys.length) (hl : ∀ b, NewF B L b → LeftS B T b E' E) :
    EffG P n B ops ⟨none, .store T (.tmp d) x, ty, pos, after, none⟩ E (NewF B L) (fun b => (d, .v (.pointer (some ⟨b, 0, none⟩))) :: (k, blk b T ys) :: E') := by
  intro κ a w K Q h hK
  obtain ⟨b, hp', hb, hL, hlt, hh⟩ := h.of d _ hp
  have hp' : a.eval (.tmp d) = .pointer (some ⟨b, 0, none⟩) := hp'
  have hx' : a.eval x = _ := h.at_ x _ hx
  have hrun : (execOp a.eval ⟨none, .store T (.tmp d) x, ty, pos, after, none⟩).run P w = .ok .skip (w.setRow b ys.toArray) := by
    have := run_storeVar_row (P := P) w b T T zs.toArray ys.toArray hh (by simpa [SizeIs] using hsz) (by simpa using ho) (by simpa using h1)
    simp [execOp, hp', hx', Instr.storeAt, Instr.sureAddr, aggV, this]
  rw [if_pos (by simp [Region.wanted])]
  refine opR (by nofun) ?_
  unfold Oper.wp
  rw [hrun, Oper.upon_skip]
  have hwr := Wrote.setRow hb hh ys.toArray
  have hst := (hl b ⟨hb, hL⟩).st h hwr
  refine hK b _ _ ⟨hb, hL⟩ (hwr.below h.base) ⟨hst.base, hst.defers, hst.size, fun t' e he => ?_⟩
  by_cases hts : d = t'
  · subst hts
    rw [look_here] at he; injection he with he; subst he
    exact hp'
  · rw [look_past _ _ hts] at he
    by_cases hks : k = t'
    · subst hks
      rw [look_here] at he; injection he with he; subst he
      exact ⟨by simpa using hlt, setRow_heap w b _ _ T _ hh⟩
    · rw [look_past _ _ hks] at he
      exact hst.of t' e he
end
end Go.Proofs.YtffiflfjlemggaaGreatDoor
namespace Go.Proofs.YtffiflfjlemggaaGreatDoor
open Go Go.RowKit

/-- Memory grows, and blocks from m on may be marked. -/
structure Marks (m : Nat) (w w' : World) : Prop where
  os : w'.os = w.os
  tape : w'.tape = w.tape
  output : w'.output = w.output
  size : w.heap.size ≤ w'.heap.size
  block : ∀ k o, w.heap[k]? = some o → w'.heap[k]? = some o ∨ (m ≤ k ∧ ∃ cs e fr fr', o = .cells cs e fr ∧ w'.heap[k]? = some (.cells cs e fr'))
theorem Marks.of {m : Nat} {w w' : World} (h : Grow w w') : Marks m w w' := ⟨h.os, h.tape, h.output, h.size, fun k _ hk => .inl ((h.block k (Array.getElem?_eq_some_iff.1 hk).1).trans hk)⟩
theorem Marks.below {m : Nat} {w w' : World} (h : Marks m w w') (hm : m ≤ w.heap.size) : Below m w w' := ⟨h.os, h.tape, h.output, h.size, fun k hk => by
  have hlt : k < w.heap.size := by omega
  rcases h.block k _ (Array.getElem?_eq_getElem hlt) with h1 | ⟨h1, _⟩
  · rw [h1, Array.getElem?_eq_getElem hlt]
  · omega⟩
theorem Marks.cell {m : Nat} {w w' : World} (h : Marks m w w') {a : Addr} {v : Value} (hc : w.cell? a = some v) : w'.cell? a = some v := by
  unfold World.cell? at hc ⊢
  cases hb : w.heap[a.block]? with
  | none => rw [hb] at hc; cases hc
  | some o =>
    rw [hb] at hc
    rcases h.block _ _ hb with h1 | ⟨_, cs, e, fr, fr', rfl, h1⟩
    · rw [h1]; exact hc
    · rw [h1]; exact hc

/-- The fact is left alone by marks. -/
class StbM (d : D) : Prop where
  st : ∀ m w w' B x, Marks m w w' → d.OfB B w x → d.OfB B w' x
instance (x : Value) : StbM (.v x) := ⟨fun _ _ _ _ _ _ h => h⟩
class StbL (ds : List D) : Prop where
  st : ∀ (j : Nat) (d : D), ds[j]? = some d → StbM d
instance : StbL [] := ⟨fun _ _ h => by simp at h⟩
instance (d : D) (ds : List D) [hd : StbM d] [hl : StbL ds] : StbL (d :: ds) := ⟨fun j e h => by
  cases j with
  | zero => simp at h; subst h; exact hd
  | succ j => exact hl.st j e (by simpa using h)⟩
instance (l : List UInt8) : StbL (l.map byteD) := ⟨fun j d h => by
  simp only [List.getElem?_map, Option.map_eq_some_iff] at h
  obtain ⟨b, _, rfl⟩ := h
  exact inferInstanceAs (StbM (.v _))⟩
instance (b : UInt8) : StbM (byteD b) := inferInstanceAs (StbM (.v _))
theorem ListF.mark {ds : List D} [hl : StbL ds] {c B m : Nat} {w w' : World} {x : Value} (k : Marks m w w') : ListF ds c B w x → ListF ds c B w' x :=
  fun ⟨A, vs, h1, h2, h3, h4, h5, h6⟩ => ⟨A, vs, h1, h2, h3, h4, fun j u hu => by
    obtain ⟨ad, g1, g2, g3⟩ := h5 j u hu
    exact ⟨ad, g1, g2, k.cell g3⟩, fun j d u hd hu => (hl.st j d hd).st m w w' B u k (h6 j d u hd hu)⟩
instance (ds : List D) (c : Nat) [StbL ds] : StbM (list ds c) := ⟨fun _ _ _ _ _ k h => ListF.mark k h⟩
instance (ds : List D) [StbL ds] : StbM (lst ds) := ⟨fun _ _ _ _ _ k ⟨c, h⟩ => ⟨c, ListF.mark k h⟩⟩
instance (l : List UInt8) (c : Nat) : StbM (bytes l c) := inferInstanceAs (StbM (list _ c))
instance (l : List UInt8) : StbM (byt l) := inferInstanceAs (StbM (lst _))
/-- A slice over a block from m on. -/
def newL (m : Nat) (ds : List D) (c : Nat) : D := .p (fun B w x => (∃ (a : Addr) (len : Nat), x = .slice (some a) len c ∧ m ≤ a.block ∧ a.block < B) ∧ ListF ds c B w x) (fun _ _ _ _ g ⟨h1, h2⟩ => ⟨h1, h2.keep g⟩) (fun _ _ _ _ g ⟨⟨a, l, h0, h1, h2⟩, h3⟩ => ⟨⟨a, l, h0, h1, by omega⟩, h3.up g⟩)
instance (m : Nat) (ds : List D) (c : Nat) [StbL ds] : StbM (newL m ds c) := ⟨fun _ _ _ _ _ k ⟨h1, h2⟩ => ⟨h1, ListF.mark k h2⟩⟩
/-! ### Operations -/
def OpOkM (P : Program) (m B : Nat) (o : Oper) (E : Env) (d : D) : Prop :=
  ∀ (ρ : Operand → Value) (w : World), B ≤ w.heap.size → m ≤ w.heap.size → (∀ t e, vbase ≤ t → E.look t = some e → e.Of w undef) → (∀ x, x ∈ o.op.operands → ∀ e, E.at x = some e → e.Of w (ρ x)) → Out P o ρ w fun x w' => Marks m w w' ∧ d.Of w' x
theorem OpOk.m {P : Program} {m B : Nat} {o : Oper} {E : Env} {d : D} (h : OpOk P B o E d) : OpOkM P m B o E d := fun ρ w hB _ hv hρ => (h ρ w hB hv hρ).mono fun _ _ hx => ⟨Marks.of hx.1, hx.2⟩
section
variable {P : Program} {m B : Nat} {E : Env} {dst : Option Tmp} {ty : TypeId} {pos : String} {after : Array Edge} {guard : Option (Nat × Bool)}
theorem build_run {t e : TypeId} {n : Nat} {ps : Array (Nat × Operand)} {z : Value} {nb : Nat} (ds : List D) (ht : P.underlying t = some (.slice e)) (hinfo : InfoIs P e z nb) (hz1 : z.cells = #[z])
    (hn : 0 < n) (hn' : n ≤ 65536) (hl : ds.length = n) (hp : Parts E ds ps.toList 0) (h1 : ∀ d ∈ ds, ∀ w x, d.Of w x → x.oneCell' = true) (ρ : Operand → Value) (w : World)
    (hρ : ∀ x, x ∈ (Op.buildSlice t n ps).operands → ∀ e, E.at x = some e → e.Of w (ρ x)) :
    ∃ us : Array Value, (execOp ρ ⟨dst, .buildSlice t n ps, ty, pos, after, guard⟩).run P w = .ok (.value (.slice (some ⟨w.heap.size, 0, none⟩) n n)) (w.alloc (.cells us e)) := by
  obtain ⟨i, hi, hz, hs, _⟩ := hinfo.get
  let us : List Value := ps.toList.map fun p => ρ p.2
  have hul : us.length = n := by simp only [us, List.length_map]; rw [← hp.length, hl]
  have hof : ∀ (j : Nat) (d : D), ds[j]? = some d → ∃ u, us[j]? = some u ∧ d.Of w u := fun j d hd => by
    obtain ⟨x, hx, he⟩ := hp.nth hd
    refine ⟨ρ x, by simp only [us, List.getElem?_map, hx]; rfl, hρ x ?_ d he⟩
    simp only [Op.operands, List.mem_toArray, List.mem_map]
    exact ⟨_, List.mem_of_getElem? hx, rfl⟩
  have hus : ∀ u ∈ us, u.oneCell' = true := fun u hu => by
    obtain ⟨j, hj⟩ := List.mem_iff_getElem?.1 hu
    have hlt : j < ds.length := by have := (List.getElem?_eq_some_iff.1 hj).1; omega
    obtain ⟨u', hu', hd⟩ := hof j ds[j] (List.getElem?_eq_getElem hlt)
    rw [hj] at hu'; injection hu' with hu'; subst hu'
    exact h1 _ (List.getElem_mem hlt) w u hd
  have hparts : (ps.map fun (i, x) => (i, ρ x)).toList = (us.zipIdx 0).map fun x => (x.2, x.1) := by
    apply List.ext_getElem?
    intro j
    rcases Nat.lt_or_ge j ds.length with hj | hj
    · obtain ⟨x, hx, _⟩ := hp.nth (List.getElem?_eq_getElem hj)
      have hx' : ps[j]? = some (0 + j, x) := by simpa using hx
      simp [us, List.getElem?_zipIdx, hx']
    · rw [List.getElem?_eq_none (by simp; have := hp.length; simp at this; omega), List.getElem?_eq_none (by simp; omega)]
  have hz' : (Array.range (n * i.size)).map (z.cells[· % z.cells.size]!) = ([] ++ List.replicate n z).toArray := by
    rw [hs, hz1, Nat.mul_one]
    apply Array.ext
    · simp
    · intro j h1 h2; simp [Nat.mod_one]
  have hfill : Instr.fill (fun j => some (j * i.size, i.size)) ((Array.range (n * i.size)).map (z.cells[· % z.cells.size]!)) (ps.map fun (i, x) => (i, ρ x)).toList = some us.toArray := by
    rw [hz', hparts, hs, fill_dense us [] (List.replicate n z) 0 hus rfl (by simp [hul])]
    simp [hul]
  have hr := run_buildSlice (P := P) w t e n (ps.map fun (i, x) => (i, ρ x)) us.toArray i z ht hi hz (by rw [hs]; omega) (by rw [hs]; omega) hfill
  exact ⟨us.toArray, by simp [execOp, hr]⟩
theorem freeze_key {w : World} {a : Addr} {k n : Nat} : (w.freeze ⟨a.block, k, none⟩ n).os = w.os ∧ (w.freeze ⟨a.block, k, none⟩ n).tape = w.tape ∧ (w.freeze ⟨a.block, k, none⟩ n).output = w.output ∧ (w.freeze ⟨a.block, k, none⟩ n).heap.size = w.heap.size ∧
      ∀ j o, w.heap[j]? = some o → (w.freeze ⟨a.block, k, none⟩ n).heap[j]? = some o ∨ (j = a.block ∧ ∃ cs e fr fr', o = .cells cs e fr ∧ (w.freeze ⟨a.block, k, none⟩ n).heap[j]? = some (.cells cs e fr')) := by
  unfold World.freeze
  split
  · exact ⟨rfl, rfl, rfl, rfl, fun j o h => .inl h⟩
  · refine ⟨rfl, rfl, rfl, by simp, fun j o h => ?_⟩
    by_cases hj : a.block = j
    · subst hj
      simp only [Array.getElem?_modify, if_true, h, Option.map_some]
      cases o with
      | cells cs e fr =>
        obtain ⟨s, t⟩ := fr
        simp only
        right
        refine ⟨by first | trivial | rfl, cs, e, (s, t), ?_⟩
        first
          | exact ⟨_, rfl, rfl⟩
          | (split <;> exact ⟨_, rfl, rfl⟩)
      | _ => exact .inl rfl
    · simp [Array.getElem?_modify, hj, h]
theorem freeze_marks {m : Nat} {w : World} {a : Addr} {k n : Nat} (hm : m ≤ a.block) : Marks m w (w.freeze ⟨a.block, k, none⟩ n) := by
  obtain ⟨h1, h2, h3, h4, h5⟩ := freeze_key (w := w) (a := a) (k := k) (n := n)
  refine ⟨h1, h2, h3, by omega, fun j o h => (h5 j o h).imp id ?_⟩
  rintro ⟨rfl, h6⟩
  exact ⟨hm, h6⟩
end

/-! ### Regions -/
def GoodM (P : Program) (m B : Nat) (ops : Array Oper) (o : Oper) (E : Env) (d : D) : Prop :=
  (GuardIs ops E o true ∧ OpOkM P m B o E d) ∨ (GuardIs ops E o false ∧ d = .v undef)
inductive TraceM (P : Program) (m B : Nat) (ops : Array Oper) : List Oper → Env → List D → Env → Prop
  | nil {E : Env} : TraceM P m B ops [] E [] E
  | cons {o : Oper} {rest : List Oper} {E E' : Env} {t : Nat} {d : D} {ds : List D} (ht : o.dst = some t) (hg : GoodM P m B ops o E d) (hs : StbM d) (hr : TraceM P m B ops rest ((t, d) :: E) ds E') : TraceM P m B ops (o :: rest) E (d :: ds) E'
/-- The region's text from here on, and what is to be shown in the environment at its end. -/
def RunM (P : Program) (m B : Nat) (ops : Array Oper) (rest : List Oper) (E : Env) (C : Env → Prop) : Prop := ∃ ds E', TraceM P m B ops rest E ds E' ∧ C E'
section
variable {P : Program} {m B : Nat} {ops : Array Oper} {o : Oper} {rest : List Oper} {E : Env} {C : Env → Prop} {t : Nat} {d : D}
theorem RunM.nil (h : C E) : RunM P m B ops [] E C := ⟨[], E, .nil, h⟩
theorem RunM.mk [hs : StbM d] (ht : o.dst = some t) (hg : GoodM P m B ops o E d) (hr : RunM P m B ops rest ((t, d) :: E) C) : RunM P m B ops (o :: rest) E C := by
  obtain ⟨ds, E', h1, h2⟩ := hr; exact ⟨_, _, .cons ht hg hs h1, h2⟩
theorem RunM.stepM [StbM d] (ht : o.dst = some t) (hg : o.guard = none) (h : OpOkM P m B o E d) (hr : RunM P m B ops rest ((t, d) :: E) C) : RunM P m B ops (o :: rest) E C :=
  .mk ht (.inl ⟨by simp [GuardIs, hg], h⟩) hr
theorem RunM.step [StbM d] (ht : o.dst = some t) (hg : o.guard = none) (h : OpOk P B o E d) (hr : RunM P m B ops rest ((t, d) :: E) C) : RunM P m B ops (o :: rest) E C := .stepM ht hg h.m hr
theorem RunM.guardedM [StbM d] {j : Nat} {want : Bool} {s : Nat} (ht : o.dst = some t) (hg : o.guard = some (j, want)) (hj : ((ops[j]?).bind (·.dst)) = some s) (hE : E.look s = some (.v (.bool want))) (h : OpOkM P m B o E d) (hr : RunM P m B ops rest ((t, d) :: E) C) : RunM P m B ops (o :: rest) E C :=
  .mk ht (.inl ⟨by simp only [GuardIs, hg]; exact ⟨s, hj, .inl ⟨want, hE, by cases want <;> rfl⟩⟩, h⟩) hr
theorem RunM.guarded [StbM d] {j : Nat} {want : Bool} {s : Nat} (ht : o.dst = some t) (hg : o.guard = some (j, want)) (hj : ((ops[j]?).bind (·.dst)) = some s) (hE : E.look s = some (.v (.bool want))) (h : OpOk P B o E d) (hr : RunM P m B ops rest ((t, d) :: E) C) : RunM P m B ops (o :: rest) E C := .guardedM ht hg hj hE h.m hr
theorem RunM.skipped {j : Nat} {want c : Bool} {s : Nat} (ht : o.dst = some t) (hg : o.guard = some (j, want)) (hj : ((ops[j]?).bind (·.dst)) = some s) (hE : E.look s = some (.v (.bool c))) (hc : (c == want) = false) (hr : RunM P m B ops rest ((t, .v undef) :: E) C) : RunM P m B ops (o :: rest) E C :=
  .mk ht (.inr ⟨by simp only [GuardIs, hg]; exact ⟨s, hj, .inl ⟨c, hE, hc.symm⟩⟩, rfl⟩) hr
theorem RunM.as (x : Value) {y : Value} (h : y = x) (hr : RunM P m B ops rest ((t, .v x) :: E) C) : RunM P m B ops rest ((t, .v y) :: E) C := h ▸ hr
end
theorem TraceM.nth {P : Program} {m B : Nat} {ops : Array Oper} {rest : List Oper} {E E' : Env} {ds : List D} (h : TraceM P m B ops rest E ds E') : ∀ {i : Nat} {o : Oper}, rest[i]? = some o →
    ∃ t d Ei, o.dst = some t ∧ ds[i]? = some d ∧ GoodM P m B ops o Ei d ∧ ∀ s e, Ei.look s = some e →
      (∃ j o', j < i ∧ rest[j]? = some o' ∧ o'.dst = some s ∧ ds[j]? = some e) ∨ ((∀ j o', j < i → rest[j]? = some o' → o'.dst ≠ some s) ∧ E.look s = some e) := by
  induction h with
  | nil => intro i o hi; simp at hi
  | @cons o0 rest E E' t0 d0 ds ht hg hs hr ih =>
    intro i o hi
    cases i with
    | zero =>
      simp at hi; subst hi
      exact ⟨t0, d0, E, ht, rfl, hg, fun s e he => .inr ⟨fun j _ hj => by omega, he⟩⟩
    | succ i =>
      obtain ⟨t, d, Ei, h1, h2, h3, h4⟩ := ih (i := i) (by simpa using hi)
      refine ⟨t, d, Ei, h1, by simpa using h2, h3, fun s e he => ?_⟩
      rcases h4 s e he with ⟨j, o', hj, ho', hd, hds⟩ | ⟨hno, hl⟩
      · exact .inl ⟨j + 1, o', by omega, by simpa using ho', hd, by simpa using hds⟩
      · by_cases hs : t0 = s
        · subst hs
          rw [look_here] at hl
          exact .inl ⟨0, o0, by omega, rfl, ht, by simpa using hl⟩
        · rw [look_past _ _ hs] at hl
          refine .inr ⟨fun j o' hj ho' => ?_, hl⟩
          cases j with
          | zero => simp at ho'; subst ho'; rw [ht]; intro h; injection h with h; exact hs h
          | succ j => exact hno j o' (by omega) (by simpa using ho')
theorem TraceM.last {P : Program} {m B : Nat} {ops : Array Oper} {rest : List Oper} {E E' : Env} {ds : List D} (h : TraceM P m B ops rest E ds E') : ∀ s e, E'.look s = some e →
      (∃ (j : Nat) (o' : Oper), rest[j]? = some o' ∧ o'.dst = some s ∧ ds[j]? = some e) ∨ ((∀ (j : Nat) (o' : Oper), rest[j]? = some o' → o'.dst ≠ some s) ∧ E.look s = some e) := by
  induction h with
  | nil => intro s e he; exact .inr ⟨fun j _ hj => by simp at hj, he⟩
  | @cons o0 rest E E' t0 d0 ds ht hg hs hr ih =>
    intro s e he
    rcases ih s e he with ⟨j, o', ho', hd, hds⟩ | ⟨hno, hl⟩
    · exact .inl ⟨j + 1, o', by simpa using ho', hd, by simpa using hds⟩
    · by_cases hs : t0 = s
      · subst hs
        rw [look_here] at hl
        exact .inl ⟨0, o0, rfl, ht, by simpa using hl⟩
      · rw [look_past _ _ hs] at hl
        refine .inr ⟨fun j o' ho' => ?_, hl⟩
        cases j with
        | zero => simp at ho'; subst ho'; rw [ht]; intro h; injection h with h; exact hs h
        | succ j => exact hno j o' (by simpa using ho')
theorem TraceM.stb {P : Program} {m B : Nat} {ops : Array Oper} {rest : List Oper} {E E' : Env} {ds : List D} (h : TraceM P m B ops rest E ds E') : ∀ (j : Nat) (d : D), ds[j]? = some d → StbM d := by
  induction h with
  | nil => intro j d h; simp at h
  | cons _ _ hs _ ih =>
    intro j d h
    cases j with
    | zero => simp at h; subst h; exact hs
    | succ j => exact ih j d (by simpa using h)
section
variable {P : Program} {B : Nat} {ops : Array Oper} {Q : Exit → Act → World → Prop} {κ : Cx}
end
/-! ### Constants in a region whose order is the text's: the conversion is an effect -/
/-- A slice of constant bytes over a block of the call's own. -/
def newT (B : Nat) (e : TypeId) (l : List UInt8) (c : Nat) : D := .p (fun B' w x => (∃ (a : Addr) (len : Nat) (cs : Array Value) (fr : Nat × Nat), x = .slice (some a) len c ∧ B ≤ a.block ∧ a.block < B' ∧ w.heap[a.block]? = some (.cells cs e fr)) ∧ ListF (l.map byteD) c B' w x)
  (fun _ _ _ _ g ⟨⟨a, len, cs, fr, h0, h1, h2, h3⟩, h4⟩ => ⟨⟨a, len, cs, fr, h0, h1, h2, (g.block _ h2).trans h3⟩, h4.keep g⟩)
  (fun _ _ _ _ g ⟨⟨a, len, cs, fr, h0, h1, h2, h3⟩, h4⟩ => ⟨⟨a, len, cs, fr, h0, h1, by omega, h3⟩, h4.up g⟩)
instance (B : Nat) (e : TypeId) (l : List UInt8) (c : Nat) : StbM (newT B e l c) := ⟨fun m w w' B' x k ⟨⟨a, len, cs, fr, h0, h1, h2, h3⟩, h4⟩ => ⟨by
  rcases k.block _ _ h3 with h | ⟨_, cs', e', fr', fr'', h5, h⟩
  · exact ⟨a, len, cs, fr, h0, h1, h2, h⟩
  · injection h5 with h6 h7 h8
    subst h6; subst h7
    exact ⟨a, len, _, _, h0, h1, h2, h⟩, ListF.mark k h4⟩⟩
theorem newT_byt {B : Nat} {e : TypeId} {l : List UInt8} {c : Nat} : Le (newT B e l c) (byt l) := fun _ _ _ h => ⟨c, h.2⟩
theorem newT_list {B : Nat} {e : TypeId} {l : List UInt8} {c : Nat} : Le (newT B e l c) (list (l.map byteD) c) := fun _ _ _ h => h.2
theorem newT_one {B : Nat} {e : TypeId} {l : List UInt8} {c : Nat} {w : World} {x : Value} (h : (newT B e l c).Of w x) : x.oneCell' = true := list_one (newT_list.of h)
theorem Surv.newT {B T g base : Nat} {e : TypeId} {l : List UInt8} {c : Nat} (h : e ≠ T) : Surv B T g (Go.Proofs.YtffiflfjlemggaaGreatDoor.newT base e l c) := fun w w' x k ⟨⟨a, len, cs, fr, h0, h1, h2, h3⟩, A, vs, g1, g2, g3, g4, g5, g6⟩ => by
  have hne : a.block ≠ g := fun hb => h (by subst hb; exact k.row _ _ _ h3)
  have hsame : w'.heap[a.block]? = w.heap[a.block]? := k.other _ h2 hne
  refine ⟨⟨a, len, cs, fr, h0, h1, Nat.lt_of_lt_of_le h2 k.size, hsame.trans h3⟩, A, vs, g1, g2, g3, g4, fun j u hu => ?_, fun j d u hd hu => ?_⟩
  · obtain ⟨ad, e1, e2, e3⟩ := g5 j u hu
    refine ⟨ad, e1, Nat.lt_of_lt_of_le e2 k.size, ?_⟩
    have hab : ad = a := by
      subst e1; rw [h0] at g1; injection g1 with g1; injection g1 with g1; exact g1.symm
    subst hab
    unfold World.cell? at e3 ⊢
    have hbl : (ad.add j).block = ad.block := by unfold Addr.add; try split <;> rfl
    rw [hbl] at e3 ⊢
    rw [hsame]; exact e3
  · have h9 := g6 j d u hd hu
    simp only [List.getElem?_map, Option.map_eq_some_iff] at hd
    obtain ⟨b, _, rfl⟩ := hd
    exact h9
theorem ok_buildT {P : Program} {B : Nat} {E : Env} {dst : Option Tmp} {ty : TypeId} {pos : String} {after : Array Edge} {guard : Option (Nat × Bool)} {t e : TypeId} {n : Nat} {ps : Array (Nat × Operand)} {z : Value} {nb : Nat} (l : List UInt8) (ht : P.underlying t = some (.slice e)) (hinfo : InfoIs P e z nb) (hz1 : z.cells = #[z])
    (hn : 0 < n) (hn' : n ≤ 65536) (hl : l.length = n) (hp : Parts E (l.map byteD) ps.toList 0) :
    OpOk P B ⟨dst, .buildSlice t n ps, ty, pos, after, guard⟩ E (newT B e l n) := fun ρ w hB hv hρ => by
  have h1 : ∀ d ∈ l.map byteD, ∀ w x, d.Of w x → x.oneCell' = true := fun d hd w x h => by
    simp only [List.mem_map] at hd; obtain ⟨b, _, rfl⟩ := hd; exact v_one rfl h
  have hlm : (l.map byteD).length = n := by rw [List.length_map, hl]
  have := ok_build (P := P) (B := B) (dst := dst) (ty := ty) (pos := pos) (after := after) (guard := guard) (l.map byteD) ht hinfo hz1 hn hn' hlm hp h1 ρ w hB hv hρ
  obtain ⟨us, hrun⟩ := build_run (P := P) (dst := dst) (ty := ty) (pos := pos) (after := after) (guard := guard) (l.map byteD) ht hinfo hz1 hn hn' hlm hp h1 ρ w hρ
  unfold Out at this ⊢
  rw [hrun] at this ⊢
  exact ⟨this.1, ⟨⟨_, n, us, (0, 0), rfl, hB, by simp, heap_alloc_new w _⟩, this.2⟩⟩
def SurvM (B T g : Nat) (d : D) : Prop := ∀ w w' x, Wrote B T g w w' → Marks B w w' → d.Of w x → d.Of w' x
theorem SurvM.of {B T g : Nat} {d : D} (h : Surv B T g d) : SurvM B T g d := fun w w' x k _ hx => h w w' x k hx
theorem SurvM.stb {B T g : Nat} {d : D} [hs : StbM d] : SurvM B T g d := fun _ _ _ _ m hx => (hs.st _ _ _ _ _ m hx).up m.size
def LeftM (B T g : Nat) (E' E : Env) : Prop := ∀ p ∈ E', E.look p.1 = some p.2 ∧ SurvM B T g p.2
theorem LeftM.nil {B T g : Nat} {E : Env} : LeftM B T g [] E := fun _ h => by cases h
theorem LeftM.cons {B T g : Nat} {E E' : Env} {t : Nat} {d : D} (h : E.look t = some d) (hs : SurvM B T g d) (hr : LeftM B T g E' E) : LeftM B T g ((t, d) :: E') E := fun p hp => by
  rcases List.mem_cons.1 hp with rfl | hp
  · exact ⟨h, hs⟩
  · exact hr p hp
theorem eff_convN {P : Program} {n B : Nat} {ops : Array Oper} {E E' : Env} {ty : TypeId} {pos : String} {after : Array Edge} {t e : TypeId} {x : Operand} {l : List UInt8} {c dst : Nat} (ht : P.underlying t = some (.slice e)) (he : P.underlying e = some (.int .u8)) (hx : E.at x = some (newT B e l c)) (hdst : dst < n) (hl : ∀ g, B ≤ g → LeftM B e g E' E) :
    Eff P n B ops ⟨some dst, .convert t t x, ty, pos, after, none⟩ E ((dst, newT B e l c) :: E') := by
  intro κ a w K Q h hK
  have h0 : (newT B e l c).Of w (a.eval x) := h.at_ x _ hx
  obtain ⟨⟨ad, len, cs, fr, hv, hb, hlt, hh⟩, hlf⟩ := h0
  have hsh : (shape ad.block).run P w = .ok (some (e, cs.size)) w := by simp [shape, Sem.run, World.shape?, hh]
  have hexec : (execOp a.eval ⟨some dst, .convert t t x, ty, pos, after, none⟩).run P w = .ok (.value (a.eval x)) (w.freeze ⟨ad.block, cs.size, none⟩ 1) := by
    simp [execOp, hv, convert, run_underlying ht, run_underlying he, markStringish, hsh]
  rw [if_pos (by simp [Region.wanted])]
  refine opR (by nofun) ?_
  unfold Oper.wp
  rw [hexec, Oper.upon_value]
  have hmk := freeze_marks (w := w) (k := cs.size) (n := 1) hb
  have hwr : Wrote B e ad.block w (w.freeze ⟨ad.block, cs.size, none⟩ 1) := by
    obtain ⟨_, _, _, _, h5⟩ := freeze_key (w := w) (a := ad) (k := cs.size) (n := 1)
    refine ⟨hb, hmk.os, hmk.tape, hmk.output, hmk.size, fun o ho => ?_, fun j hj hne => ?_⟩
    · rw [hh] at ho; injection ho with ho; exact ⟨_, _, ho.symm⟩
    · rcases h5 j _ (Array.getElem?_eq_getElem hj) with h6 | ⟨h6, _⟩
      · rw [h6, Array.getElem?_eq_getElem hj]
      · exact absurd h6 hne
  have hst : St κ n B E' a (w.freeze ⟨ad.block, cs.size, none⟩ 1) := ⟨Nat.le_trans h.base hmk.size, h.defers, h.size, fun s d hd => by
    obtain ⟨h6, h7⟩ := hl ad.block hb _ (look_mem hd)
    exact h7 _ _ _ hwr hmk (h.of s d h6)⟩
  refine hK _ _ (hmk.below h.base) (hst.put hdst ?_)
  exact (StbM.st _ _ _ _ _ hmk (h.at_ x _ hx)).up hmk.size
end Go.Proofs.YtffiflfjlemggaaGreatDoor
namespace Go.Proofs.YtffiflfjlemggaaGreatDoor
open Go Go.RowKit
variable {κ : Cx}

theorem St.push {n B : Nat} {E : Env} {a : Act} {w : World} {t : Nat} {d : D} (h : St κ n B E a w) (hd : d.Of w (a.tmps.getD t undef)) : St κ n B ((t, d) :: E) a w :=
  ⟨h.base, h.defers, h.size, fun s e he => by
    by_cases hts : t = s
    · subst hts
      rw [look_here] at he; injection he with he; subst he; exact hd
    · rw [look_past _ _ hts] at he
      exact h.of s e he⟩

/-! ### A variable that holds something of which d is known -/
def varD (b : Nat) (T : TypeId) (d : D) : D :=
  .p (fun B w _ => b < B ∧ ∃ u : Value, w.heap[b]? = some (.cells #[u] T (0, 0)) ∧ d.OfB B w u)
    (fun _ _ _ _ g ⟨h1, u, h2, h3⟩ => ⟨h1, u, (g.block b h1).trans h2, h3.keep g⟩) (fun _ _ _ _ g ⟨h1, u, h2, h3⟩ => ⟨by omega, u, h2, h3.up g⟩)
theorem varD_le {b : Nat} {T : TypeId} {d d' : D} (h : Le d d') : Le (varD b T d) (varD b T d') := fun _ _ _ ⟨h1, u, h2, h3⟩ => ⟨h1, u, h2, h _ _ _ h3⟩
theorem varD_eq {b : Nat} {T : TypeId} {d d' : D} (h : d = d') : varD b T d = varD b T d' := by rw [h]
theorem Surv.varD {B T g b : Nat} {e : TypeId} {d : D} (h : b ≠ g) (hd : Surv B T g d) : Surv B T g (Go.Proofs.YtffiflfjlemggaaGreatDoor.varD b e d) := fun w w' _ k ⟨h1, u, h2, h3⟩ =>
  ⟨Nat.lt_of_lt_of_le h1 k.size, u, (k.other b h1 h).trans h2, hd w w' u k h3⟩
theorem Surv.varDT {B T g b : Nat} {e : TypeId} {d : D} (h : e ≠ T) (hd : Surv B T g d) : Surv B T g (Go.Proofs.YtffiflfjlemggaaGreatDoor.varD b e d) := fun w w' x k hx => by
  refine Surv.varD (B := B) (T := T) (fun hb => h ?_) hd w w' x k hx
  subst hb
  obtain ⟨_, u, h2, _⟩ := hx
  exact k.row _ _ _ h2
theorem Firm.varD {l b : Nat} {e : TypeId} {d : D} (hd : Firm l d) : Firm l (Go.Proofs.YtffiflfjlemggaaGreatDoor.varD b e d) := fun w o o' _ hl ho ⟨h1, u, h2, h3⟩ => by
  have hne : b ≠ l := fun hb => by subst hb; rw [h2] at hl; injection hl with hl; subst hl; cases ho
  exact ⟨by simpa using h1, u, (World.putObj_heap_other hne).trans h2, hd w o o' u hl ho h3⟩
theorem Firm.own {l base n : Nat} {e : TypeId} {xs : List Value} : Firm l (Go.Proofs.YtffiflfjlemggaaGreatDoor.own base e n xs) := fun w o o' x hl ho ⟨h1, h2⟩ => by
  obtain ⟨h3, h4⟩ := h1
  refine ⟨⟨h3, h4.imp id ?_⟩, fun j hj => by simpa using h2 j hj⟩
  rintro ⟨j, cap, cur, rfl, hj, hh, hr⟩
  have hne : j ≠ l := fun hb => by subst hb; rw [hh] at hl; injection hl with hl; subst hl; cases ho
  exact ⟨j, cap, cur, rfl, hj, (World.putObj_heap_other hne).trans hh, hr⟩
theorem Firm.ownM {l base n : Nat} {v : Value} {e : TypeId} {xs : List Value} : Firm l (Go.Proofs.YtffiflfjlemggaaGreatDoor.ownM base v e n xs) := fun w o o' _ hl ho h => Firm.own w o o' v hl ho h
theorem Firm.list {l c : Nat} {ds : List D} (hd : ∀ d ∈ ds, Firm l d) : Firm l (Go.Proofs.YtffiflfjlemggaaGreatDoor.list ds c) := fun w o o' x hl ho ⟨A, vs, h1, h2, h3, h4, h5, h6⟩ =>
  ⟨A, vs, h1, h2, h3, h4, fun j u hu => by
    obtain ⟨ad, g1, g2, g3⟩ := h5 j u hu
    refine ⟨ad, g1, by simpa using g2, ?_⟩
    have hne : (ad.add j).block ≠ l := fun hb => by
      unfold World.cell? at g3
      rw [hb, hl] at g3
      cases o <;> simp_all [Obj.isCells]
    unfold World.cell? at g3 ⊢
    rw [World.putObj_heap_other hne]; exact g3, fun j d u hd' hu => hd d (List.mem_of_getElem? hd') w o o' u hl ho (h6 j d u hd' hu)⟩
theorem Firm.bytes {l c : Nat} {xs : List UInt8} : Firm l (Go.Proofs.YtffiflfjlemggaaGreatDoor.bytes xs c) := Firm.list fun d hd => by
  obtain ⟨b, _, rfl⟩ := List.mem_map.1 hd
  exact Firm.v l _

section
variable {P : Program} {n B : Nat} {ops : Array Oper} {E : Env} {dst : Option Tmp} {ty : TypeId} {pos : String} {after : Array Edge} {guard : Option (Nat × Bool)}
/-- A store into a variable of one cell: what is known of the value is known of the variable. -/
theorem eff_storeD {t : TypeId} {z : Value} {nb : Nat} {p x : Operand} {b s : Nat} {e : TypeId} {z₀ : Value} {d : D} {E' : Env} (hinfo : InfoIs P t z nb) (hp : E.at p = some (.v (.pointer (some ⟨b, 0, none⟩)))) (hx : E.at x = some d) (hu : ∀ w u, d.Of w u → u.oneCell' = true)
    (hb : B ≤ b) (hblk : E.look s = some (blk b e [z₀])) (hd : Surv B e b d) (hl : LeftS B e b E' E) :
    Eff P n B ops ⟨none, .store t p x, ty, pos, after, none⟩ E ((s, varD b e d) :: E') := by
  obtain ⟨i, hi, _, hs, _⟩ := hinfo.get
  intro κ a w K Q h hK
  have hp' : a.eval p = _ := h.at_ p _ hp
  have hx' : d.Of w (a.eval x) := h.at_ x _ hx
  obtain ⟨u, hu'⟩ : ∃ u, a.eval x = u := ⟨_, rfl⟩
  rw [hu'] at hx'
  have hu := hu w u hx'
  obtain ⟨hlt, hh⟩ := h.of s _ hblk
  have hcell : w.cell? ⟨b, 0, none⟩ = some z₀ := by simp [World.cell?, hh]
  have hfr : w.frozen? ⟨b, 0, none⟩ = false := by simp [World.frozen?, hh]
  have hcu : u.cells = #[u] := by cases u <;> simp_all [Value.oneCell', Value.cells]
  have hadd : (⟨b, 0, none⟩ : Addr).add 0 = ⟨b, 0, none⟩ := rfl
  have hset := setCell_eq_setRow w b 0 [z₀].toArray e (0, 0) u hh
  have hrun : (execOp a.eval ⟨none, .store t p x, ty, pos, after, none⟩).run P w = .ok .skip (w.setRow b ([z₀].toArray.setIfInBounds 0 u)) := by
    rw [← hset]
    simp [execOp, hp', hu', Instr.storeAt, Instr.sureAddr, storeVar, hcu, sizeOf, typeInfo, hi, hs, storeCells, hadd, run_store P w ⟨b, 0, none⟩ u .plain hu, hcell, hfr]
  rw [if_pos (by simp [Region.wanted])]
  refine opR (by nofun) ?_
  unfold Oper.wp
  rw [hrun, Oper.upon_skip]
  have hwr := Wrote.setRow hb hh ([z₀].toArray.setIfInBounds 0 u)
  have hst := hl.st h hwr
  refine hK _ _ (hwr.below h.base) (hst.push ?_)
  exact ⟨by simpa using hlt, u, by rw [setRow_heap w b _ _ e _ hh]; simp, hd _ _ _ hwr hx'⟩
/-- What a variable holds. -/
theorem ok_loadD {t : TypeId} {td : TypeDesc} {x : Operand} {b s : Nat} {e : TypeId} {d : D} (hsl : vbase ≤ s) (ht : P.underlying t = some td) (hp : plainTD td = true) (hx : E.at x = some (.v (.pointer (some ⟨b, 0, none⟩)))) (hblk : E.look s = some (varD b e d)) :
    OpOk P B ⟨dst, .load t x, ty, pos, after, guard⟩ E d := fun ρ w _ hv hρ => by
  have h1 : ρ x = _ := hρ x (by simp [Op.operands]) _ hx
  obtain ⟨hlt, u, hh, hd⟩ := hv s _ hsl hblk
  have hc : w.cell? ⟨b, 0, none⟩ = some u := by simp [World.cell?, hh]
  exact out_val (w' := w) (by simp [execOp, h1, run_load_plain ht hp hc]) ⟨Grow.refl w, hd⟩
/-- The number of a new block: above all that are known by name. -/
def NewD (B : Nat) (E : Env) (b : Nat) : Prop := B ≤ b ∧ (∀ s b' e xs, E.look s = some (blk b' e xs) → b' < b) ∧ ∀ s b' e d, E.look s = some (varD b' e d) → b' < b
/-- A variable of one cell that is given a value. -/
theorem eff_boxD {T : TypeId} {x : Operand} {dd : D} {d k : Nat} (hx : E.at x = some dd) (hu : ∀ w u, dd.Of w u → u.oneCell' = true) (hdn : d < n) :
    EffG P n B ops ⟨some d, .box T x, ty, pos, after, none⟩ E (NewD B E) (fun b => (d, .v (.pointer (some ⟨b, 0, none⟩))) :: (k, varD b T dd) :: E) := by
  intro κ a w K Q h hK
  have h1 : dd.Of w (a.eval x) := h.at_ x _ hx
  obtain ⟨u, hu'⟩ : ∃ u, a.eval x = u := ⟨_, rfl⟩
  rw [hu'] at h1
  have hu := hu w u h1
  have hc : u.cells = #[u] := by cases u <;> simp_all [Value.oneCell', Value.cells]
  have hrun : (execOp a.eval ⟨some d, .box T x, ty, pos, after, none⟩).run P w = .ok (.value (.pointer (some ⟨w.heap.size, 0, none⟩))) (w.alloc (.cells #[u] T)) := by
    simp [execOp, Instr.box, newVar, newRow, hu', hc]
  rw [if_pos (by simp [Region.wanted])]
  refine opR (by nofun) ?_
  unfold Oper.wp
  rw [hrun, Oper.upon_value]
  have hg := Grow.alloc w (.cells #[u] T)
  have hst := h.grow hg
  refine hK w.heap.size _ _ ⟨h.base, fun s b' e ys hs => (h.of s _ hs).1, fun s b' e d' hs => (h.of s _ hs).1⟩ ((Below.refl B w).alloc h.base _) (St.put (hst.push ?_) hdn rfl)
  refine ⟨by simp, u, heap_alloc_new w _, ?_⟩
  exact D.Of.grow h1 hg
/-- A variable of its zero value, its number above all that are known by name. -/
theorem eff_allocN {T : TypeId} {zs : List Value} {d k : Nat} (hz : ZeroIs P T zs) (hdn : d < n) :
    EffG P n B ops ⟨some d, .alloc T, ty, pos, after, none⟩ E (NewD B E) (fun b => (d, .v (.pointer (some ⟨b, 0, none⟩))) :: (k, blk b T zs) :: E) := by
  intro κ a w K Q h hK
  obtain ⟨i, z, hi, hz, hc⟩ := hz.get
  have hrun : (execOp a.eval ⟨some d, .alloc T, ty, pos, after, none⟩).run P w = .ok (.value (.pointer (some ⟨w.heap.size, 0, none⟩))) (w.alloc (.cells zs.toArray T)) := by
    simp [execOp, Instr.alloc, zeroValue, typeInfo, hi, hz, newVar, newRow, hc]
  rw [if_pos (by simp [Region.wanted])]
  refine opR (by nofun) ?_
  unfold Oper.wp
  rw [hrun, Oper.upon_value]
  have hst := h.grow (Grow.alloc w (.cells zs.toArray T))
  refine hK w.heap.size _ _ ⟨h.base, fun s b' e ys hs => (h.of s _ hs).1, fun s b' e d' hs => (h.of s _ hs).1⟩ ((Below.refl B w).alloc h.base _) (St.put (hst.push ?_) hdn rfl)
  exact ⟨by simp, heap_alloc_new w _⟩

/-- []byte(s) of a string. -/
theorem ok_strB {s t e : TypeId} {x : Operand} {l : List UInt8} (hs : P.underlying s = some .string) (ht : P.underlying t = some (.slice e)) (he : P.underlying e = some (.int .u8)) (hx : E.at x = some (str l)) (hl : l.length ≤ maxLen) :
    OpOk P B ⟨dst, .convert s t x, ty, pos, after, guard⟩ E (byt l) := fun ρ w hB _ hρ => by
  have h1 : ρ x = .string ⟨l.toArray⟩ := hρ x (by simp [Op.operands]) _ hx
  have hr := run_bytes_of_string (P := P) w s t e ⟨l.toArray⟩ hs ht he
  have hc1 : l.length ≤ grownCap w l.length 0 e := grownCap_ge w _ 0 e
  have hc2 := grownCap_le_maxLen w l.length 0 e hl
  have hsz : (⟨l.toArray⟩ : ByteArray).size = l.length := rfl
  rw [hsz] at hr
  obtain ⟨c, hc⟩ : ∃ c, grownCap w l.length 0 e = c := ⟨_, rfl⟩
  rw [hc] at hr hc1 hc2
  obtain ⟨fr, hfr⟩ : ∃ fr, ((bytesRow ⟨l.toArray⟩ c).size, (bytesRow ⟨l.toArray⟩ c).size + 1) = fr := ⟨_, rfl⟩
  rw [hfr] at hr
  have hg : Grow w (w.drew.alloc (.cells (bytesRow ⟨l.toArray⟩ c) e fr)) := ((Grow.refl w).drew).trans (Grow.alloc w.drew _)
  refine out_val (x := .slice (some ⟨w.heap.size, 0, none⟩) l.length c) (w' := w.drew.alloc (.cells (bytesRow ⟨l.toArray⟩ c) e fr)) (by simp only [execOp, h1, Sem.run_bind, hr, Result.andThen_ok, Sem.run_pure]) ⟨hg, c, ?_⟩
  refine bytes_mk (l := l) hc1 hc2 fun j u hu => ⟨_, rfl, ?_, ?_⟩
  · show w.heap.size < (w.drew.alloc _).heap.size
    rw [World.size_alloc]; exact Nat.lt_succ_self _
  · have hh := World.alloc_heap_new w.drew (.cells (bytesRow ⟨l.toArray⟩ c) e fr)
    have hd : w.drew.heap.size = w.heap.size := rfl
    rw [hd] at hh
    rw [add_lit0, Nat.zero_add]
    unfold World.cell?
    simp only
    rw [hh]
    simp only [bytesRow, Option.isSome_none, Bool.false_eq_true, if_false]
    have hj : j < l.length := by have := (List.getElem?_eq_some_iff.1 hu).1; simpa using this
    rw [Array.getElem?_append_left (by simpa using hj)]
    simpa [byteV] using hu
/-- A row of no elements, with room. -/
theorem ok_make0 {t e : TypeId} {x y : Operand} {z : Value} {nb : Nat} {k k' : IntKind} {m n₀ : Int} (c : Nat) (ht : P.underlying t = some (.slice e)) (hinfo : InfoIs P e z nb) (hnb : nb ≤ 64) (hz1 : z.cells = #[z])
    (hx : E.at x = some (.v (.int k n₀))) (hy : E.at y = some (.v (.int k' m))) (hn : n₀ = 0) (hm : m = (c : Int)) (hc : c ≤ 4398046511104) :
    OpOk P B ⟨dst, .makeSlice t x y, ty, pos, after, guard⟩ E (own B e 0 []) := fun ρ w hB _ hρ => by
  obtain ⟨i, hi, hz, hs, hb⟩ := hinfo.get
  have h1 : ρ x = _ := hρ x (by simp [Op.operands]) _ hx
  have h2 : ρ y = _ := hρ y (by simp [Op.operands]) _ hy
  subst hm; subst hn
  have hbc : i.bytes * c ≤ 64 * c := Nat.mul_le_mul_right c (by omega)
  have hr := run_make (P := P) w t e i z ht hi hz k k' (0 : Int) (c : Int) (by omega) (by omega) (by rw [← Int.natCast_mul]; omega) (by omega)
  have hcells : madeCells z.cells (c * i.size) = (List.replicate c z).toArray := by
    rw [hs, hz1, Nat.mul_one]
    apply Array.ext
    · simp [madeCells]
    · intro j h1 h2; simp [madeCells, Nat.mod_one]
  refine out_val (x := .slice (some ⟨w.heap.size, 0, none⟩) 0 c) (w' := w.alloc (.cells (madeCells z.cells (c * i.size)) e)) ?_ ⟨Grow.alloc w _, ⟨rfl, .inr ⟨w.heap.size, c, (List.replicate c z).toArray, rfl, hB, ?_, Nat.zero_le _, ?_, by simp, by simp⟩⟩, fun g hg => ?_⟩
  · simp only [execOp, h1, h2, Sem.run_bind, hr, Result.andThen_ok, Sem.run_pure, Int.toNat_natCast, Int.toNat_zero]
  · rw [hcells]; exact heap_alloc_new w _
  · simp only [maxLen]; omega
  · simp [Value.ownBlock] at hg; subst hg; simp
/-- The head of an own row, without room behind it. -/
theorem ok_slice3 {t e : TypeId} {z : Value} {nb : Nat} {x ho mo : Operand} {k k' : IntKind} {m B' : Nat} (l : List UInt8) {xs : List Value} (ht : P.underlying t = some (.slice e)) (hs : InfoIs P e z nb) (hx : E.at x = some (own B' e m xs)) (hho : E.at ho = some (.v (.int k (l.length : Int)))) (hmo : E.at mo = some (.v (.int k' (l.length : Int))))
    (hl : xs.take l.length = l.map byteV) (hm : m = xs.length) (hmax : l.length ≤ maxLen) :
    OpOk P B ⟨dst, .slice t x none (some ho) (some mo), ty, pos, after, guard⟩ E (bytes l l.length) := fun ρ w _ _ hρ => by
  obtain ⟨⟨hlen, hcase⟩, hob⟩ := hρ x (by simp [Op.operands]) _ hx
  have h1 : ρ ho = .int k (l.length : Int) := hρ ho (by simp [Op.operands]) _ hho
  have h2 : ρ mo = .int k' (l.length : Int) := hρ mo (by simp [Op.operands]) _ hmo
  have hlm : l.length ≤ m := by have := congrArg List.length hl; simp at this; omega
  obtain ⟨info, hinfo, _, hsize, _⟩ := hs.get
  rcases hcase with ⟨hv, hm0⟩ | ⟨g, cap, cur, hv, hb, hh, hnc, hcm, hcs, htake⟩
  · have hl0 : l = [] := List.eq_nil_of_length_eq_zero (by omega)
    subst hl0
    have hb := sliceBounds_run (P := P) (sl := true) (len := 0) (cap := 0) (l := 0) (h := 0) (m := 0) (L := none) (H := some (.int k 0)) (M := some (.int k' 0)) w (.inr ⟨rfl, rfl⟩) (.inl ⟨k, rfl⟩) (.inl ⟨k', rfl⟩) (Nat.le_refl _) (Nat.le_refl _) (Nat.le_refl _)
    have hr : (Instr.sliceAt t (.slice none 0 0) none (some (.int k 0)) (some (.int k' 0))).run P w = .ok (.slice none 0 0) w := by
      simp only [Instr.sliceAt, Instr.slice, Sem.run_bind, run_underlying ht, Result.andThen_ok, hb, sizeOf, typeInfo]
      simp [hinfo, hsize]
    have h1 : ρ ho = .int k 0 := h1
    have h2 : ρ mo = .int k' 0 := h2
    refine out_val (x := .slice none 0 0) (w' := w) (by simp only [execOp, hv, h1, h2, Option.map_none, Option.map_some, Sem.run_bind, hr, Result.andThen_ok, Sem.run_pure]) ⟨Grow.refl w, bytes_nil_le _ _ _ rfl⟩
  · have hb := sliceBounds_run (P := P) (sl := true) (len := m) (cap := cap) (l := 0) (h := l.length) (m := l.length) (L := none) (H := some (.int k l.length)) (M := some (.int k' l.length)) w (.inr ⟨rfl, rfl⟩) (.inl ⟨k, rfl⟩) (.inl ⟨k', rfl⟩) (Nat.zero_le _) (Nat.le_refl _) (by omega)
    have hr : (Instr.sliceAt t (.slice (some ⟨g, 0, none⟩) m cap) none (some (.int k l.length)) (some (.int k' l.length))).run P w = .ok (.slice (some ⟨g, 0, none⟩) l.length l.length) w := by
      have haddr : (⟨g, 0, none⟩ : Addr).add 0 = ⟨g, 0, none⟩ := rfl
      simp only [Instr.sliceAt, Instr.slice, Sem.run_bind, run_underlying ht, Result.andThen_ok, hb, sizeOf, typeInfo]
      simp [hinfo, hsize, haddr]
    refine out_val (x := .slice (some ⟨g, 0, none⟩) l.length l.length) (w' := w) (by simp only [execOp, hv, h1, h2, Option.map_none, Option.map_some, Sem.run_bind, hr, Result.andThen_ok, Sem.run_pure]) ⟨Grow.refl w, bytes_mk (Nat.le_refl _) hmax fun j u hu => ⟨_, rfl, hob g (by rw [hv]; rfl), ?_⟩⟩
    rw [add_lit0, Nat.zero_add]
    have hcell : cur[j]? = some u := by
      rw [← hl] at hu
      rw [List.getElem?_take] at hu
      split at hu
      · rw [← htake] at hu
        rw [List.getElem?_take] at hu
        split at hu
        · simpa using hu
        · cases hu
      · cases hu
    simp [World.cell?, hh, hcell]
end

/-- The bytes of a whole array. -/
theorem byt_all {l : List UInt8} {n : Nat} (h : l.length = n) : Le (lst ((((l.map byteV).take n).drop 0).map .v)) (byt l) :=
  Le.eq (by rw [byt_vals, List.drop_zero, List.take_of_length_le (Nat.le_of_eq (by rw [List.length_map, h]))])

/-! ### Functions that hold variables -/
def VArgs (E : Env) : List Value → List Operand → Prop
  | [], [] => True
  | u :: us, x :: xs => E.at x = some (.v u) ∧ VArgs E us xs
  | _, _ => False
theorem VArgs.map {E : Env} {ρ : Operand → Value} : ∀ {us : List Value} {xs : List Operand}, VArgs E us xs → (∀ x ∈ xs, ∀ v, E.at x = some (.v v) → ρ x = v) → xs.map ρ = us
  | [], [], _, _ => rfl
  | [], _ :: _, h, _ => h.elim
  | _ :: _, [], h, _ => h.elim
  | u :: us, x :: xs, ⟨h1, h2⟩, hρ => by rw [List.map_cons, hρ x List.mem_cons_self u h1, VArgs.map h2 fun y hy v hv => hρ y (List.mem_cons_of_mem _ hy) v hv]
section
variable {P : Program} {n B : Nat} {w₀ : World} {ops : Array Oper} {E : Env} {dst : Option Tmp} {ty : TypeId} {pos : String} {after : Array Edge} {guard : Option (Nat × Bool)}
theorem ok_makeFuncN {f : FuncId} {xs : Array Operand} (us : List Value) (h : VArgs E us xs.toList) : OpOk P B ⟨dst, .makeFunc (.func f) #[] xs, ty, pos, after, guard⟩ E (.v (.func (.func f) #[] us.toArray)) := fun ρ w _ _ hρ => by
  have hmem : ∀ x ∈ xs.toList, x ∈ (Op.makeFunc (.func f) #[] xs).operands := fun x hx => by
    have hx' : x ∈ xs := by simpa using hx
    simp [Op.operands, hx']
  have h1 := h.map (ρ := ρ) fun x hx v hv => hρ x (hmem x hx) _ hv
  have h2 : xs.map ρ = us.toArray := by
    apply Array.ext'
    rw [Array.toList_map]; exact h1
  exact out_val (w' := w) (by simp [execOp, h2, Instr.makeFunc]) ⟨Grow.refl w, rfl⟩
abbrev ptr (b : Nat) : Value := .pointer (some ⟨b, 0, none⟩)
/-- A function value that holds three variables of its own, new ones. -/
def clos3 (base f : Nat) (T₁ : TypeId) (d₁ : D) (T₂ : TypeId) (d₂ : D) (T₃ : TypeId) (d₃ : D) : D :=
  .p (fun B w x => ∃ p q r, (base ≤ p ∧ base ≤ q ∧ base ≤ r) ∧ (p ≠ q ∧ p ≠ r ∧ q ≠ r) ∧ x = .func (.func f) #[] #[ptr p, ptr q, ptr r] ∧ (varD p T₁ d₁).OfB B w undef ∧ (varD q T₂ d₂).OfB B w undef ∧ (varD r T₃ d₃).OfB B w undef)
    (fun _ _ _ _ g ⟨p, q, r, h1, h2, h3, h4, h5, h6⟩ => ⟨p, q, r, h1, h2, h3, h4.keep g, h5.keep g, h6.keep g⟩) (fun _ _ _ _ g ⟨p, q, r, h1, h2, h3, h4, h5, h6⟩ => ⟨p, q, r, h1, h2, h3, h4.up g, h5.up g, h6.up g⟩)
variable {f : Nat} {T₁ T₂ T₃ : TypeId} {d₁ d₂ d₃ : D}
theorem clos3_mono (B B' : Nat) (h : B ≤ B') : Le (clos3 B' f T₁ d₁ T₂ d₂ T₃ d₃) (clos3 B f T₁ d₁ T₂ d₂ T₃ d₃) := fun _ _ _ ⟨p, q, r, ⟨h1, h2, h3⟩, h4⟩ => ⟨p, q, r, ⟨by omega, by omega, by omega⟩, h4⟩
theorem End.clos3 {fn : Func} {t k₁ k₂ k₃ p q r : Nat} {e₁ e₂ e₃ : D} (hr : fn.results = #[.tmp t]) (hb : w₀.heap.size ≤ p ∧ w₀.heap.size ≤ q ∧ w₀.heap.size ≤ r) (hne : p ≠ q ∧ p ≠ r ∧ q ≠ r) (ht : E.look t = some (.v (.func (.func f) #[] #[ptr p, ptr q, ptr r])))
    (h1 : E.look k₁ = some (varD p T₁ e₁)) (l1 : Le e₁ d₁) (h2 : E.look k₂ = some (varD q T₂ e₂)) (l2 : Le e₂ d₂) (h3 : E.look k₃ = some (varD r T₃ e₃)) (l3 : Le e₃ d₃) : End Cx.top w₀ n E (BP P fn (PostOf w₀ (Go.Proofs.YtffiflfjlemggaaGreatDoor.clos3 w₀.heap.size f T₁ d₁ T₂ d₂ T₃ d₃)) .ret) := fun a w g hs =>
  BP.ret hs.defers ⟨a.tmps.getD t undef, by simp [results, hr], _, rfl, g, p, q, r, hb, hne, hs.of t _ ht, varD_le l1 _ _ _ (hs.of k₁ _ h1), varD_le l2 _ _ _ (hs.of k₂ _ h2), varD_le l3 _ _ _ (hs.of k₃ _ h3)⟩
theorem A.openClos3 {c : Code} {Q : Exit → Act → World → Prop} {t k₁ k₂ k₃ : Nat} {B : Nat} (ht : E.look t = some (clos3 B f T₁ d₁ T₂ d₂ T₃ d₃))
    (h : ∀ p q r, B ≤ p → B ≤ q → B ≤ r → p ≠ q → p ≠ r → q ≠ r → A κ P w₀ n c ((t, .v (.func (.func f) #[] #[ptr p, ptr q, ptr r])) :: (k₁, varD p T₁ d₁) :: (k₂, varD q T₂ d₂) :: (k₃, varD r T₃ d₃) :: E) Q) : A κ P w₀ n c E Q := fun a w g hs => by
  obtain ⟨p, q, r, ⟨h1, h2, h3⟩, ⟨h4, h5, h6⟩, h7, h8, h9, h10⟩ := hs.of t _ ht
  exact h p q r h1 h2 h3 h4 h5 h6 a w g ((((hs.push (t := k₃) (d := varD r T₃ d₃) h10).push (t := k₂) (d := varD q T₂ d₂) h9).push (t := k₁) (d := varD p T₁ d₁) h8).push (d := .v _) h7)
/-- A variable that was there at a region's beginning lies below what the region makes. -/
theorem A.ltVar {c : Code} {Q : Exit → Act → World → Prop} {k b B' : Nat} {T : TypeId} {d : D} (hk : E.look k = some (old B' (varD b T d))) (h : b < B' → A κ P w₀ n c E Q) : A κ P w₀ n c E Q := fun a w g hs => h (hs.of k _ hk).2.1 a w g hs
/-- The row that a variable holds gets its value's name, and back. -/
theorem A.openVar {c : Code} {Q : Exit → Act → World → Prop} {k k' b B' m : Nat} {T e : TypeId} {xs : List Value} (hk : E.look k = some (varD b T (own B' e m xs))) (h : ∀ v, A κ P w₀ n c ((k, blk b T [v]) :: (k', ownM B' v e m xs) :: E) Q) : A κ P w₀ n c E Q := fun a w g hs => by
  obtain ⟨h1, u, h2, h3⟩ := hs.of k _ hk
  exact h u a w g ((hs.push (t := k') (d := ownM B' u e m xs) h3).push (d := blk b T [u]) ⟨h1, h2⟩)
/-- A pointer to a new block gets the block's name. -/
theorem A.openFresh {c : Code} {Q : Exit → Act → World → Prop} {t k B' : Nat} {L : List Nat} {T : TypeId} {zs : List Value} (ht : E.look t = some (freshV B' L T zs)) (h : ∀ b, B' ≤ b → A κ P w₀ n c ((t, .v (ptr b)) :: (k, blk b T zs) :: E) Q) : A κ P w₀ n c E Q := fun a w g hs => by
  obtain ⟨b, h1, h2, _, h4, h5⟩ := hs.of t _ ht
  exact h b h2 a w g ((hs.push (t := k) (d := blk b T zs) ⟨h4, h5⟩).push (d := .v _) h1)
theorem Firm.freshV {l base : Nat} {L : List Nat} {T : TypeId} {zs : List Value} : Firm l (Go.Proofs.YtffiflfjlemggaaGreatDoor.freshV base L T zs) := fun w o o' _ hl ho ⟨b, h1, h2, h3, h4, h5⟩ => by
  have hne : b ≠ l := fun hb => by subst hb; rw [h5] at hl; injection hl with hl; subst hl; cases ho
  exact ⟨b, h1, h2, h3, by simpa using h4, (World.putObj_heap_other hne).trans h5⟩
end

/-! ### A region with a base of its own, where tables stay tables -/
def OldH (B : Nat) (E' E : Env) : Prop := ∀ p ∈ E', ∃ d, E.look p.1 = some d ∧ (p.2 = d ∨ p.2 = old B d)
theorem OldH.nil {B : Nat} {E : Env} : OldH B [] E := fun _ h => by cases h
theorem OldH.same {B : Nat} {E E' : Env} {t : Nat} {d : D} (h : E.look t = some d) (hr : OldH B E' E) : OldH B ((t, d) :: E') E := fun p hp => by
  rcases List.mem_cons.1 hp with rfl | hp
  · exact ⟨_, h, .inl rfl⟩
  · exact hr p hp
theorem OldH.p {B : Nat} {E E' : Env} {t : Nat} {d : D} (h : E.look t = some d) (hr : OldH B E' E) : OldH B ((t, old B d) :: E') E := fun p hp => by
  rcases List.mem_cons.1 hp with rfl | hp
  · exact ⟨d, h, .inr rfl⟩
  · exact hr p hp
theorem A.regsH {P : Program} {w₀ : World} {n : Nat} {y : Code} {E : Env} {Q : Exit → Act → World → Prop} {id : Nat} {ops : Array Oper} {draw : Bool} (E' : Nat → Env) (hE : ∀ B, OldH B (E' B) E) (hm : P.follows .mixedOrders = true) (hf : fits n ops = true) (ht : draw = false ∨ tied ops = true)
    (hr : ∀ B, w₀.heap.size ≤ B → RunTK P n B ops draw (fun E₁ => A κ P w₀ n y E₁ Q) 0 (E' B)) : A κ P w₀ n (.seq (.region id ops draw) y) E Q := A.seq fun a w g hst => by
  have hst' : St κ n w.heap.size (E' w.heap.size) a w := ⟨Nat.le_refl _, hst.defers, hst.size, fun t d hd => by
    obtain ⟨d', hd', h⟩ := hE w.heap.size _ (look_mem hd)
    have h1 := hst.of t d' hd'
    rcases h with h2 | h2
    · simp only at h2; rw [h2]; exact h1
    · simp only at h2; rw [h2]; exact ⟨Nat.le_refl _, h1⟩⟩
  exact wp_regT hm hf ht hst' (hr w.heap.size hst.base) fun _ a' w' h2 g' h' => h2 a' w' (g.trans (g'.mono hst.base)) ⟨Nat.le_trans hst.base g'.size, h'.defers, h'.size, h'.of⟩
end Go.Proofs.YtffiflfjlemggaaGreatDoor
namespace Go.Proofs.YtffiflfjlemggaaGreatDoor
open Go Go.RowKit
variable {κ : Cx}

/-- Since the world w₁ nothing that was there has changed but block g. -/
def wroteD (T : TypeId) (g : Nat) (w₁ : World) : D :=
  .p (fun B w _ => w₁.heap.size ≤ B ∧ Wrote g T g w₁ w) (fun _ _ _ _ h ⟨h1, h2⟩ => ⟨h1, ⟨h2.base, h.os.trans h2.os, h.tape.trans h2.tape, h.output.trans h2.output, Nat.le_trans h2.size h.size, h2.cel, fun k hk hne => (h.block k (Nat.lt_of_lt_of_le hk h1)).trans (h2.other k hk hne)⟩⟩)
    (fun _ _ _ _ h ⟨h1, h2⟩ => ⟨Nat.le_trans h1 h, h2⟩)
theorem Surv.wrote {B T g : Nat} {w₁ : World} : Surv B T g (wroteD T g w₁) := fun _ _ _ k ⟨h1, h2⟩ =>
  ⟨Nat.le_trans h1 k.size, ⟨h2.base, k.os.trans h2.os, k.tape.trans h2.tape, k.output.trans h2.output, Nat.le_trans h2.size k.size, h2.cel, fun j hj hne => (k.other j (Nat.lt_of_lt_of_le hj h1) hne).trans (h2.other j hj hne)⟩⟩
/-- The world with its first g blocks alone. -/
def cutW (w : World) (g : Nat) : World := { w with heap := w.heap.extract 0 g }
theorem cutW_size {w : World} {g : Nat} (h : g ≤ w.heap.size) : (cutW w g).heap.size = g := by simp [cutW]; omega
theorem cutW_below {w : World} {g : Nat} (h : g ≤ w.heap.size) : Below (cutW w g).heap.size (cutW w g) w :=
  ⟨rfl, rfl, rfl, by rw [cutW_size h]; exact h, fun k hk => by
    rw [cutW_size h] at hk
    simp only [cutW, Array.getElem?_extract]
    rw [if_pos (by omega), Nat.zero_add]⟩

/-- A contract: block g, whose cells are xs, is left with the cells ys; the tables M lie below it. -/
structure FnW (P : Program) (f : FuncId) (M : Env) (T g : Nat) (xs ys : List Value) (ds : List D) : Prop where
  body : ∃ fn, P.funcs[f]? = some fn ∧ (fn.name == "runtime.NumGoroutine") = false ∧ fn.body.isNone = false
  calls : ∀ (vs : List Value) (w : World), vs.length = ds.length → (∀ (j : Nat) (e : D) (u : Value), ds[j]? = some e → vs[j]? = some u → e.Of w u) → (∀ p ∈ M, p.2.OfB g w undef) → g < w.heap.size → w.heap[g]? = some (.cells xs.toArray T (0, 0)) →
    Calls P f vs.toArray w fun e w' => e = .returned (.tuple #[]) ∧ Wrote g T g w w' ∧ w'.heap[g]? = some (.cells ys.toArray T (0, 0))
section
variable {P : Program} {n B : Nat} {ops : Array Oper} {E : Env} {ty : TypeId} {pos : String} {after : Array Edge}
theorem eff_callW {f : FuncId} {M : Env} {T g s dst : Nat} {xs ys : List Value} {ds : List D} {args : Array Operand} {argTypes : Array TypeId} {E' : Env} (hf : FnW P f M T g xs ys ds) (hM : ∀ p ∈ M, ∃ b cs, p.2 = tab b cs ∧ b < g ∧ E.look p.1 = some p.2) 
    (ha : Args E ds args.toList) (hg : B ≤ g) (hblk : E.look s = some (blk g T xs)) (hdst : dst < n) (hl : LeftS B T g E' E) :
    Eff P n B ops ⟨some dst, .call { callee := .value (.func f), args := args, argTypes := argTypes }, ty, pos, after, none⟩ E ((dst, .v (.tuple #[])) :: (s, blk g T ys) :: E') := by
  intro κ a w K Q h hK
  obtain ⟨fn, h1, h2, h3⟩ := hf.body
  have hfun : a.eval (.func f) = .func (.func f) #[] #[] := h.at_ (.func f) _ rfl
  have hrun : (execOp a.eval ⟨some dst, .call { callee := .value (.func f), args := args, argTypes := argTypes }, ty, pos, after, none⟩).run P w = .ok (.enter f (args.map a.eval)) w := by
    have h2' : ¬ fn.name = "runtime.NumGoroutine" := by simpa using h2
    have h3' : ¬ fn.body = none := by intro h; rw [h] at h3; cases h3
    simp [execOp, resolve, Deferred.ofValue, hfun, invoke, callFunc, h1, h2', h3']
  obtain ⟨hlt, hh⟩ := h.of s _ hblk
  have hcall := hf.calls (args.toList.map a.eval) w (by rw [List.length_map, ha.length]) (fun j e u he hu => by
    rw [List.getElem?_map] at hu
    cases hx : args.toList[j]? with
    | none => rw [hx] at hu; cases hu
    | some x =>
      rw [hx] at hu; injection hu with hu; subst hu
      obtain ⟨e', h4, h5⟩ := ha.nth he hx
      exact h5.of (h.at_ x _ h4)) (fun p hp => by
    obtain ⟨b, cs, h4, h5, h6⟩ := hM p hp
    have h7 := h.of p.1 _ h6
    rw [h4] at h7 ⊢
    obtain ⟨_, h8⟩ := h7
    exact ⟨h5, h8⟩) hlt hh
  have harr : (args.toList.map a.eval).toArray = args.map a.eval := by apply Array.ext'; simp
  rw [harr] at hcall
  rw [if_pos (by simp [Region.wanted])]
  refine opR (by nofun) ?_
  unfold Oper.wp
  rw [hrun, Oper.upon_enter]
  refine Calls.mono hcall ?_
  rintro e w' ⟨rfl, hw, hh'⟩
  have hwr : Wrote B T g w w' := ⟨hg, hw.os, hw.tape, hw.output, hw.size, hw.cel, hw.other⟩
  have hst := hl.st h hwr
  have hlt' : g < w'.heap.size := (Array.getElem?_eq_some_iff.1 hh').1
  exact hK _ _ (hwr.below h.base) (St.put (hst.push (d := blk g T ys) ⟨hlt', hh'⟩) hdst rfl)
/-- The contract out of a walk at the base of the block that is written. -/
theorem FnW.of {f : FuncId} {fn : Func} {c : Code} {M : Env} {T g kb kw : Nat} {xs ys us : List Value} (hf : P.funcs[f]? = some fn) (hb : fn.body = some c) (hname : (fn.name == "runtime.NumGoroutine") = false) (hn : fn.ntmps = n) (hds : us.length ≤ n) (hnv : n ≤ vbase)
    (hMb : ∀ p ∈ M, vbase ≤ p.1) (hkb : vbase ≤ kb) (hkw : vbase ≤ kw) (args : Env) (hargs : ∀ p ∈ args, ∃ v, p.2 = .v v ∧ us[p.1]? = some v)
    (h : ∀ w₀ w₁ : World, w₀.heap.size = g → (∀ p ∈ M, p.2.OfB w₀.heap.size w₁ undef) → A Cx.top P w₀ n c (args ++ ((kb, blk g T xs) :: (kw, wroteD T g w₁) :: M)) (BP P fn fun e w' => e = .returned (.tuple #[]) ∧ Wrote g T g w₁ w' ∧ w'.heap[g]? = some (.cells ys.toArray T (0, 0)))) :
    FnW P f M T g xs ys (us.map D.v) := by
  refine ⟨⟨fn, hf, hname, by rw [hb]; rfl⟩, fun vs w hl hv hM hlt hh => ?_⟩
  have hvs : vs = us := by
    apply List.ext_getElem?
    intro j
    simp only [List.length_map] at hl
    rcases Nat.lt_or_ge j us.length with hj | hj
    · have h1 := hv j (.v us[j]) vs[j] (by simp [hj]) (List.getElem?_eq_getElem (by omega))
      rw [List.getElem?_eq_getElem hj, List.getElem?_eq_getElem (by omega)]
      exact congrArg some h1
    · rw [List.getElem?_eq_none hj, List.getElem?_eq_none (by omega)]
  subst hvs
  have hsz := cutW_size (w := w) (g := g) (Nat.le_of_lt hlt)
  refine callsIn_FR.1 (callsIn_of_wp_marks (F := FR none) (n := 0) hf hb trivial (h (cutW w g) w hsz (by rw [hsz]; exact hM) _ w (cutW_below (Nat.le_of_lt hlt)) ⟨by rw [hsz]; omega, rfl, ?_, fun t e he => ?_⟩))
  · simp [hn]; omega
  · show e.Of w ((vs.toArray ++ Array.replicate (fn.ntmps - vs.toArray.size) undef).getD t undef)
    have hund : vbase ≤ t → (vs.toArray ++ Array.replicate (fn.ntmps - vs.toArray.size) undef).getD t undef = undef := fun ht => by
      rw [Array.getD_eq_getD_getElem?, Array.getElem?_eq_none (by simp [hn]; omega)]; rfl
    rcases List.mem_append.1 (look_mem he) with hm | hm
    · obtain ⟨v, h1, h2⟩ := hargs _ hm
      simp only at h1 h2
      have hj : t < vs.length := (List.getElem?_eq_some_iff.1 h2).1
      rw [Array.getD_eq_getD_getElem?, Array.getElem?_append_left (by simpa using hj)]
      subst h1
      simp [h2]; rfl
    · rcases List.mem_cons.1 hm with h1 | hm
      · injection h1 with h1 h2; subst h1; subst h2
        exact ⟨hlt, hh⟩
      · rcases List.mem_cons.1 hm with h1 | hm
        · injection h1 with h1 h2; subst h1; subst h2
          exact ⟨Nat.le_refl _, Nat.le_refl _, rfl, rfl, rfl, Nat.le_refl _, fun o ho => by rw [hh] at ho; injection ho with ho; exact ⟨_, _, ho.symm⟩, fun _ _ _ => rfl⟩
        · have h1 := hMb _ hm
          rw [hund h1]
          exact D.OfB.up (hM _ hm) (Nat.le_of_lt hlt)
theorem End.wrote {w₀ w₁ : World} {fn : Func} {T g kb kw : Nat} {xs ys : List Value} (hr : fn.results = #[]) (hb : E.look kb = some (blk g T xs)) (hx : xs = ys) (hw : E.look kw = some (wroteD T g w₁)) :
    End Cx.top w₀ n E (BP P fn (fun e w' => e = .returned (.tuple #[]) ∧ Wrote g T g w₁ w' ∧ w'.heap[g]? = some (.cells ys.toArray T (0, 0))) .normal) := fun a w _ hs => by
  subst hx
  show LeavesInM (FR none) 0 P fn a.tmps _ a.defers .returning w
  rw [show a.defers = [] from hs.defers]
  exact ⟨.tuple #[], by simp [results, hr], rfl, (hs.of kw _ hw).2, (hs.of kb _ hb).2⟩
end
end Go.Proofs.YtffiflfjlemggaaGreatDoor
namespace Go.Proofs.YtffiflfjlemggaaGreatDoor
open Go Go.RowKit
variable {κ : Cx}

section
variable {P : Program} {b : Frame} {a : Act} {k : List Item} {cs : List Frame} {w : World} {Q : Exit → Act → World → Prop} {F : Fence} {n : Nat}
theorem stepR_scope {c : Code} : step P (lone (b.atR a (.code (.scope c) :: k)) cs w) = .next (lone (b.atR a (.code c :: .inScope c :: k)) cs w) :=
  step_lone_go (by simp [stepG, stepG.exec, Frame.atR])
theorem stepR_inScope {c : Code} : step P (lone (b.atR a (.inScope c :: k)) cs w) = .next (lone (b.atR a k) cs w) :=
  step_lone_go (by simp [stepG, stepG.exec, Frame.atR])
theorem wpIn_scope {c : Code} (h : c.wpIn F n P (Exit.noGoto Q) a w) : (Code.scope c).wpIn F n P Q a w := by
  intro b k cs hro hb hr
  have h0 : (lone (b.atR a (.code (.scope c) :: k)) cs w).fenced P F := fenced_calm hb hr rfl
  obtain ⟨e, a₁, w₁, hq, harr⟩ := h b (.inScope c :: k) cs hro hb hr
  have hx : ∀ id, exitTo id (.inScope c :: k) = exitTo id k := fun id => by simp [exitTo]
  cases e with
  | normal => exact ⟨.normal, a₁, w₁, hq, .head h0 stepR_scope (StepsIn.trans harr (.one (fenced_calm hb hr rfl) stepR_inScope))⟩
  | exit id => exact ⟨.exit id, a₁, w₁, hq, fun k' hk => .head h0 stepR_scope (harr.1 k' (by rw [hx]; exact hk)),
      fun hr' hk => let ⟨k₁, h1, h2⟩ := harr.2 hr' (by rw [hx]; exact hk); ⟨k₁, h1, .head h0 stepR_scope h2⟩⟩
  | goto l => exact hq.elim
  | ret => exact ⟨_, a₁, w₁, hq, .of_steps (.one h0 stepR_scope) ⟨fun hr => let ⟨todo, hs⟩ := harr.1 hr; ⟨todo, hs⟩, fun hr => let ⟨k₁, hs⟩ := harr.2 hr; ⟨k₁, hs⟩⟩⟩
  | panic ch => exact ⟨_, a₁, w₁, hq, .of_steps (.one h0 stepR_scope) harr⟩
  | outgrown => exact ⟨_, a₁, w₁, hq, .of_steps (.one h0 stepR_scope) harr⟩
end
section
variable {P : Program} {w₀ : World} {n : Nat} {c : Code} {E : Env} {Q : Exit → Act → World → Prop}
theorem A.scope (h : A κ P w₀ n c E (Exit.noGoto Q)) : A κ P w₀ n (.scope c) E Q := fun a w g hs => wpIn_scope (h a w g hs)
theorem A.label {l : Nat} (h : End κ w₀ n E (Q .normal)) : A κ P w₀ n (.label l) E Q := fun a w g hs => wpIn_label (h a w g hs)
theorem End.ret_scope (h : End κ w₀ n E (Q .ret)) : End κ w₀ n E (Exit.noGoto Q .ret) := h
end

section
variable {P : Program} {n B : Nat} {ops : Array Oper} {E : Env} {dst : Option Tmp} {ty : TypeId} {pos : String} {after : Array Edge} {guard : Option (Nat × Bool)}
/-- A byte of a constant string. -/
theorem ok_strIndex {t : TypeId} {x i : Operand} {k : IntKind} {j : Int} {l : List UInt8} {c : UInt8} (m : Nat) (ht : P.underlying t = some .string) (hx : E.at x = some (str l)) (hi : E.at i = some (.v (.int k j))) (hj : j = (m : Int)) (hc : l[m]? = some c) :
    OpOk P B ⟨dst, .index t x i, ty, pos, after, guard⟩ E (.v (byteV c)) := fun ρ w _ _ hρ => by
  have h1 : ρ x = .string ⟨l.toArray⟩ := hρ x (by simp [Op.operands]) _ hx
  have h2 : ρ i = .int k j := hρ i (by simp [Op.operands]) _ hi
  subst hj
  have hm : m < l.length := (List.getElem?_eq_some_iff.1 hc).1
  have hg : (⟨l.toArray⟩ : ByteArray)[m]? = some c := by
    have hs : m < (⟨l.toArray⟩ : ByteArray).size := hm
    rw [getElem?_pos (⟨l.toArray⟩ : ByteArray) m hs]
    rw [List.getElem?_eq_getElem hm] at hc
    exact hc
  have hr : (Instr.index t (.string ⟨l.toArray⟩) (.int k (m : Int))).run P w = .ok (byteV c) w := by
    simp [Instr.index, asIntOf, run_underlying ht, hg, byteV]
  exact out_val (w' := w) (by simp only [execOp, h1, h2, Sem.run_bind, hr, Result.andThen_ok, Sem.run_pure]) ⟨Grow.refl w, rfl⟩
/-- A call of a function value that holds what us lists, and writes one block. -/
theorem eff_callV {f : FuncId} {T g s dst : Nat} {x : Operand} {xs ys us : List Value} {argTypes : Array TypeId} {E' : Env} (hf : FnW P f [] T g xs ys (us.map D.v)) (hx : E.at x = some (.v (.func (.func f) #[] us.toArray)))
    (hg : B ≤ g) (hblk : E.look s = some (blk g T xs)) (hdst : dst < n) (hl : LeftS B T g E' E) :
    Eff P n B ops ⟨some dst, .call { callee := .value x, args := #[], argTypes := argTypes }, ty, pos, after, none⟩ E ((dst, .v (.tuple #[])) :: (s, blk g T ys) :: E') := by
  intro κ a w K Q h hK
  obtain ⟨fn, h1, h2, h3⟩ := hf.body
  have hfun : a.eval x = .func (.func f) #[] us.toArray := h.at_ x _ hx
  have hrun : (execOp a.eval ⟨some dst, .call { callee := .value x, args := #[], argTypes := argTypes }, ty, pos, after, none⟩).run P w = .ok (.enter f us.toArray) w := by
    have h2' : ¬ fn.name = "runtime.NumGoroutine" := by simpa using h2
    have h3' : ¬ fn.body = none := by intro h; rw [h] at h3; cases h3
    simp [execOp, resolve, Deferred.ofValue, hfun, invoke, callFunc, h1, h2', h3']
  obtain ⟨hlt, hh⟩ := h.of s _ hblk
  have hcall := hf.calls us w (by rw [List.length_map]) (fun j e u he hu => by
    rw [List.getElem?_map, hu] at he
    injection he with he; subst he; rfl) (fun p hp => by cases hp) hlt hh
  rw [if_pos (by simp [Region.wanted])]
  refine opR (by nofun) ?_
  unfold Oper.wp
  rw [hrun, Oper.upon_enter]
  refine Calls.mono hcall ?_
  rintro e w' ⟨rfl, hw, hh'⟩
  have hwr : Wrote B T g w w' := ⟨hg, hw.os, hw.tape, hw.output, hw.size, hw.cel, hw.other⟩
  have hst := hl.st h hwr
  have hlt' : g < w'.heap.size := (Array.getElem?_eq_some_iff.1 hh').1
  exact hK _ _ (hwr.below h.base) (St.put (hst.push (d := blk g T ys) ⟨hlt', hh'⟩) hdst rfl)
end

/-! ### Own rows that lie apart from a named block -/
section
variable {P : Program} {w₀ : World} {n : Nat} {c : Code} {E : Env} {Q : Exit → Act → World → Prop}
end
end Go.Proofs.YtffiflfjlemggaaGreatDoor
namespace Go.Proofs.YtffiflfjlemggaaGreatDoor
open Go Go.RowKit
variable {κ : Cx}

theorem SizeIs.get {P : Program} {T : TypeId} {m : Nat} (h : SizeIs P T m) : ∃ i, P.info? T = some i ∧ i.size = m := by
  unfold SizeIs at h
  cases hi : P.info? T with
  | none => rw [hi] at h; cases h
  | some i => rw [hi] at h; exact ⟨i, rfl, by simpa using h⟩
section
variable {P : Program} {n B : Nat} {ops : Array Oper} {E : Env} {dst : Option Tmp} {ty : TypeId} {pos : String} {after : Array Edge} {guard : Option (Nat × Bool)}
theorem ok_nilCheck {x : Operand} {ad : Addr} (hx : E.at x = some (.v (.pointer (some ad)))) : OpOk P B ⟨dst, .nilCheck x, ty, pos, after, guard⟩ E (.v (.pointer (some ad))) := fun ρ w _ _ hρ => by
  have h1 : ρ x = .pointer (some ad) := hρ x (by simp [Op.operands]) _ hx
  exact out_val (w' := w) (by simp [execOp, h1]) ⟨Grow.refl w, rfl⟩
/-- The address of an element of several cells, in an array behind a pointer. -/
theorem ok_indexN {t e : TypeId} {len sz : Nat} {x i : Operand} {b o : Nat} {k : IntKind} {j : Int} (m : Nat) (ht : P.underlying t = some (.array len e)) (hs : SizeIs P e sz) (hx : E.at x = some (.v (.pointer (some ⟨b, o, none⟩)))) (hi : E.at i = some (.v (.int k j)))
    (h0 : j = (m : Int)) (hn : m < len) : OpOk P B ⟨dst, .indexAddr t x i, ty, pos, after, guard⟩ E (.v (.pointer (some ⟨b, o + m * sz, none⟩))) := fun ρ w _ _ hρ => by
  have h1 : ρ x = _ := hρ x (by simp [Op.operands]) _ hx
  have hi' : ρ i = .int k j := hρ i (by simp [Op.operands]) _ hi
  obtain ⟨info, hinfo, hsize⟩ := hs.get
  refine out_val (w' := w) ?_ ⟨Grow.refl w, rfl⟩
  subst h0
  have hadd : (⟨b, o, none⟩ : Addr).add (m * sz) = ⟨b, o + m * sz, none⟩ := add_lit0 _ _ _
  simp [execOp, h1, hi', Instr.indexAt, Instr.sureAddr, asIntOf, run_underlying ht, sizeOf, typeInfo, hinfo, hsize, hadd]
  intro hle
  omega
/-- A method bound to its receiver. -/
theorem ok_makeFuncM {f : FuncId} {x : Operand} {u : Value} (hx : E.at x = some (.v u)) : OpOk P B ⟨dst, .makeFunc (.func f) #[x] #[], ty, pos, after, guard⟩ E (.v (.func (.func f) #[u] #[])) := fun ρ w _ _ hρ => by
  have h1 : ρ x = u := hρ x (by simp [Op.operands]) _ hx
  exact out_val (w' := w) (by simp [execOp, h1, Instr.makeFunc]) ⟨Grow.refl w, rfl⟩
/-- A slice literal of values that are known: a block of the call's own. -/
theorem ok_buildF {t e : TypeId} {m : Nat} {ps : Array (Nat × Operand)} {z : Value} {nb : Nat} (us : List Value) (ht : P.underlying t = some (.slice e)) (hinfo : InfoIs P e z nb) (hz1 : z.cells = #[z])
    (hn : 0 < m) (hn' : m ≤ 65536) (hl : us.length = m) (hp : LitD E us ps.toList 0) (h1 : us.all (·.oneCell') = true) :
    OpOk P B ⟨dst, .buildSlice t m ps, ty, pos, after, guard⟩ E (fresh B e us m) := fun ρ w hB _ hρ => by
  obtain ⟨i, hi, hz, hs, _⟩ := hinfo.get
  have h3 := hp.map (ρ := ρ) fun x hx v hv => hρ x (by simp [Op.operands]; simpa using hx) _ hv
  have h2 : (ps.map fun (i, x) => (i, ρ x)).toList = (us.zipIdx 0).map fun x => (x.2, x.1) := by rw [← h3]; simp
  have hz' : (Array.range (m * i.size)).map (z.cells[· % z.cells.size]!) = ([] ++ List.replicate m z).toArray := by
    rw [hs, hz1, Nat.mul_one]
    apply Array.ext
    · simp
    · intro j h1 h2; simp [Nat.mod_one]
  have hfill : Instr.fill (fun j => some (j * i.size, i.size)) ((Array.range (m * i.size)).map (z.cells[· % z.cells.size]!)) (ps.map fun (i, x) => (i, ρ x)).toList = some us.toArray := by
    rw [hz', h2, hs, fill_dense us [] (List.replicate m z) 0 (fun u hu => by simpa using (List.all_eq_true.1 h1) u hu) rfl (by simp [hl])]
    simp [hl]
  have hr := run_buildSlice (P := P) w t e m (ps.map fun (i, x) => (i, ρ x)) us.toArray i z ht hi hz (by rw [hs]; omega) (by rw [hs]; omega) hfill
  refine out_val (x := .slice (some ⟨w.heap.size, 0, none⟩) m m) (w' := w.alloc (.cells us.toArray e)) (by simp [execOp, hr]) ⟨Grow.alloc w _, w.heap.size, by rw [hl], hB, by simp, heap_alloc_new w _⟩
/-- A literal whose parts are told exactly, as the model fills them in. -/
theorem ok_litU {t : TypeId} {ps : Array (Nat × Operand)} (us ys : List Value) (hl : LitD E us ps.toList 0) (hb : P.built t ((us.zipIdx 0).map fun x => (x.2, x.1)) = some ys.toArray) : OpOk P B ⟨dst, .build t ps, ty, pos, after, guard⟩ E (.v (aggV ys)) :=
  ok_lit _ ys (fun _ hρ => hl.map hρ) hb
/-- Called without arguments, the function value u takes block g's cells from xs to ys. -/
def Does (P : Program) (T g : Nat) (u : Value) (xs ys : List Value) : Prop := ∃ (f : FuncId) (vs : List Value), u = .func (.func f) vs.toArray #[] ∧ FnW P f [] T g xs ys (vs.map D.v)
theorem FnW.does {f : FuncId} {T g : Nat} {xs ys vs : List Value} (h : FnW P f [] T g xs ys (vs.map D.v)) : Does P T g (.func (.func f) vs.toArray #[]) xs ys := ⟨f, vs, rfl, h⟩
theorem eff_callF {T g s dst : Nat} {x : Operand} {u : Value} {xs ys : List Value} {argTypes : Array TypeId} {E' : Env} (hf : Does P T g u xs ys) (hx : E.at x = some (.v u))
    (hg : B ≤ g) (hblk : E.look s = some (blk g T xs)) (hdst : dst < n) (hl : LeftS B T g E' E) :
    Eff P n B ops ⟨some dst, .call { callee := .value x, args := #[], argTypes := argTypes }, ty, pos, after, none⟩ E ((dst, .v (.tuple #[])) :: (s, blk g T ys) :: E') := by
  obtain ⟨f, vs, rfl, hf⟩ := hf
  intro κ a w K Q h hK
  obtain ⟨fn, h1, h2, h3⟩ := hf.body
  have hfun : a.eval x = .func (.func f) vs.toArray #[] := h.at_ x _ hx
  have hrun : (execOp a.eval ⟨some dst, .call { callee := .value x, args := #[], argTypes := argTypes }, ty, pos, after, none⟩).run P w = .ok (.enter f vs.toArray) w := by
    have h2' : ¬ fn.name = "runtime.NumGoroutine" := by simpa using h2
    have h3' : ¬ fn.body = none := by intro h; rw [h] at h3; cases h3
    simp [execOp, resolve, Deferred.ofValue, hfun, invoke, callFunc, h1, h2', h3']
  obtain ⟨hlt, hh⟩ := h.of s _ hblk
  have hcall := hf.calls vs w (by rw [List.length_map]) (fun j e u he hu => by
    rw [List.getElem?_map, hu] at he
    injection he with he; subst he; rfl) (fun p hp => by cases hp) hlt hh
  rw [if_pos (by simp [Region.wanted])]
  refine opR (by nofun) ?_
  unfold Oper.wp
  rw [hrun, Oper.upon_enter]
  refine Calls.mono hcall ?_
  rintro e w' ⟨rfl, hw, hh'⟩
  have hwr : Wrote B T g w w' := ⟨hg, hw.os, hw.tape, hw.output, hw.size, hw.cel, hw.other⟩
  have hst := hl.st h hwr
  have hlt' : g < w'.heap.size := (Array.getElem?_eq_some_iff.1 hh').1
  exact hK _ _ (hwr.below h.base) (St.put (hst.push (d := blk g T ys) ⟨hlt', hh'⟩) hdst rfl)
/-- The contract of a function that writes one block, with facts of its parameters that speak of other memory. -/
theorem FnW.ofD {f : FuncId} {fn : Func} {c : Code} {M : Env} {T g kb kw : Nat} {xs ys : List Value} {ds : List D} (hf : P.funcs[f]? = some fn) (hb : fn.body = some c) (hname : (fn.name == "runtime.NumGoroutine") = false) (hn : fn.ntmps = n) (hds : ds.length ≤ n) (hnv : n ≤ vbase)
    (hMb : ∀ p ∈ M, vbase ≤ p.1) (hkb : vbase ≤ kb) (hkw : vbase ≤ kw) (args : Env) (hargs : ∀ p ∈ args, ds[p.1]? = some p.2)
    (h : ∀ w₀ w₁ : World, w₀.heap.size = g → (∀ p ∈ M, p.2.OfB w₀.heap.size w₁ undef) → A Cx.top P w₀ n c (args ++ ((kb, blk g T xs) :: (kw, wroteD T g w₁) :: M)) (BP P fn fun e w' => e = .returned (.tuple #[]) ∧ Wrote g T g w₁ w' ∧ w'.heap[g]? = some (.cells ys.toArray T (0, 0)))) :
    FnW P f M T g xs ys ds := by
  refine ⟨⟨fn, hf, hname, by rw [hb]; rfl⟩, fun vs w hl hv hM hlt hh => ?_⟩
  have hsz := cutW_size (w := w) (g := g) (Nat.le_of_lt hlt)
  refine callsIn_FR.1 (callsIn_of_wp_marks (F := FR none) (n := 0) hf hb trivial (h (cutW w g) w hsz (by rw [hsz]; exact hM) _ w (cutW_below (Nat.le_of_lt hlt)) ⟨by rw [hsz]; omega, rfl, ?_, fun t e he => ?_⟩))
  · simp [hn]; omega
  · show e.Of w ((vs.toArray ++ Array.replicate (fn.ntmps - vs.toArray.size) undef).getD t undef)
    have hund : vbase ≤ t → (vs.toArray ++ Array.replicate (fn.ntmps - vs.toArray.size) undef).getD t undef = undef := fun ht => by
      rw [Array.getD_eq_getD_getElem?, Array.getElem?_eq_none (by simp [hn]; omega)]; rfl
    rcases List.mem_append.1 (look_mem he) with hm | hm
    · have h2 := hargs _ hm
      simp only at h2
      have hj : t < vs.length := by have := (List.getElem?_eq_some_iff.1 h2).1; omega
      rw [Array.getD_eq_getD_getElem?, Array.getElem?_append_left (by simpa using hj)]
      have h3 := hv t e vs[t] h2 (List.getElem?_eq_getElem hj)
      simpa [hj] using h3
    · rcases List.mem_cons.1 hm with h1 | hm
      · injection h1 with h1 h2; subst h1; subst h2
        exact ⟨hlt, hh⟩
      · rcases List.mem_cons.1 hm with h1 | hm
        · injection h1 with h1 h2; subst h1; subst h2
          exact ⟨Nat.le_refl _, Nat.le_refl _, rfl, rfl, rfl, Nat.le_refl _, fun o ho => by rw [hh] at ho; injection ho with ho; exact ⟨_, _, ho.symm⟩, fun _ _ _ => rfl⟩
        · have h1 := hMb _ hm
          rw [hund h1]
          exact D.OfB.up (hM _ hm) (Nat.le_of_lt hlt)
/-- A call of a function value that holds what us lists, and reads memory. -/
theorem ok_callVM {f : FuncId} {M : Env} {x : Operand} {us : List Value} {args : Array Operand} {argTypes : Array TypeId} {ds : List D} {d : D} (hf : FnM P f M (ds ++ us.map D.v) d) (hM : Sub M E) (hMb : ∀ p ∈ M, vbase ≤ p.1)
    (hx : E.at x = some (.v (.func (.func f) #[] us.toArray))) (ha : Args E ds args.toList) :
    OpOk P B ⟨dst, .call { callee := .value x, args := args, argTypes := argTypes }, ty, pos, after, guard⟩ E d := fun ρ w _ hv hρ => by
  obtain ⟨fn, h1, h2, h3⟩ := hf.body
  have hfun : ρ x = .func (.func f) #[] us.toArray := hρ x (by simp [Op.operands, Call.operands]) _ hx
  have hrun : (execOp ρ ⟨dst, .call { callee := .value x, args := args, argTypes := argTypes }, ty, pos, after, guard⟩).run P w = .ok (.enter f (args.map ρ ++ us.toArray)) w := by
    have h2' : ¬ fn.name = "runtime.NumGoroutine" := by simpa using h2
    have h3' : ¬ fn.body = none := by intro h; rw [h] at h3; cases h3
    simp [execOp, resolve, Deferred.ofValue, hfun, invoke, callFunc, h1, h2', h3']
  unfold Out
  rw [hrun]
  have := hf.calls (args.toList.map ρ ++ us) w (fun p hp => hv p.1 p.2 (hMb p hp) (hM p hp)) (by rw [List.length_append, List.length_append, List.length_map, List.length_map, ha.length]) fun j e u he hu => by
    rcases Nat.lt_or_ge j ds.length with hj | hj
    · rw [List.getElem?_append_left hj] at he
      rw [List.getElem?_append_left (by rw [List.length_map, ← ha.length]; exact hj), List.getElem?_map] at hu
      cases hx : args.toList[j]? with
      | none => rw [hx] at hu; cases hu
      | some x =>
        rw [hx] at hu; injection hu with hu; subst hu
        obtain ⟨e', h4, h5⟩ := ha.nth he hx
        exact h5.of (hρ x (by simp [Op.operands, Call.operands]; exact .inr (by simpa using List.mem_of_getElem? hx)) _ h4)
    · rw [List.getElem?_append_right hj, List.getElem?_map] at he
      rw [List.getElem?_append_right (by rw [List.length_map, ← ha.length]; exact hj), List.length_map, ← ha.length] at hu
      rw [hu] at he
      injection he with he; subst he; rfl
  have harr : (args.toList.map ρ ++ us).toArray = args.map ρ ++ us.toArray := by apply Array.ext'; simp
  rw [harr] at this
  exact this.mono fun e w' ⟨x, he, g, hx⟩ => ⟨x, he, g, hx⟩
end
section
variable {P : Program} {w₀ : World} {n : Nat} {c : Code} {E : Env} {Q : Exit → Act → World → Prop}
/-- A slice at the head of a block that no one else has gets the block's name, whatever its base. -/
theorem A.openAt {t k B' : Nat} {e : TypeId} {xs : List Value} {m : Nat} (ht : E.look t = some (fresh B' e xs m)) (h : ∀ b, A κ P w₀ n c ((t, .v (.slice (some ⟨b, 0, none⟩) m xs.length)) :: (k, blk b e xs) :: E) Q) : A κ P w₀ n c E Q := fun a w g hs => by
  obtain ⟨b, h1, _, h3, h4⟩ := hs.of t _ ht
  exact h b a w g ((hs.push (t := k) (d := blk b e xs) ⟨h3, h4⟩).push (d := .v _) h1)
end

/-! ### Variables of a function that writes one block -/
theorem Surv.wroteN {B T T' g b : Nat} {w₁ : World} (h : w₁.heap.size ≤ b) : Surv B T b (wroteD T' g w₁) := fun _ _ _ k ⟨h1, h2⟩ =>
  ⟨Nat.le_trans h1 k.size, ⟨h2.base, k.os.trans h2.os, k.tape.trans h2.tape, k.output.trans h2.output, Nat.le_trans h2.size k.size, h2.cel, fun j hj hne => (k.other j (Nat.lt_of_lt_of_le hj h1) (by omega)).trans (h2.other j hj hne)⟩⟩
/-- The number of a new block: above all that are known by name, and above what there was when the function was called. -/
def NewW (B : Nat) (E : Env) (b : Nat) : Prop := B ≤ b ∧ (∀ s b' e xs, E.look s = some (blk b' e xs) → b' < b) ∧ ∀ s T g w₁, E.look s = some (wroteD T g w₁) → w₁.heap.size ≤ b
theorem eff_allocW {P : Program} {n B : Nat} {ops : Array Oper} {E : Env} {ty : TypeId} {pos : String} {after : Array Edge} {T : TypeId} {zs : List Value} {d k : Nat} (hz : ZeroIs P T zs) (hdn : d < n) :
    EffG P n B ops ⟨some d, .alloc T, ty, pos, after, none⟩ E (NewW B E) (fun b => (d, .v (.pointer (some ⟨b, 0, none⟩))) :: (k, blk b T zs) :: E) := by
  obtain ⟨i, z, hi, hz, hc⟩ := hz.get
  intro κ a w K Q h hK
  have hrun : (execOp a.eval ⟨some d, .alloc T, ty, pos, after, none⟩).run P w = .ok (.value (.pointer (some ⟨w.heap.size, 0, none⟩))) (w.alloc (.cells zs.toArray T)) := by
    simp [execOp, Instr.alloc, zeroValue, typeInfo, hi, hz, newVar, newRow, hc]
  rw [if_pos (by simp [Region.wanted])]
  refine opR (by nofun) ?_
  unfold Oper.wp
  rw [hrun, Oper.upon_value]
  have hst := h.grow (Grow.alloc w (.cells zs.toArray T))
  refine hK w.heap.size _ _ ⟨h.base, fun s b' e ys hs => (h.of s _ hs).1, fun s T g w₁ hs => (h.of s _ hs).1⟩ ((Below.refl B w).alloc h.base _) (St.put (hst.push ?_) hdn rfl)
  exact ⟨by simp, heap_alloc_new w _⟩

/-! ### Equality of arrays of arrays -/
section
variable {P : Program} {B : Nat} {E : Env} {dst : Option Tmp} {ty : TypeId} {pos : String} {after : Array Edge} {guard : Option (Nat × Bool)}
end
end Go.Proofs.YtffiflfjlemggaaGreatDoor
namespace Go.Proofs.YtffiflfjlemggaaGreatDoor
open Go Go.RowKit
variable {κ : Cx}

theorem tup_le2 {d₁ d₂ e₁ e₂ : D} (h₁ : Le d₁ e₁) (h₂ : Le d₂ e₂) : Le (tup [d₁, d₂]) (tup [e₁, e₂]) := by
  rintro B w x ⟨xs, rfl, hl, h⟩
  refine ⟨xs, rfl, hl, fun j e u he hu => ?_⟩
  match j, he with
  | 0, he => simp at he; subst he; exact h₁ _ _ _ (h 0 d₁ u rfl hu)
  | 1, he => simp at he; subst he; exact h₂ _ _ _ (h 1 d₂ u rfl hu)
  | j + 2, he => simp at he
/-- A contract: block g, whose cells are xs, is left with the cells ys, and u is returned; M tells of other memory. -/
structure FnWR (P : Program) (f : FuncId) (M : Env) (T g : Nat) (xs ys : List Value) (ds : List D) (u : Value) : Prop where
  body : ∃ fn, P.funcs[f]? = some fn ∧ (fn.name == "runtime.NumGoroutine") = false ∧ fn.body.isNone = false
  calls : ∀ (vs : List Value) (w : World), vs.length = ds.length → (∀ (j : Nat) (e : D) (u : Value), ds[j]? = some e → vs[j]? = some u → e.Of w u) → (∀ p ∈ M, p.2.Of w undef) → g < w.heap.size → w.heap[g]? = some (.cells xs.toArray T (0, 0)) →
    Calls P f vs.toArray w fun e w' => e = .returned u ∧ Wrote g T g w w' ∧ w'.heap[g]? = some (.cells ys.toArray T (0, 0))
section
variable {P : Program} {n B : Nat} {ops : Array Oper} {E : Env} {ty : TypeId} {pos : String} {after : Array Edge}
theorem eff_callWR {f : FuncId} {M : Env} {T g s dst : Nat} {xs ys : List Value} {ds : List D} {u : Value} {args : Array Operand} {argTypes : Array TypeId} {E' : Env} (hf : FnWR P f M T g xs ys ds u) (hM : ∀ p ∈ M, ∃ k, vbase ≤ k ∧ E.look k = some p.2) 
    (ha : Args E ds args.toList) (hg : B ≤ g) (hblk : E.look s = some (blk g T xs)) (hn : n ≤ vbase) (hdst : dst < n) (hl : LeftS B T g E' E) :
    Eff P n B ops ⟨some dst, .call { callee := .value (.func f), args := args, argTypes := argTypes }, ty, pos, after, none⟩ E ((dst, .v u) :: (s, blk g T ys) :: E') := by
  intro κ a w K Q h hK
  obtain ⟨fn, h1, h2, h3⟩ := hf.body
  have hfun : a.eval (.func f) = .func (.func f) #[] #[] := h.at_ (.func f) _ rfl
  have hrun : (execOp a.eval ⟨some dst, .call { callee := .value (.func f), args := args, argTypes := argTypes }, ty, pos, after, none⟩).run P w = .ok (.enter f (args.map a.eval)) w := by
    have h2' : ¬ fn.name = "runtime.NumGoroutine" := by simpa using h2
    have h3' : ¬ fn.body = none := by intro h; rw [h] at h3; cases h3
    simp [execOp, resolve, Deferred.ofValue, hfun, invoke, callFunc, h1, h2', h3']
  obtain ⟨hlt, hh⟩ := h.of s _ hblk
  have hcall := hf.calls (args.toList.map a.eval) w (by rw [List.length_map, ha.length]) (fun j e u he hu => by
    rw [List.getElem?_map] at hu
    cases hx : args.toList[j]? with
    | none => rw [hx] at hu; cases hu
    | some x =>
      rw [hx] at hu; injection hu with hu; subst hu
      obtain ⟨e', h4, h5⟩ := ha.nth he hx
      exact h5.of (h.at_ x _ h4)) (fun p hp => by
    obtain ⟨k, h4, h5⟩ := hM p hp
    have h6 := h.of k _ h5
    rwa [show a.tmps.getD k undef = undef from by
      rw [Array.getD_eq_getD_getElem?, Array.getElem?_eq_none (by rw [h.size]; omega)]; rfl] at h6) hlt hh
  have harr : (args.toList.map a.eval).toArray = args.map a.eval := by apply Array.ext'; simp
  rw [harr] at hcall
  rw [if_pos (by simp [Region.wanted])]
  refine opR (by nofun) ?_
  unfold Oper.wp
  rw [hrun, Oper.upon_enter]
  refine Calls.mono hcall ?_
  rintro e w' ⟨rfl, hw, hh'⟩
  have hwr : Wrote B T g w w' := ⟨hg, hw.os, hw.tape, hw.output, hw.size, hw.cel, hw.other⟩
  have hst := hl.st h hwr
  have hlt' : g < w'.heap.size := (Array.getElem?_eq_some_iff.1 hh').1
  exact hK _ _ (hwr.below h.base) (St.put (hst.push (d := blk g T ys) ⟨hlt', hh'⟩) hdst rfl)
theorem FnWR.of {f : FuncId} {fn : Func} {c : Code} {M : Env} {T g kb kw : Nat} {xs ys us : List Value} {u : Value} (hf : P.funcs[f]? = some fn) (hb : fn.body = some c) (hname : (fn.name == "runtime.NumGoroutine") = false) (hn : fn.ntmps = n) (hds : us.length ≤ n) (hnv : n ≤ vbase)
    (hMb : ∀ p ∈ M, vbase ≤ p.1) (hkb : vbase ≤ kb) (hkw : vbase ≤ kw) (args : Env) (hargs : ∀ p ∈ args, ∃ v, p.2 = .v v ∧ us[p.1]? = some v)
    (h : ∀ w₀ w₁ : World, w₀.heap.size = g → A Cx.top P w₀ n c (args ++ ((kb, blk g T xs) :: (kw, wroteD T g w₁) :: M)) (BP P fn fun e w' => e = .returned u ∧ Wrote g T g w₁ w' ∧ w'.heap[g]? = some (.cells ys.toArray T (0, 0)))) :
    FnWR P f M T g xs ys (us.map D.v) u := by
  refine ⟨⟨fn, hf, hname, by rw [hb]; rfl⟩, fun vs w hl hv hM hlt hh => ?_⟩
  have hvs : vs = us := by
    apply List.ext_getElem?
    intro j
    simp only [List.length_map] at hl
    rcases Nat.lt_or_ge j us.length with hj | hj
    · have h1 := hv j (.v us[j]) vs[j] (by simp [hj]) (List.getElem?_eq_getElem (by omega))
      rw [List.getElem?_eq_getElem hj, List.getElem?_eq_getElem (by omega)]
      exact congrArg some h1
    · rw [List.getElem?_eq_none hj, List.getElem?_eq_none (by omega)]
  subst hvs
  have hsz := cutW_size (w := w) (g := g) (Nat.le_of_lt hlt)
  refine callsIn_FR.1 (callsIn_of_wp_marks (F := FR none) (n := 0) hf hb trivial (h (cutW w g) w hsz _ w (cutW_below (Nat.le_of_lt hlt)) ⟨by rw [hsz]; omega, rfl, ?_, fun t e he => ?_⟩))
  · simp [hn]; omega
  · show e.Of w ((vs.toArray ++ Array.replicate (fn.ntmps - vs.toArray.size) undef).getD t undef)
    have hund : vbase ≤ t → (vs.toArray ++ Array.replicate (fn.ntmps - vs.toArray.size) undef).getD t undef = undef := fun ht => by
      rw [Array.getD_eq_getD_getElem?, Array.getElem?_eq_none (by simp [hn]; omega)]; rfl
    rcases List.mem_append.1 (look_mem he) with hm | hm
    · obtain ⟨v, h1, h2⟩ := hargs _ hm
      simp only at h1 h2
      have hj : t < vs.length := (List.getElem?_eq_some_iff.1 h2).1
      rw [Array.getD_eq_getD_getElem?, Array.getElem?_append_left (by simpa using hj)]
      subst h1
      simp [h2]; rfl
    · rcases List.mem_cons.1 hm with h1 | hm
      · injection h1 with h1 h2; subst h1; subst h2
        exact ⟨hlt, hh⟩
      · rcases List.mem_cons.1 hm with h1 | hm
        · injection h1 with h1 h2; subst h1; subst h2
          exact ⟨Nat.le_refl _, Nat.le_refl _, rfl, rfl, rfl, Nat.le_refl _, fun o ho => by rw [hh] at ho; injection ho with ho; exact ⟨_, _, ho.symm⟩, fun _ _ _ => rfl⟩
        · have h1 := hMb _ hm
          rw [hund h1]
          exact hM _ hm
theorem End.wroteR {w₀ w₁ : World} {fn : Func} {T g kb kw r : Nat} {xs ys : List Value} {u : Value} {x : Exit} (hex : x = .ret ∨ x = .normal) (hr : fn.results = #[.tmp r]) (he : E.look r = some (.v u)) (hb : E.look kb = some (blk g T xs)) (hx : xs = ys) (hw : E.look kw = some (wroteD T g w₁)) :
    End Cx.top w₀ n E (BP P fn (fun e w' => e = .returned u ∧ Wrote g T g w₁ w' ∧ w'.heap[g]? = some (.cells ys.toArray T (0, 0))) x) := fun a w _ hs => by
  subst hx
  have key : LeavesInM (FR none) 0 P fn a.tmps (fun e w' => e = .returned u ∧ Wrote g T g w₁ w' ∧ w'.heap[g]? = some (.cells xs.toArray T (0, 0))) a.defers .returning w := by
    rw [show a.defers = [] from hs.defers]
    have h1 : a.tmps.getD r undef = u := hs.of r _ he
    exact ⟨a.tmps.getD r undef, by simp [results, hr], by rw [h1], (hs.of kw _ hw).2, (hs.of kb _ hb).2⟩
  rcases hex with rfl | rfl
  · exact key
  · exact key
end

/-! ### Function values that hold two variables of several cells -/
section
variable {P : Program} {n : Nat} {w₀ : World} {E : Env}
/-- return of a variable's value, and of another value. -/
theorem End.cellT {fn : Func} {r s b r' : Nat} {T e : TypeId} {td : TypeDesc} {xs : List Value} {d d' e' : D} (hr : fn.results = #[.cell r T, .tmp r']) (ht : P.underlying T = some td) (hp : (match td with | .struct _ | .array _ _ => true | _ => false) = true) (hsz : SizeIs P T xs.length)
    (h1 : E.look r = some (.v (.pointer (some ⟨b, 0, none⟩)))) (h2 : E.look s = some (blk b e xs)) (hl : Le (.v (aggV xs)) d) (h1' : E.look r' = some e') (hl' : Le e' d') : End Cx.top w₀ n E (BP P fn (PostOf w₀ (tup [d, d'])) .ret) := fun a w g hs => by
  have h3 : a.tmps[r]?.getD undef = .pointer (some ⟨b, 0, none⟩) := by rw [← Array.getD_eq_getD_getElem?]; exact hs.of r _ h1
  obtain ⟨_, hh⟩ := hs.of s _ h2
  have k1 := run_loadVar_row (P := P) w b e T xs.toArray (0, 0) td hh ht hp (by simpa [SizeIs] using hsz)
  refine BP.ret hs.defers ⟨.tuple #[aggV xs, a.tmps.getD r' undef], by simp [results, hr, h3, asAddr, k1, aggV], _, rfl, g, [aggV xs, a.tmps.getD r' undef], rfl, rfl, fun j e u he hu => ?_⟩
  match j, he, hu with
  | 0, he, hu => simp at he hu; subst he; subst hu; exact hl.of rfl
  | 1, he, hu => simp only [List.getElem?_cons_succ, List.getElem?_cons_zero, Option.some.injEq] at he hu; subst he; subst hu; exact hl'.of (hs.of r' _ h1')
  | j + 2, he, _ => simp at he
def closR (base f : Nat) (e₁ : TypeId) (xs : List Value) (e₂ : TypeId) (ys : List Value) : D :=
  .p (fun B w x => ∃ p q, base ≤ p ∧ base ≤ q ∧ p ≠ q ∧ p < B ∧ q < B ∧ x = .func (.func f) #[] #[ptr p, ptr q] ∧ w.heap[p]? = some (.cells xs.toArray e₁ (0, 0)) ∧ w.heap[q]? = some (.cells ys.toArray e₂ (0, 0)))
    (fun _ _ _ _ g ⟨p, q, h1, h2, h3, h4, h5, h6, h7, h8⟩ => ⟨p, q, h1, h2, h3, h4, h5, h6, (g.block p h4).trans h7, (g.block q h5).trans h8⟩)
    (fun _ _ _ _ g ⟨p, q, h1, h2, h3, h4, h5, h6⟩ => ⟨p, q, h1, h2, h3, by omega, by omega, h6⟩)
theorem closR_mono {f : Nat} {e₁ e₂ : TypeId} {xs ys : List Value} (B B' : Nat) (h : B ≤ B') : Le (closR B' f e₁ xs e₂ ys) (closR B f e₁ xs e₂ ys) := fun _ _ _ ⟨p, q, h1, h2, h3⟩ => ⟨p, q, by omega, by omega, h3⟩
theorem End.closR {fn : Func} {r k₁ k₂ p q f : Nat} {e₁ e₂ : TypeId} {xs ys : List Value} {x : Exit} (hx : x = .ret ∨ x = .normal) (hr : fn.results = #[.tmp r]) (hp : w₀.heap.size ≤ p) (hq : w₀.heap.size ≤ q) (hpq : p ≠ q) (ht : E.look r = some (.v (.func (.func f) #[] #[ptr p, ptr q])))
    (h1 : E.look k₁ = some (blk p e₁ xs)) (h2 : E.look k₂ = some (blk q e₂ ys)) : End Cx.top w₀ n E (BP P fn (PostOf w₀ (Go.Proofs.YtffiflfjlemggaaGreatDoor.closR w₀.heap.size f e₁ xs e₂ ys)) x) := fun a w g hs => by
  obtain ⟨h3, h4⟩ := hs.of k₁ _ h1
  obtain ⟨h5, h6⟩ := hs.of k₂ _ h2
  have key : ∃ v, (results fn a.tmps).run P w = .ok v w ∧ PostOf w₀ (Go.Proofs.YtffiflfjlemggaaGreatDoor.closR w₀.heap.size f e₁ xs e₂ ys) (.returned v) w :=
    ⟨a.tmps.getD r undef, by simp [results, hr], _, rfl, g, p, q, hp, hq, hpq, h3, h5, hs.of r _ ht, h4, h6⟩
  rcases hx with rfl | rfl
  · exact BP.ret hs.defers key
  · exact BP.ret hs.defers key
theorem A.openClosR {c : Code} {Q : Exit → Act → World → Prop} {t k₁ k₂ f : Nat} {e₁ e₂ : TypeId} {xs ys : List Value} {B : Nat} (ht : E.look t = some (closR B f e₁ xs e₂ ys))
    (h : ∀ p q, B ≤ p → B ≤ q → p ≠ q → A κ P w₀ n c ((t, .v (.func (.func f) #[] #[ptr p, ptr q])) :: (k₁, blk p e₁ xs) :: (k₂, blk q e₂ ys) :: E) Q) : A κ P w₀ n c E Q := fun a w g hs => by
  obtain ⟨p, q, h1, h2, h3, h4, h5, h6, h7, h8⟩ := hs.of t _ ht
  exact h p q h1 h2 h3 a w g (((hs.push (t := k₂) (d := blk q e₂ ys) ⟨h5, h8⟩).push (t := k₁) (d := blk p e₁ xs) ⟨h4, h7⟩).push (d := .v _) h6)
/-- A slice that came in gets a name: of its value something is known in memory. -/
def valM (v : Value) (d : D) : D := .p (fun B w _ => d.OfB B w v) (fun _ _ _ _ g h => h.keep g) (fun _ _ _ _ g h => h.up g)
end
section
variable {P : Program} {B : Nat} {E : Env} {dst : Option Tmp} {ty : TypeId} {pos : String} {after : Array Edge} {guard : Option (Nat × Bool)}
/-- What a value means in memory that is known. -/
theorem OpOk.fact {o : Oper} {v : Value} {d : D} {s b : Nat} {e : TypeId} {xs : List Value} (h : OpOk P B o E (.v v)) (hs : vbase ≤ s) (hk : E.look s = some (blk b e xs)) (hd : ∀ B w, b < B → w.heap[b]? = some (.cells xs.toArray e (0, 0)) → d.OfB B w v) : OpOk P B o E d := fun ρ w hB hv hρ => by
  refine (h ρ w hB hv hρ).mono fun x w' hx => ⟨hx.1, ?_⟩
  obtain ⟨h1, h2⟩ := (hv s _ hs hk : (blk b e xs).Of w undef)
  have h3 : (blk b e xs).Of w' undef := D.Of.grow (d := blk b e xs) ⟨h1, h2⟩ hx.1
  obtain ⟨h4, h5⟩ := h3
  rw [show x = v from hx.2]
  exact hd _ _ h4 h5
theorem slice_byt {b o n c : Nat} {e : TypeId} {xs : List Value} (l : List UInt8) (hn : n = l.length) (hc : n ≤ c) (hm : c ≤ maxLen) (hl : (xs.drop o).take n = l.map byteV) (B : Nat) (w : World) (hb : b < B) (hh : w.heap[b]? = some (.cells xs.toArray e (0, 0))) : (byt l).OfB B w (.slice (some ⟨b, o, none⟩) n c) := by
  subst hn
  refine ⟨c, bytes_mk hc hm fun j u hu => ?_⟩
  rw [← hl, List.getElem?_take] at hu
  split at hu
  · rw [List.getElem?_drop] at hu
    refine ⟨_, rfl, hb, ?_⟩
    rw [add_lit0]
    simp [World.cell?, hh, hu]
  · cases hu
/-- Two strings, one behind the other. -/
theorem ok_addS {t t' : TypeId} {x y : Operand} {a b : List UInt8} (hx : E.at x = some (str a)) (hy : E.at y = some (str b)) (hl : a.length + b.length ≤ 9223372036854775807) : OpOk P B ⟨dst, .binOp .add t x y t', ty, pos, after, guard⟩ E (str (a ++ b)) := fun ρ w _ _ hρ => by
  have h1 : ρ x = .string ⟨a.toArray⟩ := hρ x (by simp [Op.operands]) _ hx
  have h2 : ρ y = .string ⟨b.toArray⟩ := hρ y (by simp [Op.operands]) _ hy
  have h3 : (⟨a.toArray⟩ ++ ⟨b.toArray⟩ : ByteArray) = ⟨(a ++ b).toArray⟩ := by
    apply ByteArray.ext
    simp [ByteArray.data_append]
  have h4 : ¬ (((⟨a.toArray⟩ : ByteArray).size + (⟨b.toArray⟩ : ByteArray).size : Nat) : Int) > IntKind.i64.max := by
    have e1 : (⟨a.toArray⟩ : ByteArray).size = a.length := by simp [ByteArray.size]
    have e2 : (⟨b.toArray⟩ : ByteArray).size = b.length := by simp [ByteArray.size]
    rw [e1, e2]
    simp only [IntKind.max, IntKind.signed, IntKind.bits]
    simp
    omega
  exact out_val (x := .string ⟨(a ++ b).toArray⟩) (w' := w) (by
    simp only [execOp, h1, h2]
    simp only [binOp, Op.stringOp, if_neg h4, h3, eqGuard, Sem.run_bind, Sem.run_pure]
    simp) ⟨Grow.refl w, rfl⟩
/-- Part of a slice that is told exactly, up to the very end of its room too. -/
theorem ok_sliceE {t e : TypeId} {z : Value} {nb : Nat} {x : Operand} {lo hi mx : Option Operand} {b o len cap l h m : Nat} (ht : P.underlying t = some (.slice e)) (hs : InfoIs P e z nb) (hx : E.at x = some (.v (.slice (some ⟨b, o, none⟩) len cap)))
    (hlo : Bnd E lo l 0) (hhi : (∃ ho k, hi = some ho ∧ E.at ho = some (.v (.int k (h : Int)))) ∨ (hi = none ∧ mx = none ∧ h = len)) (hmx : Bnd E mx m cap) (hlh : l ≤ h) (hhm : h ≤ m) (hml : m ≤ cap) :
    OpOk P B ⟨dst, .slice t x lo hi mx, ty, pos, after, guard⟩ E (.v (.slice (some ⟨b, if m = l then o else o + l, none⟩) (h - l) (m - l))) := fun ρ w _ _ hρ => by
  have h1 : ρ x = _ := hρ x (by simp [Op.operands]) _ hx
  obtain ⟨info, hinfo, _, hsize, _⟩ := hs.get
  have hlo' := hlo.get (ρ := ρ) fun o ho u hu => hρ o (by simp [Op.operands, ho]) _ hu
  have hmx' := hmx.get (ρ := ρ) fun o ho u hu => hρ o (by simp [Op.operands, ho]) _ hu
  have hhi' : (∃ k, hi.map ρ = some (.int k (h : Int))) ∨ (hi.map ρ = none ∧ mx.map ρ = none ∧ h = len) := by
    rcases hhi with ⟨ho, k, rfl, hh⟩ | ⟨rfl, rfl, hh⟩
    · exact .inl ⟨k, by simp [show ρ ho = _ from hρ ho (by simp [Op.operands]) _ hh]⟩
    · exact .inr ⟨rfl, rfl, hh⟩
  have haddr : (if m = l then (⟨b, o, none⟩ : Addr) else (⟨b, o, none⟩ : Addr).add (l * 1)) = ⟨b, if m = l then o else o + l, none⟩ := by
    rw [add_lit0, Nat.mul_one]
    split <;> rfl
  have hr : (Instr.sliceAt t (.slice (some ⟨b, o, none⟩) len cap) (lo.map ρ) (hi.map ρ) (mx.map ρ)).run P w = .ok (.slice (some ⟨b, if m = l then o else o + l, none⟩) (h - l) (m - l)) w := by
    rw [← haddr]
    have hb := sliceBounds_run (P := P) (sl := true) w hlo' hhi' hmx' hlh hhm hml
    simp only [Instr.sliceAt, Instr.slice, Sem.run_bind, run_underlying ht, Result.andThen_ok, hb, sizeOf, typeInfo]
    simp [hinfo, hsize]
    split <;> rfl
  exact out_val (w' := w) (by simp only [execOp, h1, Sem.run_bind, hr, Result.andThen_ok, Sem.run_pure]) ⟨Grow.refl w, rfl⟩
/-- A slice at the head of a block that no one else has, as an array's address. -/
theorem ok_arrayF {t e e' : TypeId} {len m B' : Nat} {x : Operand} {xs : List Value} (ht : P.underlying t = some (.array len e)) (hx : E.at x = some (fresh B' e' xs m)) (hm : len ≤ m) :
    OpOk P B ⟨dst, .sliceToArrayPointer t x, ty, pos, after, guard⟩ E (freshV B' [] e' xs) := fun ρ w _ _ hρ => by
  obtain ⟨b, h1, h2, h3, h4⟩ := hρ x (by simp [Op.operands]) _ hx
  have : ¬ m < len := by omega
  exact out_val (x := .pointer (some ⟨b, 0, none⟩)) (w' := w) (by simp [execOp, h1, Instr.arrayAt, run_underlying ht, this]) ⟨Grow.refl w, b, rfl, h2, (fun _ h => by cases h), h3, h4⟩
/-- A load of the whole of such a block. -/
theorem ok_loadF {T e : TypeId} {td : TypeDesc} {x : Operand} {B' : Nat} {L : List Nat} {xs : List Value} (ht : P.underlying T = some td) (hp : (match td with | .struct _ | .array _ _ => true | _ => false) = true) (hsz : SizeIs P T xs.length)
    (hx : E.at x = some (freshV B' L e xs)) : OpOk P B ⟨dst, .load T x, ty, pos, after, guard⟩ E (.v (aggV xs)) := fun ρ w _ _ hρ => by
  obtain ⟨b, h1, _, _, _, hh⟩ := hρ x (by simp [Op.operands]) _ hx
  have := run_loadVar_row (P := P) w b e T xs.toArray (0, 0) td hh ht hp (by simpa [SizeIs] using hsz)
  exact out_val (w' := w) (by simp [execOp, h1, Instr.loadAt, Instr.sureAddr, this, aggV]) ⟨Grow.refl w, rfl⟩
end
end Go.Proofs.YtffiflfjlemggaaGreatDoor
namespace Go.Proofs.YtffiflfjlemggaaGreatDoor
open Go Go.RowKit
section
variable {P : Program} {B : Nat} {E : Env} {dst : Option Tmp} {ty : TypeId} {pos : String} {after : Array Edge} {guard : Option (Nat × Bool)}
theorem ok_minI {x y : Operand} {k k' : IntKind} {a b : Int} {ts : Array TypeId} (hx : E.at x = some (.v (.int k a))) (hy : E.at y = some (.v (.int k' b))) :
    OpOk P B ⟨dst, .call { callee := .builtin .min, args := #[x, y], argTypes := ts }, ty, pos, after, guard⟩ E (.v (.int k (min a b))) := fun ρ w _ _ hρ => by
  have h1 : ρ x = .int k a := hρ x (by simp [Op.operands, Call.operands]) _ hx
  have h2 : ρ y = .int k' b := hρ y (by simp [Op.operands, Call.operands]) _ hy
  exact out_val (w' := w) (by simp [execOp, resolve, invoke, builtin, Builtin.min_, Builtin.min2, h1, h2]; omega) ⟨Grow.refl w, rfl⟩
theorem ok_maxI {x y : Operand} {k k' : IntKind} {a b : Int} {ts : Array TypeId} (hx : E.at x = some (.v (.int k a))) (hy : E.at y = some (.v (.int k' b))) :
    OpOk P B ⟨dst, .call { callee := .builtin .max, args := #[x, y], argTypes := ts }, ty, pos, after, guard⟩ E (.v (.int k (max a b))) := fun ρ w _ _ hρ => by
  have h1 : ρ x = .int k a := hρ x (by simp [Op.operands, Call.operands]) _ hx
  have h2 : ρ y = .int k' b := hρ y (by simp [Op.operands, Call.operands]) _ hy
  exact out_val (w' := w) (by simp [execOp, resolve, invoke, builtin, Builtin.max_, Builtin.max2, h1, h2]; omega) ⟨Grow.refl w, rfl⟩
end
end Go.Proofs.YtffiflfjlemggaaGreatDoor
namespace Go.Proofs.YtffiflfjlemggaaGreatDoor
open Go Go.RowKit
section
variable {P : Program} {n B : Nat} {ops : Array Oper} {C : Env → Prop} {κ : Cx} {Q : Exit → Act → World → Prop}
/-- What is to be shown from here on, in every order. -/
def AnyT (P : Program) (n B : Nat) (ops : Array Oper) (C : Env → Prop) : Nat → Array Bool → Env → Prop
  | 0, listed, E => Region.ready .any ops listed = [] ∧ C E
  | fuel + 1, listed, E => (Region.ready .any ops listed = [] ∧ C E) ∨ (Region.ready .any ops listed ≠ [] ∧ ∀ i ∈ Region.ready .any ops listed, ∃ o, ops[i]? = some o ∧ ∃ (ι : Type) (G : ι → Prop) (E₂ : ι → Env), EffG P n B ops o E G E₂ ∧ ∀ j, G j → AnyT P n B ops C fuel (listed.setIfInBounds i true) (E₂ j))
/-- One operation after the other. -/
def NextT (P : Program) (n B : Nat) (ops : Array Oper) (C : Env → Prop) (fuel : Nat) (listed : Array Bool) (E : Env) : List Nat → Prop
  | [] => True
  | i :: r => (∃ o, ops[i]? = some o ∧ ∃ (ι : Type) (G : ι → Prop) (E₂ : ι → Env), EffG P n B ops o E G E₂ ∧ ∀ j, G j → AnyT P n B ops C fuel (listed.setIfInBounds i true) (E₂ j)) ∧ NextT P n B ops C fuel listed E r
theorem NextT.all {fuel : Nat} {listed : Array Bool} {E : Env} : ∀ {is : List Nat}, NextT P n B ops C fuel listed E is → ∀ i ∈ is, ∃ o, ops[i]? = some o ∧ ∃ (ι : Type) (G : ι → Prop) (E₂ : ι → Env), EffG P n B ops o E G E₂ ∧ ∀ j, G j → AnyT P n B ops C fuel (listed.setIfInBounds i true) (E₂ j)
  | [], _, i, hi => by cases hi
  | k :: r, h, i, hi => by
    rcases List.mem_cons.1 hi with rfl | hi
    · exact h.1
    · exact NextT.all h.2 i hi
theorem AnyT.last {fuel : Nat} {listed : Array Bool} {E : Env} (hr : Region.ready .any ops listed = []) (hC : C E) : AnyT P n B ops C fuel listed E := by
  cases fuel with
  | zero => exact ⟨hr, hC⟩
  | succ fuel => exact .inl ⟨hr, hC⟩
theorem AnyT.step {fuel : Nat} {listed : Array Bool} {E : Env} (i : Nat) (is : List Nat) (hr : Region.ready .any ops listed = i :: is) (h : NextT P n B ops C fuel listed E (i :: is)) : AnyT P n B ops C (fuel + 1) listed E :=
  .inr ⟨by rw [hr]; simp, by rw [hr]; exact h.all⟩
theorem OpOk.asV {o : Oper} {E : Env} (x : Value) {y : Value} (h : y = x) (hok : OpOk P B o E (.v y)) : OpOk P B o E (.v x) := h ▸ hok
/-- An operation that changes nothing. -/
theorem NextT.pure {fuel : Nat} {listed : Array Bool} {E : Env} {i t : Nat} {d : D} {o : Oper} {r : List Nat} (hf : fits n ops = true) (ho : ops[i]? = some o) (ht : o.dst = some t) (hg : o.guard = none) (hok : OpOk P B o E d) (h : AnyT P n B ops C fuel (listed.setIfInBounds i true) ((t, d) :: E)) (hr : NextT P n B ops C fuel listed E r) :
    NextT P n B ops C fuel listed E (i :: r) := by
  refine ⟨⟨o, ho, Unit, fun _ => True, fun _ => (t, d) :: E, fun κ a w K Q hs hK => ?_, fun _ _ => h⟩, hr⟩
  have hfo := fits_mem hf (o := o) (by simpa using Array.mem_of_getElem? ho)
  exact good_wp hs.base (hs.virt (fits_base hf)) ht (.inl ⟨by simp [GuardIs, hg], hok⟩) (fun s e _ he => hs.of s e he) (fun s hs' => by rw [hs.size]; exact hfo.1 s hs') fun x w' g hx => hK () _ _ trivial (Below.mono g hs.base) ((hs.grow g).put (hfo.2 t ht) hx)
/-- An operation that changes memory. -/
theorem NextT.eff {fuel : Nat} {listed : Array Bool} {E E' : Env} {i : Nat} {o : Oper} {r : List Nat} (ho : ops[i]? = some o) (he : Eff P n B ops o E E') (h : AnyT P n B ops C fuel (listed.setIfInBounds i true) E') (hr : NextT P n B ops C fuel listed E r) :
    NextT P n B ops C fuel listed E (i :: r) := ⟨⟨o, ho, Unit, fun _ => True, fun _ => E', he.g, fun _ _ => h⟩, hr⟩
theorem wp_anyE : ∀ {fuel : Nat} {listed : Array Bool} {E : Env} {a : Act} {w : World}, AnyT P n B ops C fuel listed E → St κ n B E a w → (∀ E' a' w', C E' → Below B w w' → St κ n B E' a' w' → Q .normal a' w') → wpAnyIn (FR κ.rd) 0 P .any ops Q fuel listed a w
  | 0, _, _, _, w, ⟨hr, hC⟩, hs, hQ => ⟨hr, hQ _ _ _ hC (Below.refl B w) hs⟩
  | fuel + 1, _, _, _, w, .inl ⟨hr, hC⟩, hs, hQ => ⟨fun _ => hQ _ _ _ hC (Below.refl B w) hs, fun i hi => by rw [hr] at hi; cases hi⟩
  | fuel + 1, _, _, _, w, .inr ⟨hne, h⟩, hs, hQ => ⟨fun hr => absurd hr hne, fun i hi => by
    obtain ⟨o, ho, ι, G, E₂, he, hn⟩ := h i hi
    exact wpOpR_step ho fun K hK => he κ _ _ K Q hs fun j a' w' hj g' h' => hK _ _ (wp_anyE (hn j hj) h' fun E' a3 w3 hC g3 h3 => hQ E' a3 w3 hC (g'.trans g3) h3)⟩
theorem A.regsE {w₀ : World} {y : Code} {E : Env} {id : Nat} (hm : P.follows .mixedOrders = true) (hr : AnyT P n w₀.heap.size ops (fun E₁ => A κ P w₀ n y E₁ Q) ops.size (Array.replicate ops.size false) E) : A κ P w₀ n (.seq (.region id ops true) y) E Q := A.seq fun a w hg hst => by
  have hd : Below w₀.heap.size w w.drew := (Below.refl _ w).drew
  exact wpIn_region_any hm (wp_anyE hr (hst.grow (Grow.refl w).drew) fun E' a' w' hC g h' => hC a' w' (hg.trans (hd.trans g)) h')
end
end Go.Proofs.YtffiflfjlemggaaGreatDoor
namespace Go.Proofs.YtffiflfjlemggaaGreatDoor
open Go Go.RowKit
variable {κ : Cx}

/-! ### Slices of values that are known -/
def vlist (us : List Value) (c : Nat) : D := list (us.map D.v) c
def vlst (us : List Value) : D := lst (us.map D.v)
theorem le_vlst (us : List Value) (c : Nat) : Le (vlist us c) (vlst us) := le_lst _ c
theorem vlist_open {us : List Value} {c B : Nat} {w : World} {x : Value} (h : (vlist us c).OfB B w x) : ∃ A, x = .slice A us.length c ∧ us.length ≤ c ∧ c ≤ maxLen ∧ RowIn B w A us := by
  obtain ⟨A, vs, h1, h2, h3, h4, h5, h6⟩ := h
  simp only [List.length_map] at h1 h2 h4
  have : vs = us := by
    apply List.ext_getElem?
    intro j
    rcases Nat.lt_or_ge j us.length with hj | hj
    · have hu : vs[j]? = some vs[j] := List.getElem?_eq_getElem (by omega)
      have h7 : vs[j] = us[j] := h6 j (.v us[j]) vs[j] (by simp [hj]) hu
      rw [hu, h7]; simp [hj]
    · rw [List.getElem?_eq_none (by omega), List.getElem?_eq_none hj]
  subst this
  exact ⟨A, h1, h2, h3, h5⟩
theorem vlist_mk {us : List Value} {c B : Nat} {w : World} {A : Option Addr} (h1 : us.length ≤ c) (h2 : c ≤ maxLen) (h : RowIn B w A us) : (vlist us c).OfB B w (.slice A us.length c) :=
  ⟨A, us, by simp, by simpa using h1, h2, by simp, h, fun j d u hd hu => by
    simp only [List.getElem?_map, hu, Option.map_some, Option.some.injEq] at hd
    subst hd; rfl⟩
/-- A slice over a block that is known whole. -/
theorem slice_vlist {b n c : Nat} {e : TypeId} {xs : List Value} (us : List Value) (hn : n = us.length) (hc : n ≤ c) (hm : c ≤ maxLen) (hl : xs.take n = us) (B : Nat) (w : World) (hb : b < B) (hh : w.heap[b]? = some (.cells xs.toArray e (0, 0))) : (vlist us c).OfB B w (.slice (some ⟨b, 0, none⟩) n c) := by
  subst hn
  refine vlist_mk hc hm ?_
  rw [← hl]
  exact blk_row hb hh _

/-! ### Structs whose first field is told by a fact -/
def hdD (f : D) (rest : List Value) : D :=
  .p (fun B w x => ∃ v : Value, v.oneCell' = true ∧ x = aggV (v :: rest) ∧ f.OfB B w v) (fun _ _ _ _ g ⟨v, h1, h2, h3⟩ => ⟨v, h1, h2, h3.keep g⟩) (fun _ _ _ _ g ⟨v, h1, h2, h3⟩ => ⟨v, h1, h2, h3.up g⟩)
theorem hd_le {f f' : D} {rest : List Value} (h : Le f f') : Le (hdD f rest) (hdD f' rest) := fun _ _ _ ⟨v, h1, h2, h3⟩ => ⟨v, h1, h2, h _ _ _ h3⟩
theorem hd_of {b n c : Nat} {e : TypeId} {xs : List Value} (us rest : List Value) (hn : n = us.length) (hc : n ≤ c) (hm : c ≤ maxLen) (hl : xs.take n = us) (B : Nat) (w : World) (hb : b < B) (hh : w.heap[b]? = some (.cells xs.toArray e (0, 0))) :
    (hdD (vlist us c) rest).OfB B w (aggV (.slice (some ⟨b, 0, none⟩) n c :: rest)) := ⟨_, rfl, rfl, slice_vlist us hn hc hm hl B w hb hh⟩
theorem hd_ofL {b n c : Nat} {e : TypeId} {xs : List Value} (us rest : List Value) (hn : n = us.length) (hc : n ≤ c) (hm : c ≤ maxLen) (hl : xs.take n = us) (B : Nat) (w : World) (hb : b < B) (hh : w.heap[b]? = some (.cells xs.toArray e (0, 0))) :
    (hdD (vlst us) rest).OfB B w (aggV (.slice (some ⟨b, 0, none⟩) n c :: rest)) := hd_le (le_vlst us c) _ _ _ (hd_of us rest hn hc hm hl B w hb hh)
section
variable {P : Program} {w₀ : World} {n : Nat} {c : Code} {E : Env} {Q : Exit → Act → World → Prop}
theorem A.nameHd {t k B' : Nat} {f : D} {rest : List Value} (ht : E.look t = some (old B' (hdD f rest))) (h : ∀ v : Value, v.oneCell' = true → A κ P w₀ n c ((t, .v (aggV (v :: rest))) :: (k, old B' (valM v f)) :: E) Q) : A κ P w₀ n c E Q := fun a w g hs => by
  obtain ⟨hB, v, h1, h2, h3⟩ := hs.of t _ ht
  exact h v h1 a w g ((hs.push (t := k) (d := old B' (valM v f)) ⟨hB, h3⟩).push (d := .v _) h2)
end
section
variable {P : Program} {B : Nat} {E : Env} {o : Oper}
theorem OpOk.valO {v : Value} {f : D} {k B' : Nat} (h : OpOk P B o E (.v v)) (hk : vbase ≤ k) (hl : E.look k = some (old B' (valM v f))) : OpOk P B o E (old B' f) := fun ρ w hB hv hρ => by
  refine (h ρ w hB hv hρ).mono fun x w' hx => ⟨hx.1, ?_⟩
  have h2 : (old B' (valM v f)).Of w' undef := D.Of.grow (hv k _ hk hl) hx.1
  rw [show x = v from hx.2]
  exact h2
theorem OpOk.hdO {v : Value} {f : D} {k B' : Nat} {rest : List Value} (h : OpOk P B o E (.v (aggV (v :: rest)))) (hv1 : v.oneCell' = true) (hk : vbase ≤ k) (hl : E.look k = some (old B' (valM v f))) : OpOk P B o E (old B' (hdD f rest)) := fun ρ w hB hv hρ => by
  refine (h ρ w hB hv hρ).mono fun x w' hx => ⟨hx.1, ?_⟩
  have h2 : (old B' (valM v f)).Of w' undef := D.Of.grow (hv k _ hk hl) hx.1
  rw [show x = _ from hx.2]
  exact ⟨h2.1, v, hv1, rfl, h2.2⟩
variable {dst : Option Tmp} {ty : TypeId} {pos : String} {after : Array Edge} {guard : Option (Nat × Bool)}
theorem ok_extractV {x : Operand} {i : Nat} {xs : List Value} {u : Value} (hx : E.at x = some (.v (.tuple xs.toArray))) (hi : xs[i]? = some u) : OpOk P B ⟨dst, .extract x i, ty, pos, after, guard⟩ E (.v u) := fun ρ w _ _ hρ => by
  have h1 : ρ x = .tuple xs.toArray := hρ x (by simp [Op.operands]) _ hx
  exact out_val (x := u) (w' := w) (by simp [execOp, h1, Instr.extract, hi]) ⟨Grow.refl w, rfl⟩
/-- A struct literal whose first field is a slice known by a fact. -/
theorem ok_buildH {t : TypeId} {x : Operand} {ps : Array (Nat × Operand)} {f : D} {rest : List Value} {ks : List (Nat × Value)} {l : List (Nat × Operand)} (hps : ps.toList = (0, x) :: l) (hx : E.at x = some f) (hf : ∀ B w u, f.OfB B w u → ∃ A m c, u = .slice A m c)
    (hl : ∀ ρ : Operand → Value, (∀ y, y ∈ l.map (·.2) → ∀ v, E.at y = some (.v v) → ρ y = v) → l.map (fun p => (p.1, ρ p.2)) = ks) (hb : ∀ A m c, P.built t ((0, .slice A m c) :: ks) = some (Value.slice A m c :: rest : List Value).toArray) :
    OpOk P B ⟨dst, .build t ps, ty, pos, after, guard⟩ E (hdD f rest) := fun ρ w _ _ hρ => by
  have hfx := hρ x (by simp [Op.operands, hps]) _ hx
  obtain ⟨A, m, c, h1⟩ := hf _ _ _ hfx
  have h3 := hl ρ fun y hy v hv => hρ y (by
    simp only [Op.operands, hps, List.map_cons]
    simpa using Or.inr hy) _ hv
  have h2 : (ps.map fun (i, x) => (i, ρ x)).toList = (0, .slice A m c) :: ks := by rw [← h3]; simp [hps, h1]
  have := run_build (P := P) w t (ps.map fun (i, x) => (i, ρ x)) _ (by rw [h2]; exact hb A m c)
  exact out_val (x := aggV (.slice A m c :: rest)) (w' := w) (by simp [execOp, this, aggV]) ⟨Grow.refl w, .slice A m c, rfl, rfl, by rw [← h1]; exact hfx⟩
end

/-! ### New blocks, named where they are made -/
def newD (base : Nat) (e : TypeId) (val : Nat → Value) (xs : List Value) : D :=
  .p (fun B w x => ∃ b, x = val b ∧ base ≤ b ∧ b < B ∧ w.heap[b]? = some (.cells xs.toArray e (0, 0)))
    (fun _ _ _ _ g ⟨b, h1, h2, h3, h4⟩ => ⟨b, h1, h2, h3, (g.block b h3).trans h4⟩) (fun _ _ _ _ g ⟨b, h1, h2, h3, h4⟩ => ⟨b, h1, h2, by omega, h4⟩)
theorem newD_mono {e : TypeId} {val : Nat → Value} {xs : List Value} (B B' : Nat) (h : B ≤ B') : Le (newD B' e val xs) (newD B e val xs) := fun _ _ _ ⟨b, h1, h2, h3, h4⟩ => ⟨b, h1, by omega, h3, h4⟩
theorem fresh_newD {B : Nat} {e : TypeId} {xs : List Value} {n : Nat} : Le (fresh B e xs n) (newD B e (fun b => .slice (some ⟨b, 0, none⟩) n xs.length) xs) := fun _ _ _ ⟨b, h1, h2, h3, h4⟩ => ⟨b, h1, h2, h3, h4⟩
theorem eff_name {P : Program} {n B : Nat} {ops : Array Oper} {E : Env} {o : Oper} {d k : Nat} {e : TypeId} {val : Nat → Value} {xs : List Value} (ht : o.dst = some d) (hg : o.guard = none) (hok : ∀ B', OpOk P B' o E (newD B' e val xs)) (hdn : d < n) (hnv : n ≤ vbase) :
    EffG P n B ops o E (NewB B E) (fun b => (d, .v (val b)) :: (k, blk b e xs) :: E) := by
  intro κ a w K Q h hK
  rw [if_pos (by simp [Region.wanted, hg])]
  refine wp_of_out ht ((hok w.heap.size a.eval w (Nat.le_refl _) (h.virt hnv) fun x _ u hu => h.at_ x _ hu).mono ?_)
  rintro x w' ⟨hgr, b, rfl, hb, hlt, hh⟩
  refine hK b _ _ ⟨Nat.le_trans h.base hb, fun s b' e ys hs => Nat.lt_of_lt_of_le (h.of s _ hs).1 hb⟩ (Below.mono hgr h.base) (St.put ?_ hdn rfl)
  exact (h.grow hgr).push (t := k) (d := blk b e xs) ⟨hlt, hh⟩
theorem eff_nameF {P : Program} {n B : Nat} {ops : Array Oper} {E : Env} {o : Oper} {d k m : Nat} {e : TypeId} {xs : List Value} {c : Nat} (hc : xs.length = c) (ht : o.dst = some d) (hg : o.guard = none) (hok : ∀ B', OpOk P B' o E (fresh B' e xs m)) (hdn : d < n) (hnv : n ≤ vbase) :
    EffG P n B ops o E (NewB B E) (fun b => (d, .v (.slice (some ⟨b, 0, none⟩) m c)) :: (k, blk b e xs) :: E) := hc ▸ eff_name ht hg (fun B' => (hok B').le fresh_newD) hdn hnv

/-! ### Ends -/
section
variable {P : Program} {n : Nat} {w₀ : World} {E : Env}
theorem load_cell {w : World} {b : Nat} {e T : TypeId} {td : TypeDesc} {xs : List Value} (ht : P.underlying T = some td) (hp : (match td with | .struct _ | .array _ _ => true | _ => false) = true) (hsz : SizeIs P T xs.length) (hh : w.heap[b]? = some (.cells xs.toArray e (0, 0))) :
    (loadVar T ⟨b, 0, none⟩).run P w = .ok (aggV xs) w := by
  have := run_loadVar_row (P := P) w b e T xs.toArray (0, 0) td hh ht hp (by simpa [SizeIs] using hsz)
  simpa [aggV] using this
theorem End.new1 {fn : Func} {r s b g kg : Nat} {T e' e : TypeId} {td : TypeDesc} {ys zs xs : List Value} {val : Nat → Value} (hr : fn.results = #[.cell r T]) (ht : P.underlying T = some td) (hp : (match td with | .struct _ | .array _ _ => true | _ => false) = true) (hsz : SizeIs P T ys.length)
    (h1 : E.look r = some (.v (.pointer (some ⟨b, 0, none⟩)))) (h2 : E.look s = some (blk b e' ys)) (h4 : E.look kg = some (blk g e zs)) (hg : w₀.heap.size ≤ g) (hv : val g = aggV ys) (hz : zs = xs) :
    End Cx.top w₀ n E (BP P fn (PostOf w₀ (newD w₀.heap.size e val xs)) .ret) := fun a w gr hs => by
  subst hz
  have h3 : a.tmps[r]?.getD undef = .pointer (some ⟨b, 0, none⟩) := by rw [← Array.getD_eq_getD_getElem?]; exact hs.of r _ h1
  obtain ⟨_, hh⟩ := hs.of s _ h2
  obtain ⟨hl', hh'⟩ := hs.of kg _ h4
  exact BP.ret hs.defers ⟨aggV ys, by simp [results, hr, h3, asAddr, load_cell ht hp hsz hh], _, rfl, gr, g, hv.symm, hg, hl', hh'⟩
theorem End.newT {fn : Func} {r s b g kg r' : Nat} {T e' e : TypeId} {td : TypeDesc} {ys zs xs : List Value} {v' : Value} {val : Nat → Value} (hr : fn.results = #[.cell r T, .tmp r']) (ht : P.underlying T = some td) (hp : (match td with | .struct _ | .array _ _ => true | _ => false) = true) (hsz : SizeIs P T ys.length)
    (h1 : E.look r = some (.v (.pointer (some ⟨b, 0, none⟩)))) (h2 : E.look s = some (blk b e' ys)) (h5 : E.look r' = some (.v v')) (h4 : E.look kg = some (blk g e zs)) (hg : w₀.heap.size ≤ g) (hv : val g = .tuple #[aggV ys, v']) (hz : zs = xs) :
    End Cx.top w₀ n E (BP P fn (PostOf w₀ (newD w₀.heap.size e val xs)) .ret) := fun a w gr hs => by
  subst hz
  have h3 : a.tmps[r]?.getD undef = .pointer (some ⟨b, 0, none⟩) := by rw [← Array.getD_eq_getD_getElem?]; exact hs.of r _ h1
  have h6 : a.tmps[r']?.getD undef = v' := by rw [← Array.getD_eq_getD_getElem?]; exact hs.of r' _ h5
  obtain ⟨_, hh⟩ := hs.of s _ h2
  obtain ⟨hl', hh'⟩ := hs.of kg _ h4
  exact BP.ret hs.defers ⟨.tuple #[aggV ys, v'], by simp [results, hr, h3, h6, asAddr, load_cell ht hp hsz hh], _, rfl, gr, g, hv.symm, hg, hl', hh'⟩
theorem End.new3 {fn : Func} {r s b r₂ s₂ b₂ g kg r' : Nat} {T e' T₂ e₂ e : TypeId} {td td₂ : TypeDesc} {us ys zs xs : List Value} {v' : Value} {val : Nat → Value} (hr : fn.results = #[.cell r T, .cell r₂ T₂, .tmp r'])
    (ht : P.underlying T = some td) (hp : (match td with | .struct _ | .array _ _ => true | _ => false) = true) (hsz : SizeIs P T us.length) (ht₂ : P.underlying T₂ = some td₂) (hp₂ : (match td₂ with | .struct _ | .array _ _ => true | _ => false) = true) (hsz₂ : SizeIs P T₂ ys.length)
    (h1 : E.look r = some (.v (.pointer (some ⟨b, 0, none⟩)))) (h2 : E.look s = some (blk b e' us)) (h1₂ : E.look r₂ = some (.v (.pointer (some ⟨b₂, 0, none⟩)))) (h2₂ : E.look s₂ = some (blk b₂ e₂ ys)) (h5 : E.look r' = some (.v v'))
    (h4 : E.look kg = some (blk g e zs)) (hg : w₀.heap.size ≤ g) (hv : val g = .tuple #[aggV us, aggV ys, v']) (hz : zs = xs) :
    End Cx.top w₀ n E (BP P fn (PostOf w₀ (newD w₀.heap.size e val xs)) .ret) := fun a w gr hs => by
  subst hz
  have h3 : a.tmps[r]?.getD undef = .pointer (some ⟨b, 0, none⟩) := by rw [← Array.getD_eq_getD_getElem?]; exact hs.of r _ h1
  have h3₂ : a.tmps[r₂]?.getD undef = .pointer (some ⟨b₂, 0, none⟩) := by rw [← Array.getD_eq_getD_getElem?]; exact hs.of r₂ _ h1₂
  have h6 : a.tmps[r']?.getD undef = v' := by rw [← Array.getD_eq_getD_getElem?]; exact hs.of r' _ h5
  obtain ⟨_, hh⟩ := hs.of s _ h2
  obtain ⟨_, hh₂⟩ := hs.of s₂ _ h2₂
  obtain ⟨hl', hh'⟩ := hs.of kg _ h4
  exact BP.ret hs.defers ⟨.tuple #[aggV us, aggV ys, v'], by simp [results, hr, h3, h3₂, h6, asAddr, load_cell ht hp hsz hh, load_cell ht₂ hp₂ hsz₂ hh₂], _, rfl, gr, g, hv.symm, hg, hl', hh'⟩
/-- The same of three values that are all known. -/
theorem End.cell3 {fn : Func} {r s b r₂ s₂ b₂ r' : Nat} {T e' T₂ e₂ : TypeId} {td td₂ : TypeDesc} {us ys : List Value} {v' : Value} (hr : fn.results = #[.cell r T, .cell r₂ T₂, .tmp r'])
    (ht : P.underlying T = some td) (hp : (match td with | .struct _ | .array _ _ => true | _ => false) = true) (hsz : SizeIs P T us.length) (ht₂ : P.underlying T₂ = some td₂) (hp₂ : (match td₂ with | .struct _ | .array _ _ => true | _ => false) = true) (hsz₂ : SizeIs P T₂ ys.length)
    (h1 : E.look r = some (.v (.pointer (some ⟨b, 0, none⟩)))) (h2 : E.look s = some (blk b e' us)) (h1₂ : E.look r₂ = some (.v (.pointer (some ⟨b₂, 0, none⟩)))) (h2₂ : E.look s₂ = some (blk b₂ e₂ ys)) (h5 : E.look r' = some (.v v')) :
    End Cx.top w₀ n E (BP P fn (PostOf w₀ (.v (.tuple #[aggV us, aggV ys, v']))) .ret) := fun a w gr hs => by
  have h3 : a.tmps[r]?.getD undef = .pointer (some ⟨b, 0, none⟩) := by rw [← Array.getD_eq_getD_getElem?]; exact hs.of r _ h1
  have h3₂ : a.tmps[r₂]?.getD undef = .pointer (some ⟨b₂, 0, none⟩) := by rw [← Array.getD_eq_getD_getElem?]; exact hs.of r₂ _ h1₂
  have h6 : a.tmps[r']?.getD undef = v' := by rw [← Array.getD_eq_getD_getElem?]; exact hs.of r' _ h5
  obtain ⟨_, hh⟩ := hs.of s _ h2
  obtain ⟨_, hh₂⟩ := hs.of s₂ _ h2₂
  exact BP.ret hs.defers ⟨.tuple #[aggV us, aggV ys, v'], by simp [results, hr, h3, h3₂, h6, asAddr, load_cell ht hp hsz hh, load_cell ht₂ hp₂ hsz₂ hh₂], _, rfl, gr, rfl⟩
theorem End.cellV {fn : Func} {r s b r' : Nat} {T e' : TypeId} {td : TypeDesc} {ys : List Value} {v' : Value} (hr : fn.results = #[.cell r T, .tmp r']) (ht : P.underlying T = some td) (hp : (match td with | .struct _ | .array _ _ => true | _ => false) = true) (hsz : SizeIs P T ys.length)
    (h1 : E.look r = some (.v (.pointer (some ⟨b, 0, none⟩)))) (h2 : E.look s = some (blk b e' ys)) (h5 : E.look r' = some (.v v')) : End Cx.top w₀ n E (BP P fn (PostOf w₀ (.v (.tuple #[aggV ys, v']))) .ret) := fun a w gr hs => by
  have h3 : a.tmps[r]?.getD undef = .pointer (some ⟨b, 0, none⟩) := by rw [← Array.getD_eq_getD_getElem?]; exact hs.of r _ h1
  have h6 : a.tmps[r']?.getD undef = v' := by rw [← Array.getD_eq_getD_getElem?]; exact hs.of r' _ h5
  obtain ⟨_, hh⟩ := hs.of s _ h2
  exact BP.ret hs.defers ⟨.tuple #[aggV ys, v'], by simp [results, hr, h3, h6, asAddr, load_cell ht hp hsz hh], _, rfl, gr, rfl⟩
/-- A function value that holds one variable of several cells. -/
theorem End.newF {fn : Func} {r g kg : Nat} {e : TypeId} {zs xs : List Value} {v : Value} {val : Nat → Value} (hr : fn.results = #[.tmp r]) (h1 : E.look r = some (.v v)) (h4 : E.look kg = some (blk g e zs)) (hg : w₀.heap.size ≤ g) (hv : val g = v) (hz : zs = xs) :
    End Cx.top w₀ n E (BP P fn (PostOf w₀ (newD w₀.heap.size e val xs)) .ret) := fun a w gr hs => by
  subst hz
  obtain ⟨hl', hh'⟩ := hs.of kg _ h4
  exact BP.ret hs.defers ⟨a.tmps.getD r undef, by simp [results, hr], _, rfl, gr, g, by rw [hv]; exact hs.of r _ h1, hg, hl', hh'⟩
/-- Two values, both known. -/
theorem End.ret2V {fn : Func} {r s : Nat} {u v : Value} (hr : fn.results = #[.tmp r, .tmp s]) (h1 : E.look r = some (.v u)) (h2 : E.look s = some (.v v)) : End Cx.top w₀ n E (BP P fn (PostOf w₀ (.v (.tuple #[u, v]))) .ret) := fun a w gr hs => by
  have h3 : a.tmps[r]?.getD undef = u := by rw [← Array.getD_eq_getD_getElem?]; exact hs.of r _ h1
  have h4 : a.tmps[s]?.getD undef = v := by rw [← Array.getD_eq_getD_getElem?]; exact hs.of s _ h2
  exact BP.ret hs.defers ⟨.tuple #[u, v], by simp [results, hr, h3, h4], _, rfl, gr, rfl⟩
end

/-! ### copy, clear -/
section
variable {P : Program} {n B : Nat} {ops : Array Oper} {E : Env} {ty : TypeId} {pos : String} {after : Array Edge}
/-- copy of a whole slice over the head of a block that is known. -/
theorem eff_copyV {t e : TypeId} {z : Value} {nb : Nat} {r x : Operand} {b dn dc s dst : Nat} {f : D} {us : List Value} {e' : TypeId} {xs : List Value} {E' : Env} (ht : P.underlying t = some (.slice e)) (hinfo : InfoIs P e z nb)
    (hr : E.at r = some (.v (.slice (some ⟨b, 0, none⟩) dn dc))) (hx : E.at x = some f) (hf : Le f (vlst us)) (h1 : us.all (·.oneCell') = true) (hn : us.length = dn) (hb : B ≤ b) (hblk : E.look s = some (blk b e' xs)) (hfit : xs.length = dn) (hdst : dst < n) (hl : LeftS B e' b E' E) :
    Eff P n B ops ⟨some dst, .call { callee := .builtin .copy, args := #[r, x], argTypes := #[t, t] }, ty, pos, after, none⟩ E ((dst, .v (.int .i64 (dn : Int))) :: (s, blk b e' us) :: E') := by
  obtain ⟨i, hi, _, hs, _⟩ := hinfo.get
  intro κ a w K Q h hK
  have hre : a.eval r = _ := h.at_ r _ hr
  obtain ⟨c, hby⟩ := hf.of (h.at_ x _ hx)
  obtain ⟨A, hxe, hle, hcm, hrow⟩ := vlist_open (us := us) hby
  obtain ⟨hlt, hh⟩ := h.of s _ hblk
  have hsz : (P.info? e).map (·.size) = some 1 := by rw [hi]; simp [hs]
  have hrun : ∃ w', (Builtin.copy_ #[t, t] ty #[a.eval r, .slice A us.length c]).run P w = .ok (.int .i64 (dn : Int)) w' ∧ Wrote B e' b w w' ∧ w'.heap[b]? = some (.cells us.toArray e' (0, 0)) ∧ b < w'.heap.size := by
    rw [hre]
    cases A with
    | none =>
      have hz : us = [] := by
        cases us with
        | nil => rfl
        | cons b l => obtain ⟨ad, h, _⟩ := hrow 0 b rfl; cases h
      subst hz
      simp only [List.length_nil] at hn
      subst hn
      have hx0 : xs = [] := List.eq_nil_of_length_eq_zero hfit
      subst hx0
      exact ⟨w, by simpa [goInt] using run_copy_none (P := P) w t t ty e (some ⟨b, 0, none⟩) none 0 dc 0 c ht hsz (by simp), ⟨hb, rfl, rfl, rfl, Nat.le_refl _, fun o h => by rw [hh] at h; injection h with h; exact ⟨_, _, h.symm⟩, fun _ _ _ => rfl⟩, hh, hlt⟩
    | some ad =>
      have hmin : Nat.min us.length dn = us.length := by rw [hn]; exact Nat.min_self _
      have hr := run_copy_row (P := P) w t t ty e b 0 dn dc ad us.length c xs.toArray e' us ht hsz hh (by rw [hmin]) hrow.cell (by simp; omega) (fun v hv => List.all_eq_true.1 h1 v hv)
      have hr : (Builtin.copy_ #[t, t] ty #[.slice (some ⟨b, 0, none⟩) dn dc, .slice (some ad) us.length c]).run P w = .ok (.int .i64 (dn : Int)) (w.setRow b us.toArray) := by
        have h2 : xs.drop dn = [] := by rw [List.drop_of_length_le (by omega)]
        simpa [goInt, hmin, hn, h2] using hr
      refine ⟨_, hr, ?_, ?_, ?_⟩
      · exact Wrote.setRow hb hh _
      · simp [World.setRow, Array.getElem?_modify, hh]
      · simpa [World.setRow] using hlt
  obtain ⟨w', hrun, hwr, hh', hlt'⟩ := hrun
  have hexec : (execOp a.eval ⟨some dst, .call { callee := .builtin .copy, args := #[r, x], argTypes := #[t, t] }, ty, pos, after, none⟩).run P w = .ok (.value (.int .i64 (dn : Int))) w' := by
    simp [execOp, resolve, invoke, builtin, hxe, hrun]
  rw [if_pos (by simp [Region.wanted])]
  refine opR (by nofun) ?_
  unfold Oper.wp
  rw [hexec, Oper.upon_value]
  exact hK _ _ (hwr.below h.base) (St.put ((hl.st h hwr).push (d := blk b e' us) ⟨hlt', hh'⟩) hdst rfl)
end
end Go.Proofs.YtffiflfjlemggaaGreatDoor
namespace Go.Proofs.YtffiflfjlemggaaGreatDoor
open Go Go.RowKit
set_option linter.unusedVariables false
/-- What a plain operation yields. -/
def opV (o : Op) (E : Env) : Option D := match o with
  | .move x => E.at x
  | .assign x => E.at x
  | .pick c x y => match E.at c with
    | some (.v (.bool true)) => E.at x
    | some (.v (.bool false)) => E.at y
    | _ => none
  | .binOp op _ x y _ => match E.at x, E.at y with
    | some (.v a), some (.v b) => match binV op a b with
      | some c => some (.v c)
      | none => none
    | _, _ => none
  | .unOp .not _ x => match E.at x with
    | some (.v (.bool b)) => some (.v (.bool (!b)))
    | _ => none
  | .extract x i => match E.at x with
    | some (.v (.tuple xs)) => match xs.toList[i]? with
      | some u => some (.v u)
      | none => none
    | _ => none
  | _ => none
theorem opV_ok {P : Program} {B : Nat} {E : Env} {d : D} {o : Oper} (h : opV o.op E = some d) : OpOk P B o E d := by
  obtain ⟨dst, op, ty, pos, after, guard⟩ := o
  simp only at h
  unfold opV at h
  split at h
  · exact ok_move h
  · exact ok_assign h
  · split at h
    · rename_i hc; exact ok_pick hc h
    · rename_i hc; exact ok_pick hc h
    · cases h
  · split at h
    · rename_i hx hy
      split at h
      · rename_i hb; injection h with h; subst h; exact ok_bin hx hy hb
      · cases h
    · cases h
  · split at h
    · rename_i hx; injection h with h; subst h; exact ok_not hx
    · cases h
  · split at h
    · rename_i hx
      split at h
      · rename_i hi; injection h with h; subst h; exact ok_extractV (by rw [hx, Array.toArray_toList]) hi
      · cases h
    · cases h
  · cases h
/-- k plain operations, one after the other. -/
def runV (ops : Array Oper) : Nat → List Oper → Env → Option (List Oper × Env)
  | 0, l, E => some (l, E)
  | _ + 1, [], _ => none
  | k + 1, o :: l, E => match o.dst with
    | none => none
    | some t => match o.guard with
      | none => match opV o.op E with
        | none => none
        | some d => runV ops k l ((t, d) :: E)
      | some (j, want) => match (ops[j]?).bind (·.dst) with
        | none => none
        | some s => match E.look s with
          | some (.v (.bool c)) => match c == want with
            | true => match opV o.op E with
              | none => none
              | some d => runV ops k l ((t, d) :: E)
            | false => runV ops k l ((t, .v undef) :: E)
          | _ => none
section
variable {P : Program} {B n : Nat} {ops : Array Oper} {E E' : Env} {C : Env → Prop} {l l' : List Oper}
theorem RV : ∀ (k : Nat) {l : List Oper} {E : Env}, runV ops k l E = some (l', E') → RunK P B ops l' E' C → RunK P B ops l E C
  | 0, l, E, h, hr => by
    simp only [runV, Option.some.injEq, Prod.mk.injEq] at h
    obtain ⟨rfl, rfl⟩ := h; exact hr
  | k + 1, [], E, h, hr => by simp [runV] at h
  | k + 1, o :: l, E, h, hr => by
    unfold runV at h
    split at h
    · cases h
    · rename_i ht
      split at h
      · rename_i hg
        split at h
        · cases h
        · rename_i hv; exact RunK.step ht hg (opV_ok hv) (RV k h hr)
      · rename_i hg
        split at h
        · cases h
        · rename_i hj
          split at h
          · rename_i hE
            split at h
            · rename_i hc
              split at h
              · cases h
              · rename_i hv
                have hc2 := eq_of_beq hc
                subst hc2
                exact RunK.guarded ht hg hj hE (opV_ok hv) (RV k h hr)
            · rename_i hc; exact RunK.skipped ht hg hj hE hc (RV k h hr)
          · cases h
/-- Facts by the list of their numbers. -/
def pickE (E : Env) : List Nat → Option Env
  | [] => some []
  | t :: r => match E.look t with
    | none => none
    | some d => match pickE E r with
      | none => none
      | some E' => some ((t, d) :: E')
theorem SV : ∀ (ks : List Nat) {E' : Env}, pickE E ks = some E' → Sub E' E
  | [], E', h => by injection h with h; subst h; exact Sub.nil
  | t :: r, E', h => by
    unfold pickE at h
    split at h
    · cases h
    · rename_i hd
      split at h
      · cases h
      · rename_i hr; injection h with h; subst h; exact Sub.cons hd (SV r hr)
def valsE (E : Env) : List Nat → Option Env
  | [] => some []
  | t :: r => match E.look t with
    | some (.v x) => match valsE E r with
      | none => none
      | some E' => some ((t, .v x) :: E')
    | _ => none
variable {T g : Nat}
/-- Exact values survive every write. -/
theorem LW : ∀ (ks : List Nat) {E' : Env}, valsE E ks = some E' → LeftS B T g E' E
  | [], E', h => by injection h with h; subst h; exact LeftS.nil
  | t :: r, E', h => by
    unfold valsE at h
    split at h
    · rename_i hd
      split at h
      · cases h
      · rename_i hr; injection h with h; subst h; exact LeftS.cons hd (Surv.v _) (LW r hr)
    · cases h
end
section
variable {P : Program} {B n : Nat} {ops : Array Oper} {E E' : Env} {C : Env → Prop} {rest l : List Oper} {t : Nat} {d : D} {ty : TypeId} {pos : String} {after : Array Edge} {o : Oper} {x y : Operand} {draw : Bool} {q : Nat}
theorem RVN (k : Nat) (h : runV ops k l E = some ([], E')) (hC : C E') : RunK P B ops l E C := RV k h (RunK.nil hC)
theorem RF {y : Value} (hr : RunK P B ops rest ((t, .v (.bool false)) :: E) C) (h : y = .bool false := by first | rfl | (simp; done) | (simp; omega) | (simp [*]; done) | (simp [*]; omega)) : RunK P B ops rest ((t, .v y) :: E) C := RunK.as _ h hr
theorem RT {y : Value} (hr : RunK P B ops rest ((t, .v (.bool true)) :: E) C) (h : y = .bool true := by first | rfl | (simp; done) | (simp; omega) | (simp [*]; done) | (simp [*]; omega)) : RunK P B ops rest ((t, .v y) :: E) C := RunK.as _ h hr
theorem RL (s : Nat) {T : TypeId} {td : TypeDesc} {b : Nat} {e : TypeId} {xs : List Value} (ht : P.underlying T = some td) (hx : E.at x = some (.v (.pointer (some ⟨b, 0, none⟩)))) (hblk : E.look s = some (blk b e xs)) (hsz : SizeIs P T xs.length) (hr : RunK P B ops rest ((t, .v (aggV xs)) :: E) C)
    (hsl : vbase ≤ s := by decide) (hp : (match td with | .struct _ | .array _ _ => true | _ => false) = true := by exact rfl) : RunK P B ops (⟨some t, .load T x, ty, pos, after, none⟩ :: rest) E C := RunK.step rfl rfl (ok_loadA hsl ht hp hsz hx hblk) hr
theorem RLV (s : Nat) {T : TypeId} {td : TypeDesc} {b o : Nat} {e : TypeId} {xs : List Value} {u : Value} (ht : P.underlying T = some td) (hx : E.at x = some (.v (.pointer (some ⟨b, o, none⟩)))) (hblk : E.look s = some (blk b e xs)) (hu : xs[o]? = some u) (hr : RunK P B ops rest ((t, .v u) :: E) C)
    (hsl : vbase ≤ s := by decide) (hp : plainTD td = true := by exact rfl) : RunK P B ops (⟨some t, .load T x, ty, pos, after, none⟩ :: rest) E C := RunK.step rfl rfl (ok_loadV hsl ht hp hx hblk hu) hr
theorem ZA (s : Nat) {T : TypeId} {b : Nat} {e : TypeId} {xs ys : List Value} (hsz : SizeIs P T ys.length) (hb : B ≤ b) (hp : E.at x = some (.v (.pointer (some ⟨b, 0, none⟩)))) (hx : E.at y = some (.v (aggV ys))) (hblk : E.look s = some (blk b e xs)) (hl : LeftS B e b E' E)
    (hr : RunTK P n B ops draw C q ((s, blk b e ys) :: E')) (h1 : ys.all (·.oneCell') = true := by exact rfl) (ho : xs.length = ys.length := by exact rfl) : ∃ E₂, Eff P n B ops ⟨none, .store T x y, ty, pos, after, none⟩ E E₂ ∧ RunTK P n B ops draw C q E₂ := ⟨_, eff_storeA hsz hp hx h1 hb hblk ho hl, hr⟩
theorem ZN (k : Nat) {T : TypeId} {zs : List Value} {e : Nat} (hz : ZeroIs P T zs) (hr : ∀ b, NewB B E b → RunTK P n B ops draw C q ((e, .v (.pointer (some ⟨b, 0, none⟩))) :: (k, blk b T zs) :: E)) (hd : e < n := by decide) :
    ∃ (G : Nat → Prop) (E₂ : Nat → Env), EffG P n B ops ⟨some e, .alloc T, ty, pos, after, none⟩ E G E₂ ∧ ∀ b, G b → RunTK P n B ops draw C q (E₂ b) := ⟨_, _, eff_alloc hz hd, hr⟩
theorem ZB (k : Nat) {T : TypeId} {xs : List Value} {e : Nat} (hx : E.at x = some (.v (aggV xs))) (hr : ∀ b, NewB B E b → RunTK P n B ops draw C q ((e, .v (.pointer (some ⟨b, 0, none⟩))) :: (k, blk b T xs) :: E)) (hd : e < n := by decide) :
    ∃ (G : Nat → Prop) (E₂ : Nat → Env), EffG P n B ops ⟨some e, .box T x, ty, pos, after, none⟩ E G E₂ ∧ ∀ b, G b → RunTK P n B ops draw C q (E₂ b) := ⟨_, _, eff_box hx hd, hr⟩
theorem ZM (k : Nat) {e : TypeId} {m : Nat} {val : Nat → Value} {xs : List Value} (hok : ∀ B', OpOk P B' o E (newD B' e val xs)) (ht : o.dst = some m) (hr : ∀ b, NewB B E b → RunTK P n B ops draw C q ((m, .v (val b)) :: (k, blk b e xs) :: E)) (hg : o.guard = none := by exact rfl) (hd : m < n := by decide) (hnv : n ≤ vbase := by decide) :
    ∃ (G : Nat → Prop) (E₂ : Nat → Env), EffG P n B ops o E G E₂ ∧ ∀ b, G b → RunTK P n B ops draw C q (E₂ b) := ⟨_, _, eff_name ht hg hok hd hnv, hr⟩
def idxO : Nat → List D → Option Env
  | _, [] => some []
  | i, d :: r => match idxO (i + 1) r with
    | none => none
    | some E => some ((i, d) :: E)
theorem idxO_start : ∀ {ds r : List D} {i : Nat} {E : Env}, idxO i r = some E → (∀ j d, r[j]? = some d → ds[i + j]? = some d) → ∀ B, Start B ds E
  | ds, [], i, E, h, _, B => by injection h with h; subst h; exact Start.nil
  | ds, d :: r, i, E, h, hd, B => by
    unfold idxO at h
    split at h
    · cases h
    · rename_i hE
      injection h with h; subst h
      exact Start.v (by have := hd 0 d rfl; simpa using this) (idxO_start hE (fun j e hj => by have := hd (j + 1) e (by simpa using hj); rwa [show i + 1 + j = i + (j + 1) from by omega]) B)
theorem FV {f : FuncId} {fn : Func} {c : Code} {ds : List D} (hf : P.funcs[f]? = some fn) (hb : fn.body = some c) (hn : fn.ntmps = n) (hE : idxO 0 ds = some E) (h : ∀ w₀, A Cx.top P w₀ n c E (BP P fn (PostOf w₀ d))) (hname : (fn.name == "runtime.NumGoroutine") = false := by kernel_rfl) (hds : ds.length ≤ n := by simp) : Fn P f ds d :=
  Fn.of hf hb hname hn hds (fun _ => E) (fun w => idxO_start hE (fun j e hj => by simpa using hj) _) h
end
section
variable {κ : Cx} {P : Program} {n : Nat} {w₀ : World} {E E' E₁ : Env} {y c : Code} {Q : Exit → Act → World → Prop} {id : Nat} {ops : Array Oper}
theorem GT (hr : RunK P w₀.heap.size ops (ops.toList.drop 0) E (fun E₁ => A κ P w₀ n y E₁ Q)) (hm : P.follows .mixedOrders = true := by kernel_rfl) (hf : fits n ops = true := by kernel_rfl) : A κ P w₀ n (.seq (.region id ops false) y) E Q := A.regs hm hf (.inl rfl) (RunTK.last hr)
theorem GTD (hr : RunK P w₀.heap.size ops (ops.toList.drop 0) E (fun E₁ => A κ P w₀ n y E₁ Q)) (hm : P.follows .mixedOrders = true := by kernel_rfl) (hf : fits n ops = true := by kernel_rfl) (ht : tied ops = true := by kernel_rfl) : A κ P w₀ n (.seq (.region id ops true) y) E Q := A.regs hm hf (.inr ht) (RunTK.last hr)
theorem GTE (hr : RunK P w₀.heap.size ops (ops.toList.drop 0) E (fun E₁ => End κ w₀ n E₁ (Q .normal))) (hm : P.follows .mixedOrders = true := by kernel_rfl) (hf : fits n ops = true := by kernel_rfl) : A κ P w₀ n (.region id ops false) E Q := A.reg hm hf (.inl rfl) (RunTK.last hr)
theorem GV (h : runV ops ops.size ops.toList E = some ([], E')) (hr : A κ P w₀ n y E' Q) (hm : P.follows .mixedOrders = true := by kernel_rfl) (hf : fits n ops = true := by kernel_rfl) : A κ P w₀ n (.seq (.region id ops false) y) E Q := A.regs hm hf (.inl rfl) (RunTK.last (RVN _ h hr))
theorem GVE (h : runV ops ops.size ops.toList E = some ([], E')) (hr : End κ w₀ n E' (Q .normal)) (hm : P.follows .mixedOrders = true := by kernel_rfl) (hf : fits n ops = true := by kernel_rfl) : A κ P w₀ n (.region id ops false) E Q := A.reg hm hf (.inl rfl) (RunTK.last (RVN _ h hr))
theorem ER {fn : Func} {r : Nat} {d e : D} (hr : fn.results = #[.tmp r]) (he : E.look r = some e) (hl : Le e d := by first | exact Le.refl _ | exact Le.old _ _) : End Cx.top w₀ n E (BP P fn (PostOf w₀ d) .ret) := End.ret1 hr he hl
theorem QSB {x : Code} {id : Nat} (h : A κ P w₀ n x E (Exit.inBlock id (Exit.then (y.wpIn (FR κ.rd) 0 P Q) Q))) : A κ P w₀ n (.seq (.block id x) y) E Q := A.seq (A.block h)
theorem QS {x : Code} (h : A κ P w₀ n x E (Exit.then (y.wpIn (FR κ.rd) 0 P Q) Q)) : A κ P w₀ n (.seq x y) E Q := A.seq h
theorem QK (h : A κ P w₀ n y E Q) : A κ P w₀ n .skip E (Exit.then (y.wpIn (FR κ.rd) 0 P Q) Q) := A.skip (End.normal_then (End.code h))
end
end Go.Proofs.YtffiflfjlemggaaGreatDoor
namespace Go.Proofs.YtffiflfjlemggaaGreatDoor
open Go Go.RowKit
set_option linter.unusedVariables false
set_option maxRecDepth 20000

theorem info5 : InfoIs Tryz.prog 5 (.int .u8 0) 1 := by unfold InfoIs; kernel_rfl
theorem info3 : InfoIs Tryz.prog 3 (.int .i64 0) 8 := by unfold InfoIs; kernel_rfl
theorem info22 : InfoIs Tryz.prog 22 (.slice none 0 0) 24 := by unfold InfoIs; kernel_rfl

def chk (len want : Int) : Int := if len < want then 6 else if len > want then 5 else 0
/-- What get returns: the number, or 0 and the error. -/
def getV (l : List UInt8) (k : Nat) : Int := if l.length = k then (num l : Int) else 0

theorem checkLength_fn (l : List UInt8) (want : Int) : Fn Tryz.prog 41 [byt l, .v (.int .i64 want)] (.v (.int .i64 (chk l.length want))) := by
 refine Fn.of Tryz.func41 rfl (by kernel_rfl) Tryz.ntmps41 (by simp) (fun w => [(0, old w.heap.size (byt l)), (1, .v (.int .i64 want))]) (fun w => (Start.old rfl (Start.v rfl Start.nil))) fun w₀ => ?_
 refine GV rfl ?_
 refine QSB ?_
 refine GT ?_
 refine RM rfl ?_
 refine RS (ok_lenB Tryz.underlying22 rfl LA) ?_
 refine RVN 3 rfl ?_
 refine A.cond rfl (fun hc5 => ?_) (fun hc5 => ?_)
 ·refine GV rfl ?_
  refine A.ret ?_
  refine End.ret_block ?_
  refine End.ret_then ?_
  exact End.ret1 rfl rfl (Le.v (by simp [chk] at *; try omega))
 ·refine GT ?_
  refine RM rfl ?_
  refine RS (ok_lenB Tryz.underlying22 rfl LA) ?_
  refine RVN 3 rfl ?_
  refine A.cond rfl (fun hc10 => ?_) (fun hc10 => ?_)
  ·refine GV rfl ?_
   refine A.ret ?_
   refine End.ret_block ?_
   refine End.ret_then ?_
   exact End.ret1 rfl rfl (Le.v (by simp [chk] at *; try omega))
  ·refine A.skip ?_
   refine End.normal_block ?_
   refine EN ?_
   refine GV rfl ?_
   refine A.ret ?_
   exact End.ret1 rfl rfl (Le.v (by simp [chk] at *; try omega))
theorem put_fn (v k : Int) (hv0 : 0 ≤ v) (hv : v < 18446744073709551616) (hk0 : 0 ≤ k) (hk : k ≤ 8) : Fn Tryz.prog 56 [.v (.int .u64 v), .v (.int .i64 k)] (bytes (be k.toNat v.toNat) k.toNat) := by
 obtain ⟨V, rfl⟩ := Int.eq_ofNat_of_zero_le hv0
 obtain ⟨K, rfl⟩ := Int.eq_ofNat_of_zero_le hk0
 simp only [Int.toNat_natCast]
 refine FV Tryz.func56 rfl Tryz.ntmps56 rfl fun w₀ => ?_
 refine GV rfl ?_
 refine GT ?_
 refine RM rfl ?_
 refine RS (ok_make K Tryz.underlying22 info5 (by decide) rfl rfl rfl rfl rfl (by omega)) ?_
 refine RVN 1 rfl ?_
 refine A.open (t := 5) (k := 1000000) rfl fun b hb => ?_
 refine QS ?_
 refine GV rfl ?_
 refine A.block ?_
 refine A.loop (ι := Nat) (fun i => i ≤ K) (fun i => [(0, .v (.int .u64 (V : Int))), (1, .v (.int .i64 (K : Int))), (5, .v (.slice (some ⟨b, 0, none⟩) K K)), (9, .v (.int .i64 (K : Int))), (10, .v (.int .i64 (i : Int))), (1000000, blk b 5 (((be K V).take i).map byteV ++ List.replicate ((be K V).length - i) (.int .u8 0)))]) (fun i => K - i) 0 ?_ ?_ ?_
 ·exact Nat.zero_le _
 ·exact (KC 0 rfl (KC 1 rfl (KE 5 rfl (by simp) (KC 9 rfl (KC 10 rfl (KE 1000000 rfl (by simp [be_length]) KN))))))
 intro i hi
 refine GV rfl ?_
 refine QS ?_
 refine A.cond rfl (fun hc11 => ?_) (fun hc11 => ?_)
 ·have hlt : i < K := by simpa using hc11
  refine QK ?_
  refine QSB ?_
  refine GV rfl ?_
  refine GE ?_
  refine TF 11 ?_
  refine RV 5 rfl ?_
  refine RZ (nI (K - 1)) (by rw [wrap_i64 (by omega) (by omega)]; congr 1; omega) ?_
  refine RV 2 rfl ?_
  refine RZ (nI (K - 1 - i)) (by rw [wrap_i64 (by omega) (by omega)]; congr 1; omega) ?_
  refine RB rfl rfl rfl ?_
  refine RZ (nI (8 * (K - 1 - i))) (by rw [wrap_i64 (by omega) (by omega)]; congr 1) ?_
  refine RS (ok_shr rfl rfl (by omega)) ?_; refine RZ (nQ (V / 256 ^ (K - 1 - i))) (by rw [Int.toNat_natCast, show min (8 * (K - 1 - i)) IntKind.u64.bits = 8 * (K - 1 - i) from by simp only [IntKind.bits]; omega, shr_nat, pow256]) ?_
  refine RS (ok_conv Tryz.underlying39 Tryz.underlying5 rfl) ?_; refine RZ (byteV (UInt8.ofNat (V / 256 ^ (K - 1 - i)))) (by rw [wrap_u8_nat]; rfl) ?_
  refine RS (ok_indexV i Tryz.underlying22 info5 rfl rfl rfl hlt) ?_
  refine RN ?_
  refine ⟨_, eff_store (n := 26) (s := 1000000) info5 rfl rfl rfl hb rfl (by simp [be_length]; omega) (Left.cons (t := 0) rfl (Stays.v _ _) (Left.cons (t := 1) rfl (Stays.v _ _) (Left.cons (t := 5) rfl (Stays.v _ _) (Left.cons (t := 9) rfl (Stays.v _ _) (Left.cons (t := 10) rfl (Stays.v _ _) Left.nil))))), ?_⟩
  refine TL ?_
  refine RN ?_
  refine End.normal_block ?_
  refine EN ?_
  refine GTE ?_
  refine RB rfl rfl rfl ?_
  refine RZ (nI (i + 1)) (by rw [wrap_i64 (by omega) (by omega)]; congr 1) ?_
  refine RVN 1 rfl ?_
  refine End.normal_then ?_
  refine End.again (i + 1) ?_ ?_ ?_
  ·show _ ≤ _; omega
  ·show _ - _ < _ - _; omega
  ·exact (KC 0 rfl (KC 1 rfl (KC 5 rfl (KC 9 rfl (KC 10 rfl (KE 1000000 rfl (by rw [Nat.zero_add]; exact congrArg _ (fill_step (be_get hlt))) KN))))))
 ·refine A.exit ?_
  refine End.exit_then ?_
  refine End.exit_then ?_
  refine End.exit_here ?_
  refine EN ?_
  refine GV rfl ?_
  refine A.ret ?_
  have hK : i = K := by simp at hc11; omega
  subst hK
  refine End.bytes 4 1000000 (be i V) rfl (be_length _ _).symm rfl ?_ (by simp [be_length]) (by simp only [maxLen]; omega) ?_
  ·simp only [be_length, Nat.sub_self, List.replicate_zero, List.append_nil]
   rw [← List.map_take, List.take_take, Nat.min_self, List.take_of_length_le (by rw [be_length]; omega)]
  ·exact End.ret1 rfl rfl (Le.refl _)
theorem Put64_fn (v : Int) (hv0 : 0 ≤ v) (hv : v < 18446744073709551616) : Fn Tryz.prog 55 [.v (.int .u64 v)] (bytes (be 8 v.toNat) 8) := by
 refine FV Tryz.func55 rfl Tryz.ntmps55 rfl fun w₀ => ?_
 refine GV rfl ?_
 refine GT ?_
 refine RM rfl ?_
 refine RS (ok_call (put_fn v 8 hv0 hv (by omega) (by omega)) (Args.cons rfl LA (Args.cons rfl LA Args.nil))) ?_
 refine RVN 1 rfl ?_
 refine A.ret ?_
 exact ER rfl rfl
theorem Put32_fn (v : Int) (hv0 : 0 ≤ v) (hv : v < 4294967296) : Fn Tryz.prog 21 [.v (.int .u32 v)] (bytes (be 4 v.toNat) 4) := by
 refine FV Tryz.func21 rfl Tryz.ntmps21 rfl fun w₀ => ?_
 refine GV rfl ?_
 refine GT ?_
 refine RM rfl ?_
 refine RS (ok_conv Tryz.underlying38 Tryz.underlying39 rfl) ?_; refine RZ (.int .u64 v) (by rw [wrap_u64 hv0 (by omega)]) ?_
 refine RS (ok_call (put_fn v 4 hv0 (by omega) (by omega) (by omega)) (Args.cons rfl LA (Args.cons rfl LA Args.nil))) ?_
 refine RVN 1 rfl ?_
 refine A.ret ?_
 exact ER rfl rfl
theorem get_fn (l : List UInt8) (k : Int) (hk0 : 0 ≤ k) (hk : k ≤ 8) : Fn Tryz.prog 110 [byt l, .v (.int .i64 k)] (tup [.v (.int .u64 (getV l k.toNat)), .v (.int .i64 (chk l.length k))]) := by
 have hchk : chk l.length k = 0 ↔ (l.length : Int) = k := by unfold chk; split <;> (try split) <;> omega
 refine Fn.of Tryz.func110 rfl (by kernel_rfl) Tryz.ntmps110 (by simp) (fun w => [(0, old w.heap.size (byt l)), (1, .v (.int .i64 k))]) (fun w => (Start.old rfl (Start.v rfl Start.nil))) fun w₀ => ?_
 refine GV rfl ?_
 refine QS ?_
 refine GT ?_
 refine RV 2 rfl ?_
 refine RS (ok_call (checkLength_fn _ _) (Args.cons rfl LA (Args.cons rfl LA Args.nil))) ?_
 refine RVN 1 rfl ?_
 refine GV rfl ?_
 refine A.cond rfl (fun hc14 => ?_) (fun hc14 => ?_)
 ·have hne : ¬ (l.length : Int) = k := fun h => by simp [hchk.2 h] at hc14
  refine GV rfl ?_
  refine A.ret ?_
  refine End.ret_then ?_
  first | exact End.ret2 rfl rfl (Le.v (by rw [getV, if_neg (by omega)])) rfl (Le.refl _) | exact End.ret2 rfl rfl (Le.v (by rw [getV, if_pos (by omega), List.take_of_length_le (by simp at hc19; omega)])) rfl (Le.v (by rw [hchk.2 heq]))
 ·have heq : (l.length : Int) = k := hchk.1 (by simpa using hc14)
  have hl8 : l.length ≤ 8 := by omega
  refine QK ?_
  refine GV rfl ?_
  refine QS ?_
  refine GT ?_
  refine RM rfl ?_
  refine RS (ok_lenB Tryz.underlying22 rfl LA) ?_
  refine RVN 1 rfl ?_
  refine A.block ?_
  refine A.loop (ι := Nat) (fun i => i ≤ l.length) (fun i => [(7, .v (nQ (num (l.take i)))), (16, old w₀.heap.size (byt l)), (17, .v (.int .i64 (l.length : Int))), (18, .v (.int .i64 (i : Int)))]) (fun i => l.length - i) 0 ?_ ?_ ?_
  ·exact Nat.zero_le _
  ·exact (SV [7, 16, 17, 18] rfl)
  intro i hi
  refine GV rfl ?_
  refine QS ?_
  refine A.cond rfl (fun hc19 => ?_) (fun hc19 => ?_)
  ·have hlt : i < l.length := by simpa using hc19
   have hnum : num (l.take i) < 256 ^ 7 := Nat.lt_of_lt_of_le (num_lt _) (Nat.pow_le_pow_right (by decide) (by rw [List.length_take]; omega))
   have hcn := l[i].toNat_lt
   refine QK ?_
   refine QSB ?_
   refine GT ?_
   refine RS (ok_index (d := byteD l[i]) Tryz.underlying22 info5 rfl LA rfl (by omega) (by simp [hlt])) ?_
   refine RS (ok_load Tryz.underlying5 rfl rfl) ?_
   refine RVN 1 rfl ?_
   refine GTE ?_
   refine RM rfl ?_
   refine RS (ok_shl rfl rfl (by decide)) ?_; refine RZ (nQ (num (l.take i) * 256)) (by rw [show (min (Int.toNat 8) IntKind.u64.bits) = 8 from rfl, wrap_u64 (by omega) (by omega)]; congr 1) ?_
   refine RM rfl ?_
   refine RS (ok_conv Tryz.underlying5 Tryz.underlying39 rfl) ?_; refine RZ (.int .u64 (l[i].toNat : Int)) (by rw [wrap_u64 (by omega) (by omega)]) ?_
   refine RB rfl rfl rfl ?_
   refine RZ (nQ (num (l.take (i + 1)))) (by rw [show IntKind.u64.bits = 64 from rfl, or_u64_nat (by omega) (by omega), mul256_or, List.take_add_one, List.getElem?_eq_getElem hlt, Option.toList_some, num_snoc]) ?_
   refine RVN 1 rfl ?_
   refine End.normal_block ?_
   refine EN ?_
   refine GTE ?_
   refine RB rfl rfl rfl ?_
   refine RZ (nI (i + 1)) (by rw [wrap_i64 (by omega) (by omega)]; congr 1) ?_
   refine RVN 1 rfl ?_
   refine End.normal_then ?_
   refine End.again (i + 1) ?_ ?_ ?_
   ·show _ ≤ _; omega
   ·show _ - _ < _ - _; omega
   ·exact (SV [7, 16, 17, 18] rfl)
  ·refine A.exit ?_
   refine End.exit_then ?_
   refine End.exit_then ?_
   refine End.exit_here ?_
   refine EN ?_
   refine GV rfl ?_
   refine A.ret ?_
   first | exact End.ret2 rfl rfl (Le.v (by rw [getV, if_neg (by omega)])) rfl (Le.refl _) | exact End.ret2 rfl rfl (Le.v (by rw [getV, if_pos (by omega), List.take_of_length_le (by simp at hc19; omega)])) rfl (Le.v (by rw [hchk.2 heq]))
theorem Get64_fn (l : List UInt8) : Fn Tryz.prog 80 [byt l] (tup [.v (.int .u64 (getV l 8)), .v (.int .i64 (chk l.length 8))]) := by
 refine Fn.of Tryz.func80 rfl (by kernel_rfl) Tryz.ntmps80 (by simp) (fun w => [(0, old w.heap.size (byt l))]) (fun w => (Start.old rfl Start.nil)) fun w₀ => ?_
 refine GV rfl ?_
 refine GT ?_
 refine RM rfl ?_
 refine RS (ok_call (get_fn l 8 (by decide) (by decide)) (Args.cons rfl LA (Args.cons rfl LA Args.nil))) ?_
 refine RS (ok_extract rfl rfl) ?_
 refine RS (ok_extract rfl rfl) ?_
 refine RVN 2 rfl ?_
 refine A.ret ?_
 exact End.ret2 rfl rfl (by first | exact Le.refl _ | exact Le.old _ _) rfl (by first | exact Le.refl _ | exact Le.old _ _)
theorem Get32_fn (l : List UInt8) : Fn Tryz.prog 108 [byt l] (tup [.v (.int .u32 (getV l 4)), .v (.int .i64 (chk l.length 4))]) := by
 have hv : 0 ≤ getV l 4 ∧ getV l 4 < 4294967296 := by
  unfold getV
  split
  ·rename_i h; have := num_lt l; rw [h] at this; omega
  ·omega
 refine Fn.of Tryz.func108 rfl (by kernel_rfl) Tryz.ntmps108 (by simp) (fun w => [(0, old w.heap.size (byt l))]) (fun w => (Start.old rfl Start.nil)) fun w₀ => ?_
 refine GV rfl ?_
 refine GT ?_
 refine RM rfl ?_
 refine RS (ok_call (get_fn l 4 (by decide) (by decide)) (Args.cons rfl LA (Args.cons rfl LA Args.nil))) ?_
 refine RM rfl ?_
 refine RS (ok_extract rfl rfl) ?_
 refine RS (ok_extract rfl rfl) ?_
 refine RVN 2 rfl ?_
 refine GT ?_
 refine RM rfl ?_
 refine RS (ok_conv Tryz.underlying39 Tryz.underlying38 rfl) ?_; refine RZ (.int .u32 (getV l 4)) (congrArg _ (wrap_u32 hv.1 hv.2)) ?_
 refine RVN 3 rfl ?_
 refine A.ret ?_
 exact End.ret2 rfl rfl (by first | exact Le.refl _ | exact Le.old _ _) rfl (by first | exact Le.refl _ | exact Le.old _ _)
end Go.Proofs.YtffiflfjlemggaaGreatDoor
namespace Go.Proofs.YtffiflfjlemggaaGreatDoor
open Go Go.RowKit
set_option linter.unusedVariables false
set_option maxRecDepth 20000

theorem refPut_fnB (v k : Int) (hv0 : 0 ≤ v) (hv : v < 18446744073709551616) (hk0 : 0 ≤ k) (hk : k ≤ 8) : FnB Tryz.prog 81 [.v (.int .u64 v), .v (.int .i64 k)] (fun B => fresh B 5 ((be k.toNat v.toNat).map byteV) k.toNat) := by
 obtain ⟨V, rfl⟩ := Int.eq_ofNat_of_zero_le hv0
 obtain ⟨K, rfl⟩ := Int.eq_ofNat_of_zero_le hk0
 simp only [Int.toNat_natCast]
 refine FnB.of Tryz.func81 rfl (by kernel_rfl) Tryz.ntmps81 (by simp) (fun w => [(0, .v (.int .u64 (V : Int))), (1, .v (.int .i64 (K : Int)))]) (fun w => (Start.v rfl (Start.v rfl Start.nil))) fun w₀ => ?_
 refine GV rfl ?_
 refine GT ?_
 refine RM rfl ?_
 refine RS (ok_make K Tryz.underlying22 info5 (by decide) rfl rfl rfl rfl rfl (by omega)) ?_
 refine RVN 1 rfl ?_
 refine A.open (t := 5) (k := 1000000) rfl fun b hb => ?_
 refine QS ?_
 refine GT ?_
 refine RV 2 rfl ?_
 refine RZ (.int .i64 ((K : Int) - 1 - ((0 : Nat) : Int))) (by rw [wrap_i64 (by omega) (by omega)]; congr 1; omega) ?_
 refine RVN 1 rfl ?_
 refine A.block ?_
 refine A.loop (ι := Nat) (fun j => j ≤ K) (fun j => [(0, .v (nQ (V / 256 ^ j))), (5, .v (.slice (some ⟨b, 0, none⟩) K K)), (6, .v (.int .i64 ((K : Int) - 1 - (j : Int)))), (1000000, blk b 5 (List.replicate ((be K V).length - j) (.int .u8 0) ++ ((be K V).drop ((be K V).length - j)).map byteV))]) (fun j => K - j) 0 ?_ ?_ ?_
 ·exact Nat.zero_le _
 ·exact (KE 0 rfl (by simp) (KE 5 rfl (by simp) (KC 6 rfl (KE 1000000 rfl (by rw [Nat.sub_zero, List.drop_length]; simp [be_length]) KN))))
 intro j hj
 refine QS ?_
 refine GV rfl ?_
 refine A.cond rfl (fun hc12 => ?_) (fun hc12 => ?_)
 ·have hlt : j < K := by simp at hc12; omega
  refine QK ?_
  refine QSB ?_
  refine GS ?_
  refine TF 6 ?_
  refine RV 3 rfl ?_
  refine RS (ok_rem rfl rfl (by decide)) ?_; refine RZ (nQ (V / 256 ^ j % 256)) (by rw [tmod_lit _ (by decide)]; rfl) ?_
  refine RS (ok_conv Tryz.underlying39 Tryz.underlying5 rfl) ?_; refine RZ (byteV (UInt8.ofNat (V / 256 ^ j))) (by rw [wrap_u8_nat, ofNat_mod]; rfl) ?_
  refine RS (ok_indexV (K - 1 - j) Tryz.underlying22 info5 rfl rfl (by omega) (by omega)) ?_
  refine RN ?_
  refine ⟨_, eff_store (n := 24) (s := 1000000) info5 rfl rfl rfl hb rfl (by simp [be_length]; omega) (Left.cons (t := 0) rfl (Stays.v _ _) (Left.cons (t := 5) rfl (Stays.v _ _) (Left.cons (t := 6) rfl (Stays.v _ _) Left.nil))), ?_⟩
  refine TL ?_
  refine RN ?_
  refine GTE ?_
  refine RM rfl ?_
  refine RS (ok_div rfl rfl (by decide)) ?_; refine RZ (nQ (V / 256 ^ (j + 1))) (by rw [tdiv_lit _ (by decide), show Int.toNat 256 = 256 from rfl, wrapN_u64 (Nat.lt_of_le_of_lt (Nat.le_trans (Nat.div_le_self _ _) (Nat.div_le_self _ _)) (by omega)), Nat.pow_succ, ← Nat.div_div_eq_div_mul]) ?_
  refine RVN 1 rfl ?_
  refine End.normal_block ?_
  refine EN ?_
  refine GTE ?_
  refine RV 2 rfl ?_
  refine RZ (.int .i64 ((K : Int) - 1 - ((j + 1 : Nat) : Int))) (by rw [wrap_i64 (by omega) (by omega)]; congr 1; omega) ?_
  refine RVN 1 rfl ?_
  refine End.normal_then ?_
  refine End.again (j + 1) ?_ ?_ ?_
  ·show _ ≤ _; omega
  ·show _ - _ < _ - _; omega
  ·exact (KC 0 rfl (KC 5 rfl (KC 6 rfl (KE 1000000 rfl (by rw [Nat.zero_add]; have h := fill_back (l := be K V) (f := byteV) (z := .int .u8 0) (c := UInt8.ofNat (V / 256 ^ j)) (j := j) (by rw [be_length]; exact hlt) (by rw [be_length, be_get (by omega)]; congr 3; congr 1; omega); rw [be_length] at h ⊢; exact congrArg _ h) KN))))
 ·refine A.exit ?_
  refine End.exit_then ?_
  refine End.exit_then ?_
  refine End.exit_here ?_
  refine EN ?_
  refine GV rfl ?_
  refine A.ret ?_
  have hK : j = K := by simp at hc12; omega
  subst hK
  exact End.fresh rfl hb rfl (by rw [List.length_map, be_length]) (k := 1000000) rfl (by simp only [be_length, Nat.sub_self, List.replicate_zero, List.nil_append, List.drop_zero])
theorem refPut_fn (v k : Int) (hv0 : 0 ≤ v) (hv : v < 18446744073709551616) (hk0 : 0 ≤ k) (hk : k ≤ 8) : Fn Tryz.prog 81 [.v (.int .u64 v), .v (.int .i64 k)] (bytes (be k.toNat v.toNat) k.toNat) :=
 (refPut_fnB v k hv0 hv hk0 hk).fn fun _ => fresh_bytes (be_length _ _).symm (by simp only [maxLen]; omega)
theorem refPut64_fn (v : Int) (hv0 : 0 ≤ v) (hv : v < 18446744073709551616) : Fn Tryz.prog 34 [.v (.int .u64 v)] (bytes (be 8 v.toNat) 8) := by
 refine FV Tryz.func34 rfl Tryz.ntmps34 rfl fun w₀ => ?_
 refine GV rfl ?_
 refine GT ?_
 refine RM rfl ?_
 refine RS (ok_call (refPut_fn v 8 hv0 hv (by omega) (by omega)) (Args.cons rfl LA (Args.cons rfl LA Args.nil))) ?_
 refine RVN 1 rfl ?_
 refine A.ret ?_
 exact ER rfl rfl
end Go.Proofs.YtffiflfjlemggaaGreatDoor
namespace Go.Proofs.YtffiflfjlemggaaGreatDoor
open Go Go.RowKit
set_option linter.unusedVariables false
set_option maxRecDepth 20000

theorem info38 : InfoIs Tryz.prog 38 (.int .u32 0) 4 := by unfold InfoIs; kernel_rfl
theorem zero190 : ZeroIs Tryz.prog 190 (List.replicate 64 (.int .u32 0)) := by unfold ZeroIs; kernel_rfl
theorem size190 : SizeIs Tryz.prog 190 64 := by unfold SizeIs; kernel_rfl
theorem zero104 : ZeroIs Tryz.prog 104 (List.replicate 8 (.int .u32 0)) := by unfold ZeroIs; kernel_rfl
theorem size104 : SizeIs Tryz.prog 104 8 := by unfold SizeIs; kernel_rfl
theorem K64_lit : K64.length = 64 := by decide
end Go.Proofs.YtffiflfjlemggaaGreatDoor
namespace Go.Proofs.YtffiflfjlemggaaGreatDoor
open Go Go.RowKit
set_option linter.unusedVariables false
set_option maxRecDepth 20000

end Go.Proofs.YtffiflfjlemggaaGreatDoor
namespace Go.Proofs.YtffiflfjlemggaaGreatDoor
open Go Go.RowKit
set_option linter.unusedVariables false
set_option maxRecDepth 20000

theorem zero31 : ZeroIs Tryz.prog 31 (List.replicate 32 (.int .u8 0)) := by unfold ZeroIs; kernel_rfl
theorem size31 : SizeIs Tryz.prog 31 32 := by unfold SizeIs; kernel_rfl
end Go.Proofs.YtffiflfjlemggaaGreatDoor
namespace Go.Proofs.YtffiflfjlemggaaGreatDoor
open Go Go.RowKit
set_option linter.unusedVariables false
set_option maxRecDepth 20000

theorem info153 : InfoIs Tryz.prog 153 (.slice none 0 0) 24 := by unfold InfoIs; kernel_rfl

theorem rot_amount (n : Int) : ∃ s : Nat, s < 32 ∧ n % 32 = (s : Int) ∧ (n % 18446744073709551616 % 32 = (s : Int)) := ⟨(n % 32).toNat, by omega, by omega, by omega⟩

theorem RotateLeft32_fn (v n : Int) (hv0 : 0 ≤ v) (hv : v < 4294967296) : Fn Tryz.prog 142 [.v (.int .u32 v), .v (.int .i64 n)] (.v (.int .u32 (rotB v.toNat (n % 32).toNat))) := by
 obtain ⟨V, rfl⟩ := Int.eq_ofNat_of_zero_le hv0
 obtain ⟨s, hs, h1, h2⟩ := rot_amount n
 obtain ⟨M, hM⟩ := Int.eq_ofNat_of_zero_le (Int.emod_nonneg n (show (18446744073709551616 : Int) ≠ 0 by decide))
 have hMlt : M < 18446744073709551616 := by omega
 have hMs : M % 32 = s := by omega
 rw [h1]
 simp only [Int.toNat_natCast]
 refine FV Tryz.func142 rfl Tryz.ntmps142 rfl fun w₀ => ?_
 refine GV rfl ?_
 refine GT ?_
 refine RM rfl ?_
 refine RS (ok_conv Tryz.underlying3 Tryz.underlying138 rfl) ?_; refine RZ (.int .u64 (M : Int)) (by rw [wrap_u64_int, hM]) ?_
 refine RB rfl rfl rfl ?_
 refine RZ (.int .u64 (s : Int)) (by rw [show IntKind.u64.bits = 64 from rfl, show (31 : Int) = ((31 : Nat) : Int) from rfl, and_u64_nat hMlt (by decide), and31, hMs]) ?_
 refine RVN 1 rfl ?_
 refine GT ?_
 refine RV 2 rfl ?_
 refine RS (ok_shl rfl rfl (by omega)) ?_; refine RZ (.int .u32 ((V * 2 ^ s % 4294967296 : Nat) : Int)) (by rw [Int.toNat_natCast, show min s IntKind.u32.bits = s from by simp only [IntKind.bits]; omega, ← wrap_u32_nat]; congr 2) ?_
 refine RV 3 rfl ?_
 refine RZ (.int .u64 ((32 - s : Nat) : Int)) (by rw [wrap_u64 (by omega) (by omega)]; congr 1; omega) ?_
 refine RS (ok_shr rfl rfl (by omega)) ?_; refine RZ (.int .u32 ((V / 2 ^ (32 - s) : Nat) : Int)) (by rw [Int.toNat_natCast, show min (32 - s) IntKind.u32.bits = 32 - s from by simp only [IntKind.bits]; omega, shr_nat]) ?_
 refine RB rfl rfl rfl ?_
 refine RZ (.int .u32 ((rotB V s : Nat) : Int)) (by rw [show IntKind.u32.bits = 32 from rfl, or_u32_nat (Nat.mod_lt _ (by decide)) (Nat.lt_of_le_of_lt (Nat.div_le_self _ _) (by omega)), rotB_go (by omega) hs]) ?_
 refine RVN 1 rfl ?_
 refine A.ret ?_
 exact ER rfl rfl
theorem Rot_fn (v n : Int) (hv0 : 0 ≤ v) (hv : v < 4294967296) : Fn Tryz.prog 136 [.v (.int .u32 v), .v (.int .i64 n)] (.v (.int .u32 (rotB v.toNat (n % 32).toNat))) := by
 refine FV Tryz.func136 rfl Tryz.ntmps136 rfl fun w₀ => ?_
 refine GV rfl ?_
 refine GT ?_
 refine RV 2 rfl ?_
 refine RS (ok_call (RotateLeft32_fn v n hv0 hv) (Args.cons rfl LA (Args.cons rfl LA Args.nil))) ?_
 refine RVN 1 rfl ?_
 refine A.ret ?_
 exact ER rfl rfl
end Go.Proofs.YtffiflfjlemggaaGreatDoor
