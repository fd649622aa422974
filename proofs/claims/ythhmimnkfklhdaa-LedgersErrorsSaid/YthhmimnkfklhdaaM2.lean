/-
  OWN TEXTS of this seat, put together, part 2: Range, Eq, Flat, Vals, Fresh, Mark, Var, Write, Scope, Nest, Calls, More, Any, Hold, Nonce, C08a, Keep, Chain, Pair, Use, Ledg, PredF.
-/
import Derived.Test.YthhmimnkfklhdaaM1
import Derived.RangeFuncOwn
import Derived.ChangeKeysEq
import Derived.Laws.StructEq
import Derived.Laws.IdiomStrings
import Derived.Scope
import Derived.Lib.SliceRun
namespace Go.Proofs.Ythhmimnkfklhdaa
open Go Go.RowKit
variable {κ : Cx}

/-! ### Facts on memory -/
/-- Block b is the object o; there are at least m blocks. -/
def recD (b : Nat) (o : Obj) (m : Nat) : D := .p (fun B w _ => b < B ∧ m ≤ B ∧ w.heap[b]? = some o) (fun _ _ _ _ g ⟨h1, h2, h3⟩ => ⟨h1, h2, (g.block b h1).trans h3⟩) (fun _ _ _ _ g ⟨h1, h2, h3⟩ => ⟨Nat.lt_of_lt_of_le h1 g, Nat.le_trans h2 g, h3⟩)
theorem Surv.rec {B T g b m : Nat} {o : Obj} (h : o.isCells = false) : Surv B T g (recD b o m) := fun w _ _ k ⟨h1, h2, h3⟩ => by
  refine ⟨Nat.lt_of_lt_of_le h1 k.size, Nat.le_trans h2 k.size, (k.other b h1 fun hb => ?_).trans h3⟩
  subst hb
  obtain ⟨cs, fr, hx⟩ := k.cel _ h3
  subst hx; cases h
/-- A property of memory that stays while memory grows, as a fact. -/
def jD (J : World → Prop) : D := .p (fun B w _ => ∃ v : World, J v ∧ v.heap.size ≤ B ∧ Below v.heap.size v w) (fun _ _ _ _ g ⟨v, h1, h2, h3⟩ => ⟨v, h1, h2, h3.trans (g.mono h2)⟩) (fun _ _ _ _ g ⟨v, h1, h2, h3⟩ => ⟨v, h1, Nat.le_trans h2 g, h3⟩)
theorem jD_get {J : World → Prop} (hst : ∀ a b, J a → Grow a b → J b) {w : World} {x : Value} (h : (jD J).Of w x) : J w := by
  obtain ⟨v, h1, _, h3⟩ := h
  exact hst v w h1 h3
theorem below_two {B : Nat} {w₀ w w' : World} (h : Below B w₀ w) (h' : Below B w₀ w') (hs : w.heap.size ≤ w'.heap.size) : Below B w w' :=
  ⟨h'.os.trans h.os.symm, h'.tape.trans h.tape.symm, h'.output.trans h.output.symm, hs, fun k hk => (h'.block k hk).trans (h.block k hk).symm⟩
/-- The fact survives a turn of block l, which is no cells before and after. -/
def Firm (l : Nat) (d : D) : Prop := ∀ (w : World) (o o' : Obj) (x : Value), w.heap[l]? = some o → o.isCells = false → d.Of w x → d.Of (w.putObj l o') x
theorem Firm.v (l : Nat) (x : Value) : Firm l (.v x) := fun _ _ _ _ _ _ h => h
theorem below_putObj {B l : Nat} (w : World) (o' : Obj) (h : B ≤ l) : Below B w (w.putObj l o') := ⟨rfl, rfl, rfl, by simp, fun _ hk => World.putObj_heap_other (by omega)⟩
theorem Firm.old {l B : Nat} {d : D} (h : B ≤ l) : Firm l (Go.Proofs.Ythhmimnkfklhdaa.old B d) := fun w _ o' _ _ _ ⟨h1, h2⟩ => ⟨by simpa using h1, D.OfB.keep h2 (below_putObj w o' h)⟩
theorem Firm.blk {l b : Nat} {e : TypeId} {xs : List Value} : Firm l (Go.Proofs.Ythhmimnkfklhdaa.blk b e xs) := fun w o o' _ hl ho ⟨h1, h2⟩ => ⟨by simpa using h1, (World.putObj_heap_other (fun hb => by
  subst hb; rw [h2] at hl; injection hl with hl; subst hl; cases ho)).trans h2⟩
/-- Facts on memory that hold in w, which is above w₀. -/
def Holds (w₀ : World) (V : Env) (w : World) : Prop := Below w₀.heap.size w₀ w ∧ w₀.heap.size ≤ w.heap.size ∧ ∀ p ∈ V, p.2.Of w undef
theorem Holds.grow {w₀ w w' : World} {V : Env} (h : Holds w₀ V w) (g : Grow w w') : Holds w₀ V w' := ⟨h.1.trans (g.mono h.2.1), Nat.le_trans h.2.1 g.size, fun p hp => (h.2.2 p hp).grow g⟩
theorem Holds.putObj {w₀ w : World} {V : Env} {l : Nat} {o : Obj} (o' : Obj) (h : Holds w₀ V w) (hl : w.heap[l]? = some o) (ho : o.isCells = false) (hB : w₀.heap.size ≤ l) (hf : ∀ p ∈ V, Firm l p.2) : Holds w₀ V (w.putObj l o') :=
  ⟨h.1.trans (below_putObj w o' hB), by simpa using h.2.1, fun p hp => hf p hp w o o' _ hl ho (h.2.2 p hp)⟩

/-! ### The call of yield -/
section
variable {P : Program} {n : Nat} {w₀ : World} {ops : Array Oper} {E : Env} {ty : TypeId} {pos : String} {after : Array Edge}
/-- What yield does at each round: it goes on, and the property of memory moves on by one. -/
def Yields (P : Program) (N : Nat) (l : Nat) (arg : Nat → D) (J : Nat → World → Prop) : Prop :=
  ∀ (i : Nat) (W : World) (u : Value), i < N → J i W → (arg i).Of W u → YieldAt (FR none) 0 P l #[u] W fun e W' => e = .returned (.bool true) ∧ J (i + 1) W' ∧ W.heap.size ≤ W'.heap.size
structure Seqs (P : Program) (w₀ : World) (N : Nat) (l : Nat) (arg : Nat → D) (V : Nat → Env) (J : Nat → World → Prop) : Prop where
  grow : ∀ i a b, J i a → Grow a b → J i b
  holds : ∀ i W, J i W → Holds w₀ (V i) W
  yields : Yields P N l arg J
theorem Seqs.sub {N l : Nat} {arg : Nat → D} {V V' : Nat → Env} {J : Nat → World → Prop} (h : Seqs P w₀ N l arg V J) (hs : ∀ i, ∀ p ∈ V' i, p ∈ V i) : Seqs P w₀ N l arg V' J :=
  ⟨h.grow, fun i W hJ => ⟨(h.holds i W hJ).1, (h.holds i W hJ).2.1, fun p hp => (h.holds i W hJ).2.2 p (hs i p hp)⟩, h.yields⟩
/-- A call that is walked at the caller's base. -/
theorem Calls.within {f : FuncId} {fn : Func} {c : Code} {vs : List Value} {w : World} {R : Ending → World → Prop} (hf : P.funcs[f]? = some fn) (hb : fn.body = some c) (hn : fn.ntmps = n) (hl : vs.length ≤ n) (hnv : n ≤ vbase) (hw : Below w₀.heap.size w₀ w) (hs : w₀.heap.size ≤ w.heap.size)
    (hE : ∀ p ∈ E, (vbase ≤ p.1 ∧ p.2.Of w undef) ∨ ∃ v, vs[p.1]? = some v ∧ p.2.Of w v) (h : A Cx.top P w₀ n c E (BP P fn R)) : Calls P f vs.toArray w R := by
  refine callsIn_FR.1 (callsIn_of_wp_marks (F := FR none) (n := 0) hf hb trivial (h _ w hw ⟨hs, rfl, ?_, fun t e he => ?_⟩))
  · simp [hn]; omega
  · show e.Of w ((vs.toArray ++ Array.replicate (fn.ntmps - vs.toArray.size) undef).getD t undef)
    rcases hE _ (look_mem he) with ⟨ht, hx⟩ | ⟨v, hv, hx⟩
    · rwa [Array.getD_eq_getD_getElem?, Array.getElem?_eq_none (by simp [hn]; simp only at ht; omega)]
    · have hlt : t < vs.length := (List.getElem?_eq_some_iff.1 hv).1
      rw [Array.getD_eq_getD_getElem?, Array.getElem?_append_left (by simpa using hlt)]
      simp only at hv
      simp [hv]; exact hx
/-- The end of a function that is ranged over. -/
theorem End.seq {fn : Func} {N l : Nat} {arg : Nat → D} {V : Nat → Env} {J : Nat → World → Prop} {vJ : Nat} (hq : Seqs P w₀ N l arg V J) (hr : fn.results = #[]) (hJ : E.look vJ = some (jD (J N))) :
    End Cx.top w₀ n E (BP P fn (fun e W => (∃ v, e = .returned v) ∧ J N W) .normal) := fun a w _ hs => by
  show LeavesInM (FR none) 0 P fn a.tmps _ a.defers .returning w
  rw [show a.defers = [] from hs.defers]
  exact ⟨_, by simp [results, hr]; rfl, ⟨_, rfl⟩, jD_get (hq.grow N) (hs.of vJ _ hJ)⟩

/-! ### The statement -/
/-- What the body of a round comes to: it goes on, and these facts hold. -/
def RoundQ (w₀ : World) (V : Env) : Exit → Act → World → Prop
  | .normal, _, w => Holds w₀ V w
  | _, _, _ => False
theorem End.round {V : Env} (hs : Sub V E) (hV : ∀ p ∈ V, vbase ≤ p.1) (hn : n ≤ vbase) : End κ w₀ n E (RoundQ w₀ V .normal) := fun a w g hst => ⟨g, hst.base, fun p hp => by
  have h1 := hst.of p.1 p.2 (hs p hp)
  have := hV p hp
  rwa [Array.getD_eq_getD_getElem?, Array.getElem?_eq_none (by rw [hst.size]; omega)] at h1⟩
theorem A.range {Q : Exit → Act → World → Prop} {g : Operand} {tp gf N vL vD : Nat} {assign body : Code} {lb : List Value} {S : Env} {V Eb : Nat → Env} {arg : Nat → D} (hg : E.at g = some (.v (.func (.func gf) #[] lb.toArray)))
    (hgf : ∃ fn, P.funcs[gf]? = some fn ∧ (fn.name == "runtime.NumGoroutine") = false ∧ fn.body.isNone = false) (htp : tp < n) (hn : n ≤ vbase) (h0 : Sub (V 0 ++ S) E)
    (hS : ∀ p ∈ S, p.1 < vbase ∧ ((∃ x, p.2 = .v x) ∨ ∃ d, p.2 = old w₀.heap.size d)) (hV : ∀ i, ∀ p ∈ V i, vbase ≤ p.1)
    (hfV : ∀ i l, w₀.heap.size ≤ l → ∀ p ∈ V i, Firm l p.2) (hfE : ∀ i l, w₀.heap.size ≤ l → ∀ p ∈ Eb i, Firm l p.2)
    (hseq : ∀ (J : Nat → World → Prop) (l : Nat) (w : World), Seqs P w₀ N l arg V J → J 0 w → Calls P gf (.func (.yield l) #[] #[] :: lb).toArray w fun e W => (∃ v, e = .returned v) ∧ J N W)
    (hassign : ∀ i l a w, i < N → St ⟨some l, []⟩ n w₀.heap.size ((tp, arg i) :: (V i ++ S)) a w → assign.wpIn (FR (some l)) 0 P (fun e a' w' => e = .normal ∧ Grow w w' ∧ St ⟨some l, []⟩ n w₀.heap.size (Eb i) a' w') a w)
    (hbody : ∀ i l D r m, i < N → A ⟨some l, []⟩ P w₀ n body ((vL, recD l (.loop r) m) :: (vD, recD D (.deferred (some [])) 0) :: Eb i) (RoundQ w₀ ((vL, recD l (.loop r) m) :: (vD, recD D (.deferred (some [])) 0) :: V (i + 1))))
    (hend : ∀ D, w₀.heap.size ≤ D → End ⟨none, [{ target := .collected D, args := #[] }]⟩ w₀ n ((vD, recD D (.deferred (some [])) 0) :: (V N ++ S)) (Q .normal)) :
    A ⟨none, []⟩ P w₀ n (.rangeFunc g #[tp] assign body) E Q := fun a w hb hst => by
  show (Code.rangeFunc g #[tp] assign body).wpIn (FR none) 0 P Q a w
  refine wpIn_rangeFunc fun fn _ => ?_
  obtain ⟨rec, hrec⟩ : ∃ rec : LoopState → Option Code → Loop, rec = fun st pe => { state := st, pending := pe, fn, tmps := a.tmps, params := #[tp], assign, body, defers := w.heap.size } := ⟨_, rfl⟩
  obtain ⟨W1, hW1⟩ : ∃ W1, (w.alloc (.deferred (some []))).alloc (.loop (rec .ready none)) = W1 := ⟨_, rfl⟩
  have hg' : a.eval g = .func (.func gf) #[] lb.toArray := hst.at_ g _ hg
  obtain ⟨gfn, hf1, hf2, hf3⟩ := hgf
  have eg : ∀ args w, (callFunc gf args).run P w = .ok (.enter gf args) w := fun args w => by
    have h2' : ¬ gfn.name = "runtime.NumGoroutine" := by simpa using hf2
    have h3' : ¬ gfn.body = none := by intro h; rw [h] at hf3; cases hf3
    simp [callFunc, hf1, h2', h3']
  have hgr : Grow w W1 := by
    rw [← hW1]; exact (Grow.alloc w _).trans (Grow.alloc _ _)
  have hL1 : W1.heap[w.heap.size + 1]? = some (.loop (rec .ready none)) := by
    rw [← hW1]; have := World.alloc_heap_new (w.alloc (.deferred (some []))) (.loop (rec .ready none)); rwa [World.size_alloc] at this
  have hK1 : W1.heap[w.heap.size]? = some (.deferred (some [])) := by
    rw [← hW1]; exact (Below.heap_alloc _ _ _ (by simp)).trans (World.alloc_heap_new w _)
  have hund : ∀ t, vbase ≤ t → a.tmps.getD t undef = undef := fun t ht => by
    rw [Array.getD_eq_getD_getElem?, Array.getElem?_eq_none (by rw [hst.size]; omega)]; rfl
  have hH0 : Holds w₀ (V 0) w := ⟨hb, hst.base, fun p hp => by
    have h1 := hst.of p.1 p.2 (h0 p (List.mem_append_left _ hp))
    rwa [hund _ (hV 0 p hp)] at h1⟩
  -- what holds between two rounds
  have hstS : ∀ (κ' : Cx) (i : Nat) (W : World) (a' : Act) (E' : Env), κ'.df = a'.defers → a'.tmps.size = n → Holds w₀ (V i) W → w.heap.size ≤ W.heap.size → (∀ t e, E'.look t = some e → e.Of W (a'.tmps.getD t undef) ∨ ((t, e) ∈ V i ++ S ∧ (t < vbase → a'.tmps.getD t undef = a.tmps.getD t undef))) → St κ' n w₀.heap.size E' a' W := by
    intro κ' i W a' E' hd hsz hH hs hE
    refine ⟨hH.2.1, hd.symm, hsz, fun t e he => ?_⟩
    rcases hE t e he with h | ⟨hm, hsame⟩
    · exact h
    · rcases List.mem_append.1 hm with hm | hm
      · have h1 := hH.2.2 _ hm
        have ht := hV i _ hm
        simp only at ht
        rwa [Array.getD_eq_getD_getElem?, Array.getElem?_eq_none (by rw [hsz]; omega)]
      · obtain ⟨ht, hk⟩ := hS _ hm
        rw [hsame ht]
        have h1 := hst.of t e (h0 _ (List.mem_append_right _ hm))
        rcases hk with ⟨x, hx⟩ | ⟨d, hd'⟩
        · simp only at hx; subst hx; exact h1
        · simp only at hd'; subst hd'
          exact ⟨hH.2.1, D.OfB.keep h1.2 (below_two hb hH.1 hs)⟩
  refine ⟨w.heap.size + 1, [{ target := .collected w.heap.size, args := #[] }], W1, { target := .fn (.func gf) lb.toArray, args := #[.func (.yield (w.heap.size + 1)) #[] #[]] }, W1, gf,
    #[.func (.yield (w.heap.size + 1)) #[] #[]] ++ lb.toArray, W1, ?_, ?_, fun _ _ => trivial, ?_, fun e => absurd e (by simp [FR, Fence.wide]), ?_⟩
  · rw [← hW1, hrec]; exact run_enterLoop_outer _ _ _ _ _
  · have hy : a.eval (.const (.func (.yield (w.heap.size + 1)) #[] #[])) = .func (.yield (w.heap.size + 1)) #[] #[] := rfl
    simp only [resolve, hg']
    simp [Deferred.ofValue, hy]
  · simp [invoke, eg]
  · have harr : (#[.func (.yield (w.heap.size + 1)) #[] #[]] ++ lb.toArray : Array Value) = (.func (.yield (w.heap.size + 1)) #[] #[] :: lb).toArray := by simp
    rw [harr]
    refine callsIn_FR.2 ((hseq (fun i W => Holds w₀ (V i) W ∧ W.heap[w.heap.size + 1]? = some (.loop (rec .ready none)) ∧ W.heap[w.heap.size]? = some (.deferred (some []))) (w.heap.size + 1) W1 ⟨?_, fun i W h => h.1, ?_⟩ ⟨hH0.grow hgr, hL1, hK1⟩).mono ?_)
    · rintro i x y ⟨h1, h2, h3⟩ k
      exact ⟨h1.grow k, (k.block _ (Array.getElem?_eq_some_iff.1 h2).1).trans h2, (k.block _ (Array.getElem?_eq_some_iff.1 h3).1).trans h3⟩
    · -- one round
      rintro i W u hi ⟨hH, hl, hk⟩ hu
      have hlt : w.heap.size + 1 < W.heap.size := (Array.getElem?_eq_some_iff.1 hl).1
      have hBl : w₀.heap.size ≤ w.heap.size + 1 := by have := hst.base; omega
      have hy := run_yield (P := P) (args := #[u]) hl (by rw [hrec]; rfl)
      rw [hrec] at hy
      refine ⟨fn, _, assign, body, hy, roundIn_of_wpIn (F := FR none) trivial ?_⟩
      have htm : (List.foldl (fun (tmps : Array Value) (x : Tmp × Value) => tmps.setIfInBounds x.1 x.2) a.tmps ((#[tp].zip #[u]).toList)) = a.tmps.setIfInBounds tp u := by simp
      have hsta : St ⟨some (w.heap.size + 1), []⟩ n w₀.heap.size ((tp, arg i) :: (V i ++ S)) { tmps := a.tmps.setIfInBounds tp u, defers := [] } W := by
        refine hstS _ i W _ _ rfl (by simp [hst.size]) hH (by omega) fun t e he => ?_
        by_cases hts : tp = t
        · subst hts
          rw [look_here] at he; injection he with he; subst he
          left
          have : tp < a.tmps.size := by rw [hst.size]; exact htp
          simpa [this] using hu
        · rw [look_past _ _ hts] at he
          exact .inr ⟨look_mem he, fun _ => by simp [Array.getElem?_setIfInBounds_ne hts]⟩
      have has := hassign i (w.heap.size + 1) _ W hi hsta
      have hrun0 : ({ tmps := Array.foldl (fun (tmps : Array Value) (x : Tmp × Value) => tmps.setIfInBounds x.1 x.2) a.tmps (#[tp].zip #[u]), defers := [] } : Act) = { tmps := a.tmps.setIfInBounds tp u, defers := [] } := by simp
      show assign.wpIn (FR (some (w.heap.size + 1))) 0 P _ _ W
      refine wpIn_mono (F := FR (some (w.heap.size + 1))) (n := 0) (by first | exact has | (rw [← hrun0] at has; exact has)) ?_
      rintro e a1 W2 ⟨rfl, hg2, hst2⟩
      have hl2 : W2.heap[w.heap.size + 1]? = some (.loop (rec .ready none)) := (hg2.block _ hlt).trans hl
      have hk2 : W2.heap[w.heap.size]? = some (.deferred (some [])) := (hg2.block _ (by omega)).trans hk
      have hH2 := hH.grow hg2
      have hlt2 : w.heap.size + 1 < W2.heap.size := (Array.getElem?_eq_some_iff.1 hl2).1
      refine ⟨_, run_beginRound hl2 (by rw [hrec]), ?_⟩
      have hl3 : (W2.putObj (w.heap.size + 1) (.loop { rec .ready none with state := .busy })).heap[w.heap.size + 1]? = some (.loop { rec .ready none with state := .busy }) := World.putObj_heap_same hlt2
      have hk3 : (W2.putObj (w.heap.size + 1) (.loop { rec .ready none with state := .busy })).heap[w.heap.size]? = some (.deferred (some [])) := (World.putObj_heap_other (by omega)).trans hk2
      have hH3 := hH2.putObj (.loop { rec .ready none with state := .busy }) hl2 rfl hBl (hfV i _ hBl)
      have hst3 : St ⟨some (w.heap.size + 1), []⟩ n w₀.heap.size ((vL, recD (w.heap.size + 1) (.loop { rec .ready none with state := .busy }) W.heap.size) :: (vD, recD w.heap.size (.deferred (some [])) 0) :: Eb i) a1 (W2.putObj (w.heap.size + 1) (.loop { rec .ready none with state := .busy })) := by
        refine ⟨hH3.2.1, hst2.defers, hst2.size, fun t e he => ?_⟩
        by_cases hts : vL = t
        · subst hts
          rw [look_here] at he; injection he with he; subst he
          exact ⟨by simpa using hlt2, by simpa using hg2.size, hl3⟩
        · rw [look_past _ _ hts] at he
          by_cases hts' : vD = t
          · subst hts'
            rw [look_here] at he; injection he with he; subst he
            exact ⟨by simp; omega, Nat.zero_le _, hk3⟩
          · rw [look_past _ _ hts'] at he
            exact hfE i _ hBl _ (look_mem he) W2 _ _ _ hl2 rfl (hst2.of t e he)
      refine wpIn_mono (F := FR (some (w.heap.size + 1))) (n := 0) (hbody i _ _ _ _ hi a1 _ hH3.1 hst3) ?_
      rintro e a3 W3 hp
      cases e with
      | normal =>
        obtain ⟨hb3, hs3, hv3⟩ := hp
        obtain ⟨hlt3, hm3, hl4⟩ := hv3 _ List.mem_cons_self
        obtain ⟨_, _, hk4⟩ := hv3 _ (List.mem_cons_of_mem _ List.mem_cons_self)
        have hH4 : Holds w₀ (V (i + 1)) W3 := ⟨hb3, hs3, fun p hp => hv3 p (List.mem_cons_of_mem _ (List.mem_cons_of_mem _ hp))⟩
        have hend := run_endRound (P := P) none hl4
        refine ⟨_, _, hend, rfl, ⟨hH4.putObj _ hl4 rfl hBl (hfV _ _ hBl), ?_, (World.putObj_heap_other (by omega)).trans hk4⟩, by simpa using hm3⟩
        have := World.putObj_heap_same (o := .loop { { rec .ready none with state := .busy } with state := .ready, pending := none }) hlt3
        rw [hrec] at this ⊢
        exact this
      | _ => exact hp.elim
    · -- behind it
      rintro e W2 ⟨⟨v, rfl⟩, hH, hl, hk⟩
      have hBl : w₀.heap.size ≤ w.heap.size + 1 := by have := hst.base; omega
      have hlt2 : w.heap.size + 1 < W2.heap.size := (Array.getElem?_eq_some_iff.1 hl).1
      have hel := run_endLoop (P := P) hl (by rw [hrec]; simp)
      refine ⟨none, _, by rw [hrec] at hel; exact hel, ?_⟩
      have hH3 := hH.putObj (.loop { state := .exhausted, pending := none, fn, tmps := a.tmps, params := #[tp], assign, body, defers := w.heap.size }) hl rfl hBl (hfV N _ hBl)
      refine hend w.heap.size hst.base _ _ hH3.1 (hstS _ N _ _ _ (by simp [hst.defers]) hst.size hH3 (by simp; omega) fun t e he => ?_)
      by_cases hts : vD = t
      · subst hts
        rw [look_here] at he; injection he with he; subst he
        exact .inl ⟨by simp; omega, Nat.zero_le _, (World.putObj_heap_other (by omega)).trans hk⟩
      · rw [look_past _ _ hts] at he
        exact .inr ⟨look_mem he, fun _ => rfl⟩

end
end Go.Proofs.Ythhmimnkfklhdaa
namespace Go.Proofs.Ythhmimnkfklhdaa
open Go Go.RowKit
section
variable {P : Program} {B : Nat} {E : Env} {dst : Option Tmp} {ty : TypeId} {pos : String} {after : Array Edge} {guard : Option (Nat × Bool)}
/-! ### Two arrays of numbers of which nothing is known -/
theorem bytes_inj {a b : List UInt8} (h : a.map byteV = b.map byteV) : a = b := (List.map_inj_right fun x y hxy => by
  simp only [byteV, Value.int.injEq, true_and] at hxy
  exact UInt8.toNat_inj.1 (by omega)).1 h
end
end Go.Proofs.Ythhmimnkfklhdaa
namespace Go.Proofs.Ythhmimnkfklhdaa
open Go Go.RowKit Go.ChangeShapes Go.WideShapes

def flatFs (F : TypeId → Option (List IntKind)) : List Field → Nat → Option (List IntKind)
  | [], _ => some []
  | f :: r, o => match F f.type with
    | none => none
    | some ks => if f.offset = o ∧ f.name ≠ "_" then (flatFs F r (o + ks.length)).map (ks ++ ·) else none
/-- The kinds of a type's cells, where it is made of integers, arrays and structs alone. -/
def flat (P : Program) : Nat → TypeId → Option (List IntKind)
  | 0, _ => none
  | n + 1, t => if P.cellsOf t = 0 then none else match P.underlying t with
    | some (.int k) => if P.cellsOf t = 1 then some [k] else none
    | some (.array len e) => match flat P n e with
      | none => none
      | some ks => if P.cellsOf t = len * ks.length then some (List.replicate len ks).flatten else none
    | some (.struct fs) => match flatFs (flat P n) fs.toList 0 with
      | none => none
      | some ks => if P.cellsOf t = ks.length ∧ P.stoodInHeld t = false then some ks else none
    | _ => none
def isAggT (P : Program) (t : TypeId) : Bool := match P.underlying t with | some (.struct _) => true | some (.array _ _) => true | _ => false
def packT (P : Program) (t : TypeId) (xs : List Value) : Value := if isAggT P t then .agg xs.toArray else xs.headD undef
/-- Cells of these kinds, of whose numbers Q holds. -/
def Kin (Q : IntKind → Int → Prop) (ks : List IntKind) (xs : List Value) : Prop := xs.length = ks.length ∧ ∀ (i : Nat) (k : IntKind), ks[i]? = some k → ∃ n, xs[i]? = some (.int k n) ∧ Q k n
section
variable {Q : IntKind → Int → Prop}
theorem Kin.nil {xs : List Value} (h : Kin Q [] xs) : xs = [] := List.eq_nil_of_length_eq_zero h.1
theorem Kin.one {k : IntKind} {xs : List Value} (h : Kin Q [k] xs) : ∃ n, xs = [.int k n] ∧ Q k n := by
  obtain ⟨n, h1, h2⟩ := h.2 0 k rfl
  refine ⟨n, ?_, h2⟩
  have hl : xs.length = 1 := h.1
  match xs, hl, h1 with
  | [x], _, h1 => simp at h1; rw [h1]
theorem Kin.split {a b : List IntKind} {xs : List Value} (h : Kin Q (a ++ b) xs) : Kin Q a (xs.take a.length) ∧ Kin Q b (xs.drop a.length) := by
  have hl : xs.length = a.length + b.length := by simpa using h.1
  refine ⟨⟨by simp; omega, fun i k hk => ?_⟩, ⟨by simp; omega, fun i k hk => ?_⟩⟩
  · have hi : i < a.length := (List.getElem?_eq_some_iff.1 hk).1
    obtain ⟨n, h1, h2⟩ := h.2 i k (by rw [List.getElem?_append_left hi]; exact hk)
    exact ⟨n, by rw [List.getElem?_take, if_pos hi]; exact h1, h2⟩
  · obtain ⟨n, h1, h2⟩ := h.2 (a.length + i) k (by rw [List.getElem?_append_right (by omega), Nat.add_sub_cancel_left]; exact hk)
    exact ⟨n, by rw [List.getElem?_drop]; exact h1, h2⟩
theorem Kin.join {a b : List IntKind} {xs ys : List Value} (h : Kin Q a xs) (h' : Kin Q b ys) : Kin Q (a ++ b) (xs ++ ys) := by
  refine ⟨by simp [h.1, h'.1], fun i k hk => ?_⟩
  rcases Nat.lt_or_ge i a.length with hi | hi
  · rw [List.getElem?_append_left hi] at hk
    rw [List.getElem?_append_left (by rw [h.1]; exact hi)]
    exact h.2 i k hk
  · rw [List.getElem?_append_right hi] at hk
    rw [List.getElem?_append_right (by rw [h.1]; exact hi), h.1]
    exact h'.2 _ k hk
theorem Kin.append {a b : List IntKind} {xs : List Value} (h : Kin Q (a ++ b) xs) : ∃ x y, xs = x ++ y ∧ Kin Q a x ∧ Kin Q b y :=
  ⟨_, _, (List.take_append_drop a.length xs).symm, h.split.1, h.split.2⟩
theorem Kin.cons {k : IntKind} {b : List IntKind} {xs : List Value} (h : Kin Q (k :: b) xs) : ∃ n y, xs = .int k n :: y ∧ Q k n ∧ Kin Q b y := by
  obtain ⟨x, y, rfl, h1, h2⟩ := Kin.append (a := [k]) h
  obtain ⟨n, rfl, h3⟩ := h1.one
  exact ⟨n, y, rfl, h3, h2⟩
theorem Kin.mono {R : IntKind → Int → Prop} {ks : List IntKind} {xs : List Value} (h : Kin Q ks xs) (hq : ∀ k n, Q k n → R k n) : Kin R ks xs :=
  ⟨h.1, fun i k hk => by obtain ⟨n, h1, h2⟩ := h.2 i k hk; exact ⟨n, h1, hq _ _ h2⟩⟩
theorem Kin.rep {ks : List IntKind} : ∀ {n : Nat} {xs : List Value}, Kin Q (List.replicate n ks).flatten xs → ∀ i, i < n → Kin Q ks ((xs.drop (i * ks.length)).take ks.length)
  | 0, _, _, i, hi => by omega
  | n + 1, xs, h, 0, _ => by
    rw [List.replicate_succ, List.flatten_cons] at h
    simpa using h.split.1
  | n + 1, xs, h, i + 1, hi => by
    rw [List.replicate_succ, List.flatten_cons] at h
    have := Kin.rep h.split.2 i (by omega)
    rwa [List.drop_drop, show ks.length + i * ks.length = (i + 1) * ks.length from by rw [Nat.succ_mul]; omega] at this
end
theorem rep_length {ks : List IntKind} (n : Nat) : (List.replicate n ks).flatten.length = n * ks.length := by
  induction n with
  | zero => simp
  | succ n ih => rw [List.replicate_succ, List.flatten_cons, List.length_append, ih, Nat.succ_mul]; omega
section
variable {P : Program}
theorem flat_cells : ∀ {n : Nat} {t : TypeId} {ks : List IntKind}, flat P n t = some ks → P.cellsOf t = ks.length ∧ 0 < ks.length := by
  intro n t ks h
  cases n with
  | zero => cases h
  | succ n =>
    unfold flat at h
    split at h
    · cases h
    · rename_i h0
      have hk : P.cellsOf t = ks.length := by
        split at h
        · split at h
          · rename_i h1; injection h with h; subst h; exact h1
          · cases h
        · split at h
          · cases h
          · split at h
            · rename_i h1; injection h with h; subst h; rw [h1, rep_length]
            · cases h
        · split at h
          · cases h
          · split at h
            · rename_i h1; injection h with h; subst h; exact h1.1
            · cases h
        · cases h
      exact ⟨hk, by omega⟩
theorem info_of_cells {t : TypeId} (h : 0 < P.cellsOf t) : ∃ i, P.info? t = some i := by
  unfold Program.cellsOf at h
  cases hi : P.info? t with
  | none => rw [hi] at h; simp at h
  | some i => exact ⟨i, rfl⟩
theorem run_isAgg {t : TypeId} {td : TypeDesc} (h : P.underlying t = some td) (w : World) : (isAgg t).run P w = .ok (isAggT P t) w := by
  unfold isAgg isAggT
  rw [Sem.run_bind, run_underlying h w, h]
  cases td <;> simp
theorem flat_under {n : Nat} {t : TypeId} {ks : List IntKind} (h : flat P n t = some ks) : ∃ td, P.underlying t = some td := by
  cases n with
  | zero => cases h
  | succ n =>
    unfold flat at h
    split at h
    · cases h
    · cases hu : P.underlying t with
      | none => rw [hu] at h; cases h
      | some td => exact ⟨td, rfl⟩
/-- A part of an aggregate. -/
theorem flat_part {n : Nat} {t : TypeId} {ks : List IntKind} (h : flat P n t = some ks) (zs : List Value) (o : Nat) (ho : o + ks.length ≤ zs.length) (w : World) : (part t zs.toArray o).run P w = .ok (packT P t ((zs.drop o).take ks.length)) w := by
  obtain ⟨td, hu⟩ := flat_under h
  obtain ⟨hc, hp⟩ := flat_cells h
  obtain ⟨i, hi⟩ := info_of_cells (P := P) (t := t) (by omega)
  simp only [part, Sem.run_bind, run_isAgg hu, Result.andThen_ok]
  unfold packT
  cases hb : isAggT P t with
  | true =>
    simp only [if_true, Sem.run_bind, run_sizeOf w hi, Result.andThen_ok, hc]
    simp
  | false =>
    have hlt : o < zs.length := by omega
    have : ((zs.drop o).take ks.length).headD undef = zs[o] := by
      rw [List.drop_eq_getElem_cons hlt]
      obtain ⟨m, hm⟩ : ∃ m, ks.length = m + 1 := ⟨ks.length - 1, by omega⟩
      rw [hm]
      rfl
    rw [if_neg (by simp), if_neg (by simp), this]
    simp [hlt]
theorem two_parts {xs ys : List Value} {o a b : Nat} (hx : o + (a + b) ≤ xs.length) (hy : o + (a + b) ≤ ys.length) :
    (xs.drop o).take (a + b) = (ys.drop o).take (a + b) ↔ (xs.drop o).take a = (ys.drop o).take a ∧ (xs.drop (o + a)).take b = (ys.drop (o + a)).take b := by
  rw [List.take_add, List.take_add, List.drop_drop, List.drop_drop]
  constructor
  · intro h
    exact List.append_inj h (by simp; omega)
  · rintro ⟨h1, h2⟩
    rw [h1, h2]
/-- Equality of values of such a type. -/
theorem flat_eq : ∀ (n : Nat) {t : TypeId} {ks : List IntKind}, flat P n t = some ks → ∀ (d : Nat) (w : World) (xs ys : List Value), Kin (fun _ _ => True) ks xs → Kin (fun _ _ => True) ks ys →
    ∃ r : Bool, (Op.equalIn (d + n) t (packT P t xs) (packT P t ys)).run P w = .ok r w ∧ (r = true ↔ xs = ys) := by
  intro n
  induction n with
  | zero => intro t ks h; cases h
  | succ n ih =>
    intro t ks h d w xs ys hx hy
    have hks := flat_cells h
    unfold flat at h
    split at h
    · cases h
    · split at h
      · rename_i k hu
        split at h
        · injection h with h; subst h
          obtain ⟨a, rfl, _⟩ := hx.one
          obtain ⟨b, rfl, _⟩ := hy.one
          have hg : isAggT P t = false := by unfold isAggT; rw [hu]
          refine ⟨a == b, ?_, by simp⟩
          unfold packT
          rw [hg]
          exact run_equalIn_int w (d + n) t k k a b hu
        · cases h
      · rename_i len e hu
        split at h
        · cases h
        · rename_i ks' hf
          split at h
          · injection h with h; subst h
            have hg : isAggT P t = true := by unfold isAggT; rw [hu]
            obtain ⟨hc, hp⟩ := flat_cells hf
            obtain ⟨i, hi⟩ := info_of_cells (P := P) (t := e) (by omega)
            unfold packT
            rw [hg, if_pos rfl, if_pos rfl, ← Nat.add_assoc, run_equalIn_array (w := w) (d + n) xs.toArray ys.toArray hu hi, hc]
            have hxl : xs.length = len * ks'.length := by rw [hx.1, rep_length]
            have hyl : ys.length = len * ks'.length := by rw [hy.1, rep_length]
            have key : ∀ is : List Nat, (∀ i ∈ is, i < len) → ∃ r : Bool, (Op.eqItems (d + n) e ks'.length xs.toArray ys.toArray is).run P w = .ok r w ∧ (r = true ↔ ∀ i ∈ is, (xs.drop (i * ks'.length)).take ks'.length = (ys.drop (i * ks'.length)).take ks'.length) := by
              intro is
              induction is with
              | nil => intro _; exact ⟨true, by simp [Op.eqItems], by simp⟩
              | cons j is ihs =>
                intro hj
                have hjl := hj j List.mem_cons_self
                have hb : j * ks'.length + ks'.length ≤ len * ks'.length := by
                  rw [← Nat.succ_mul]; exact Nat.mul_le_mul_right _ hjl
                obtain ⟨r, hr, hri⟩ := ihs fun i hi => hj i (List.mem_cons_of_mem _ hi)
                obtain ⟨r', hr', hri'⟩ := ih hf d w _ _ (hx.rep j hjl) (hy.rep j hjl)
                simp only [Op.eqItems, Sem.run_bind, flat_part hf xs (j * ks'.length) (by omega) w, flat_part hf ys (j * ks'.length) (by omega) w, Result.andThen_ok, hr']
                cases r' with
                | true => exact ⟨r, by simpa using hr, by simp [hri, hri'.1 rfl]⟩
                | false => exact ⟨false, by simp, by simpa using fun h => absurd (hri'.2 h) (by simp)⟩
            obtain ⟨r, hr, hri⟩ := key (List.range len) fun i hi => List.mem_range.1 hi
            refine ⟨r, hr, hri.trans ⟨fun h => ?_, fun h => by subst h; exact fun _ _ => rfl⟩⟩
            apply List.ext_getElem?
            intro j
            rcases Nat.lt_or_ge j (len * ks'.length) with hj | hj
            · have h1 := h (j / ks'.length) (List.mem_range.2 ((Nat.div_lt_iff_lt_mul hp).2 hj))
              have h2 := congrArg (·[j % ks'.length]?) h1
              simp only [List.getElem?_take, if_pos (Nat.mod_lt _ hp), List.getElem?_drop] at h2
              rwa [Nat.mul_comm, Nat.div_add_mod] at h2
            · rw [List.getElem?_eq_none (by omega), List.getElem?_eq_none (by omega)]
          · cases h
      · rename_i fs hu
        split at h
        · cases h
        · rename_i ks' hf
          split at h
          · rename_i hst
            injection h with h; subst h
            have hg : isAggT P t = true := by unfold isAggT; rw [hu]
            have hfo : P.fieldsOf t = fs := by unfold Program.fieldsOf; rw [hu]
            unfold packT
            rw [hg, if_pos rfl, if_pos rfl, ← Nat.add_assoc, run_equalIn_struct w (d + n) t xs.toArray ys.toArray (by rw [hfo]; exact hu) hst.2, hfo]
            have key : ∀ (l : List Field) (o : Nat) (kz : List IntKind), flatFs (flat P n) l o = some kz → ∀ ka : List IntKind, Kin (fun _ _ => True) (ka ++ kz) xs → Kin (fun _ _ => True) (ka ++ kz) ys → ka.length = o →
                ∃ r : Bool, (Op.eqFields (d + n) xs.toArray ys.toArray l).run P w = .ok r w ∧ (r = true ↔ (xs.drop o).take kz.length = (ys.drop o).take kz.length) := by
              intro l
              induction l with
              | nil =>
                intro o kz hl ka _ _ _
                unfold flatFs at hl
                injection hl with hl; subst hl
                exact ⟨true, by simp [Op.eqFields], by simp⟩
              | cons f l ihl =>
                intro o kz hl ka hxa hya ho
                unfold flatFs at hl
                split at hl
                · cases hl
                · rename_i kf hff
                  split at hl
                  · rename_i hfn
                    obtain ⟨kr, hr, rfl⟩ := Option.map_eq_some_iff.1 hl
                    have lx : xs.length = o + (kf.length + kr.length) := by rw [hxa.1]; simp; omega
                    have ly : ys.length = o + (kf.length + kr.length) := by rw [hya.1]; simp; omega
                    obtain ⟨r, h1, h2⟩ := ihl (o + kf.length) kr hr (ka ++ kf) (by rw [List.append_assoc]; exact hxa) (by rw [List.append_assoc]; exact hya) (by simp; omega)
                    have kx := hxa.split.2.split.1
                    have ky := hya.split.2.split.1
                    rw [ho] at kx ky
                    obtain ⟨r', h3, h4⟩ := ih hff d w _ _ kx ky
                    simp only [Op.eqFields, if_pos hfn.2, Sem.run_bind, hfn.1, flat_part hff xs o (by omega) w, flat_part hff ys o (by omega) w, Result.andThen_ok, h3]
                    rw [List.length_append, two_parts (by omega) (by omega)]
                    cases r' with
                    | true => exact ⟨r, by simpa using h1, by simp [h2, h4.1 rfl]⟩
                    | false => exact ⟨false, by simp, by simpa using fun h => absurd (h4.2 h) (by simp)⟩
                  · cases hl
            obtain ⟨r, h1, h2⟩ := key fs.toList 0 ks' hf [] hx hy rfl
            refine ⟨r, h1, ?_⟩
            rwa [List.drop_zero, List.drop_zero, List.take_of_length_le (Nat.le_of_eq hx.1), List.take_of_length_le (Nat.le_of_eq hy.1)] at h2
          · cases h
      · cases h
variable {B : Nat} {E : Env} {dst : Option Tmp} {ty : TypeId} {pos : String} {after : Array Edge} {guard : Option (Nat × Bool)}
theorem equal_flat {t : TypeId} {ks : List IntKind} (n : Nat) (hf : flat P n t = some ks) (hn : n ≤ 10000) (hg : isAggT P t = true) {xs ys : List Value} (hx : Kin (fun _ _ => True) ks xs) (hy : Kin (fun _ _ => True) ks ys) (b : Bool) (hb : b = true ↔ xs = ys) (w : World) :
    (Op.equalIn 10000 t (.agg xs.toArray) (.agg ys.toArray)).run P w = .ok b w := by
  obtain ⟨r, hr, hri⟩ := flat_eq (P := P) n hf (10000 - n) w xs ys hx hy
  unfold packT at hr
  rw [hg, if_pos rfl, if_pos rfl, Nat.sub_add_cancel hn] at hr
  have : r = b := by
    rw [← hb] at hri
    cases r <;> cases b <;> simp_all
  rw [← this]; exact hr
/-- Two values of such a type that have several cells: whether they are equal. -/
theorem ok_eqlT {t t' : TypeId} {ks : List IntKind} {x y : Operand} {xs ys : List Value} (n : Nat) (b : Bool) (hf : flat P n t = some ks) (hn : n ≤ 10000) (hg : isAggT P t = true) (hm : P.eqGuardType P.depth t = false) (hx : E.at x = some (.v (aggV xs))) (hy : E.at y = some (.v (aggV ys)))
    (hkx : Kin (fun _ _ => True) ks xs) (hky : Kin (fun _ _ => True) ks ys) (hb : b = true ↔ xs = ys) : OpOk P B ⟨dst, .binOp .eql t x y t', ty, pos, after, guard⟩ E (.v (.bool b)) := fun ρ w _ _ hρ => by
  have h1 : ρ x = .agg xs.toArray := hρ x (by simp [Op.operands]) _ hx
  have h2 : ρ y = .agg ys.toArray := hρ y (by simp [Op.operands]) _ hy
  have := equal_flat (P := P) n hf hn hg hkx hky b hb w
  exact out_val (w' := w) (by simp [execOp, h1, h2, Sem.run_bind, run_eqGuard_agg, hm, run_eql_struct, this]) ⟨Grow.refl w, rfl⟩
theorem ok_neqT {t t' : TypeId} {ks : List IntKind} {x y : Operand} {xs ys : List Value} (n : Nat) (b : Bool) (hf : flat P n t = some ks) (hn : n ≤ 10000) (hg : isAggT P t = true) (hm : P.eqGuardType P.depth t = false) (hx : E.at x = some (.v (aggV xs))) (hy : E.at y = some (.v (aggV ys)))
    (hkx : Kin (fun _ _ => True) ks xs) (hky : Kin (fun _ _ => True) ks ys) (hb : b = true ↔ xs = ys) : OpOk P B ⟨dst, .binOp .neq t x y t', ty, pos, after, guard⟩ E (.v (.bool (!b))) := fun ρ w _ _ hρ => by
  have h1 : ρ x = .agg xs.toArray := hρ x (by simp [Op.operands]) _ hx
  have h2 : ρ y = .agg ys.toArray := hρ y (by simp [Op.operands]) _ hy
  have := equal_flat (P := P) n hf hn hg hkx hky b hb w
  exact out_val (w' := w) (by simp [execOp, h1, h2, Sem.run_bind, run_eqGuard_agg, hm, run_neq_struct, this]) ⟨Grow.refl w, rfl⟩
end
theorem kin_nil : Kin (fun _ _ => True) [] [] := ⟨rfl, fun i k h => by simp at h⟩
theorem kin_cons {k : IntKind} {n : Int} {ks : List IntKind} {xs : List Value} (h : Kin (fun _ _ => True) ks xs) : Kin (fun _ _ => True) (k :: ks) (.int k n :: xs) :=
  Kin.join (a := [k]) (xs := [.int k n]) ⟨rfl, fun i k' h' => by
    match i, h' with
    | 0, h' => simp at h'; subst h'; exact ⟨n, rfl, trivial⟩
    | i + 1, h' => simp at h'⟩ h

/-! ### Parameters -/
section
variable {H : Type} {enc : TypeId × Value → H} {P : Program} {w : World} {base : Nat} {spare : Nat → Bool} {held : Bool}
theorem trod_flat : ∀ (n : Nat) {t : TypeId} {ks : List IntKind}, flat P n t = some ks → ∀ {fuel : Nat} {cs : List Value} {x : DataW H × List MemPlace}, DataW.trod enc P w base spare held fuel t cs = some x → Kin (fun k m => (Lit.int k m).wf = true) ks cs := by
  intro n
  induction n with
  | zero => intro t ks h; cases h
  | succ n ih =>
    intro t ks h fuel cs x ht
    have hks := flat_cells h
    unfold flat at h
    split at h
    · cases h
    · split at h
      · rename_i k hu
        split at h
        · injection h with h; subst h
          obtain ⟨a, rfl, _, h3⟩ := DataW.trod_int hu ht
          exact ⟨rfl, fun i k' hk => by
            match i, hk with
            | 0, hk => simp at hk; subst hk; exact ⟨a, rfl, h3⟩
            | i + 1, hk => simp at hk⟩
        · cases h
      · rename_i len e hu
        split at h
        · cases h
        · rename_i ks' hf
          split at h
          · injection h with h; subst h
            obtain ⟨xs, m, _, _, hlen, hxl, hel⟩ := DataW.trod_array hu ht
            obtain ⟨hc, hp⟩ := flat_cells hf
            have hl : cs.length = len * ks'.length := by rw [hlen, hks.1, rep_length]
            refine ⟨by rw [hl, rep_length], fun i k hk => ?_⟩
            have hi : i < len * ks'.length := by rw [← rep_length]; exact (List.getElem?_eq_some_iff.1 hk).1
            have hj : i / ks'.length < len := (Nat.div_lt_iff_lt_mul hp).2 hi
            have h1 := hel (i / ks'.length) hj
            rw [List.getElem?_eq_getElem (by omega), hc] at h1
            have h2 := ih hf h1
            have hr : ∀ (m j : Nat), j < m * ks'.length → (List.replicate m ks').flatten[j]? = ks'[j % ks'.length]? := by
              intro m
              induction m with
              | zero => intro j hj; simp at hj
              | succ m ihm =>
                intro j hj
                rw [List.replicate_succ, List.flatten_cons]
                rcases Nat.lt_or_ge j ks'.length with h | h
                · rw [List.getElem?_append_left h, Nat.mod_eq_of_lt h]
                · rw [List.getElem?_append_right h, ihm _ (by rw [Nat.succ_mul] at hj; omega), Nat.mod_eq_sub_mod h]
            rw [hr len i hi] at hk
            obtain ⟨a, h3, h4⟩ := h2.2 _ k hk
            refine ⟨a, ?_, h4⟩
            rw [List.getElem?_take, if_pos (Nat.mod_lt _ hp), List.getElem?_drop, Nat.mul_comm, Nat.div_add_mod] at h3
            exact h3
          · cases h
      · rename_i fs hu
        split at h
        · cases h
        · rename_i ks' hf
          split at h
          · injection h with h; subst h
            obtain ⟨xs, m, _, _, hlen, hxl, hel⟩ := DataW.trod_struct hu ht
            have key : ∀ (l : List Field) (o j : Nat) (kz : List IntKind), flatFs (flat P n) l o = some kz → fs.toList.drop j = l → o + kz.length = cs.length → Kin (fun k m => (Lit.int k m).wf = true) kz (cs.drop o) := by
              intro l
              induction l with
              | nil =>
                intro o j kz hl _ ho
                unfold flatFs at hl
                injection hl with hl; subst hl
                simp only [List.length_nil, Nat.add_zero] at ho
                exact ⟨by simp [ho], fun i k h => by simp at h⟩
              | cons f l ihl =>
                intro o j kz hl hd ho
                unfold flatFs at hl
                split at hl
                · cases hl
                · rename_i kf hff
                  split at hl
                  · rename_i hfn
                    obtain ⟨kr, hr, rfl⟩ := Option.map_eq_some_iff.1 hl
                    simp only [List.length_append] at ho
                    have hj : j < fs.size := by
                      rcases Nat.lt_or_ge j fs.size with h | h
                      · exact h
                      · rw [List.drop_eq_nil_of_le (by simpa using h)] at hd; cases hd
                    have hfj : fs[j]? = some f := by
                      have := congrArg (·[0]?) hd
                      simp only [List.getElem?_drop, Nat.add_zero, List.getElem?_cons_zero] at this
                      simpa using this
                    have h1 := hel j f hfj
                    rw [List.getElem?_eq_getElem (by omega), (flat_cells hff).1, hfn.1] at h1
                    have h2 := ih hff h1
                    have h3 := ihl (o + kf.length) (j + 1) kr hr (by
                      rw [← List.drop_drop, hd]; rfl) (by omega)
                    have : cs.drop o = (cs.drop o).take kf.length ++ cs.drop (o + kf.length) := by
                      rw [← List.drop_drop, List.take_append_drop]
                    rw [this]
                    exact h2.join h3
                  · cases hl
            have := key fs.toList 0 0 ks' hf rfl (by omega)
            simpa using this
          · cases h
      · cases h
theorem okWide_agg {t : TypeId} {v : Value} {r : Reach} {b0 : Nat} (hg : isAggT P t = true) (hk : Value.okWide P w r b0 t v) : ∃ cs, v = .agg cs := by
  unfold isAggT at hg
  split at hg
  · rename_i fs hu
    obtain ⟨cs, rfl, _⟩ := okWide_struct hu hk
    exact ⟨cs, rfl⟩
  · rename_i hu
    exact okWide_arr' hu hk
  · cases hg
/-- A parameter of several cells. -/
theorem arg_flat {t : TypeId} {ks : List IntKind} {v : Value} {d : DataW H} {ps : List MemPlace} (n : Nat) (hf : flat P n t = some ks) (hg : isAggT P t = true) {r : Reach} {b0 : Nat} (hk : Value.okWide P w r b0 t v)
    (h : DataW.Trod enc P w base spare held t v d ps) : ∃ xs, v = aggV xs ∧ Kin (fun k m => (Lit.int k m).wf = true) ks xs := by
  obtain ⟨cs, rfl⟩ := okWide_agg hg hk
  obtain ⟨fuel, hf'⟩ := h
  exact ⟨cs.toList, by simp [aggV], trod_flat n hf hf'⟩
theorem nat_u32 {n : Int} (h : (Lit.int .u32 n).wf = true) : ∃ a : Nat, n = (a : Int) ∧ a < 4294967296 := ⟨n.toNat, by have := bounds_u32 h; omega, by have := bounds_u32 h; omega⟩
theorem nat_u64 {n : Int} (h : (Lit.int .u64 n).wf = true) : ∃ a : Nat, n = (a : Int) ∧ a < 18446744073709551616 := ⟨n.toNat, by have := bounds_u64 h; omega, by have := bounds_u64 h; omega⟩
/-- Cells that are bytes. -/
theorem Kin.bytes : ∀ {m : Nat} {xs : List Value}, Kin (fun k n => (Lit.int k n).wf = true) (List.replicate m .u8) xs → ∃ l : List UInt8, l.length = m ∧ xs = l.map byteV
  | 0, xs, h => ⟨[], rfl, h.nil⟩
  | m + 1, xs, h => by
    rw [List.replicate_succ] at h
    obtain ⟨n, y, rfl, h1, h2⟩ := h.cons
    obtain ⟨l, h3, rfl⟩ := Kin.bytes h2
    exact ⟨UInt8.ofNat n.toNat :: l, by simp [h3], by rw [List.map_cons, ← wf_u8 h1]⟩
end
end Go.Proofs.Ythhmimnkfklhdaa
namespace Go.Proofs.Ythhmimnkfklhdaa
open Go Go.RowKit
variable {κ : Cx}

/-- The value v is an own row. -/
def ownM (base : Nat) (v : Value) (e : TypeId) (n : Nat) (xs : List Value) : D :=
  .p (fun B w _ => (own base e n xs).OfB B w v) (fun _ _ _ _ g h => D.OfB.keep h g) (fun _ _ _ _ g h => D.OfB.up h g)
def Disj (v u : Value) : Prop := ∀ g, v.ownBlock = some g → u.ownBlock ≠ some g
theorem Disj.symm {v u : Value} (h : Disj v u) : Disj u v := fun g hu hv => h g hv hu
theorem Disj.nil (u : Value) : Disj (.slice none 0 0) u := fun g h => by simp [Value.ownBlock] at h
theorem Surv.ownM {B T g base n : Nat} {e : TypeId} {u : Value} {xs : List Value} (h : u.ownBlock ≠ some g) : Surv B T g (Go.Proofs.Ythhmimnkfklhdaa.ownM base u e n xs) := fun w w' _ k ⟨h1, h2⟩ => by
  obtain ⟨h3, h4⟩ := h1
  refine ⟨⟨h3, h4.imp id ?_⟩, fun j hj => Nat.lt_of_lt_of_le (h2 j hj) k.size⟩
  rintro ⟨j, cap, cur, rfl, hj, hh, hr⟩
  have hne : j ≠ g := fun hb => h (by subst hb; rfl)
  exact ⟨j, cap, cur, rfl, hj, (k.other j (h2 j (by simp [Value.ownBlock])) hne).trans hh, hr⟩
theorem Surv.ownMT {B T g base n : Nat} {e : TypeId} {u : Value} {xs : List Value} (h : e ≠ T) : Surv B T g (Go.Proofs.Ythhmimnkfklhdaa.ownM base u e n xs) := fun w w' _ k hx => Surv.own (B := B) (T := T) (g := g) h w w' u k hx
section
variable {P : Program} {w₀ : World} {n : Nat} {c : Code} {E : Env} {Q : Exit → Act → World → Prop}
end
/-- An operation's fact in an environment that knows more. -/
theorem OpOk.subL {P : Program} {B : Nat} {o : Oper} {E₁ E : Env} {d : D} (hs : SubL E₁ E) (h : OpOk P B o E₁ d) : OpOk P B o E d := fun ρ w hB hv hρ => by
  have look : ∀ t e, E₁.look t = some e → ∃ e', E.look t = some e' ∧ Le e' e := fun t e he => hs (t, e) (look_mem he)
  refine h ρ w hB (fun t e ht he => ?_) fun x hx e he => ?_
  · obtain ⟨e', h1, h2⟩ := look t e he
    exact h2.of (hv t e' ht h1)
  · cases x with
    | tmp s =>
      obtain ⟨e', h1, h2⟩ := look s e he
      exact h2.of (hρ (.tmp s) hx e' h1)
    | const c => exact hρ _ hx e he
    | global g => exact hρ _ hx e he
    | func f => exact hρ _ hx e he
/-- A new block's number: above the base, and no named block's or row's. -/
def NewV (B : Nat) (E : Env) (g : Nat) : Prop := B ≤ g ∧ (∀ s b' e xs, E.look s = some (blk b' e xs) → b' < g) ∧ ∀ s B' v e n xs, E.look s = some (ownM B' v e n xs) → v.ownBlock ≠ some g
/-- What an append makes of a row's value. -/
def Step (B : Nat) (E : Env) (v v' : Value) : Prop := v'.ownBlock = v.ownBlock ∨ ∃ g, v'.ownBlock = some g ∧ NewV B E g
theorem Disj.step {B : Nat} {E : Env} {v v' u : Value} {s B' n : Nat} {e : TypeId} {xs : List Value} (hs : Step B E v v') (hd : Disj v u) (hu : E.look s = some (ownM B' u e n xs)) : Disj v' u := fun g hg => by
  rcases hs with h | ⟨g', h, hn⟩
  · exact hd g (h ▸ hg)
  · rw [h] at hg; injection hg with hg; subst hg
    exact hn.2.2 s _ _ _ _ _ hu
end Go.Proofs.Ythhmimnkfklhdaa
namespace Go.Proofs.Ythhmimnkfklhdaa
open Go Go.RowKit
section
variable {P : Program} {n B : Nat} {ops : Array Oper} {E : Env} {ty : TypeId} {pos : String} {after : Array Edge}
/-- Blocks that the environment knows whole. -/
def Named (E : Env) (L : List Nat) : Prop := ∀ b ∈ L, ∃ s e xs, vbase ≤ s ∧ E.look s = some (blk b e xs)
theorem Named.nil : Named E [] := fun _ h => by cases h
theorem Named.cons {b s : Nat} {e : TypeId} {xs : List Value} {L : List Nat} (hs : vbase ≤ s) (h : E.look s = some (blk b e xs)) (hr : Named E L) : Named E (b :: L) := fun b' hb => by
  rcases List.mem_cons.1 hb with rfl | hb
  · exact ⟨s, e, xs, hs, h⟩
  · exact hr b' hb
/-- A pointer to a block of its own, above the blocks L. -/
def freshV (base : Nat) (L : List Nat) (T : TypeId) (zs : List Value) : D :=
  .p (fun B w x => ∃ b, x = .pointer (some ⟨b, 0, none⟩) ∧ base ≤ b ∧ (∀ b' ∈ L, b' < b) ∧ b < B ∧ w.heap[b]? = some (.cells zs.toArray T (0, 0)))
    (fun _ _ _ _ g ⟨b, h1, h2, h3, h4, h5⟩ => ⟨b, h1, h2, h3, h4, (g.block b h4).trans h5⟩) (fun _ _ _ _ g ⟨b, h1, h2, h3, h4, h5⟩ => ⟨b, h1, h2, h3, by omega, h5⟩)
theorem ok_allocF {dst : Option Tmp} {guard : Option (Nat × Bool)} {T : TypeId} {zs : List Value} (L : List Nat) (hz : ZeroIs P T zs) (hL : Named E L) : OpOk P B ⟨dst, .alloc T, ty, pos, after, guard⟩ E (freshV B L T zs) := fun ρ w hB hv _ => by
  obtain ⟨i, z, hi, hz, hc⟩ := hz.get
  refine out_val (x := .pointer (some ⟨w.heap.size, 0, none⟩)) (w' := w.alloc (.cells zs.toArray T)) (by simp [execOp, Instr.alloc, zeroValue, typeInfo, hi, hz, newVar, newRow, hc]) ⟨Grow.alloc w _, w.heap.size, rfl, hB, fun b' hb' => ?_, by simp, heap_alloc_new w _⟩
  obtain ⟨s, e, xs, hs, hl⟩ := hL b' hb'
  exact (hv s _ hs hl).1
end
end Go.Proofs.Ythhmimnkfklhdaa
namespace Go.Proofs.Ythhmimnkfklhdaa
open Go Go.RowKit

/-- Memory grows, and blocks from m on may be marked. -/
structure Marks (m : Nat) (w w' : World) : Prop where
  os : w'.os = w.os
  tape : w'.tape = w.tape
  output : w'.output = w.output
  size : w.heap.size ≤ w'.heap.size
  block : ∀ k o, w.heap[k]? = some o → w'.heap[k]? = some o ∨ (m ≤ k ∧ ∃ cs e fr fr', o = .cells cs e fr ∧ w'.heap[k]? = some (.cells cs e fr'))
theorem Marks.of {m : Nat} {w w' : World} (h : Grow w w') : Marks m w w' := ⟨h.os, h.tape, h.output, h.size, fun k _ hk => .inl ((h.block k (Array.getElem?_eq_some_iff.1 hk).1).trans hk)⟩
theorem Marks.below {m : Nat} {w w' : World} (h : Marks m w w') (hm : m ≤ w.heap.size) : Below m w w' := ⟨h.os, h.tape, h.output, h.size, fun k hk => by
  have hlt : k < w.heap.size := by omega
  rcases h.block k _ (Array.getElem?_eq_getElem hlt) with h1 | ⟨h1, _⟩
  · rw [h1, Array.getElem?_eq_getElem hlt]
  · omega⟩
theorem Marks.cell {m : Nat} {w w' : World} (h : Marks m w w') {a : Addr} {v : Value} (hc : w.cell? a = some v) : w'.cell? a = some v := by
  unfold World.cell? at hc ⊢
  cases hb : w.heap[a.block]? with
  | none => rw [hb] at hc; cases hc
  | some o =>
    rw [hb] at hc
    rcases h.block _ _ hb with h1 | ⟨_, cs, e, fr, fr', rfl, h1⟩
    · rw [h1]; exact hc
    · rw [h1]; exact hc

/-- The fact is left alone by marks. -/
class StbM (d : D) : Prop where
  st : ∀ m w w' B x, Marks m w w' → d.OfB B w x → d.OfB B w' x
instance (x : Value) : StbM (.v x) := ⟨fun _ _ _ _ _ _ h => h⟩
class StbL (ds : List D) : Prop where
  st : ∀ (j : Nat) (d : D), ds[j]? = some d → StbM d
instance : StbL [] := ⟨fun _ _ h => by simp at h⟩
instance (d : D) (ds : List D) [hd : StbM d] [hl : StbL ds] : StbL (d :: ds) := ⟨fun j e h => by
  cases j with
  | zero => simp at h; subst h; exact hd
  | succ j => exact hl.st j e (by simpa using h)⟩
instance (l : List UInt8) : StbL (l.map byteD) := ⟨fun j d h => by
  simp only [List.getElem?_map, Option.map_eq_some_iff] at h
  obtain ⟨b, _, rfl⟩ := h
  exact inferInstanceAs (StbM (.v _))⟩
instance (b : UInt8) : StbM (byteD b) := inferInstanceAs (StbM (.v _))
theorem ListF.mark {ds : List D} [hl : StbL ds] {c B m : Nat} {w w' : World} {x : Value} (k : Marks m w w') : ListF ds c B w x → ListF ds c B w' x :=
  fun ⟨A, vs, h1, h2, h3, h4, h5, h6⟩ => ⟨A, vs, h1, h2, h3, h4, fun j u hu => by
    obtain ⟨ad, g1, g2, g3⟩ := h5 j u hu
    exact ⟨ad, g1, g2, k.cell g3⟩, fun j d u hd hu => (hl.st j d hd).st m w w' B u k (h6 j d u hd hu)⟩
instance (ds : List D) (c : Nat) [StbL ds] : StbM (list ds c) := ⟨fun _ _ _ _ _ k h => ListF.mark k h⟩
instance (ds : List D) [StbL ds] : StbM (lst ds) := ⟨fun _ _ _ _ _ k ⟨c, h⟩ => ⟨c, ListF.mark k h⟩⟩
instance (l : List UInt8) (c : Nat) : StbM (bytes l c) := inferInstanceAs (StbM (list _ c))
instance (l : List UInt8) : StbM (byt l) := inferInstanceAs (StbM (lst _))
/-- A slice over a block from m on. -/
def newL (m : Nat) (ds : List D) (c : Nat) : D := .p (fun B w x => (∃ (a : Addr) (len : Nat), x = .slice (some a) len c ∧ m ≤ a.block ∧ a.block < B) ∧ ListF ds c B w x) (fun _ _ _ _ g ⟨h1, h2⟩ => ⟨h1, h2.keep g⟩) (fun _ _ _ _ g ⟨⟨a, l, h0, h1, h2⟩, h3⟩ => ⟨⟨a, l, h0, h1, by omega⟩, h3.up g⟩)
instance (m : Nat) (ds : List D) (c : Nat) [StbL ds] : StbM (newL m ds c) := ⟨fun _ _ _ _ _ k ⟨h1, h2⟩ => ⟨h1, ListF.mark k h2⟩⟩
/-! ### Operations -/
def OpOkM (P : Program) (m B : Nat) (o : Oper) (E : Env) (d : D) : Prop :=
  ∀ (ρ : Operand → Value) (w : World), B ≤ w.heap.size → m ≤ w.heap.size → (∀ t e, vbase ≤ t → E.look t = some e → e.Of w undef) → (∀ x, x ∈ o.op.operands → ∀ e, E.at x = some e → e.Of w (ρ x)) → Out P o ρ w fun x w' => Marks m w w' ∧ d.Of w' x
theorem OpOk.m {P : Program} {m B : Nat} {o : Oper} {E : Env} {d : D} (h : OpOk P B o E d) : OpOkM P m B o E d := fun ρ w hB _ hv hρ => (h ρ w hB hv hρ).mono fun _ _ hx => ⟨Marks.of hx.1, hx.2⟩
section
variable {P : Program} {m B : Nat} {E : Env} {dst : Option Tmp} {ty : TypeId} {pos : String} {after : Array Edge} {guard : Option (Nat × Bool)}
end

/-! ### Regions -/
def GoodM (P : Program) (m B : Nat) (ops : Array Oper) (o : Oper) (E : Env) (d : D) : Prop :=
  (GuardIs ops E o true ∧ OpOkM P m B o E d) ∨ (GuardIs ops E o false ∧ d = .v undef)
inductive TraceM (P : Program) (m B : Nat) (ops : Array Oper) : List Oper → Env → List D → Env → Prop
  | nil {E : Env} : TraceM P m B ops [] E [] E
  | cons {o : Oper} {rest : List Oper} {E E' : Env} {t : Nat} {d : D} {ds : List D} (ht : o.dst = some t) (hg : GoodM P m B ops o E d) (hs : StbM d) (hr : TraceM P m B ops rest ((t, d) :: E) ds E') : TraceM P m B ops (o :: rest) E (d :: ds) E'
/-- The region's text from here on, and what is to be shown in the environment at its end. -/
def RunM (P : Program) (m B : Nat) (ops : Array Oper) (rest : List Oper) (E : Env) (C : Env → Prop) : Prop := ∃ ds E', TraceM P m B ops rest E ds E' ∧ C E'
section
variable {P : Program} {m B : Nat} {ops : Array Oper} {o : Oper} {rest : List Oper} {E : Env} {C : Env → Prop} {t : Nat} {d : D}
theorem RunM.nil (h : C E) : RunM P m B ops [] E C := ⟨[], E, .nil, h⟩
theorem RunM.mk [hs : StbM d] (ht : o.dst = some t) (hg : GoodM P m B ops o E d) (hr : RunM P m B ops rest ((t, d) :: E) C) : RunM P m B ops (o :: rest) E C := by
  obtain ⟨ds, E', h1, h2⟩ := hr; exact ⟨_, _, .cons ht hg hs h1, h2⟩
theorem RunM.stepM [StbM d] (ht : o.dst = some t) (hg : o.guard = none) (h : OpOkM P m B o E d) (hr : RunM P m B ops rest ((t, d) :: E) C) : RunM P m B ops (o :: rest) E C :=
  .mk ht (.inl ⟨by simp [GuardIs, hg], h⟩) hr
theorem RunM.step [StbM d] (ht : o.dst = some t) (hg : o.guard = none) (h : OpOk P B o E d) (hr : RunM P m B ops rest ((t, d) :: E) C) : RunM P m B ops (o :: rest) E C := .stepM ht hg h.m hr
theorem RunM.guardedM [StbM d] {j : Nat} {want : Bool} {s : Nat} (ht : o.dst = some t) (hg : o.guard = some (j, want)) (hj : ((ops[j]?).bind (·.dst)) = some s) (hE : E.look s = some (.v (.bool want))) (h : OpOkM P m B o E d) (hr : RunM P m B ops rest ((t, d) :: E) C) : RunM P m B ops (o :: rest) E C :=
  .mk ht (.inl ⟨by simp only [GuardIs, hg]; exact ⟨s, hj, .inl ⟨want, hE, by cases want <;> rfl⟩⟩, h⟩) hr
theorem RunM.guarded [StbM d] {j : Nat} {want : Bool} {s : Nat} (ht : o.dst = some t) (hg : o.guard = some (j, want)) (hj : ((ops[j]?).bind (·.dst)) = some s) (hE : E.look s = some (.v (.bool want))) (h : OpOk P B o E d) (hr : RunM P m B ops rest ((t, d) :: E) C) : RunM P m B ops (o :: rest) E C := .guardedM ht hg hj hE h.m hr
theorem RunM.skipped {j : Nat} {want c : Bool} {s : Nat} (ht : o.dst = some t) (hg : o.guard = some (j, want)) (hj : ((ops[j]?).bind (·.dst)) = some s) (hE : E.look s = some (.v (.bool c))) (hc : (c == want) = false) (hr : RunM P m B ops rest ((t, .v undef) :: E) C) : RunM P m B ops (o :: rest) E C :=
  .mk ht (.inr ⟨by simp only [GuardIs, hg]; exact ⟨s, hj, .inl ⟨c, hE, hc.symm⟩⟩, rfl⟩) hr
theorem RunM.as (x : Value) {y : Value} (h : y = x) (hr : RunM P m B ops rest ((t, .v x) :: E) C) : RunM P m B ops rest ((t, .v y) :: E) C := h ▸ hr
end
theorem TraceM.nth {P : Program} {m B : Nat} {ops : Array Oper} {rest : List Oper} {E E' : Env} {ds : List D} (h : TraceM P m B ops rest E ds E') : ∀ {i : Nat} {o : Oper}, rest[i]? = some o →
    ∃ t d Ei, o.dst = some t ∧ ds[i]? = some d ∧ GoodM P m B ops o Ei d ∧ ∀ s e, Ei.look s = some e →
      (∃ j o', j < i ∧ rest[j]? = some o' ∧ o'.dst = some s ∧ ds[j]? = some e) ∨ ((∀ j o', j < i → rest[j]? = some o' → o'.dst ≠ some s) ∧ E.look s = some e) := by
  induction h with
  | nil => intro i o hi; simp at hi
  | @cons o0 rest E E' t0 d0 ds ht hg hs hr ih =>
    intro i o hi
    cases i with
    | zero =>
      simp at hi; subst hi
      exact ⟨t0, d0, E, ht, rfl, hg, fun s e he => .inr ⟨fun j _ hj => by omega, he⟩⟩
    | succ i =>
      obtain ⟨t, d, Ei, h1, h2, h3, h4⟩ := ih (i := i) (by simpa using hi)
      refine ⟨t, d, Ei, h1, by simpa using h2, h3, fun s e he => ?_⟩
      rcases h4 s e he with ⟨j, o', hj, ho', hd, hds⟩ | ⟨hno, hl⟩
      · exact .inl ⟨j + 1, o', by omega, by simpa using ho', hd, by simpa using hds⟩
      · by_cases hs : t0 = s
        · subst hs
          rw [look_here] at hl
          exact .inl ⟨0, o0, by omega, rfl, ht, by simpa using hl⟩
        · rw [look_past _ _ hs] at hl
          refine .inr ⟨fun j o' hj ho' => ?_, hl⟩
          cases j with
          | zero => simp at ho'; subst ho'; rw [ht]; intro h; injection h with h; exact hs h
          | succ j => exact hno j o' (by omega) (by simpa using ho')
theorem TraceM.last {P : Program} {m B : Nat} {ops : Array Oper} {rest : List Oper} {E E' : Env} {ds : List D} (h : TraceM P m B ops rest E ds E') : ∀ s e, E'.look s = some e →
      (∃ (j : Nat) (o' : Oper), rest[j]? = some o' ∧ o'.dst = some s ∧ ds[j]? = some e) ∨ ((∀ (j : Nat) (o' : Oper), rest[j]? = some o' → o'.dst ≠ some s) ∧ E.look s = some e) := by
  induction h with
  | nil => intro s e he; exact .inr ⟨fun j _ hj => by simp at hj, he⟩
  | @cons o0 rest E E' t0 d0 ds ht hg hs hr ih =>
    intro s e he
    rcases ih s e he with ⟨j, o', ho', hd, hds⟩ | ⟨hno, hl⟩
    · exact .inl ⟨j + 1, o', by simpa using ho', hd, by simpa using hds⟩
    · by_cases hs : t0 = s
      · subst hs
        rw [look_here] at hl
        exact .inl ⟨0, o0, rfl, ht, by simpa using hl⟩
      · rw [look_past _ _ hs] at hl
        refine .inr ⟨fun j o' ho' => ?_, hl⟩
        cases j with
        | zero => simp at ho'; subst ho'; rw [ht]; intro h; injection h with h; exact hs h
        | succ j => exact hno j o' (by simpa using ho')
section
variable {P : Program} {B : Nat} {ops : Array Oper} {Q : Exit → Act → World → Prop} {κ : Cx}
end
/-! ### Constants in a region whose order is the text's: the conversion is an effect -/
/-- A slice of constant bytes over a block of the call's own. -/
def newT (B : Nat) (e : TypeId) (l : List UInt8) (c : Nat) : D := .p (fun B' w x => (∃ (a : Addr) (len : Nat) (cs : Array Value) (fr : Nat × Nat), x = .slice (some a) len c ∧ B ≤ a.block ∧ a.block < B' ∧ w.heap[a.block]? = some (.cells cs e fr)) ∧ ListF (l.map byteD) c B' w x)
  (fun _ _ _ _ g ⟨⟨a, len, cs, fr, h0, h1, h2, h3⟩, h4⟩ => ⟨⟨a, len, cs, fr, h0, h1, h2, (g.block _ h2).trans h3⟩, h4.keep g⟩)
  (fun _ _ _ _ g ⟨⟨a, len, cs, fr, h0, h1, h2, h3⟩, h4⟩ => ⟨⟨a, len, cs, fr, h0, h1, by omega, h3⟩, h4.up g⟩)
instance (B : Nat) (e : TypeId) (l : List UInt8) (c : Nat) : StbM (newT B e l c) := ⟨fun m w w' B' x k ⟨⟨a, len, cs, fr, h0, h1, h2, h3⟩, h4⟩ => ⟨by
  rcases k.block _ _ h3 with h | ⟨_, cs', e', fr', fr'', h5, h⟩
  · exact ⟨a, len, cs, fr, h0, h1, h2, h⟩
  · injection h5 with h6 h7 h8
    subst h6; subst h7
    exact ⟨a, len, _, _, h0, h1, h2, h⟩, ListF.mark k h4⟩⟩
theorem Surv.newT {B T g base : Nat} {e : TypeId} {l : List UInt8} {c : Nat} (h : e ≠ T) : Surv B T g (Go.Proofs.Ythhmimnkfklhdaa.newT base e l c) := fun w w' x k ⟨⟨a, len, cs, fr, h0, h1, h2, h3⟩, A, vs, g1, g2, g3, g4, g5, g6⟩ => by
  have hne : a.block ≠ g := fun hb => h (by subst hb; exact k.row _ _ _ h3)
  have hsame : w'.heap[a.block]? = w.heap[a.block]? := k.other _ h2 hne
  refine ⟨⟨a, len, cs, fr, h0, h1, Nat.lt_of_lt_of_le h2 k.size, hsame.trans h3⟩, A, vs, g1, g2, g3, g4, fun j u hu => ?_, fun j d u hd hu => ?_⟩
  · obtain ⟨ad, e1, e2, e3⟩ := g5 j u hu
    refine ⟨ad, e1, Nat.lt_of_lt_of_le e2 k.size, ?_⟩
    have hab : ad = a := by
      subst e1; rw [h0] at g1; injection g1 with g1; injection g1 with g1; exact g1.symm
    subst hab
    unfold World.cell? at e3 ⊢
    have hbl : (ad.add j).block = ad.block := by unfold Addr.add; try split <;> rfl
    rw [hbl] at e3 ⊢
    rw [hsame]; exact e3
  · have h9 := g6 j d u hd hu
    simp only [List.getElem?_map, Option.map_eq_some_iff] at hd
    obtain ⟨b, _, rfl⟩ := hd
    exact h9
def SurvM (B T g : Nat) (d : D) : Prop := ∀ w w' x, Wrote B T g w w' → Marks B w w' → d.Of w x → d.Of w' x
theorem SurvM.of {B T g : Nat} {d : D} (h : Surv B T g d) : SurvM B T g d := fun w w' x k _ hx => h w w' x k hx
def LeftM (B T g : Nat) (E' E : Env) : Prop := ∀ p ∈ E', E.look p.1 = some p.2 ∧ SurvM B T g p.2
theorem LeftM.nil {B T g : Nat} {E : Env} : LeftM B T g [] E := fun _ h => by cases h
theorem LeftM.cons {B T g : Nat} {E E' : Env} {t : Nat} {d : D} (h : E.look t = some d) (hs : SurvM B T g d) (hr : LeftM B T g E' E) : LeftM B T g ((t, d) :: E') E := fun p hp => by
  rcases List.mem_cons.1 hp with rfl | hp
  · exact ⟨h, hs⟩
  · exact hr p hp
end Go.Proofs.Ythhmimnkfklhdaa
namespace Go.Proofs.Ythhmimnkfklhdaa
open Go Go.RowKit
variable {κ : Cx}

theorem St.push {n B : Nat} {E : Env} {a : Act} {w : World} {t : Nat} {d : D} (h : St κ n B E a w) (hd : d.Of w (a.tmps.getD t undef)) : St κ n B ((t, d) :: E) a w :=
  ⟨h.base, h.defers, h.size, fun s e he => by
    by_cases hts : t = s
    · subst hts
      rw [look_here] at he; injection he with he; subst he; exact hd
    · rw [look_past _ _ hts] at he
      exact h.of s e he⟩

/-! ### A variable that holds something of which d is known -/
theorem Firm.own {l base n : Nat} {e : TypeId} {xs : List Value} : Firm l (Go.Proofs.Ythhmimnkfklhdaa.own base e n xs) := fun w o o' x hl ho ⟨h1, h2⟩ => by
  obtain ⟨h3, h4⟩ := h1
  refine ⟨⟨h3, h4.imp id ?_⟩, fun j hj => by simpa using h2 j hj⟩
  rintro ⟨j, cap, cur, rfl, hj, hh, hr⟩
  have hne : j ≠ l := fun hb => by subst hb; rw [hh] at hl; injection hl with hl; subst hl; cases ho
  exact ⟨j, cap, cur, rfl, hj, (World.putObj_heap_other hne).trans hh, hr⟩
theorem Firm.ownM {l base n : Nat} {v : Value} {e : TypeId} {xs : List Value} : Firm l (Go.Proofs.Ythhmimnkfklhdaa.ownM base v e n xs) := fun w o o' _ hl ho h => Firm.own w o o' v hl ho h
theorem Firm.list {l c : Nat} {ds : List D} (hd : ∀ d ∈ ds, Firm l d) : Firm l (Go.Proofs.Ythhmimnkfklhdaa.list ds c) := fun w o o' x hl ho ⟨A, vs, h1, h2, h3, h4, h5, h6⟩ =>
  ⟨A, vs, h1, h2, h3, h4, fun j u hu => by
    obtain ⟨ad, g1, g2, g3⟩ := h5 j u hu
    refine ⟨ad, g1, by simpa using g2, ?_⟩
    have hne : (ad.add j).block ≠ l := fun hb => by
      unfold World.cell? at g3
      rw [hb, hl] at g3
      cases o <;> simp_all [Obj.isCells]
    unfold World.cell? at g3 ⊢
    rw [World.putObj_heap_other hne]; exact g3, fun j d u hd' hu => hd d (List.mem_of_getElem? hd') w o o' u hl ho (h6 j d u hd' hu)⟩
theorem Firm.bytes {l c : Nat} {xs : List UInt8} : Firm l (Go.Proofs.Ythhmimnkfklhdaa.bytes xs c) := Firm.list fun d hd => by
  obtain ⟨b, _, rfl⟩ := List.mem_map.1 hd
  exact Firm.v l _

section
variable {P : Program} {n B : Nat} {ops : Array Oper} {E : Env} {dst : Option Tmp} {ty : TypeId} {pos : String} {after : Array Edge} {guard : Option (Nat × Bool)}
end

/-! ### Functions that hold variables -/
def VArgs (E : Env) : List Value → List Operand → Prop
  | [], [] => True
  | u :: us, x :: xs => E.at x = some (.v u) ∧ VArgs E us xs
  | _, _ => False
theorem VArgs.map {E : Env} {ρ : Operand → Value} : ∀ {us : List Value} {xs : List Operand}, VArgs E us xs → (∀ x ∈ xs, ∀ v, E.at x = some (.v v) → ρ x = v) → xs.map ρ = us
  | [], [], _, _ => rfl
  | [], _ :: _, h, _ => h.elim
  | _ :: _, [], h, _ => h.elim
  | u :: us, x :: xs, ⟨h1, h2⟩, hρ => by rw [List.map_cons, hρ x List.mem_cons_self u h1, VArgs.map h2 fun y hy v hv => hρ y (List.mem_cons_of_mem _ hy) v hv]
section
variable {P : Program} {n B : Nat} {w₀ : World} {ops : Array Oper} {E : Env} {dst : Option Tmp} {ty : TypeId} {pos : String} {after : Array Edge} {guard : Option (Nat × Bool)}
theorem ok_makeFuncN {f : FuncId} {xs : Array Operand} (us : List Value) (h : VArgs E us xs.toList) : OpOk P B ⟨dst, .makeFunc (.func f) #[] xs, ty, pos, after, guard⟩ E (.v (.func (.func f) #[] us.toArray)) := fun ρ w _ _ hρ => by
  have hmem : ∀ x ∈ xs.toList, x ∈ (Op.makeFunc (.func f) #[] xs).operands := fun x hx => by
    have hx' : x ∈ xs := by simpa using hx
    simp [Op.operands, hx']
  have h1 := h.map (ρ := ρ) fun x hx v hv => hρ x (hmem x hx) _ hv
  have h2 : xs.map ρ = us.toArray := by
    apply Array.ext'
    rw [Array.toList_map]; exact h1
  exact out_val (w' := w) (by simp [execOp, h2, Instr.makeFunc]) ⟨Grow.refl w, rfl⟩
variable {f : Nat} {T₁ T₂ T₃ : TypeId} {d₁ d₂ d₃ : D}
theorem Firm.freshV {l base : Nat} {L : List Nat} {T : TypeId} {zs : List Value} : Firm l (Go.Proofs.Ythhmimnkfklhdaa.freshV base L T zs) := fun w o o' _ hl ho ⟨b, h1, h2, h3, h4, h5⟩ => by
  have hne : b ≠ l := fun hb => by subst hb; rw [h5] at hl; injection hl with hl; subst hl; cases ho
  exact ⟨b, h1, h2, h3, by simpa using h4, (World.putObj_heap_other hne).trans h5⟩
end

/-! ### A region with a base of its own, where tables stay tables -/
def OldH (B : Nat) (E' E : Env) : Prop := ∀ p ∈ E', ∃ d, E.look p.1 = some d ∧ (p.2 = d ∨ p.2 = old B d)
theorem OldH.nil {B : Nat} {E : Env} : OldH B [] E := fun _ h => by cases h
theorem OldH.same {B : Nat} {E E' : Env} {t : Nat} {d : D} (h : E.look t = some d) (hr : OldH B E' E) : OldH B ((t, d) :: E') E := fun p hp => by
  rcases List.mem_cons.1 hp with rfl | hp
  · exact ⟨_, h, .inl rfl⟩
  · exact hr p hp
theorem OldH.p {B : Nat} {E E' : Env} {t : Nat} {d : D} (h : E.look t = some d) (hr : OldH B E' E) : OldH B ((t, old B d) :: E') E := fun p hp => by
  rcases List.mem_cons.1 hp with rfl | hp
  · exact ⟨d, h, .inr rfl⟩
  · exact hr p hp
end Go.Proofs.Ythhmimnkfklhdaa
namespace Go.Proofs.Ythhmimnkfklhdaa
open Go Go.RowKit
variable {κ : Cx}

/-- Since the world w₁ nothing that was there has changed but block g. -/
def wroteD (T : TypeId) (g : Nat) (w₁ : World) : D :=
  .p (fun B w _ => w₁.heap.size ≤ B ∧ Wrote g T g w₁ w) (fun _ _ _ _ h ⟨h1, h2⟩ => ⟨h1, ⟨h2.base, h.os.trans h2.os, h.tape.trans h2.tape, h.output.trans h2.output, Nat.le_trans h2.size h.size, h2.cel, fun k hk hne => (h.block k (Nat.lt_of_lt_of_le hk h1)).trans (h2.other k hk hne)⟩⟩)
    (fun _ _ _ _ h ⟨h1, h2⟩ => ⟨Nat.le_trans h1 h, h2⟩)
/-- The world with its first g blocks alone. -/
def cutW (w : World) (g : Nat) : World := { w with heap := w.heap.extract 0 g }
theorem cutW_size {w : World} {g : Nat} (h : g ≤ w.heap.size) : (cutW w g).heap.size = g := by simp [cutW]; omega
theorem cutW_below {w : World} {g : Nat} (h : g ≤ w.heap.size) : Below (cutW w g).heap.size (cutW w g) w :=
  ⟨rfl, rfl, rfl, by rw [cutW_size h]; exact h, fun k hk => by
    rw [cutW_size h] at hk
    simp only [cutW, Array.getElem?_extract]
    rw [if_pos (by omega), Nat.zero_add]⟩

/-- A contract: block g, whose cells are xs, is left with the cells ys; the tables M lie below it. -/
structure FnW (P : Program) (f : FuncId) (M : Env) (T g : Nat) (xs ys : List Value) (ds : List D) : Prop where
  body : ∃ fn, P.funcs[f]? = some fn ∧ (fn.name == "runtime.NumGoroutine") = false ∧ fn.body.isNone = false
  calls : ∀ (vs : List Value) (w : World), vs.length = ds.length → (∀ (j : Nat) (e : D) (u : Value), ds[j]? = some e → vs[j]? = some u → e.Of w u) → (∀ p ∈ M, p.2.OfB g w undef) → g < w.heap.size → w.heap[g]? = some (.cells xs.toArray T (0, 0)) →
    Calls P f vs.toArray w fun e w' => e = .returned (.tuple #[]) ∧ Wrote g T g w w' ∧ w'.heap[g]? = some (.cells ys.toArray T (0, 0))
section
variable {P : Program} {n B : Nat} {ops : Array Oper} {E : Env} {ty : TypeId} {pos : String} {after : Array Edge}
/-- The contract out of a walk at the base of the block that is written. -/
theorem FnW.of {f : FuncId} {fn : Func} {c : Code} {M : Env} {T g kb kw : Nat} {xs ys us : List Value} (hf : P.funcs[f]? = some fn) (hb : fn.body = some c) (hname : (fn.name == "runtime.NumGoroutine") = false) (hn : fn.ntmps = n) (hds : us.length ≤ n) (hnv : n ≤ vbase)
    (hMb : ∀ p ∈ M, vbase ≤ p.1) (hkb : vbase ≤ kb) (hkw : vbase ≤ kw) (args : Env) (hargs : ∀ p ∈ args, ∃ v, p.2 = .v v ∧ us[p.1]? = some v)
    (h : ∀ w₀ w₁ : World, w₀.heap.size = g → (∀ p ∈ M, p.2.OfB w₀.heap.size w₁ undef) → A Cx.top P w₀ n c (args ++ ((kb, blk g T xs) :: (kw, wroteD T g w₁) :: M)) (BP P fn fun e w' => e = .returned (.tuple #[]) ∧ Wrote g T g w₁ w' ∧ w'.heap[g]? = some (.cells ys.toArray T (0, 0)))) :
    FnW P f M T g xs ys (us.map D.v) := by
  refine ⟨⟨fn, hf, hname, by rw [hb]; rfl⟩, fun vs w hl hv hM hlt hh => ?_⟩
  have hvs : vs = us := by
    apply List.ext_getElem?
    intro j
    simp only [List.length_map] at hl
    rcases Nat.lt_or_ge j us.length with hj | hj
    · have h1 := hv j (.v us[j]) vs[j] (by simp [hj]) (List.getElem?_eq_getElem (by omega))
      rw [List.getElem?_eq_getElem hj, List.getElem?_eq_getElem (by omega)]
      exact congrArg some h1
    · rw [List.getElem?_eq_none hj, List.getElem?_eq_none (by omega)]
  subst hvs
  have hsz := cutW_size (w := w) (g := g) (Nat.le_of_lt hlt)
  refine callsIn_FR.1 (callsIn_of_wp_marks (F := FR none) (n := 0) hf hb trivial (h (cutW w g) w hsz (by rw [hsz]; exact hM) _ w (cutW_below (Nat.le_of_lt hlt)) ⟨by rw [hsz]; omega, rfl, ?_, fun t e he => ?_⟩))
  · simp [hn]; omega
  · show e.Of w ((vs.toArray ++ Array.replicate (fn.ntmps - vs.toArray.size) undef).getD t undef)
    have hund : vbase ≤ t → (vs.toArray ++ Array.replicate (fn.ntmps - vs.toArray.size) undef).getD t undef = undef := fun ht => by
      rw [Array.getD_eq_getD_getElem?, Array.getElem?_eq_none (by simp [hn]; omega)]; rfl
    rcases List.mem_append.1 (look_mem he) with hm | hm
    · obtain ⟨v, h1, h2⟩ := hargs _ hm
      simp only at h1 h2
      have hj : t < vs.length := (List.getElem?_eq_some_iff.1 h2).1
      rw [Array.getD_eq_getD_getElem?, Array.getElem?_append_left (by simpa using hj)]
      subst h1
      simp [h2]; rfl
    · rcases List.mem_cons.1 hm with h1 | hm
      · injection h1 with h1 h2; subst h1; subst h2
        exact ⟨hlt, hh⟩
      · rcases List.mem_cons.1 hm with h1 | hm
        · injection h1 with h1 h2; subst h1; subst h2
          exact ⟨Nat.le_refl _, Nat.le_refl _, rfl, rfl, rfl, Nat.le_refl _, fun o ho => by rw [hh] at ho; injection ho with ho; exact ⟨_, _, ho.symm⟩, fun _ _ _ => rfl⟩
        · have h1 := hMb _ hm
          rw [hund h1]
          exact D.OfB.up (hM _ hm) (Nat.le_of_lt hlt)
end
end Go.Proofs.Ythhmimnkfklhdaa
namespace Go.Proofs.Ythhmimnkfklhdaa
open Go Go.RowKit
variable {κ : Cx}

section
variable {P : Program} {b : Frame} {a : Act} {k : List Item} {cs : List Frame} {w : World} {Q : Exit → Act → World → Prop} {F : Fence} {n : Nat}
theorem stepR_scope {c : Code} : step P (lone (b.atR a (.code (.scope c) :: k)) cs w) = .next (lone (b.atR a (.code c :: .inScope c :: k)) cs w) :=
  step_lone_go (by simp [stepG, stepG.exec, Frame.atR])
theorem stepR_inScope {c : Code} : step P (lone (b.atR a (.inScope c :: k)) cs w) = .next (lone (b.atR a k) cs w) :=
  step_lone_go (by simp [stepG, stepG.exec, Frame.atR])
theorem wpIn_scope {c : Code} (h : c.wpIn F n P (Exit.noGoto Q) a w) : (Code.scope c).wpIn F n P Q a w := by
  intro b k cs hro hb hr
  have h0 : (lone (b.atR a (.code (.scope c) :: k)) cs w).fenced P F := fenced_calm hb hr rfl
  obtain ⟨e, a₁, w₁, hq, harr⟩ := h b (.inScope c :: k) cs hro hb hr
  have hx : ∀ id, exitTo id (.inScope c :: k) = exitTo id k := fun id => by simp [exitTo]
  cases e with
  | normal => exact ⟨.normal, a₁, w₁, hq, .head h0 stepR_scope (StepsIn.trans harr (.one (fenced_calm hb hr rfl) stepR_inScope))⟩
  | exit id => exact ⟨.exit id, a₁, w₁, hq, fun k' hk => .head h0 stepR_scope (harr.1 k' (by rw [hx]; exact hk)),
      fun hr' hk => let ⟨k₁, h1, h2⟩ := harr.2 hr' (by rw [hx]; exact hk); ⟨k₁, h1, .head h0 stepR_scope h2⟩⟩
  | goto l => exact hq.elim
  | ret => exact ⟨_, a₁, w₁, hq, .of_steps (.one h0 stepR_scope) ⟨fun hr => let ⟨todo, hs⟩ := harr.1 hr; ⟨todo, hs⟩, fun hr => let ⟨k₁, hs⟩ := harr.2 hr; ⟨k₁, hs⟩⟩⟩
  | panic ch => exact ⟨_, a₁, w₁, hq, .of_steps (.one h0 stepR_scope) harr⟩
  | outgrown => exact ⟨_, a₁, w₁, hq, .of_steps (.one h0 stepR_scope) harr⟩
end
section
variable {P : Program} {w₀ : World} {n : Nat} {c : Code} {E : Env} {Q : Exit → Act → World → Prop}
theorem A.scope (h : A κ P w₀ n c E (Exit.noGoto Q)) : A κ P w₀ n (.scope c) E Q := fun a w g hs => wpIn_scope (h a w g hs)
theorem A.label {l : Nat} (h : End κ w₀ n E (Q .normal)) : A κ P w₀ n (.label l) E Q := fun a w g hs => wpIn_label (h a w g hs)
theorem End.ret_scope (h : End κ w₀ n E (Q .ret)) : End κ w₀ n E (Exit.noGoto Q .ret) := h
end

section
variable {P : Program} {n B : Nat} {ops : Array Oper} {E : Env} {dst : Option Tmp} {ty : TypeId} {pos : String} {after : Array Edge} {guard : Option (Nat × Bool)}
/-- A byte of a constant string. -/
theorem ok_strIndex {t : TypeId} {x i : Operand} {k : IntKind} {j : Int} {l : List UInt8} {c : UInt8} (m : Nat) (ht : P.underlying t = some .string) (hx : E.at x = some (str l)) (hi : E.at i = some (.v (.int k j))) (hj : j = (m : Int)) (hc : l[m]? = some c) :
    OpOk P B ⟨dst, .index t x i, ty, pos, after, guard⟩ E (.v (byteV c)) := fun ρ w _ _ hρ => by
  have h1 : ρ x = .string ⟨l.toArray⟩ := hρ x (by simp [Op.operands]) _ hx
  have h2 : ρ i = .int k j := hρ i (by simp [Op.operands]) _ hi
  subst hj
  have hm : m < l.length := (List.getElem?_eq_some_iff.1 hc).1
  have hg : (⟨l.toArray⟩ : ByteArray)[m]? = some c := by
    have hs : m < (⟨l.toArray⟩ : ByteArray).size := hm
    rw [getElem?_pos (⟨l.toArray⟩ : ByteArray) m hs]
    rw [List.getElem?_eq_getElem hm] at hc
    exact hc
  have hr : (Instr.index t (.string ⟨l.toArray⟩) (.int k (m : Int))).run P w = .ok (byteV c) w := by
    simp [Instr.index, asIntOf, run_underlying ht, hg, byteV]
  exact out_val (w' := w) (by simp only [execOp, h1, h2, Sem.run_bind, hr, Result.andThen_ok, Sem.run_pure]) ⟨Grow.refl w, rfl⟩
end

/-! ### Own rows that lie apart from a named block -/
section
variable {P : Program} {w₀ : World} {n : Nat} {c : Code} {E : Env} {Q : Exit → Act → World → Prop}
end
end Go.Proofs.Ythhmimnkfklhdaa
namespace Go.Proofs.Ythhmimnkfklhdaa
open Go Go.RowKit
variable {κ : Cx}

theorem SizeIs.get {P : Program} {T : TypeId} {m : Nat} (h : SizeIs P T m) : ∃ i, P.info? T = some i ∧ i.size = m := by
  unfold SizeIs at h
  cases hi : P.info? T with
  | none => rw [hi] at h; cases h
  | some i => rw [hi] at h; exact ⟨i, rfl, by simpa using h⟩
section
variable {P : Program} {n B : Nat} {ops : Array Oper} {E : Env} {dst : Option Tmp} {ty : TypeId} {pos : String} {after : Array Edge} {guard : Option (Nat × Bool)}
/-- A slice literal of values that are known: a block of the call's own. -/
theorem ok_buildF {t e : TypeId} {m : Nat} {ps : Array (Nat × Operand)} {z : Value} {nb : Nat} (us : List Value) (ht : P.underlying t = some (.slice e)) (hinfo : InfoIs P e z nb) (hz1 : z.cells = #[z])
    (hn : 0 < m) (hn' : m ≤ 65536) (hl : us.length = m) (hp : LitD E us ps.toList 0) (h1 : us.all (·.oneCell') = true) :
    OpOk P B ⟨dst, .buildSlice t m ps, ty, pos, after, guard⟩ E (fresh B e us m) := fun ρ w hB _ hρ => by
  obtain ⟨i, hi, hz, hs, _⟩ := hinfo.get
  have h3 := hp.map (ρ := ρ) fun x hx v hv => hρ x (by simp [Op.operands]; simpa using hx) _ hv
  have h2 : (ps.map fun (i, x) => (i, ρ x)).toList = (us.zipIdx 0).map fun x => (x.2, x.1) := by rw [← h3]; simp
  have hz' : (Array.range (m * i.size)).map (z.cells[· % z.cells.size]!) = ([] ++ List.replicate m z).toArray := by
    rw [hs, hz1, Nat.mul_one]
    apply Array.ext
    · simp
    · intro j h1 h2; simp [Nat.mod_one]
  have hfill : Instr.fill (fun j => some (j * i.size, i.size)) ((Array.range (m * i.size)).map (z.cells[· % z.cells.size]!)) (ps.map fun (i, x) => (i, ρ x)).toList = some us.toArray := by
    rw [hz', h2, hs, fill_dense us [] (List.replicate m z) 0 (fun u hu => by simpa using (List.all_eq_true.1 h1) u hu) rfl (by simp [hl])]
    simp [hl]
  have hr := run_buildSlice (P := P) w t e m (ps.map fun (i, x) => (i, ρ x)) us.toArray i z ht hi hz (by rw [hs]; omega) (by rw [hs]; omega) hfill
  refine out_val (x := .slice (some ⟨w.heap.size, 0, none⟩) m m) (w' := w.alloc (.cells us.toArray e)) (by simp [execOp, hr]) ⟨Grow.alloc w _, w.heap.size, by rw [hl], hB, by simp, heap_alloc_new w _⟩
/-- Called without arguments, the function value u takes block g's cells from xs to ys. -/
def Does (P : Program) (T g : Nat) (u : Value) (xs ys : List Value) : Prop := ∃ (f : FuncId) (vs : List Value), u = .func (.func f) vs.toArray #[] ∧ FnW P f [] T g xs ys (vs.map D.v)
theorem FnW.does {f : FuncId} {T g : Nat} {xs ys vs : List Value} (h : FnW P f [] T g xs ys (vs.map D.v)) : Does P T g (.func (.func f) vs.toArray #[]) xs ys := ⟨f, vs, rfl, h⟩
end
section
variable {P : Program} {w₀ : World} {n : Nat} {c : Code} {E : Env} {Q : Exit → Act → World → Prop}
end

/-! ### Variables of a function that writes one block -/
/-! ### Equality of arrays of arrays -/
section
variable {P : Program} {B : Nat} {E : Env} {dst : Option Tmp} {ty : TypeId} {pos : String} {after : Array Edge} {guard : Option (Nat × Bool)}
end
end Go.Proofs.Ythhmimnkfklhdaa
namespace Go.Proofs.Ythhmimnkfklhdaa
open Go Go.RowKit
variable {κ : Cx}

/-- A contract: block g, whose cells are xs, is left with the cells ys, and u is returned; M tells of other memory. -/
structure FnWR (P : Program) (f : FuncId) (M : Env) (T g : Nat) (xs ys : List Value) (ds : List D) (u : Value) : Prop where
  body : ∃ fn, P.funcs[f]? = some fn ∧ (fn.name == "runtime.NumGoroutine") = false ∧ fn.body.isNone = false
  calls : ∀ (vs : List Value) (w : World), vs.length = ds.length → (∀ (j : Nat) (e : D) (u : Value), ds[j]? = some e → vs[j]? = some u → e.Of w u) → (∀ p ∈ M, p.2.Of w undef) → g < w.heap.size → w.heap[g]? = some (.cells xs.toArray T (0, 0)) →
    Calls P f vs.toArray w fun e w' => e = .returned u ∧ Wrote g T g w w' ∧ w'.heap[g]? = some (.cells ys.toArray T (0, 0))
section
variable {P : Program} {n B : Nat} {ops : Array Oper} {E : Env} {ty : TypeId} {pos : String} {after : Array Edge}
theorem FnWR.of {f : FuncId} {fn : Func} {c : Code} {M : Env} {T g kb kw : Nat} {xs ys us : List Value} {u : Value} (hf : P.funcs[f]? = some fn) (hb : fn.body = some c) (hname : (fn.name == "runtime.NumGoroutine") = false) (hn : fn.ntmps = n) (hds : us.length ≤ n) (hnv : n ≤ vbase)
    (hMb : ∀ p ∈ M, vbase ≤ p.1) (hkb : vbase ≤ kb) (hkw : vbase ≤ kw) (args : Env) (hargs : ∀ p ∈ args, ∃ v, p.2 = .v v ∧ us[p.1]? = some v)
    (h : ∀ w₀ w₁ : World, w₀.heap.size = g → A Cx.top P w₀ n c (args ++ ((kb, blk g T xs) :: (kw, wroteD T g w₁) :: M)) (BP P fn fun e w' => e = .returned u ∧ Wrote g T g w₁ w' ∧ w'.heap[g]? = some (.cells ys.toArray T (0, 0)))) :
    FnWR P f M T g xs ys (us.map D.v) u := by
  refine ⟨⟨fn, hf, hname, by rw [hb]; rfl⟩, fun vs w hl hv hM hlt hh => ?_⟩
  have hvs : vs = us := by
    apply List.ext_getElem?
    intro j
    simp only [List.length_map] at hl
    rcases Nat.lt_or_ge j us.length with hj | hj
    · have h1 := hv j (.v us[j]) vs[j] (by simp [hj]) (List.getElem?_eq_getElem (by omega))
      rw [List.getElem?_eq_getElem hj, List.getElem?_eq_getElem (by omega)]
      exact congrArg some h1
    · rw [List.getElem?_eq_none hj, List.getElem?_eq_none (by omega)]
  subst hvs
  have hsz := cutW_size (w := w) (g := g) (Nat.le_of_lt hlt)
  refine callsIn_FR.1 (callsIn_of_wp_marks (F := FR none) (n := 0) hf hb trivial (h (cutW w g) w hsz _ w (cutW_below (Nat.le_of_lt hlt)) ⟨by rw [hsz]; omega, rfl, ?_, fun t e he => ?_⟩))
  · simp [hn]; omega
  · show e.Of w ((vs.toArray ++ Array.replicate (fn.ntmps - vs.toArray.size) undef).getD t undef)
    have hund : vbase ≤ t → (vs.toArray ++ Array.replicate (fn.ntmps - vs.toArray.size) undef).getD t undef = undef := fun ht => by
      rw [Array.getD_eq_getD_getElem?, Array.getElem?_eq_none (by simp [hn]; omega)]; rfl
    rcases List.mem_append.1 (look_mem he) with hm | hm
    · obtain ⟨v, h1, h2⟩ := hargs _ hm
      simp only at h1 h2
      have hj : t < vs.length := (List.getElem?_eq_some_iff.1 h2).1
      rw [Array.getD_eq_getD_getElem?, Array.getElem?_append_left (by simpa using hj)]
      subst h1
      simp [h2]; rfl
    · rcases List.mem_cons.1 hm with h1 | hm
      · injection h1 with h1 h2; subst h1; subst h2
        exact ⟨hlt, hh⟩
      · rcases List.mem_cons.1 hm with h1 | hm
        · injection h1 with h1 h2; subst h1; subst h2
          exact ⟨Nat.le_refl _, Nat.le_refl _, rfl, rfl, rfl, Nat.le_refl _, fun o ho => by rw [hh] at ho; injection ho with ho; exact ⟨_, _, ho.symm⟩, fun _ _ _ => rfl⟩
        · have h1 := hMb _ hm
          rw [hund h1]
          exact hM _ hm
end

/-! ### Function values that hold two variables of several cells -/
section
variable {P : Program} {n : Nat} {w₀ : World} {E : Env}
/-- return of a variable's value, and of another value. -/
theorem End.cellT {fn : Func} {r s b r' : Nat} {T e : TypeId} {td : TypeDesc} {xs : List Value} {d d' e' : D} (hr : fn.results = #[.cell r T, .tmp r']) (ht : P.underlying T = some td) (hp : (match td with | .struct _ | .array _ _ => true | _ => false) = true) (hsz : SizeIs P T xs.length)
    (h1 : E.look r = some (.v (.pointer (some ⟨b, 0, none⟩)))) (h2 : E.look s = some (blk b e xs)) (hl : Le (.v (aggV xs)) d) (h1' : E.look r' = some e') (hl' : Le e' d') : End Cx.top w₀ n E (BP P fn (PostOf w₀ (tup [d, d'])) .ret) := fun a w g hs => by
  have h3 : a.tmps[r]?.getD undef = .pointer (some ⟨b, 0, none⟩) := by rw [← Array.getD_eq_getD_getElem?]; exact hs.of r _ h1
  obtain ⟨_, hh⟩ := hs.of s _ h2
  have k1 := run_loadVar_row (P := P) w b e T xs.toArray (0, 0) td hh ht hp (by simpa [SizeIs] using hsz)
  refine BP.ret hs.defers ⟨.tuple #[aggV xs, a.tmps.getD r' undef], by simp [results, hr, h3, asAddr, k1, aggV], _, rfl, g, [aggV xs, a.tmps.getD r' undef], rfl, rfl, fun j e u he hu => ?_⟩
  match j, he, hu with
  | 0, he, hu => simp at he hu; subst he; subst hu; exact hl.of rfl
  | 1, he, hu => simp only [List.getElem?_cons_succ, List.getElem?_cons_zero, Option.some.injEq] at he hu; subst he; subst hu; exact hl'.of (hs.of r' _ h1')
  | j + 2, he, _ => simp at he
end
section
variable {P : Program} {B : Nat} {E : Env} {dst : Option Tmp} {ty : TypeId} {pos : String} {after : Array Edge} {guard : Option (Nat × Bool)}
/-- What a value means in memory that is known. -/
theorem OpOk.fact {o : Oper} {v : Value} {d : D} {s b : Nat} {e : TypeId} {xs : List Value} (h : OpOk P B o E (.v v)) (hs : vbase ≤ s) (hk : E.look s = some (blk b e xs)) (hd : ∀ B w, b < B → w.heap[b]? = some (.cells xs.toArray e (0, 0)) → d.OfB B w v) : OpOk P B o E d := fun ρ w hB hv hρ => by
  refine (h ρ w hB hv hρ).mono fun x w' hx => ⟨hx.1, ?_⟩
  obtain ⟨h1, h2⟩ := (hv s _ hs hk : (blk b e xs).Of w undef)
  have h3 : (blk b e xs).Of w' undef := D.Of.grow (d := blk b e xs) ⟨h1, h2⟩ hx.1
  obtain ⟨h4, h5⟩ := h3
  rw [show x = v from hx.2]
  exact hd _ _ h4 h5
theorem slice_byt {b o n c : Nat} {e : TypeId} {xs : List Value} (l : List UInt8) (hn : n = l.length) (hc : n ≤ c) (hm : c ≤ maxLen) (hl : (xs.drop o).take n = l.map byteV) (B : Nat) (w : World) (hb : b < B) (hh : w.heap[b]? = some (.cells xs.toArray e (0, 0))) : (byt l).OfB B w (.slice (some ⟨b, o, none⟩) n c) := by
  subst hn
  refine ⟨c, bytes_mk hc hm fun j u hu => ?_⟩
  rw [← hl, List.getElem?_take] at hu
  split at hu
  · rw [List.getElem?_drop] at hu
    refine ⟨_, rfl, hb, ?_⟩
    rw [add_lit0]
    simp [World.cell?, hh, hu]
  · cases hu
/-- Two strings, one behind the other. -/
theorem ok_addS {t t' : TypeId} {x y : Operand} {a b : List UInt8} (hx : E.at x = some (str a)) (hy : E.at y = some (str b)) (hl : a.length + b.length ≤ 9223372036854775807) : OpOk P B ⟨dst, .binOp .add t x y t', ty, pos, after, guard⟩ E (str (a ++ b)) := fun ρ w _ _ hρ => by
  have h1 : ρ x = .string ⟨a.toArray⟩ := hρ x (by simp [Op.operands]) _ hx
  have h2 : ρ y = .string ⟨b.toArray⟩ := hρ y (by simp [Op.operands]) _ hy
  have h3 : (⟨a.toArray⟩ ++ ⟨b.toArray⟩ : ByteArray) = ⟨(a ++ b).toArray⟩ := by
    apply ByteArray.ext
    simp [ByteArray.data_append]
  have h4 : ¬ (((⟨a.toArray⟩ : ByteArray).size + (⟨b.toArray⟩ : ByteArray).size : Nat) : Int) > IntKind.i64.max := by
    have e1 : (⟨a.toArray⟩ : ByteArray).size = a.length := by simp [ByteArray.size]
    have e2 : (⟨b.toArray⟩ : ByteArray).size = b.length := by simp [ByteArray.size]
    rw [e1, e2]
    simp only [IntKind.max, IntKind.signed, IntKind.bits]
    simp
    omega
  exact out_val (x := .string ⟨(a ++ b).toArray⟩) (w' := w) (by
    simp only [execOp, h1, h2]
    simp only [binOp, Op.stringOp, if_neg h4, h3, eqGuard, Sem.run_bind, Sem.run_pure]
    simp) ⟨Grow.refl w, rfl⟩
/-- append to a slice of bytes that has no room: a new row of the call's own. -/
theorem ok_appendFull {t e : TypeId} {z : Value} {nb : Nat} {r x : Operand} {f g : D} {l m : List UInt8} (ht : P.underlying t = some (.slice e)) (hinfo : InfoIs P e z nb) (hnb : nb ≤ 64) (hz1 : z.cells.size = 1)
    (hr : E.at r = some g) (hg : Le g (bytes l l.length)) (hx : E.at x = some f) (hf : Le f (byt m)) (hl : 0 < l.length) (hpos : 0 < m.length) (hk : l.length + m.length ≤ 1099511627776) :
    OpOk P B ⟨dst, .call { callee := .builtin .append, args := #[r, x], argTypes := #[t, t] }, ty, pos, after, guard⟩ E (own B e (l.length + m.length) ((l ++ m).map byteV)) := fun ρ w hB hv hρ => by
  obtain ⟨i, hi, hz, hs, hby⟩ := hinfo.get
  obtain ⟨A1, hre, _, hlm, hrow1⟩ := bytes_open (l := l) (hg.of (hρ r (by simp [Op.operands, Call.operands]) _ hr))
  obtain ⟨c, hb⟩ := hf.of (hρ x (by simp [Op.operands, Call.operands]) _ hx)
  obtain ⟨A2, hxe, hle, hcm, hrow⟩ := bytes_open (l := m) hb
  have h1 : ∃ a1, A1 = some a1 := by
    cases l with
    | nil => simp at hl
    | cons b l => obtain ⟨ad, h, _⟩ := hrow1 0 (byteV b) rfl; exact ⟨ad, h⟩
  have h2 : ∃ a2, A2 = some a2 := by
    cases m with
    | nil => simp at hpos
    | cons b l => obtain ⟨ad, h, _⟩ := hrow 0 (byteV b) rfl; exact ⟨ad, h⟩
  obtain ⟨a1, rfl⟩ := h1
  obtain ⟨a2, rfl⟩ := h2
  have hbb : (l.length + m.length) * i.bytes ≤ (l.length + m.length) * 64 := Nat.mul_le_mul_left _ (by omega)
  obtain ⟨v', w', h2, h3, h4⟩ := run_append_arg_grows (P := P) w t ty e i z 1 i.bytes ht hi hz hs rfl hz1 (by omega) a1 l.length l.length (l.map byteV) (by simp) hrow1.cell a2 m.length c (m.map byteV) (by simp) hrow.cell (by omega) (by simp only [maxLen]; omega) (by omega)
  refine out_val (x := v') (w' := w') (by simp [execOp, resolve, invoke, builtin, hre, hxe, h2]) ⟨(Below.refl w.heap.size w).grown h4 (Nat.le_refl _) (fun g hg => by cases hg), ?_⟩
  rw [List.map_append]
  refine ⟨⟨h3.1, h3.2.imp id ?_⟩, fun g hg => ?_⟩
  · rintro ⟨g, cap, cur, h5, h6, h7⟩; exact ⟨g, cap, cur, h5, by omega, h7⟩
  · rcases h3.2 with ⟨hv', _⟩ | ⟨g', cap, cur, hv', _, hh', _⟩
    · rw [hv'] at hg; simp [Value.ownBlock] at hg
    · rw [hv'] at hg; simp [Value.ownBlock] at hg; subst hg
      rcases Nat.lt_or_ge g' w'.heap.size with h | h
      · exact h
      · rw [Array.getElem?_eq_none h] at hh'; cases hh'
end
end Go.Proofs.Ythhmimnkfklhdaa
namespace Go.Proofs.Ythhmimnkfklhdaa
open Go Go.RowKit
section
variable {P : Program} {B : Nat} {E : Env} {dst : Option Tmp} {ty : TypeId} {pos : String} {after : Array Edge} {guard : Option (Nat × Bool)}
theorem ok_minI {x y : Operand} {k k' : IntKind} {a b : Int} {ts : Array TypeId} (hx : E.at x = some (.v (.int k a))) (hy : E.at y = some (.v (.int k' b))) :
    OpOk P B ⟨dst, .call { callee := .builtin .min, args := #[x, y], argTypes := ts }, ty, pos, after, guard⟩ E (.v (.int k (min a b))) := fun ρ w _ _ hρ => by
  have h1 : ρ x = .int k a := hρ x (by simp [Op.operands, Call.operands]) _ hx
  have h2 : ρ y = .int k' b := hρ y (by simp [Op.operands, Call.operands]) _ hy
  exact out_val (w' := w) (by simp [execOp, resolve, invoke, builtin, Builtin.min_, Builtin.min2, h1, h2]; omega) ⟨Grow.refl w, rfl⟩
theorem ok_maxI {x y : Operand} {k k' : IntKind} {a b : Int} {ts : Array TypeId} (hx : E.at x = some (.v (.int k a))) (hy : E.at y = some (.v (.int k' b))) :
    OpOk P B ⟨dst, .call { callee := .builtin .max, args := #[x, y], argTypes := ts }, ty, pos, after, guard⟩ E (.v (.int k (max a b))) := fun ρ w _ _ hρ => by
  have h1 : ρ x = .int k a := hρ x (by simp [Op.operands, Call.operands]) _ hx
  have h2 : ρ y = .int k' b := hρ y (by simp [Op.operands, Call.operands]) _ hy
  exact out_val (w' := w) (by simp [execOp, resolve, invoke, builtin, Builtin.max_, Builtin.max2, h1, h2]; omega) ⟨Grow.refl w, rfl⟩
end
end Go.Proofs.Ythhmimnkfklhdaa
namespace Go.Proofs.Ythhmimnkfklhdaa
open Go Go.RowKit
section
variable {P : Program} {n B : Nat} {ops : Array Oper} {C : Env → Prop} {κ : Cx} {Q : Exit → Act → World → Prop}
/-- What is to be shown from here on, in every order. -/
def AnyT (P : Program) (n B : Nat) (ops : Array Oper) (C : Env → Prop) : Nat → Array Bool → Env → Prop
  | 0, listed, E => Region.ready .any ops listed = [] ∧ C E
  | fuel + 1, listed, E => (Region.ready .any ops listed = [] ∧ C E) ∨ (Region.ready .any ops listed ≠ [] ∧ ∀ i ∈ Region.ready .any ops listed, ∃ o, ops[i]? = some o ∧ ∃ (ι : Type) (G : ι → Prop) (E₂ : ι → Env), EffG P n B ops o E G E₂ ∧ ∀ j, G j → AnyT P n B ops C fuel (listed.setIfInBounds i true) (E₂ j))
/-- One operation after the other. -/
def NextT (P : Program) (n B : Nat) (ops : Array Oper) (C : Env → Prop) (fuel : Nat) (listed : Array Bool) (E : Env) : List Nat → Prop
  | [] => True
  | i :: r => (∃ o, ops[i]? = some o ∧ ∃ (ι : Type) (G : ι → Prop) (E₂ : ι → Env), EffG P n B ops o E G E₂ ∧ ∀ j, G j → AnyT P n B ops C fuel (listed.setIfInBounds i true) (E₂ j)) ∧ NextT P n B ops C fuel listed E r
theorem NextT.all {fuel : Nat} {listed : Array Bool} {E : Env} : ∀ {is : List Nat}, NextT P n B ops C fuel listed E is → ∀ i ∈ is, ∃ o, ops[i]? = some o ∧ ∃ (ι : Type) (G : ι → Prop) (E₂ : ι → Env), EffG P n B ops o E G E₂ ∧ ∀ j, G j → AnyT P n B ops C fuel (listed.setIfInBounds i true) (E₂ j)
  | [], _, i, hi => by cases hi
  | k :: r, h, i, hi => by
    rcases List.mem_cons.1 hi with rfl | hi
    · exact h.1
    · exact NextT.all h.2 i hi
theorem AnyT.last {fuel : Nat} {listed : Array Bool} {E : Env} (hr : Region.ready .any ops listed = []) (hC : C E) : AnyT P n B ops C fuel listed E := by
  cases fuel with
  | zero => exact ⟨hr, hC⟩
  | succ fuel => exact .inl ⟨hr, hC⟩
theorem AnyT.step {fuel : Nat} {listed : Array Bool} {E : Env} (i : Nat) (is : List Nat) (hr : Region.ready .any ops listed = i :: is) (h : NextT P n B ops C fuel listed E (i :: is)) : AnyT P n B ops C (fuel + 1) listed E :=
  .inr ⟨by rw [hr]; simp, by rw [hr]; exact h.all⟩
/-- An operation that changes nothing. -/
theorem NextT.pure {fuel : Nat} {listed : Array Bool} {E : Env} {i t : Nat} {d : D} {o : Oper} {r : List Nat} (hf : fits n ops = true) (ho : ops[i]? = some o) (ht : o.dst = some t) (hg : o.guard = none) (hok : OpOk P B o E d) (h : AnyT P n B ops C fuel (listed.setIfInBounds i true) ((t, d) :: E)) (hr : NextT P n B ops C fuel listed E r) :
    NextT P n B ops C fuel listed E (i :: r) := by
  refine ⟨⟨o, ho, Unit, fun _ => True, fun _ => (t, d) :: E, fun κ a w K Q hs hK => ?_, fun _ _ => h⟩, hr⟩
  have hfo := fits_mem hf (o := o) (by simpa using Array.mem_of_getElem? ho)
  exact good_wp hs.base (hs.virt (fits_base hf)) ht (.inl ⟨by simp [GuardIs, hg], hok⟩) (fun s e _ he => hs.of s e he) (fun s hs' => by rw [hs.size]; exact hfo.1 s hs') fun x w' g hx => hK () _ _ trivial (Below.mono g hs.base) ((hs.grow g).put (hfo.2 t ht) hx)
/-- An operation that changes memory. -/
theorem NextT.eff {fuel : Nat} {listed : Array Bool} {E E' : Env} {i : Nat} {o : Oper} {r : List Nat} (ho : ops[i]? = some o) (he : Eff P n B ops o E E') (h : AnyT P n B ops C fuel (listed.setIfInBounds i true) E') (hr : NextT P n B ops C fuel listed E r) :
    NextT P n B ops C fuel listed E (i :: r) := ⟨⟨o, ho, Unit, fun _ => True, fun _ => E', he.g, fun _ _ => h⟩, hr⟩
theorem wp_anyE : ∀ {fuel : Nat} {listed : Array Bool} {E : Env} {a : Act} {w : World}, AnyT P n B ops C fuel listed E → St κ n B E a w → (∀ E' a' w', C E' → Below B w w' → St κ n B E' a' w' → Q .normal a' w') → wpAnyIn (FR κ.rd) 0 P .any ops Q fuel listed a w
  | 0, _, _, _, w, ⟨hr, hC⟩, hs, hQ => ⟨hr, hQ _ _ _ hC (Below.refl B w) hs⟩
  | fuel + 1, _, _, _, w, .inl ⟨hr, hC⟩, hs, hQ => ⟨fun _ => hQ _ _ _ hC (Below.refl B w) hs, fun i hi => by rw [hr] at hi; cases hi⟩
  | fuel + 1, _, _, _, w, .inr ⟨hne, h⟩, hs, hQ => ⟨fun hr => absurd hr hne, fun i hi => by
    obtain ⟨o, ho, ι, G, E₂, he, hn⟩ := h i hi
    exact wpOpR_step ho fun K hK => he κ _ _ K Q hs fun j a' w' hj g' h' => hK _ _ (wp_anyE (hn j hj) h' fun E' a3 w3 hC g3 h3 => hQ E' a3 w3 hC (g'.trans g3) h3)⟩
end
end Go.Proofs.Ythhmimnkfklhdaa
namespace Go.Proofs.Ythhmimnkfklhdaa
open Go Go.RowKit
variable {κ : Cx}

/-! ### Slices of values that are known -/
def vlist (us : List Value) (c : Nat) : D := list (us.map D.v) c
theorem vlist_mk {us : List Value} {c B : Nat} {w : World} {A : Option Addr} (h1 : us.length ≤ c) (h2 : c ≤ maxLen) (h : RowIn B w A us) : (vlist us c).OfB B w (.slice A us.length c) :=
  ⟨A, us, by simp, by simpa using h1, h2, by simp, h, fun j d u hd hu => by
    simp only [List.getElem?_map, hu, Option.map_some, Option.some.injEq] at hd
    subst hd; rfl⟩
/-- A slice over a block that is known whole. -/
theorem slice_vlist {b n c : Nat} {e : TypeId} {xs : List Value} (us : List Value) (hn : n = us.length) (hc : n ≤ c) (hm : c ≤ maxLen) (hl : xs.take n = us) (B : Nat) (w : World) (hb : b < B) (hh : w.heap[b]? = some (.cells xs.toArray e (0, 0))) : (vlist us c).OfB B w (.slice (some ⟨b, 0, none⟩) n c) := by
  subst hn
  refine vlist_mk hc hm ?_
  rw [← hl]
  exact blk_row hb hh _

/-! ### Structs whose first field is told by a fact -/
def hdD (f : D) (rest : List Value) : D :=
  .p (fun B w x => ∃ v : Value, v.oneCell' = true ∧ x = aggV (v :: rest) ∧ f.OfB B w v) (fun _ _ _ _ g ⟨v, h1, h2, h3⟩ => ⟨v, h1, h2, h3.keep g⟩) (fun _ _ _ _ g ⟨v, h1, h2, h3⟩ => ⟨v, h1, h2, h3.up g⟩)
theorem hd_le {f f' : D} {rest : List Value} (h : Le f f') : Le (hdD f rest) (hdD f' rest) := fun _ _ _ ⟨v, h1, h2, h3⟩ => ⟨v, h1, h2, h _ _ _ h3⟩
section
variable {P : Program} {w₀ : World} {n : Nat} {c : Code} {E : Env} {Q : Exit → Act → World → Prop}
end
section
variable {P : Program} {B : Nat} {E : Env} {o : Oper}
variable {dst : Option Tmp} {ty : TypeId} {pos : String} {after : Array Edge} {guard : Option (Nat × Bool)}
theorem ok_extractV {x : Operand} {i : Nat} {xs : List Value} {u : Value} (hx : E.at x = some (.v (.tuple xs.toArray))) (hi : xs[i]? = some u) : OpOk P B ⟨dst, .extract x i, ty, pos, after, guard⟩ E (.v u) := fun ρ w _ _ hρ => by
  have h1 : ρ x = .tuple xs.toArray := hρ x (by simp [Op.operands]) _ hx
  exact out_val (x := u) (w' := w) (by simp [execOp, h1, Instr.extract, hi]) ⟨Grow.refl w, rfl⟩
theorem ok_sgt {t t' : TypeId} {x y : Operand} {a b : List UInt8} (hx : E.at x = some (str a)) (hy : E.at y = some (str b)) : OpOk P B ⟨dst, .binOp .gtr t x y t', ty, pos, after, guard⟩ E (.v (.bool (!Op.bytesLess a b && !(a == b)))) := fun ρ w _ _ hρ => by
  have h1 : ρ x = .string ⟨a.toArray⟩ := hρ x (by simp [Op.operands]) _ hx
  have h2 : ρ y = .string ⟨b.toArray⟩ := hρ y (by simp [Op.operands]) _ hy
  exact out_val (x := .bool (!Op.bytesLess a b && !(a == b))) (w' := w) (by simp [execOp, h1, h2, eqGuard, binOp, Op.stringOp]) ⟨Grow.refl w, rfl⟩
/-- A struct literal whose first field is a slice known by a fact. -/
theorem ok_buildH {t : TypeId} {x : Operand} {ps : Array (Nat × Operand)} {f : D} {rest : List Value} {ks : List (Nat × Value)} {l : List (Nat × Operand)} (hps : ps.toList = (0, x) :: l) (hx : E.at x = some f) (hf : ∀ B w u, f.OfB B w u → ∃ A m c, u = .slice A m c)
    (hl : ∀ ρ : Operand → Value, (∀ y, y ∈ l.map (·.2) → ∀ v, E.at y = some (.v v) → ρ y = v) → l.map (fun p => (p.1, ρ p.2)) = ks) (hb : ∀ A m c, P.built t ((0, .slice A m c) :: ks) = some (Value.slice A m c :: rest : List Value).toArray) :
    OpOk P B ⟨dst, .build t ps, ty, pos, after, guard⟩ E (hdD f rest) := fun ρ w _ _ hρ => by
  have hfx := hρ x (by simp [Op.operands, hps]) _ hx
  obtain ⟨A, m, c, h1⟩ := hf _ _ _ hfx
  have h3 := hl ρ fun y hy v hv => hρ y (by
    simp only [Op.operands, hps, List.map_cons]
    simpa using Or.inr hy) _ hv
  have h2 : (ps.map fun (i, x) => (i, ρ x)).toList = (0, .slice A m c) :: ks := by rw [← h3]; simp [hps, h1]
  have := run_build (P := P) w t (ps.map fun (i, x) => (i, ρ x)) _ (by rw [h2]; exact hb A m c)
  exact out_val (x := aggV (.slice A m c :: rest)) (w' := w) (by simp [execOp, this, aggV]) ⟨Grow.refl w, .slice A m c, rfl, rfl, by rw [← h1]; exact hfx⟩
end

/-! ### New blocks, named where they are made -/
def newD (base : Nat) (e : TypeId) (val : Nat → Value) (xs : List Value) : D :=
  .p (fun B w x => ∃ b, x = val b ∧ base ≤ b ∧ b < B ∧ w.heap[b]? = some (.cells xs.toArray e (0, 0)))
    (fun _ _ _ _ g ⟨b, h1, h2, h3, h4⟩ => ⟨b, h1, h2, h3, (g.block b h3).trans h4⟩) (fun _ _ _ _ g ⟨b, h1, h2, h3, h4⟩ => ⟨b, h1, h2, by omega, h4⟩)
theorem newD_mono {e : TypeId} {val : Nat → Value} {xs : List Value} (B B' : Nat) (h : B ≤ B') : Le (newD B' e val xs) (newD B e val xs) := fun _ _ _ ⟨b, h1, h2, h3, h4⟩ => ⟨b, h1, by omega, h3, h4⟩
theorem fresh_newD {B : Nat} {e : TypeId} {xs : List Value} {n : Nat} : Le (fresh B e xs n) (newD B e (fun b => .slice (some ⟨b, 0, none⟩) n xs.length) xs) := fun _ _ _ ⟨b, h1, h2, h3, h4⟩ => ⟨b, h1, h2, h3, h4⟩
theorem eff_name {P : Program} {n B : Nat} {ops : Array Oper} {E : Env} {o : Oper} {d k : Nat} {e : TypeId} {val : Nat → Value} {xs : List Value} (ht : o.dst = some d) (hg : o.guard = none) (hok : ∀ B', OpOk P B' o E (newD B' e val xs)) (hdn : d < n) (hnv : n ≤ vbase) :
    EffG P n B ops o E (NewB B E) (fun b => (d, .v (val b)) :: (k, blk b e xs) :: E) := by
  intro κ a w K Q h hK
  rw [if_pos (by simp [Region.wanted, hg])]
  refine wp_of_out ht ((hok w.heap.size a.eval w (Nat.le_refl _) (h.virt hnv) fun x _ u hu => h.at_ x _ hu).mono ?_)
  rintro x w' ⟨hgr, b, rfl, hb, hlt, hh⟩
  refine hK b _ _ ⟨Nat.le_trans h.base hb, fun s b' e ys hs => Nat.lt_of_lt_of_le (h.of s _ hs).1 hb⟩ (Below.mono hgr h.base) (St.put ?_ hdn rfl)
  exact (h.grow hgr).push (t := k) (d := blk b e xs) ⟨hlt, hh⟩
theorem eff_nameF {P : Program} {n B : Nat} {ops : Array Oper} {E : Env} {o : Oper} {d k m : Nat} {e : TypeId} {xs : List Value} {c : Nat} (hc : xs.length = c) (ht : o.dst = some d) (hg : o.guard = none) (hok : ∀ B', OpOk P B' o E (fresh B' e xs m)) (hdn : d < n) (hnv : n ≤ vbase) :
    EffG P n B ops o E (NewB B E) (fun b => (d, .v (.slice (some ⟨b, 0, none⟩) m c)) :: (k, blk b e xs) :: E) := hc ▸ eff_name ht hg (fun B' => (hok B').le fresh_newD) hdn hnv

/-! ### Ends -/
section
variable {P : Program} {n : Nat} {w₀ : World} {E : Env}
theorem load_cell {w : World} {b : Nat} {e T : TypeId} {td : TypeDesc} {xs : List Value} (ht : P.underlying T = some td) (hp : (match td with | .struct _ | .array _ _ => true | _ => false) = true) (hsz : SizeIs P T xs.length) (hh : w.heap[b]? = some (.cells xs.toArray e (0, 0))) :
    (loadVar T ⟨b, 0, none⟩).run P w = .ok (aggV xs) w := by
  have := run_loadVar_row (P := P) w b e T xs.toArray (0, 0) td hh ht hp (by simpa [SizeIs] using hsz)
  simpa [aggV] using this
theorem End.newT {fn : Func} {r s b g kg r' : Nat} {T e' e : TypeId} {td : TypeDesc} {ys zs xs : List Value} {v' : Value} {val : Nat → Value} (hr : fn.results = #[.cell r T, .tmp r']) (ht : P.underlying T = some td) (hp : (match td with | .struct _ | .array _ _ => true | _ => false) = true) (hsz : SizeIs P T ys.length)
    (h1 : E.look r = some (.v (.pointer (some ⟨b, 0, none⟩)))) (h2 : E.look s = some (blk b e' ys)) (h5 : E.look r' = some (.v v')) (h4 : E.look kg = some (blk g e zs)) (hg : w₀.heap.size ≤ g) (hv : val g = .tuple #[aggV ys, v']) (hz : zs = xs) :
    End Cx.top w₀ n E (BP P fn (PostOf w₀ (newD w₀.heap.size e val xs)) .ret) := fun a w gr hs => by
  subst hz
  have h3 : a.tmps[r]?.getD undef = .pointer (some ⟨b, 0, none⟩) := by rw [← Array.getD_eq_getD_getElem?]; exact hs.of r _ h1
  have h6 : a.tmps[r']?.getD undef = v' := by rw [← Array.getD_eq_getD_getElem?]; exact hs.of r' _ h5
  obtain ⟨_, hh⟩ := hs.of s _ h2
  obtain ⟨hl', hh'⟩ := hs.of kg _ h4
  exact BP.ret hs.defers ⟨.tuple #[aggV ys, v'], by simp [results, hr, h3, h6, asAddr, load_cell ht hp hsz hh], _, rfl, gr, g, hv.symm, hg, hl', hh'⟩
theorem End.cellV {fn : Func} {r s b r' : Nat} {T e' : TypeId} {td : TypeDesc} {ys : List Value} {v' : Value} (hr : fn.results = #[.cell r T, .tmp r']) (ht : P.underlying T = some td) (hp : (match td with | .struct _ | .array _ _ => true | _ => false) = true) (hsz : SizeIs P T ys.length)
    (h1 : E.look r = some (.v (.pointer (some ⟨b, 0, none⟩)))) (h2 : E.look s = some (blk b e' ys)) (h5 : E.look r' = some (.v v')) : End Cx.top w₀ n E (BP P fn (PostOf w₀ (.v (.tuple #[aggV ys, v']))) .ret) := fun a w gr hs => by
  have h3 : a.tmps[r]?.getD undef = .pointer (some ⟨b, 0, none⟩) := by rw [← Array.getD_eq_getD_getElem?]; exact hs.of r _ h1
  have h6 : a.tmps[r']?.getD undef = v' := by rw [← Array.getD_eq_getD_getElem?]; exact hs.of r' _ h5
  obtain ⟨_, hh⟩ := hs.of s _ h2
  exact BP.ret hs.defers ⟨.tuple #[aggV ys, v'], by simp [results, hr, h3, h6, asAddr, load_cell ht hp hsz hh], _, rfl, gr, rfl⟩
/-- Two values, both known. -/
theorem End.ret2V {fn : Func} {r s : Nat} {u v : Value} (hr : fn.results = #[.tmp r, .tmp s]) (h1 : E.look r = some (.v u)) (h2 : E.look s = some (.v v)) : End Cx.top w₀ n E (BP P fn (PostOf w₀ (.v (.tuple #[u, v]))) .ret) := fun a w gr hs => by
  have h3 : a.tmps[r]?.getD undef = u := by rw [← Array.getD_eq_getD_getElem?]; exact hs.of r _ h1
  have h4 : a.tmps[s]?.getD undef = v := by rw [← Array.getD_eq_getD_getElem?]; exact hs.of s _ h2
  exact BP.ret hs.defers ⟨.tuple #[u, v], by simp [results, hr, h3, h4], _, rfl, gr, rfl⟩
end

/-! ### copy, clear -/
section
variable {P : Program} {n B : Nat} {ops : Array Oper} {E : Env} {ty : TypeId} {pos : String} {after : Array Edge}
end
end Go.Proofs.Ythhmimnkfklhdaa
namespace Go.Proofs.Ythhmimnkfklhdaa
open Go Go.RowKit
variable {κ : Cx}
/-- The greatest of them. -/
def mx (cs : List Nat) : Nat := cs.foldl max 0
def nonceL (s c : Nat) : List UInt8 := be 4 s ++ be 8 c
theorem nonceL_length (s c : Nat) : (nonceL s c).length = 12 := by simp [nonceL, be_length]
section
variable {P : Program} {B : Nat} {E : Env} {dst : Option Tmp} {ty : TypeId} {pos : String} {after : Array Edge} {guard : Option (Nat × Bool)}
theorem ok_capV {t e : TypeId} {x : Operand} {A : Option Addr} {n c : Nat} (ht : P.underlying t = some (.slice e)) (hx : E.at x = some (.v (.slice A n c))) :
    OpOk P B ⟨dst, .call { callee := .builtin .cap, args := #[x], argTypes := #[t] }, ty, pos, after, guard⟩ E (.v (.int .i64 (c : Int))) := fun ρ w _ _ hρ => by
  have h1 : ρ x = .slice A n c := hρ x (by simp [Op.operands, Call.operands]) _ hx
  exact out_val (w' := w) (by simp [execOp, resolve, invoke, builtin, Builtin.cap_, run_underlying ht, h1, goInt]) ⟨Grow.refl w, rfl⟩
/-- A literal of some fields. -/
def LitS (E : Env) : List (Nat × Value) → List (Nat × Operand) → Prop
  | [], [] => True
  | (i, u) :: us, (j, x) :: ps => i = j ∧ E.at x = some (.v u) ∧ LitS E us ps
  | _, _ => False
theorem LitS.map {ρ : Operand → Value} : ∀ {us : List (Nat × Value)} {ps : List (Nat × Operand)}, LitS E us ps → (∀ x, x ∈ ps.map (·.2) → ∀ v, E.at x = some (.v v) → ρ x = v) → ps.map (fun p => (p.1, ρ p.2)) = us
  | [], [], _, _ => rfl
  | [], _ :: _, h, _ => h.elim
  | _ :: _, [], h, _ => h.elim
  | (i, u) :: us, (j, x) :: ps, ⟨h1, h2, h3⟩, hρ => by
    subst h1
    simp only [List.map_cons, hρ x (by simp) u h2]
    rw [LitS.map h3 fun y hy v hv => hρ y (by simp only [List.map_cons, List.mem_cons]; exact .inr hy) v hv]
theorem ok_litS {t : TypeId} {ps : Array (Nat × Operand)} (us : List (Nat × Value)) (ys : List Value) (hl : LitS E us ps.toList) (hb : P.built t us = some ys.toArray) : OpOk P B ⟨dst, .build t ps, ty, pos, after, guard⟩ E (.v (aggV ys)) :=
  ok_lit us ys (fun _ hρ => hl.map hρ) hb
theorem ok_buildS {t : TypeId} {x : Operand} {ps : Array (Nat × Operand)} {f : D} {rest : List Value} {l : List (Nat × Operand)} (ks : List (Nat × Value)) (hps : ps.toList = (0, x) :: l) (hx : E.at x = some f) (hf : ∀ B w u, f.OfB B w u → ∃ A m c, u = .slice A m c)
    (hl : LitS E ks l) (hb : ∀ A m c, P.built t ((0, .slice A m c) :: ks) = some (Value.slice A m c :: rest : List Value).toArray) : OpOk P B ⟨dst, .build t ps, ty, pos, after, guard⟩ E (hdD f rest) :=
  ok_buildH hps hx hf (fun _ hρ => hl.map hρ) hb
end
theorem fresh_vlist {b : Nat} {e : TypeId} {xs : List Value} {n : Nat} (hn : n = xs.length) (hm : n ≤ maxLen) : Le (fresh b e xs n) (vlist xs n) := fun B w x ⟨g, h1, h2, h3, h4⟩ => by
  subst h1; subst hn
  exact slice_vlist xs rfl (Nat.le_refl _) hm (List.take_length ..) B w h3 h4
section
variable {P : Program} {n B : Nat} {ops : Array Oper} {E : Env} {ty : TypeId} {pos : String} {after : Array Edge}
end
end Go.Proofs.Ythhmimnkfklhdaa
namespace Go.Proofs.Ythhmimnkfklhdaa
open Go Go.RowKit
set_option linter.unusedVariables false
set_option maxRecDepth 20000

theorem info24 : InfoIs Try.prog 24 (.int .u32 0) 4 := by unfold InfoIs; kernel_rfl
theorem info25 : InfoIs Try.prog 25 (.int .u64 0) 8 := by unfold InfoIs; kernel_rfl
theorem info36 : InfoIs Try.prog 36 (.int .i64 0) 8 := by unfold InfoIs; kernel_rfl
theorem zero27 : ZeroIs Try.prog 27 ([.int .u32 0] ++ [.int .u64 0]) := by unfold ZeroIs; kernel_rfl
theorem size27 : SizeIs Try.prog 27 2 := by unfold SizeIs; kernel_rfl
theorem field27_0 : FieldIs Try.prog 27 0 0 1 := by unfold FieldIs; kernel_rfl
theorem field27_1 : FieldIs Try.prog 27 1 1 1 := by unfold FieldIs; kernel_rfl

theorem flatN : flat Try.prog 3 27 = some [.u32, .u64] := by kernel_rfl
theorem kinN (a b : Int) : Kin (fun _ _ => True) [.u32, .u64] [.int .u32 a, .int .u64 b] := kin_cons (kin_cons kin_nil)
theorem eqN {s c s' c' : Nat} : decide (s = s' ∧ c = c') = true ↔ [nW s, nQ c] = ([nW s', nQ c'] : List Value) := by simp; omega

theorem ref8Put_fn (s c : Nat) (hs : s < 4294967296) (hc : c < 18446744073709551616) : Fn Try.prog 41 [.v (aggV ([nW s, nQ c]))] (byt (nonceL s c)) := by
 refine Fn.of Try.func41 rfl (by kernel_rfl) Try.ntmps41 (by simp) (fun w => [(0, .v (aggV ([nW s, nQ c])))]) (fun w => (Start.v rfl Start.nil)) fun w₀ => ?_
 refine GS ?_
 refine TN 0 ?_
 refine RN ?_
 refine ⟨_, _, eff_box (n := 10) (d := 1) (k := 1000001) rfl (by decide), fun b1 hb1 => ?_⟩
 have hBb1 := hb1.1
 refine TL ?_
 refine RA rfl ?_
 refine RN ?_
 refine GD ?_
 refine TL ?_
 refine RS (ok_field field27_0 (by decide) rfl) ?_
 refine RS (ok_loadV (s := 1000001) (by decide) Try.underlying24 rfl rfl rfl (rfl)) ?_
 refine RS (ok_call ((refPut32_fn ((s : Nat) : Int) (by omega) (by omega)).le (d' := bytes (be 4 s) 4) (Le.refl _)) (A1 rfl)) ?_
 refine RS (ok_field field27_1 (by decide) rfl) ?_
 refine RS (ok_loadV (s := 1000001) (by decide) Try.underlying25 rfl rfl rfl (rfl)) ?_
 refine RS (ok_call ((refPut64_fn ((c : Nat) : Int) (by omega) (by omega)).le (d' := bytes (be 8 c) 8) (Le.refl _)) (A1 rfl)) ?_
 refine RS (ok_appendFull (l := be 4 s) (m := be 8 c) Try.underlying67 info5 (by decide) rfl rfl (Le.eq (by rw [be_length])) rfl (le_byt _ _) (by rw [be_length]; decide) (by rw [be_length]; decide) (by rw [be_length, be_length]; decide)) ?_
 refine RA rfl ?_
 refine RN ?_
 refine A.ret ?_
 exact End.ret1 rfl rfl (own_byt (B := w₀.heap.size) (e := 5) (n := (be 4 s).length + (be 8 c).length) (l := nonceL s c) (by rw [nonceL_length, be_length, be_length]))
theorem Put_fn (s c : Nat) (hs : s < 4294967296) (hc : c < 18446744073709551616) : Fn Try.prog 52 [.v (aggV ([nW s, nQ c]))] (bytes (nonceL s c) 12) := by
 refine Fn.of Try.func52 rfl (by kernel_rfl) Try.ntmps52 (by simp) (fun w => [(0, .v (aggV ([nW s, nQ c])))]) (fun w => (Start.v rfl Start.nil)) fun w₀ => ?_
 refine GS ?_
 refine TN 0 ?_
 refine RN ?_
 refine ⟨_, _, eff_box (n := 11) (d := 1) (k := 1000001) rfl (by decide), fun b1 hb1 => ?_⟩
 have hBb1 := hb1.1
 refine TL ?_
 refine RA rfl ?_
 refine RN ?_
 refine GD ?_
 refine TL ?_
 refine RS (ok_field field27_0 (by decide) rfl) ?_
 refine RS (ok_loadV (s := 1000001) (by decide) Try.underlying24 rfl rfl rfl (rfl)) ?_
 refine RS (ok_call ((Put32_fn ((s : Nat) : Int) (by omega) (by omega)).le (d' := bytes (be 4 s) 4) (Le.refl _)) (A1 rfl)) ?_
 refine RS (ok_field field27_1 (by decide) rfl) ?_
 refine RS (ok_loadV (s := 1000001) (by decide) Try.underlying25 rfl rfl rfl (rfl)) ?_
 refine RS (ok_call ((Put64_fn ((c : Nat) : Int) (by omega) (by omega)).le (d' := bytes (be 8 c) 8) (Le.refl _)) (A1 rfl)) ?_
 refine RS (ok_build [bytes (be 4 s) 4, bytes (be 8 c) 8] Try.underlying125 info67 rfl (by decide) (by decide) rfl ⟨rfl, rfl, rfl, rfl, trivial⟩ (fun d hd w x h => by simp only [List.mem_cons, List.not_mem_nil, or_false] at hd; rcases hd with rfl | rfl <;> exact list_one h)) ?_
 refine RS ((ok_call (Join_fn [be 4 s, be 8 c] (by simp) (by simp [be_length])) (Args.cons rfl (list_lst2 (le_byt _ 4) (le_byt _ 8)) Args.nil)).le (d' := bytes (nonceL s c) 12) (Le.eq (by simp [be_length]; rfl))) ?_
 refine RA rfl ?_
 refine RN ?_
 refine A.ret ?_
 exact End.ret1 rfl rfl (by first | exact Le.refl _ | exact Le.old _ _)
theorem chk_lo {n : Nat} {k : Int} (h : (n : Int) < k) : chk n k = 6 := by
 unfold chk
 repeat' split
 all_goals omega
theorem chk_hi {n : Nat} {k : Int} (h : k < (n : Int)) : chk n k = 5 := by
 unfold chk
 repeat' split
 all_goals omega
theorem chk_eq {n : Nat} {k : Int} (h : (n : Int) = k) : chk n k = 0 := by
 unfold chk
 repeat' split
 all_goals omega
theorem Get_lo (l : List UInt8) (h : l.length < 4) : Fn Try.prog 77 [byt l] (tup [.v (aggV [.int .u32 0, .int .u64 0]), .v (.int .i64 6)]) := by
 refine Fn.of Try.func77 rfl (by kernel_rfl) Try.ntmps77 (by simp) (fun w => [(0, old w.heap.size (byt l))]) (fun w => (Start.old rfl Start.nil)) fun w₀ => ?_
 refine GS ?_
 refine TN 0 ?_
 refine RN ?_
 refine ⟨_, _, eff_alloc (n := 36) (d := 2) (k := 1000002) zero27 (by decide), fun b2 hb2 => ?_⟩
 have hBb2 := hb2.1
 refine TL ?_
 refine RA rfl ?_
 refine RN ?_
 refine GS ?_
 refine TL ?_
 refine RM rfl ?_
 refine RS (ok_lenB Try.underlying67 rfl LA) ?_
 refine RS (ok_min rfl rfl) ?_; refine RZ (nI (l.length)) (congrArg (Value.int .i64) (by omega)) ?_
 refine RA rfl ?_
 refine RN ?_
 refine GS ?_
 refine TL ?_
 refine RM rfl ?_
 refine RM rfl ?_
 refine RS ((ok_slice (ds := l.map byteD) 0 (l.length) Try.underlying67 info5 rfl (Le.old _ _) (.inr ⟨rfl, rfl⟩) (.inl ⟨_, _, rfl, rfl⟩) (by omega) (by first | (simp; done) | (simp; omega))).le (d' := byt (l.take (l.length))) (Le.eq (by rw [List.drop_zero, ← List.map_take]; rfl))) ?_
 refine RS (ok_call (Get32_fn (l.take (l.length))) (A1 rfl)) ?_
 refine RM rfl ?_
 refine RS (ok_extract rfl rfl) ?_
 refine RS (ok_extract rfl rfl) ?_; refine RZ (.int .i64 6) (congrArg (Value.int .i64) (chk_lo (by first | (simp; done) | (simp; omega)))) ?_
 refine RA rfl ?_
 refine RA rfl ?_
 refine RN ?_
 refine A.seq ?_
 refine GS ?_
 refine TL ?_
 refine RM rfl ?_
 refine RBS rfl rfl rfl (.bool true) (by rfl) ?_
 refine RN ?_
 refine A.yes rfl ?_
 refine GS ?_
 refine TF 2 ?_
 refine RS (ok_lit [] ([.int .u32 0] ++ [.int .u64 0]) (fun _ _ => rfl) (by kernel_rfl)) ?_
 refine RM rfl ?_
 refine RN ?_
 refine ⟨_, eff_storeA (n := 36) (s := 1000002) (size27.of (rfl)) rfl rfl (rfl) hBb2 rfl (rfl) (LV 2 rfl (LV 21 rfl LN)), ?_⟩
 refine TL ?_
 refine RA rfl ?_
 refine RN ?_
 refine A.ret ?_
 refine End.ret_then ?_
 exact End.cellT (s := 1000002) rfl Try.underlying27 rfl (size27.of (rfl)) rfl rfl (Le.refl _) rfl (Le.refl _)
theorem Get_short (l : List UInt8) (h : 4 ≤ l.length) (h2 : l.length < 12) : Fn Try.prog 77 [byt l] (tup [.v (aggV [.int .u32 0, .int .u64 0]), .v (.int .i64 6)]) := by
 refine Fn.of Try.func77 rfl (by kernel_rfl) Try.ntmps77 (by simp) (fun w => [(0, old w.heap.size (byt l))]) (fun w => (Start.old rfl Start.nil)) fun w₀ => ?_
 refine GS ?_
 refine TN 0 ?_
 refine RN ?_
 refine ⟨_, _, eff_alloc (n := 36) (d := 2) (k := 1000002) zero27 (by decide), fun b2 hb2 => ?_⟩
 have hBb2 := hb2.1
 refine TL ?_
 refine RA rfl ?_
 refine RN ?_
 refine GS ?_
 refine TL ?_
 refine RM rfl ?_
 refine RS (ok_lenB Try.underlying67 rfl LA) ?_
 refine RS (ok_min rfl rfl) ?_; refine RZ (nI 4) (congrArg (Value.int .i64) (by omega)) ?_
 refine RA rfl ?_
 refine RN ?_
 refine GS ?_
 refine TL ?_
 refine RM rfl ?_
 refine RM rfl ?_
 refine RS ((ok_slice (ds := l.map byteD) 0 (4) Try.underlying67 info5 rfl (Le.old _ _) (.inr ⟨rfl, rfl⟩) (.inl ⟨_, _, rfl, rfl⟩) (by omega) (by first | (simp; done) | (simp; omega))).le (d' := byt (l.take (4))) (Le.eq (by rw [List.drop_zero, ← List.map_take]; rfl))) ?_
 refine RS (ok_call (Get32_fn (l.take (4))) (A1 rfl)) ?_
 refine RM rfl ?_
 refine RS (ok_extract rfl rfl) ?_
 refine RS (ok_extract rfl rfl) ?_; refine RZ (.int .i64 0) (congrArg (Value.int .i64) (chk_eq (by first | (simp; done) | (simp; omega)))) ?_
 refine RA rfl ?_
 refine RA rfl ?_
 refine RN ?_
 refine A.seq ?_
 refine GS ?_
 refine TL ?_
 refine RM rfl ?_
 refine RBS rfl rfl rfl (.bool false) (by rfl) ?_
 refine RN ?_
 refine A.no rfl ?_
 refine A.skip ?_
 refine EN ?_
 refine GS ?_
 refine TL ?_
 refine RM rfl ?_
 refine RM rfl ?_
 refine RS ((ok_slice (ds := l.map byteD) 4 l.length Try.underlying67 info5 rfl (Le.old _ _) (.inl ⟨_, _, rfl, rfl⟩) (.inr ⟨rfl, by simp⟩) (by omega) (by simp)).le (d' := byt (l.drop 4)) (Le.eq (by rw [List.take_of_length_le (by simp), ← List.map_drop]; rfl))) ?_
 refine RS (ok_call (Get64_fn (l.drop 4)) (A1 rfl)) ?_
 refine RM rfl ?_
 refine RS (ok_extract rfl rfl) ?_
 refine RS (ok_extract rfl rfl) ?_; refine RZ (.int .i64 6) (congrArg (Value.int .i64) (chk_lo (by first | (simp; done) | (simp; omega)))) ?_
 refine RA rfl ?_
 refine RA rfl ?_
 refine RN ?_
 refine A.sub (KC 2 rfl (KC 5 rfl (KC 6 rfl (KC 7 rfl (KC 1000002 rfl KN))))) ?_
 refine A.seq ?_
 refine GS ?_
 refine TL ?_
 refine RM rfl ?_
 refine RBS rfl rfl rfl (.bool true) (by rfl) ?_
 refine RN ?_
 refine A.yes rfl ?_
 refine GS ?_
 refine TF 2 ?_
 refine RS (ok_lit [] ([.int .u32 0] ++ [.int .u64 0]) (fun _ _ => rfl) (by kernel_rfl)) ?_
 refine RM rfl ?_
 refine RN ?_
 refine ⟨_, eff_storeA (n := 36) (s := 1000002) (size27.of (rfl)) rfl rfl (rfl) hBb2 rfl (rfl) (LV 2 rfl (LV 32 rfl LN)), ?_⟩
 refine TL ?_
 refine RA rfl ?_
 refine RN ?_
 refine A.ret ?_
 refine End.ret_then ?_
 exact End.cellT (s := 1000002) rfl Try.underlying27 rfl (size27.of (rfl)) rfl rfl (Le.refl _) rfl (Le.refl _)
theorem Get_long (l : List UInt8) (h : 12 < l.length) : Fn Try.prog 77 [byt l] (tup [.v (aggV [.int .u32 0, .int .u64 0]), .v (.int .i64 5)]) := by
 refine Fn.of Try.func77 rfl (by kernel_rfl) Try.ntmps77 (by simp) (fun w => [(0, old w.heap.size (byt l))]) (fun w => (Start.old rfl Start.nil)) fun w₀ => ?_
 refine GS ?_
 refine TN 0 ?_
 refine RN ?_
 refine ⟨_, _, eff_alloc (n := 36) (d := 2) (k := 1000002) zero27 (by decide), fun b2 hb2 => ?_⟩
 have hBb2 := hb2.1
 refine TL ?_
 refine RA rfl ?_
 refine RN ?_
 refine GS ?_
 refine TL ?_
 refine RM rfl ?_
 refine RS (ok_lenB Try.underlying67 rfl LA) ?_
 refine RS (ok_min rfl rfl) ?_; refine RZ (nI 4) (congrArg (Value.int .i64) (by omega)) ?_
 refine RA rfl ?_
 refine RN ?_
 refine GS ?_
 refine TL ?_
 refine RM rfl ?_
 refine RM rfl ?_
 refine RS ((ok_slice (ds := l.map byteD) 0 (4) Try.underlying67 info5 rfl (Le.old _ _) (.inr ⟨rfl, rfl⟩) (.inl ⟨_, _, rfl, rfl⟩) (by omega) (by first | (simp; done) | (simp; omega))).le (d' := byt (l.take (4))) (Le.eq (by rw [List.drop_zero, ← List.map_take]; rfl))) ?_
 refine RS (ok_call (Get32_fn (l.take (4))) (A1 rfl)) ?_
 refine RM rfl ?_
 refine RS (ok_extract rfl rfl) ?_
 refine RS (ok_extract rfl rfl) ?_; refine RZ (.int .i64 0) (congrArg (Value.int .i64) (chk_eq (by first | (simp; done) | (simp; omega)))) ?_
 refine RA rfl ?_
 refine RA rfl ?_
 refine RN ?_
 refine A.seq ?_
 refine GS ?_
 refine TL ?_
 refine RM rfl ?_
 refine RBS rfl rfl rfl (.bool false) (by rfl) ?_
 refine RN ?_
 refine A.no rfl ?_
 refine A.skip ?_
 refine EN ?_
 refine GS ?_
 refine TL ?_
 refine RM rfl ?_
 refine RM rfl ?_
 refine RS ((ok_slice (ds := l.map byteD) 4 l.length Try.underlying67 info5 rfl (Le.old _ _) (.inl ⟨_, _, rfl, rfl⟩) (.inr ⟨rfl, by simp⟩) (by omega) (by simp)).le (d' := byt (l.drop 4)) (Le.eq (by rw [List.take_of_length_le (by simp), ← List.map_drop]; rfl))) ?_
 refine RS (ok_call (Get64_fn (l.drop 4)) (A1 rfl)) ?_
 refine RM rfl ?_
 refine RS (ok_extract rfl rfl) ?_
 refine RS (ok_extract rfl rfl) ?_; refine RZ (.int .i64 5) (congrArg (Value.int .i64) (chk_hi (by first | (simp; done) | (simp; omega)))) ?_
 refine RA rfl ?_
 refine RA rfl ?_
 refine RN ?_
 refine A.sub (KC 2 rfl (KC 5 rfl (KC 6 rfl (KC 7 rfl (KC 1000002 rfl KN))))) ?_
 refine A.seq ?_
 refine GS ?_
 refine TL ?_
 refine RM rfl ?_
 refine RBS rfl rfl rfl (.bool true) (by rfl) ?_
 refine RN ?_
 refine A.yes rfl ?_
 refine GS ?_
 refine TF 2 ?_
 refine RS (ok_lit [] ([.int .u32 0] ++ [.int .u64 0]) (fun _ _ => rfl) (by kernel_rfl)) ?_
 refine RM rfl ?_
 refine RN ?_
 refine ⟨_, eff_storeA (n := 36) (s := 1000002) (size27.of (rfl)) rfl rfl (rfl) hBb2 rfl (rfl) (LV 2 rfl (LV 32 rfl LN)), ?_⟩
 refine TL ?_
 refine RA rfl ?_
 refine RN ?_
 refine A.ret ?_
 refine End.ret_then ?_
 exact End.cellT (s := 1000002) rfl Try.underlying27 rfl (size27.of (rfl)) rfl rfl (Le.refl _) rfl (Le.refl _)
theorem Get_good (l : List UInt8) (h : l.length = 12) : Fn Try.prog 77 [byt l] (tup [.v (aggV [.int .u32 (getV (l.take 4) 4), .int .u64 (getV (l.drop 4) 8)]), .v (.int .i64 0)]) := by
 refine Fn.of Try.func77 rfl (by kernel_rfl) Try.ntmps77 (by simp) (fun w => [(0, old w.heap.size (byt l))]) (fun w => (Start.old rfl Start.nil)) fun w₀ => ?_
 refine GS ?_
 refine TN 0 ?_
 refine RN ?_
 refine ⟨_, _, eff_alloc (n := 36) (d := 2) (k := 1000002) zero27 (by decide), fun b2 hb2 => ?_⟩
 have hBb2 := hb2.1
 refine TL ?_
 refine RA rfl ?_
 refine RN ?_
 refine GS ?_
 refine TL ?_
 refine RM rfl ?_
 refine RS (ok_lenB Try.underlying67 rfl LA) ?_
 refine RS (ok_min rfl rfl) ?_; refine RZ (nI 4) (congrArg (Value.int .i64) (by omega)) ?_
 refine RA rfl ?_
 refine RN ?_
 refine GS ?_
 refine TL ?_
 refine RM rfl ?_
 refine RM rfl ?_
 refine RS ((ok_slice (ds := l.map byteD) 0 (4) Try.underlying67 info5 rfl (Le.old _ _) (.inr ⟨rfl, rfl⟩) (.inl ⟨_, _, rfl, rfl⟩) (by omega) (by first | (simp; done) | (simp; omega))).le (d' := byt (l.take (4))) (Le.eq (by rw [List.drop_zero, ← List.map_take]; rfl))) ?_
 refine RS (ok_call (Get32_fn (l.take (4))) (A1 rfl)) ?_
 refine RM rfl ?_
 refine RS (ok_extract rfl rfl) ?_
 refine RS (ok_extract rfl rfl) ?_; refine RZ (.int .i64 0) (congrArg (Value.int .i64) (chk_eq (by first | (simp; done) | (simp; omega)))) ?_
 refine RA rfl ?_
 refine RA rfl ?_
 refine RN ?_
 refine A.seq ?_
 refine GS ?_
 refine TL ?_
 refine RM rfl ?_
 refine RBS rfl rfl rfl (.bool false) (by rfl) ?_
 refine RN ?_
 refine A.no rfl ?_
 refine A.skip ?_
 refine EN ?_
 refine GS ?_
 refine TL ?_
 refine RM rfl ?_
 refine RM rfl ?_
 refine RS ((ok_slice (ds := l.map byteD) 4 l.length Try.underlying67 info5 rfl (Le.old _ _) (.inl ⟨_, _, rfl, rfl⟩) (.inr ⟨rfl, by simp⟩) (by omega) (by simp)).le (d' := byt (l.drop 4)) (Le.eq (by rw [List.take_of_length_le (by simp), ← List.map_drop]; rfl))) ?_
 refine RS (ok_call (Get64_fn (l.drop 4)) (A1 rfl)) ?_
 refine RM rfl ?_
 refine RS (ok_extract rfl rfl) ?_
 refine RS (ok_extract rfl rfl) ?_; refine RZ (.int .i64 0) (congrArg (Value.int .i64) (chk_eq (by first | (simp; done) | (simp; omega)))) ?_
 refine RA rfl ?_
 refine RA rfl ?_
 refine RN ?_
 refine A.sub (KC 2 rfl (KC 5 rfl (KC 6 rfl (KC 7 rfl (KC 1000002 rfl KN))))) ?_
 refine A.seq ?_
 refine GS ?_
 refine TL ?_
 refine RM rfl ?_
 refine RBS rfl rfl rfl (.bool false) (by rfl) ?_
 refine RN ?_
 refine A.no rfl ?_
 refine A.skip ?_
 refine EN ?_
 refine GS ?_
 refine TF 3 ?_
 refine RM rfl ?_
 refine RM rfl ?_
 refine RS (ok_litS [(0, .int .u32 (getV (l.take 4) 4)), (1, .int .u64 (getV (l.drop 4) 8))] [.int .u32 (getV (l.take 4) 4), .int .u64 (getV (l.drop 4) 8)] ⟨rfl, rfl, rfl, rfl, trivial⟩ (by kernel_rfl)) ?_
 refine RN ?_
 refine ⟨_, eff_storeA (n := 36) (s := 1000002) (size27.of (rfl)) rfl rfl (rfl) hBb2 rfl (rfl) (LV 2 rfl LN), ?_⟩
 refine TL ?_
 refine RA rfl ?_
 refine RN ?_
 refine A.ret ?_
 exact End.cellT (s := 1000002) rfl Try.underlying27 rfl (size27.of (rfl)) rfl rfl (Le.refl _) rfl (Le.refl _)
/-- What is read of any bytes. -/
def gS (l : List UInt8) : Nat := if l.length = 12 then (getV (l.take 4) 4).toNat else 0
def gC (l : List UInt8) : Nat := if l.length = 12 then (getV (l.drop 4) 8).toNat else 0
def gE (n : Nat) : Int := if n < 12 then 6 else if n = 12 then 0 else 5
theorem getV_nat (l : List UInt8) (k : Nat) : ((getV l k).toNat : Int) = getV l k := by unfold getV; split <;> simp
theorem Get_fn (l : List UInt8) : Fn Try.prog 77 [byt l] (tup [.v (aggV [nW (gS l), nQ (gC l)]), .v (.int .i64 (gE l.length))]) := by
 by_cases h4 : l.length < 4
 ·rw [gS, gC, gE, if_neg (by omega), if_neg (by omega), if_pos (by omega)]; exact Get_lo l h4
 by_cases h12 : l.length < 12
 ·rw [gS, gC, gE, if_neg (by omega), if_neg (by omega), if_pos h12]; exact Get_short l (by omega) h12
 by_cases h : l.length = 12
 ·rw [gS, gC, gE, if_pos h, if_pos h, if_neg (by omega), if_pos h]; simp only [nW, nQ, getV_nat]; exact Get_good l h
 ·rw [gS, gC, gE, if_neg h, if_neg h, if_neg (by omega), if_neg h]; exact Get_long l (by omega)
theorem be_getV {l : List UInt8} {k : Nat} (h : l.length = k) : be k (getV l k).toNat = l := by
 rw [getV, if_pos h, Int.toNat_natCast, be_num h]
theorem nonce_back {l : List UInt8} (h : l.length = 12) : nonceL (gS l) (gC l) = l := by
 rw [nonceL, gS, gC, if_pos h, if_pos h, be_getV (by simp; omega), be_getV (by simp; omega), List.take_append_drop]
theorem gS_nonce {s c : Nat} (hs : s < 4294967296) : gS (nonceL s c) = s := by
 rw [gS, if_pos (nonceL_length s c), show (nonceL s c).take 4 = be 4 s from by rw [nonceL, List.take_left' (be_length 4 s)], getV, if_pos (be_length 4 s), num_be, Nat.mod_eq_of_lt (by omega), Int.toNat_natCast]
theorem gC_nonce {s c : Nat} (hc : c < 18446744073709551616) : gC (nonceL s c) = c := by
 rw [gC, if_pos (nonceL_length s c), show (nonceL s c).drop 4 = be 8 c from by rw [nonceL, List.drop_left' (be_length 4 s)], getV, if_pos (be_length 8 c), num_be, Nat.mod_eq_of_lt (by omega), Int.toNat_natCast]
end Go.Proofs.Ythhmimnkfklhdaa
namespace Go.Proofs.Ythhmimnkfklhdaa
open Go Go.RowKit
variable {κ : Cx}
section
variable {P : Program} {B : Nat} {E : Env} {o : Oper}
end
section
variable {P : Program} {n : Nat} {w₀ : World} {E : Env}
end
/-! ### A row with room behind it, named where it is made -/
/-! ### Variables -/
theorem Surv.hd {B T g : Nat} {f : D} {rest : List Value} (h : Surv B T g f) : Surv B T g (hdD f rest) := fun w w' _ k ⟨v, h1, h2, h3⟩ => ⟨v, h1, h2, h w w' v k h3⟩
section
variable {P : Program} {n B : Nat} {ops : Array Oper} {E : Env} {ty : TypeId} {pos : String} {after : Array Edge}
end
/-- Some value. -/
def anyD : D := .p (fun _ _ _ => True) (fun _ _ _ _ _ _ => trivial) (fun _ _ _ _ _ _ => trivial)
theorem Surv.any {B T g : Nat} : Surv B T g anyD := fun _ _ _ _ _ => trivial
end Go.Proofs.Ythhmimnkfklhdaa
namespace Go.Proofs.Ythhmimnkfklhdaa
open Go Go.RowKit
variable {κ : Cx}

def RelX (eff : Bool) (B : Nat) (w w' : World) : Prop := if eff then Below B w w' else Grow w w'
theorem RelX.below {eff : Bool} {B : Nat} {w w' : World} (h : RelX eff B w w') (hB : B ≤ w.heap.size) : Below B w w' := by
  cases eff with
  | true => exact h
  | false => exact Below.mono (show Grow w w' from h) hB
def OpOkX (eff : Bool) (P : Program) (B : Nat) (o : Oper) (E : Env) (d : D) : Prop :=
  ∀ (ρ : Operand → Value) (w : World), B ≤ w.heap.size → (∀ t e, vbase ≤ t → E.look t = some e → e.Of w undef) → (∀ x, x ∈ o.op.operands → ∀ e, E.at x = some e → e.Of w (ρ x)) → Out P o ρ w fun x w' => RelX eff B w w' ∧ d.Of w' x
def GoodX (eff : Bool) (P : Program) (B : Nat) (ops : Array Oper) (o : Oper) (E : Env) (d : D) : Prop :=
  (GuardIs ops E o true ∧ OpOkX eff P B o E d) ∨ (GuardIs ops E o false ∧ d = .v undef)
/-- Of an operation: does it change memory, does what is told of its value stay true whatever happens above the base, and which operation makes it untrue. -/
structure Mk where
  eff : Bool
  stab : Bool
  kill : Option Nat
section
variable {P : Program} {B : Nat} {ops : Array Oper} {Q : Exit → Act → World → Prop}
theorem good_wpX {eff : Bool} {E : Env} {o : Oper} {a : Act} {w : World} {K : Act → World → Prop} {t : Nat} {d : D} (hB : B ≤ w.heap.size) (hvirt : ∀ t e, vbase ≤ t → E.look t = some e → e.Of w undef) (ht : o.dst = some t) (hg : GoodX eff P B ops o E d)
    (hl : ∀ s e, s ∈ o.looksAt ops → E.look s = some e → e.Of w (a.tmps.getD s undef)) (hsz : ∀ s, s ∈ o.looksAt ops → s < a.tmps.size)
    (hK : ∀ x w', RelX eff B w w' → d.Of w' x → K (a.put (some t) x) w') :
    if Region.wanted o (yielded ops a.tmps) = true then o.wpIn (FR κ.rd) 0 P a w K Q else K (a.put o.dst undef) w := by
  have hl' : ∀ s e, s ∈ o.looksAt ops → E.look s = some e → ∀ w, e.Of w (a.tmps.getD s undef) ∨ ∃ F k u, e = .p F k u := fun s e hs he w' => by
    cases e with
    | v y => exact .inl (hl s _ hs he)
    | p F k u => exact .inr ⟨F, k, u, rfl⟩
  rcases hg with ⟨hg, hok⟩ | ⟨hg, rfl⟩
  · rw [wanted_of hg hl' hsz, if_pos rfl]
    refine wp_of_out ht ((hok a.eval w hB hvirt fun x hx e he => ?_).mono fun x w' h => hK x w' h.1 h.2)
    cases x with
    | tmp s => exact hl s e (List.mem_append_left _ (List.mem_filterMap.2 ⟨.tmp s, by simpa using hx, rfl⟩)) he
    | const c => simp only [Env.at, Option.some.injEq] at he; subst he; rfl
    | global g => simp only [Env.at, Option.some.injEq] at he; subst he; rfl
    | func f => simp only [Env.at, Option.some.injEq] at he; subst he; rfl
  · rw [wanted_of hg hl' hsz, if_neg (by simp), ht]
    refine hK undef w ?_ rfl
    cases eff with
    | true => exact Below.refl _ _
    | false => exact Grow.refl w
inductive TraceX (P : Program) (B : Nat) (ops : Array Oper) : List Oper → Env → List Mk → List D → Env → Prop
  | nil {E : Env} : TraceX P B ops [] E [] [] E
  | cons {o : Oper} {rest : List Oper} {E E' : Env} {t : Nat} {d : D} {ds : List D} {m : Mk} {ms : List Mk} (ht : o.dst = some t) (hg : GoodX m.eff P B ops o E d) (hs : m.stab = true → Stays B d) (hr : TraceX P B ops rest ((t, d) :: E) ms ds E') : TraceX P B ops (o :: rest) E (m :: ms) (d :: ds) E'
theorem TraceX.nth {rest : List Oper} {E E' : Env} {ms : List Mk} {ds : List D} (h : TraceX P B ops rest E ms ds E') : ∀ {i : Nat} {o : Oper}, rest[i]? = some o →
    ∃ t d Ei m, o.dst = some t ∧ ds[i]? = some d ∧ ms[i]? = some m ∧ GoodX m.eff P B ops o Ei d ∧ (m.stab = true → Stays B d) ∧ ∀ s e, Ei.look s = some e →
      (∃ j o', j < i ∧ rest[j]? = some o' ∧ o'.dst = some s ∧ ds[j]? = some e) ∨ ((∀ j o', j < i → rest[j]? = some o' → o'.dst ≠ some s) ∧ E.look s = some e) := by
  induction h with
  | nil => intro i o hi; simp at hi
  | @cons o0 rest E E' t0 d0 ds m0 ms ht hg hs hr ih =>
    intro i o hi
    cases i with
    | zero =>
      simp at hi; subst hi
      exact ⟨t0, d0, E, m0, ht, rfl, rfl, hg, hs, fun s e he => .inr ⟨fun j _ hj => by omega, he⟩⟩
    | succ i =>
      obtain ⟨t, d, Ei, m, h1, h2, h2', h3, h3', h4⟩ := ih (i := i) (by simpa using hi)
      refine ⟨t, d, Ei, m, h1, by simpa using h2, by simpa using h2', h3, h3', fun s e he => ?_⟩
      rcases h4 s e he with ⟨j, o', hj, ho', hd, hds⟩ | ⟨hno, hl⟩
      · exact .inl ⟨j + 1, o', by omega, by simpa using ho', hd, by simpa using hds⟩
      · by_cases hs : t0 = s
        · subst hs
          rw [look_here] at hl
          exact .inl ⟨0, o0, by omega, rfl, ht, by simpa using hl⟩
        · rw [look_past _ _ hs] at hl
          refine .inr ⟨fun j o' hj ho' => ?_, hl⟩
          cases j with
          | zero => simp at ho'; subst ho'; rw [ht]; intro h; injection h with h; exact hs h
          | succ j => exact hno j o' (by omega) (by simpa using ho')
theorem TraceX.last {rest : List Oper} {E E' : Env} {ms : List Mk} {ds : List D} (h : TraceX P B ops rest E ms ds E') : ∀ s e, E'.look s = some e →
      (∃ (j : Nat) (o' : Oper), rest[j]? = some o' ∧ o'.dst = some s ∧ ds[j]? = some e) ∨ ((∀ (j : Nat) (o' : Oper), rest[j]? = some o' → o'.dst ≠ some s) ∧ E.look s = some e) := by
  induction h with
  | nil => intro s e he; exact .inr ⟨fun j _ hj => by simp at hj, he⟩
  | @cons o0 rest E E' t0 d0 ds m0 ms ht hg hs hr ih =>
    intro s e he
    rcases ih s e he with ⟨j, o', ho', hd, hds⟩ | ⟨hno, hl⟩
    · exact .inl ⟨j + 1, o', by simpa using ho', hd, by simpa using hds⟩
    · by_cases hs : t0 = s
      · subst hs
        rw [look_here] at hl
        exact .inl ⟨0, o0, rfl, ht, by simpa using hl⟩
      · rw [look_past _ _ hs] at hl
        refine .inr ⟨fun j o' ho' => ?_, hl⟩
        cases j with
        | zero => simp at ho'; subst ho'; rw [ht]; intro h; injection h with h; exact hs h
        | succ j => exact hno j o' (by simpa using ho')
/-- What is told of number j's value is still true when number i has changed memory, as long as anyone looks at it. -/
def chainOk (ops : Array Oper) (ms : List Mk) : Bool :=
  let b := (befores ops).map List.eraseDups
  (List.range ops.size).all fun i => (List.range ops.size).all fun j => match ops[i]?, ms[i]?, ops[j]?, ms[j]? with
    | some o, some m, some q, some mj =>
      (j == i || !m.eff || mj.stab || mj.kill == some i || (b.getD j []).contains i || (match mj.kill with | some k => (b.getD i []).contains k | none => false)) &&
      (match q.dst with
        | some t => !(decide (j < i) && (o.looksAt ops).contains t) || (match mj.kill with | none => true | some k => k == i || (b.getD k []).contains i)
        | none => true)
    | _, _, _, _ => false
theorem chainOk_get {ms : List Mk} (h : chainOk ops ms = true) {i j : Nat} {o q : Oper} {m mj : Mk} (hi : ops[i]? = some o) (hm : ms[i]? = some m) (hj : ops[j]? = some q) (hmj : ms[j]? = some mj) :
    (j = i ∨ m.eff = false ∨ mj.stab = true ∨ mj.kill = some i ∨ i ∈ (befores ops).getD j [] ∨ ∃ k, mj.kill = some k ∧ k ∈ (befores ops).getD i []) ∧
    ∀ t, q.dst = some t → j < i → t ∈ o.looksAt ops → ∀ k, mj.kill = some k → k = i ∨ i ∈ (befores ops).getD k [] := by
  have hmem : ∀ k l, l ∈ (Array.map List.eraseDups (befores ops)).getD k [] → l ∈ (befores ops).getD k [] := fun k l h => by
    rw [Array.getD_eq_getD_getElem?, Array.getElem?_map] at h
    rw [Array.getD_eq_getD_getElem?]
    cases hk : (befores ops)[k]? with
    | none => rw [hk] at h; simp at h
    | some v => rw [hk] at h; simpa using h
  have hli : i < ops.size := (Array.getElem?_eq_some_iff.1 hi).1
  have hlj : j < ops.size := (Array.getElem?_eq_some_iff.1 hj).1
  have h1 := List.all_eq_true.1 (List.all_eq_true.1 h i (List.mem_range.2 hli)) j (List.mem_range.2 hlj)
  simp only [hi, hm, hj, hmj, Bool.and_eq_true] at h1
  obtain ⟨h1, h2⟩ := h1
  refine ⟨?_, fun t ht hji hlk k hk => ?_⟩
  · simp only [Bool.or_eq_true, beq_iff_eq, Bool.not_eq_true', List.contains_eq_mem, decide_eq_true_eq] at h1
    rcases h1 with ((((h | h) | h) | h) | h) | h
    · exact .inl h
    · exact .inr (.inl h)
    · exact .inr (.inr (.inl h))
    · exact .inr (.inr (.inr (.inl h)))
    · exact .inr (.inr (.inr (.inr (.inl (hmem _ _ h)))))
    · split at h
      · rename_i k hk
        exact .inr (.inr (.inr (.inr (.inr ⟨k, hk, hmem _ _ (by simpa using h)⟩))))
      · cases h
  · rw [ht] at h2
    simp only [Bool.or_eq_true, Bool.not_eq_true', Bool.and_eq_false_iff, decide_eq_false_iff_not, List.contains_eq_mem] at h2
    rcases h2 with (h2 | h2) | h2
    · exact absurd hji h2
    · exact absurd hlk h2
    · rw [hk] at h2
      simp only [Bool.or_eq_true, beq_iff_eq, decide_eq_true_eq] at h2
      exact h2.imp id (hmem _ _)
theorem befores_closed (htied : tied ops = true) {listed : Array Bool} (hc : ∀ i o, ops[i]? = some o → listed.getD i false = true → ∀ e ∈ o.after, Region.binds .any e = true → listed.getD e.on false = true) :
    ∀ i j, (∀ o, ops[i]? = some o → ∀ e ∈ o.after, Region.binds .any e = true → listed.getD e.on false = true) → j ∈ (befores ops).getD i [] → listed.getD j false = true := by
  intro i
  induction i using Nat.strongRecOn with
  | _ i ih =>
    intro j hi hj
    obtain ⟨o, e, ho, he, hb, h⟩ := befores_step hj
    have hl := hi o ho e he hb
    rcases h with rfl | h
    · exact hl
    · exact ih e.on (tied_edge htied ho he hb) j (fun o' ho' e' he' hb' => hc e.on o' ho' hl e' he' hb') h
structure InvX (κ : Cx) (n B : Nat) (ops : Array Oper) (ms : List Mk) (ds : List D) (a₀ : Act) (w₀ : World) (listed : Array Bool) (a : Act) (w : World) : Prop where
  below : Below B w₀ w
  base0 : B ≤ w₀.heap.size
  base : B ≤ w.heap.size
  lsize : listed.size = ops.size
  defers : a.defers = κ.df
  size : a.tmps.size = n
  closed : ∀ i o, ops[i]? = some o → listed.getD i false = true → ∀ e ∈ o.after, Region.binds .any e = true → listed.getD e.on false = true
  facts : ∀ i o t d m, ops[i]? = some o → listed.getD i false = true → o.dst = some t → ds[i]? = some d → ms[i]? = some m → (∀ k, m.kill = some k → listed.getD k false = false) → d.Of w (a.tmps.getD t undef)
  frame : ∀ t, (∀ i o, ops[i]? = some o → listed.getD i false = true → o.dst ≠ some t) → a.tmps.getD t undef = a₀.tmps.getD t undef
/-- The slots of which nothing is told at the end. -/
def deadX (ops : Array Oper) (ms : List Mk) : List Nat := (List.range ops.size).filterMap fun i => match ops[i]?, ms[i]? with
  | some o, some m => if m.kill.isSome then o.dst else none
  | _, _ => none
theorem wp_X {n : Nat} {ms : List Mk} {E E' E'' : Env} {ds : List D} {a₀ : Act} {w₀ : World} (htied : tied ops = true) (hfits : fits n ops = true) (hch : chainOk ops ms = true) (ht : TraceX P B ops ops.toList E ms ds E') (h₀ : St κ n B E a₀ w₀) (hE : ∀ p ∈ E, Stays B p.2)
    (hs'' : Sub E'' E') (hd'' : ∀ p ∈ E'', p.1 ∉ deadX ops ms) (hend : ∀ a' w', Below B w₀ w' → St κ n B E'' a' w' → Q .normal a' w') :
    ∀ (fuel : Nat) (listed : Array Bool) (a : Act) (w : World), unlisted ops listed ≤ fuel → InvX κ n B ops ms ds a₀ w₀ listed a w → wpAnyIn (FR κ.rd) 0 P .any ops Q fuel listed a w := by
  have hini : ∀ t e x w, Below B w₀ w → E.look t = some e → e.Of w₀ x → e.Of w x := fun t e x w g hl h => hE _ (look_mem hl) w₀ w x g h₀.base h
  have hmin : ∀ (listed : Array Bool) (a : Act) (w : World), InvX κ n B ops ms ds a₀ w₀ listed a w → Region.ready .any ops listed = [] → ∀ i, i < ops.size → listed.getD i false = true := by
    intro listed a w I hr i
    induction i using Nat.strongRecOn with
    | _ i ih =>
      intro hi
      rcases hb : listed.getD i false with _ | _
      · exfalso
        have : i ∈ Region.ready .any ops listed := by
          rw [mem_ready]
          refine ⟨?_, ops[i], Array.getElem?_eq_getElem hi, fun e he hbd => ih e.on (tied_edge htied (Array.getElem?_eq_getElem hi) he hbd) (Nat.lt_trans (tied_edge htied (Array.getElem?_eq_getElem hi) he hbd) hi)⟩
          have : i < listed.size := by rw [I.lsize]; exact hi
          simp [this] at hb ⊢
          exact hb
        rw [hr] at this
        cases this
      · rfl
  have hends : ∀ (listed : Array Bool) (a : Act) (w : World), InvX κ n B ops ms ds a₀ w₀ listed a w → Region.ready .any ops listed = [] → Q .normal a w := by
    intro listed a w I hr
    have hall := hmin listed a w I hr
    refine hend a w I.below ⟨I.base, I.defers, I.size, fun t e he => ?_⟩
    have hmem := look_mem he
    rcases ht.last t e (hs'' _ hmem) with ⟨j, o, hj, hd, hds⟩ | ⟨hno, hl⟩
    · have hj' : ops[j]? = some o := by simpa using hj
      have hlt := (Array.getElem?_eq_some_iff.1 hj').1
      obtain ⟨_, _, _, m, _, _, hm, _⟩ := ht.nth (i := j) (o := o) hj
      refine I.facts j o t e m hj' (hall j hlt) hd hds hm fun k hk => ?_
      exfalso
      refine hd'' _ hmem (List.mem_filterMap.2 ⟨j, List.mem_range.2 hlt, ?_⟩)
      simp only [hj', hm, hk, Option.isSome_some, if_true, hd]
    · rw [I.frame t fun i o hi _ => hno i o (by simpa using hi)]
      exact hini t e _ _ I.below hl (h₀.of t e hl)
  intro fuel
  induction fuel with
  | zero =>
    intro listed a w hc I
    have hr : Region.ready .any ops listed = [] := by
      rcases hr : Region.ready .any ops listed with _ | ⟨i, l⟩
      · rfl
      · exfalso
        have hi : i ∈ Region.ready .any ops listed := by rw [hr]; exact List.mem_cons_self
        obtain ⟨hu, o, ho, _⟩ := mem_ready.1 hi
        have hpos : 0 < unlisted ops listed := List.countP_pos_iff.2 ⟨i, List.mem_range.2 (Array.getElem?_eq_some_iff.1 ho).1, by simp only [hu]; rfl⟩
        omega
    exact ⟨hr, hends listed a w I hr⟩
  | succ fuel ih =>
    intro listed a w hc I
    refine ⟨hends listed a w I, fun i hi => ?_⟩
    obtain ⟨hu, o, ho, hall⟩ := mem_ready.1 hi
    have hlt : i < ops.size := (Array.getElem?_eq_some_iff.1 ho).1
    have hil : i < listed.size := by rw [I.lsize]; exact hlt
    have huf : listed.getD i false = false := by
      simp [hil] at hu ⊢
      exact hu
    have hready : ∀ o', ops[i]? = some o' → ∀ e ∈ o'.after, Region.binds .any e = true → listed.getD e.on false = true := fun o' ho' e he hb => by
      rw [ho] at ho'; injection ho' with ho'; subst ho'; exact hall e he hb
    obtain ⟨t, d, Ei, m, hdst, hds, hm, hgood, hstab, henv⟩ := ht.nth (i := i) (o := o) (by simpa using ho)
    have hf := fits_mem hfits (o := o) (by simpa using Array.mem_of_getElem? ho)
    have hnb := fits_base hfits
    have hbc : ∀ j, j ∈ (befores ops).getD i [] → listed.getD j false = true := fun j => befores_closed htied I.closed i j hready
    have hbl : ∀ j, listed.getD j false = true → i ∈ (befores ops).getD j [] → False := fun j hj hm => by
      have := befores_closed htied I.closed j i (fun o' ho' e' he' hb' => I.closed j o' ho' hj e' he' hb') hm
      rw [huf] at this; cases this
    refine wpOpR_step ho fun K hK => good_wpX I.base (fun t e hvt he => ?_) hdst hgood (fun r e hs he => ?_) (fun r hs => by rw [I.size]; exact hf.1 r hs) fun x w' g hx => hK _ _ (ih _ _ _ ?_ ?_)
    · rcases henv t e he with ⟨j, q, hji, hj, hpd, hpds⟩ | ⟨hno, hl⟩
      · have h9 : t < n := (fits_mem hfits (o := q) (List.mem_of_getElem? hj)).2 t hpd
        exact absurd (Nat.lt_of_lt_of_le h9 hnb) (Nat.not_lt.2 hvt)
      · exact hini t e _ _ I.below hl ((h₀.virt hnb) t e hvt hl)
    · rcases henv r e he with ⟨j, q, hji, hj, hpd, hpds⟩ | ⟨hno, hl⟩
      · have hj' : ops[j]? = some q := by simpa using hj
        obtain ⟨_, _, _, mj, _, _, hmj, _⟩ := ht.nth (i := j) (o := q) hj
        obtain ⟨ed, he1, hb, hon⟩ := ((tied_pair htied ho hj' hpd (by omega)).2 hs).1 (by omega)
        refine I.facts j q r e mj hj' ?_ hpd hpds hmj fun k hk => ?_
        · rw [← hon]
          exact hall ed he1 hb
        · rcases (chainOk_get hch ho hm hj' hmj).2 r hpd hji hs k hk with rfl | h
          · exact huf
          · rcases hb : listed.getD k false with _ | _
            · rfl
            · exact (hbl k hb h).elim
      · rw [I.frame r]
        · exact hini r e _ _ I.below hl (h₀.of r e hl)
        · intro j q hj hlist hpd
          by_cases hji : j = i
          · subst hji; rw [huf] at hlist; cases hlist
          · rcases Nat.lt_or_ge j i with h | h
            · exact hno j q h (by simpa using hj) hpd
            · obtain ⟨ed, he1, hb, hon⟩ := ((tied_pair htied ho hj hpd hji).2 hs).2 (by omega)
              have := I.closed j q hj hlist ed he1 hb
              rw [hon, huf] at this
              cases this
    · have : unlisted ops (listed.setIfInBounds i true) < unlisted ops listed := by
        refine countP_lt (x := i) (fun y hy => ?_) (List.mem_range.2 hlt) (by simp only [hu]; rfl) ?_
        · by_cases hyi : i = y
          · subst hyi
            simp [hil] at hy
          · rw [getD_set_ne true hyi] at hy; exact hy
        · simp [hil]
      omega
    · have hset : ∀ j, (listed.setIfInBounds i true).getD j false = true → j = i ∨ listed.getD j false = true := fun j hj => by
        by_cases hji : i = j
        · exact .inl hji.symm
        · rw [getD_set_ne false hji] at hj; exact .inr hj
      have hbel := g.below I.base
      refine ⟨I.below.trans hbel, I.base0, Nat.le_trans I.base hbel.size, by simp [I.lsize], I.defers, by simp [Act.put, I.size], ?_, ?_, ?_⟩
      · intro j q hj hl e he hb
        rcases hset j hl with rfl | hl
        · rw [ho] at hj; injection hj with hj; subst hj
          exact getD_set_true (hall e he hb)
        · exact getD_set_true (I.closed j q hj hl e he hb)
      · intro j q r e mj hj hl hpd hpds hmj hal
        by_cases hji : j = i
        · subst hji
          rw [ho] at hj; injection hj with hj; subst hj
          rw [hdst] at hpd; injection hpd with hpd; subst hpd
          rw [hds] at hpds; injection hpds with hpds; subst hpds
          rw [getD_put_here _ _ (by rw [I.size]; exact hf.2 _ hdst)]
          exact hx
        · have hl' := (hset j hl).resolve_left hji
          have hne : t ≠ r := fun h => (tied_pair htied ho hj hpd hji).1 (by rw [hdst, h])
          rw [getD_put_past _ _ hne]
          have halive : ∀ k, mj.kill = some k → listed.getD k false = false := fun k hk => by
            have h1 := hal k hk
            by_cases hki : i = k
            · subst hki; simp [hil] at h1
            · rwa [getD_set_ne false hki] at h1
          have hold := I.facts j q r e mj hj hl' hpd hpds hmj halive
          obtain ⟨_, _, _, mj', _, hds', hmj', _, hstj, _⟩ := ht.nth (i := j) (o := q) (by simpa using hj)
          rw [hmj] at hmj'; injection hmj' with hmj'; subst hmj'
          rw [hpds] at hds'; injection hds' with hds'; subst hds'
          rcases (chainOk_get hch ho hm hj hmj).1 with h | h | h | h | h | ⟨k, hk, h⟩
          · exact absurd h hji
          · rw [h] at g
            exact hold.grow (show Grow w w' from g)
          · exact hstj h w w' _ hbel I.base hold
          · have h1 := hal i h
            simp [hil] at h1
          · exact (hbl j hl' h).elim
          · have h1 := halive k hk
            rw [hbc k h] at h1; cases h1
      · intro r hs
        have hne : t ≠ r := fun h => hs i o ho (by simp [hil]) (by rw [hdst, h])
        rw [getD_put_past _ _ hne]
        refine I.frame r fun j q hj hl => hs j q hj (getD_set_true hl)

/-- The region gone through in the order of the text. -/
def RunX (P : Program) (B : Nat) (ops : Array Oper) (rest : List Oper) (E : Env) (ms : List Mk) (C : Env → Prop) : Prop := ∃ ds E', TraceX P B ops rest E ms ds E' ∧ C E'
variable {E : Env} {C : Env → Prop} {o : Oper} {rest : List Oper} {t : Nat} {d : D} {ms : List Mk}
theorem RunX.nil (h : C E) : RunX P B ops [] E [] C := ⟨[], E, .nil, h⟩
theorem OpOk.x (h : OpOk P B o E d) : OpOkX false P B o E d := fun ρ w hB hv hρ => (h ρ w hB hv hρ).mono fun _ _ hx => ⟨hx.1, hx.2⟩
theorem RunX.step {st : Bool} {kl : Option Nat} (ht : o.dst = some t) (hg : o.guard = none) (h : OpOk P B o E d) (hs : st = true → Stays B d) (hr : RunX P B ops rest ((t, d) :: E) ms C) : RunX P B ops (o :: rest) E (⟨false, st, kl⟩ :: ms) C := by
  obtain ⟨ds, E', h1, h2⟩ := hr
  exact ⟨_, E', .cons ht (.inl ⟨by simp [GuardIs, hg], h.x⟩) hs h1, h2⟩
theorem RunX.eff {st : Bool} {kl : Option Nat} (ht : o.dst = some t) (hg : o.guard = none) (h : OpOkX true P B o E d) (hs : st = true → Stays B d) (hr : RunX P B ops rest ((t, d) :: E) ms C) : RunX P B ops (o :: rest) E (⟨true, st, kl⟩ :: ms) C := by
  obtain ⟨ds, E', h1, h2⟩ := hr
  exact ⟨_, E', .cons ht (.inl ⟨by simp [GuardIs, hg], h⟩) hs h1, h2⟩
theorem RunX.as (x : Value) {y : Value} (h : y = x) (hr : RunX P B ops rest ((t, .v x) :: E) ms C) : RunX P B ops rest ((t, .v y) :: E) ms C := h ▸ hr
theorem RunX.last {E'' : Env} {C : Env → Prop} {dead : List Nat} (hs : Sub E'' E) (hd : (E''.map (·.1)).all (fun k => !dead.contains k) = true) (h : C E'') : RunX P B ops [] E [] (fun E' => ∃ E'', Sub E'' E' ∧ (∀ p ∈ E'', p.1 ∉ dead) ∧ C E'') :=
  RunX.nil ⟨E'', hs, fun p hp hm => by
    have := List.all_eq_true.1 hd p.1 (List.mem_map_of_mem hp)
    simp [hm] at this, h⟩
def StaysL (B : Nat) (E : Env) : Prop := ∀ p ∈ E, Stays B p.2
theorem StaysL.nil : StaysL B [] := fun _ h => by cases h
theorem StaysL.cons {k : Nat} {d : D} {E : Env} (h : Stays B d) (hr : StaysL B E) : StaysL B ((k, d) :: E) := fun p hp => by
  rcases List.mem_cons.1 hp with rfl | hp
  · exact h
  · exact hr p hp
/-- A drawn region whose changes of memory are no barriers. -/
theorem A.regsX {w₀ : World} {n : Nat} {y : Code} {E : Env} {id : Nat} (ms : List Mk) (E' : Nat → Env) (hE : ∀ B, OldH B (E' B) E) (hm : P.follows .mixedOrders = true) (hf : fits n ops = true) (ht : tied ops = true) (hc : chainOk ops ms = true)
    (hs : ∀ B, (∀ k b e xs, E.look k = some (blk b e xs) → b < B) → StaysL B (E' B))
    (hr : ∀ B, w₀.heap.size ≤ B → (∀ k b e xs, E.look k = some (blk b e xs) → b < B) → RunX P B ops ops.toList (E' B) ms (fun E₁ => ∃ E'', Sub E'' E₁ ∧ (∀ p ∈ E'', p.1 ∉ deadX ops ms) ∧ A κ P w₀ n y E'' Q)) : A κ P w₀ n (.seq (.region id ops true) y) E Q := A.seq fun a w g hst => by
  have hlt : ∀ k b e xs, E.look k = some (blk b e xs) → b < w.heap.size := fun k b e xs h => (hst.of k _ h).1
  have hst' : St κ n w.heap.size (E' w.heap.size) a w := ⟨Nat.le_refl _, hst.defers, hst.size, fun t d hd => by
    obtain ⟨d', hd', h⟩ := hE w.heap.size _ (look_mem hd)
    have h1 := hst.of t d' hd'
    rcases h with h2 | h2
    · simp only at h2; rw [h2]; exact h1
    · simp only at h2; rw [h2]; exact ⟨Nat.le_refl _, h1⟩⟩
  have hdr : Below w.heap.size w w.drew := (Below.refl _ w).drew
  obtain ⟨ds, E₁, htr, E'', hsub, hdead, hA⟩ := hr w.heap.size hst.base hlt
  refine wpIn_region_any hm (wp_X ht hf hc htr (hst'.grow (Grow.refl w).drew) (hs _ hlt) hsub hdead (fun a' w' g' h' => hA a' w' (g.trans ((hdr.trans g').mono hst.base)) ⟨Nat.le_trans hst.base (Nat.le_trans hdr.size g'.size), h'.defers, h'.size, h'.of⟩) _ _ _ _ ?_ ⟨Below.refl _ _, (hst'.grow (Grow.refl w).drew).base, (hst'.grow (Grow.refl w).drew).base, by simp, hst.defers, hst.size, fun i o hi hl => ?_, fun i o t d m hi hl => ?_, fun _ _ => rfl⟩)
  · refine Nat.le_trans List.countP_le_length ?_
    simp
  · have hli := (Array.getElem?_eq_some_iff.1 hi).1
    simp [hli] at hl
  · have hli := (Array.getElem?_eq_some_iff.1 hi).1
    simp [hli] at hl
end
section
variable {P : Program} {B : Nat} {E : Env} {dst : Option Tmp} {ty : TypeId} {pos : String} {after : Array Edge} {guard : Option (Nat × Bool)}
end
end Go.Proofs.Ythhmimnkfklhdaa
namespace Go.Proofs.Ythhmimnkfklhdaa
open Go Go.RowKit
variable {κ : Cx}
def ownP (base : Nat) (e : TypeId) (sz n : Nat) (xs : List Value) : D :=
  .p (fun B w x => w.ownsRow base e sz x n xs ∧ ∀ g, x.ownBlock = some g → g < B)
    (fun B w w' x g ⟨h1, h2⟩ => ⟨by
      obtain ⟨h3, h4⟩ := h1
      refine ⟨h3, h4.imp id ?_⟩
      rintro ⟨k, cap, cur, rfl, hk, hh, hr⟩
      exact ⟨k, cap, cur, rfl, hk, (g.block k (h2 k (by simp [Value.ownBlock]))).trans hh, hr⟩, h2⟩)
    (fun _ _ _ _ g ⟨h1, h2⟩ => ⟨h1, fun k hk => Nat.lt_of_lt_of_le (h2 k hk) g⟩)
theorem ownP_nil {B sz : Nat} {e : TypeId} : Le (.v (.slice none 0 0)) (ownP B e sz 0 []) := fun _ _ _ h => by
  have h : _ = _ := h
  subst h
  exact ⟨⟨by simp, .inl ⟨rfl, rfl⟩⟩, fun g hg => by simp [Value.ownBlock] at hg⟩
theorem Surv.ownP {B T g base sz n : Nat} {e : TypeId} {xs : List Value} (h : e ≠ T) : Surv B T g (Go.Proofs.Ythhmimnkfklhdaa.ownP base e sz n xs) := fun w w' x k ⟨h1, h2⟩ => by
  obtain ⟨h3, h4⟩ := h1
  refine ⟨⟨h3, h4.imp id ?_⟩, fun j hj => Nat.lt_of_lt_of_le (h2 j hj) k.size⟩
  rintro ⟨j, cap, cur, rfl, hj, hh, hr⟩
  refine ⟨j, cap, cur, rfl, hj, ?_, hr⟩
  by_cases hjg : j = g
  · subst hjg; exact absurd (k.row _ _ _ hh) h
  · rw [k.other j (h2 j (by simp [Value.ownBlock])) hjg]; exact hh
def InfoP (P : Program) (e : TypeId) (z : Value) (sz nb : Nat) : Prop := (P.info? e).map (fun i => (i.zero, i.size, i.bytes)) = some (some z, sz, nb)
theorem InfoP.get {P : Program} {e : TypeId} {z : Value} {sz nb : Nat} (h : InfoP P e z sz nb) : ∃ i, P.info? e = some i ∧ i.zero = some z ∧ i.size = sz ∧ i.bytes = nb := by
  unfold InfoP at h
  cases hi : P.info? e with
  | none => rw [hi] at h; cases h
  | some i =>
    rw [hi] at h
    simp only [Option.map_some, Option.some.injEq, Prod.mk.injEq] at h
    exact ⟨i, rfl, h.1, h.2.1, h.2.2⟩
/-- The cells at an address. -/
def elemP (us : List Value) : D :=
  .p (fun B w x => ∃ ad : Addr, x = .pointer (some ad) ∧ ad.block < B ∧ ∀ (j : Nat) (u : Value), us[j]? = some u → w.cell? (ad.add j) = some u)
    (fun _ _ _ _ g ⟨ad, h1, h2, h3⟩ => ⟨ad, h1, h2, fun j u hu => (g.cell (by rw [block_of_add]; exact h2)).trans (h3 j u hu)⟩) (fun _ _ _ _ g ⟨ad, h1, h2, h3⟩ => ⟨ad, h1, by omega, h3⟩)
/-- A slice of one struct. -/
def oneP (us : List Value) : D :=
  .p (fun B w x => ∃ ad : Addr, x = .slice (some ad) 1 1 ∧ ad.block < B ∧ ∀ (j : Nat) (u : Value), us[j]? = some u → w.cell? (ad.add j) = some u)
    (fun _ _ _ _ g ⟨ad, h1, h2, h3⟩ => ⟨ad, h1, h2, fun j u hu => (g.cell (by rw [block_of_add]; exact h2)).trans (h3 j u hu)⟩) (fun _ _ _ _ g ⟨ad, h1, h2, h3⟩ => ⟨ad, h1, by omega, h3⟩)
section
variable {P : Program} {B : Nat} {E : Env} {dst : Option Tmp} {ty : TypeId} {pos : String} {after : Array Edge} {guard : Option (Nat × Bool)}
theorem ok_loadElemP {T : TypeId} {td : TypeDesc} {x : Operand} {us : List Value} (ht : P.underlying T = some td) (hp : (match td with | .struct _ | .array _ _ => true | _ => false) = true) (hsz : SizeIs P T us.length) (hx : E.at x = some (elemP us)) :
    OpOk P B ⟨dst, .load T x, ty, pos, after, guard⟩ E (.v (aggV us)) := fun ρ w _ _ hρ => by
  obtain ⟨ad, h1, _, h3⟩ := hρ x (by simp [Op.operands]) _ hx
  have hagg : (isAgg T).run P w = .ok true w := by
    unfold isAgg
    simp only [Sem.run_bind, run_underlying ht, Result.andThen_ok]
    cases td <;> simp_all
  have hc := run_loadCells_list (P := P) w ad us h3
  obtain ⟨info, hinfo, hs⟩ := hsz.get
  exact out_val (x := aggV us) (w' := w) (by simp [execOp, h1, Instr.loadAt, Instr.sureAddr, loadVar, hagg, sizeOf, typeInfo, hinfo, hs, hc, aggV]) ⟨Grow.refl w, rfl⟩
end
section
variable {P : Program} {n B : Nat} {ops : Array Oper} {E : Env} {ty : TypeId} {pos : String} {after : Array Edge}
theorem eff_appendP {t e : TypeId} {z : Value} {nb sz : Nat} {r x : Operand} {k dst : Nat} {xs us : List Value} {E' : Env} (ht : P.underlying t = some (.slice e)) (hinfo : InfoP P e z sz nb) (hsz : 0 < sz) (hnb : nb ≤ 64) (hz1 : z.cells.size = sz)
    (hr : E.at r = some (ownP B e sz k xs)) (hx : E.at x = some (oneP us)) (hu : us.length = sz) (h1 : us.all (·.oneCell') = true) (hk : k ≤ 1099511627776) (hdst : dst < n) (hl : ∀ g, B ≤ g → LeftS B e g E' E) :
    Eff P n B ops ⟨some dst, .call { callee := .builtin .append, args := #[r, x], argTypes := #[t, t] }, ty, pos, after, none⟩ E ((dst, ownP B e sz (k + 1) (xs ++ us)) :: E') := by
  obtain ⟨i, hi, hz, hs, hby⟩ := hinfo.get
  intro κ a w K Q h hK
  obtain ⟨hown, hob⟩ := h.at_ r _ hr
  obtain ⟨ad, hxe, _, hcell⟩ := h.at_ x _ hx
  have hbb : (k + 1) * i.bytes ≤ (k + 1) * 64 := Nat.mul_le_mul_left _ (by omega)
  obtain ⟨v', w', hrun, h3, h4, _, h5⟩ := run_append_own_at (P := P) w B t ty e i z sz i.bytes ht hi hz hs rfl hz1 hsz (a.eval r) k xs hown ad 1 1 us (by omega) hcell (fun u hu => List.all_eq_true.1 h1 u hu) (by simp only [maxLen]; omega) (by omega) h.base
  have hexec : (execOp a.eval ⟨some dst, .call { callee := .builtin .append, args := #[r, x], argTypes := #[t, t] }, ty, pos, after, none⟩).run P w = .ok (.value v') w' := by
    simp [execOp, resolve, invoke, builtin, hxe, hrun]
  rw [if_pos (by simp [Region.wanted])]
  refine opR (by nofun) ?_
  unfold Oper.wp
  rw [hexec, Oper.upon_value]
  have hbase : ∀ g, (a.eval r).ownBlock = some g → B ≤ g := fun g hg => by
    rcases hown.2 with ⟨hv, _⟩ | ⟨g', cap, cur, hv, hb, _⟩
    · rw [hv] at hg; simp [Value.ownBlock] at hg
    · rw [hv] at hg; simp [Value.ownBlock] at hg; omega
  have hbel : Below B w w' := (Below.refl B w).grown h4 h.base hbase
  have hlt : ∀ g, v'.ownBlock = some g → g < w'.heap.size := fun g hg => by
    rcases h3.2 with ⟨hv, _⟩ | ⟨g', cap, cur, hv, _, hh, _⟩
    · rw [hv] at hg; simp [Value.ownBlock] at hg
    · rw [hv] at hg; simp [Value.ownBlock] at hg; subst hg
      rcases Nat.lt_or_ge g' w'.heap.size with h | h
      · exact h
      · rw [Array.getElem?_eq_none h] at hh; cases hh
  have hwr : ∃ g, B ≤ g ∧ Wrote B e g w w' := by
    rcases hown.2 with ⟨hv, _⟩ | ⟨g', cap, cur, hv, hb, hh, _⟩
    · refine ⟨w.heap.size, h.base, h.base, h4.os, h4.tape, h4.output, h4.size, fun o hx => ?_, fun k hk _ => h4.block k hk (by rw [hv]; simp [Value.ownBlock])⟩
      rw [Array.getElem?_eq_none (Nat.le_refl _)] at hx; cases hx
    · refine ⟨g', hb, hb, h4.os, h4.tape, h4.output, h4.size, fun o hx => ?_, fun k hk hne => h4.block k hk (by rw [hv]; simp [Value.ownBlock]; omega)⟩
      rw [hh] at hx; injection hx with hx; exact ⟨_, _, hx.symm⟩
  obtain ⟨g, hg, hwr⟩ := hwr
  exact hK _ _ hbel (((hl g hg).st h hwr).put hdst ⟨h3, hlt⟩)

/-! ### New variables in drawn regions -/
theorem eff_storeFF {T : TypeId} {x : Operand} {d : Nat} {L : List Nat} {zs ys : List Value} {E' : Env} {base : Nat} (hsz : SizeIs P T ys.length) (hbase : B ≤ base) (hp : E.look d = some (freshV base L T zs)) (hx : E.at x = some (.v (aggV ys))) (h1 : ys.all (·.oneCell') = true) (ho : zs.length = ys.length) (hl : ∀ b, base ≤ b → LeftS B T b E' E) :
    Eff P n B ops ⟨none, .store T (.tmp d) x, ty, pos, after, none⟩ E ((d, freshV base L T ys) :: E') := by
  intro κ a w K Q h hK
  obtain ⟨b, hp', hb, hL, hlt, hh⟩ := h.of d _ hp
  have hp2 : a.eval (.tmp d) = .pointer (some ⟨b, 0, none⟩) := hp'
  have hx' : a.eval x = _ := h.at_ x _ hx
  have hrun : (execOp a.eval ⟨none, .store T (.tmp d) x, ty, pos, after, none⟩).run P w = .ok .skip (w.setRow b ys.toArray) := by
    have := run_storeVar_row (P := P) w b T T zs.toArray ys.toArray hh (by simpa [SizeIs] using hsz) (by simpa using ho) (by simpa using h1)
    simp [execOp, hp2, hx', Instr.storeAt, Instr.sureAddr, aggV, this]
  rw [if_pos (by simp [Region.wanted])]
  refine opR (by nofun) ?_
  unfold Oper.wp
  rw [hrun, Oper.upon_skip]
  have hwr := Wrote.setRow (B := B) (by omega) hh ys.toArray
  exact hK _ _ (hwr.below h.base) (((hl b hb).st h hwr).push (d := freshV base L T ys) ⟨b, hp', hb, hL, by simpa using hlt, setRow_heap w b _ _ T _ hh⟩)
end
theorem A.dup {P : Program} {w₀ : World} {n : Nat} {c : Code} {E : Env} {Q : Exit → Act → World → Prop} {k k' : Nat} {d : D} (hk : E.look k = some d) (hd : ∀ B w x y, d.OfB B w x → d.OfB B w y) (h : A κ P w₀ n c ((k', d) :: E) Q) : A κ P w₀ n c E Q := fun a w g hs => h a w g (hs.push (t := k') (d := d) (hd _ _ _ _ (hs.of k _ hk)))
end Go.Proofs.Ythhmimnkfklhdaa
namespace Go.Proofs.Ythhmimnkfklhdaa
open Go Go.RowKit
set_option linter.unusedVariables false
set_option linter.unusedSimpArgs false
variable {κ : Cx}
/-- The cells that stand from an address on. -/
def memR (A : Option Addr) (xs : List Value) : D :=
  .p (fun B w _ => RowIn B w A xs) (fun _ _ _ _ g h j u hu => by obtain ⟨ad, h1, h2, h3⟩ := h j u hu; exact ⟨ad, h1, h2, (g.cell (by rw [block_of_add]; exact h2)).trans h3⟩)
    (fun _ _ _ _ g h j u hu => by obtain ⟨ad, h1, h2, h3⟩ := h j u hu; exact ⟨ad, h1, Nat.lt_of_lt_of_le h2 g, h3⟩)
/-- A slice of n elements whose cells read as xs. -/
def rowD (n : Nat) (xs : List Value) : D :=
  .p (fun B w x => ∃ A c, x = .slice A n c ∧ RowIn B w A xs) (fun _ _ _ _ g ⟨A, c, h1, h2⟩ => ⟨A, c, h1, D.OfB.keep (d := memR A xs) (x := undef) h2 g⟩) (fun _ _ _ _ g ⟨A, c, h1, h2⟩ => ⟨A, c, h1, D.OfB.up (d := memR A xs) (x := undef) h2 g⟩)
theorem rowD_nil {A : Option Addr} {c : Nat} : Le (.v (.slice A 0 c)) (rowD 0 []) := fun _ _ _ h => ⟨A, c, h, fun j u hu => by cases hu⟩
theorem ownP_rowD {base sz n : Nat} {e : TypeId} {xs : List Value} : Le (ownP base e sz n xs) (rowD n xs) := fun B w x ⟨⟨hl, h2⟩, hlt⟩ => by
  rcases h2 with ⟨rfl, rfl⟩ | ⟨g, cap, cur, rfl, _, hh, _, _, _, htk⟩
  · refine ⟨none, 0, rfl, fun j u hu => ?_⟩
    have : xs = [] := List.length_eq_zero_iff.1 (by omega)
    subst this; cases hu
  · refine ⟨_, _, rfl, fun j u hu => ⟨_, rfl, hlt g rfl, ?_⟩⟩
    rw [show (⟨g, 0, none⟩ : Addr).add j = ⟨g, j, none⟩ from by unfold Addr.add; split <;> simp_all]
    rw [← htk, List.getElem?_take] at hu
    split at hu
    · simp [World.cell?, hh]; simpa using hu
    · cases hu
theorem blk_rowIn {B b : Nat} {w : World} {e : TypeId} {xs : List Value} (hb : b < B) (hh : w.heap[b]? = some (.cells xs.toArray e (0, 0))) : RowIn B w (some ⟨b, 0, none⟩) xs := fun j u hu => ⟨_, rfl, hb, by
  rw [show (⟨b, 0, none⟩ : Addr).add j = ⟨b, j, none⟩ from by unfold Addr.add; split <;> simp_all]
  simp [World.cell?, hh]; simpa using hu⟩
section
variable {P : Program} {n : Nat} {E : Env} {w₀ : World} {c : Code} {Q : Exit → Act → World → Prop}
theorem A.nameR {t k B' m : Nat} {xs : List Value} (ht : E.look t = some (old B' (rowD m xs))) (h : ∀ (A₀ : Option Addr) (q : Nat), A κ P w₀ n c ((t, .v (.slice A₀ m q)) :: (k, old B' (memR A₀ xs)) :: E) Q) : A κ P w₀ n c E Q := fun a w g hs => by
  obtain ⟨hB, A₀, q, h1, h2⟩ := hs.of t _ ht
  exact h A₀ q a w g ((hs.push (t := k) (d := old B' (memR A₀ xs)) ⟨hB, h2⟩).push (d := .v (.slice A₀ m q)) h1)
theorem A.nameHdR {t k B' m : Nat} {xs rest : List Value} (ht : E.look t = some (old B' (hdD (rowD m xs) rest))) (h : ∀ (A₀ : Option Addr) (q : Nat), A κ P w₀ n c ((t, .v (aggV (.slice A₀ m q :: rest))) :: (k, old B' (memR A₀ xs)) :: E) Q) : A κ P w₀ n c E Q := fun a w g hs => by
  obtain ⟨hB, v, h1, h2, A₀, q, h3, h4⟩ := hs.of t _ ht
  subst h3
  exact h A₀ q a w g ((hs.push (t := k) (d := old B' (memR A₀ xs)) ⟨hB, h4⟩).push (d := .v (aggV (.slice A₀ m q :: rest))) h2)
end
section
variable {P : Program} {B : Nat} {E : Env} {dst : Option Tmp} {ty : TypeId} {pos : String} {after : Array Edge} {guard : Option (Nat × Bool)}
theorem ok_indexR {t e : TypeId} {z : Value} {sz nb : Nat} {x i : Operand} {A₀ : Option Addr} {q k s B' : Nat} {xs : List Value} {ki : IntKind} (m : Nat) (ht : P.underlying t = some (.slice e)) (hs : InfoP P e z sz nb) (hx : E.at x = some (.v (.slice A₀ k q)))
    (hr : E.look s = some (old B' (memR A₀ xs))) (hsv : vbase ≤ s) (hi : E.at i = some (.v (.int ki (m : Int)))) (hm : m < k) (hlt : m * sz < xs.length) :
    OpOk P B ⟨dst, .indexAddr t x i, ty, pos, after, guard⟩ E (elemP ((xs.drop (m * sz)).take sz)) := fun ρ w _ hv hρ => by
  have h1 : ρ x = .slice A₀ k q := hρ x (by simp [Op.operands]) _ hx
  have hi' : ρ i = .int ki m := hρ i (by simp [Op.operands]) _ hi
  obtain ⟨hB, hrow⟩ := hv s _ hsv hr
  obtain ⟨info, hinfo, _, hsize, _⟩ := hs.get
  obtain ⟨ad, hA, hab, _⟩ := hrow (m * sz) _ (List.getElem?_eq_getElem hlt)
  subst hA
  refine out_val (x := .pointer (some (ad.add (m * sz)))) (w' := w) ?_ ⟨Grow.refl w, _, rfl, by rw [block_of_add]; omega, fun j u hu => ?_⟩
  · simp [execOp, h1, hi', Instr.indexAt, asIntOf, run_underlying ht, sizeOf, typeInfo, hinfo, hsize, hm]
  · rw [List.getElem?_take] at hu
    split at hu
    · rw [List.getElem?_drop] at hu
      obtain ⟨ad', hA', _, h4⟩ := hrow (m * sz + j) u hu
      injection hA' with hA'; subst hA'
      rw [add_of_add]; exact h4
    · cases hu
theorem ok_fieldP {T : TypeId} {x : Operand} {i off m : Nat} {us : List Value} (hf : FieldIs P T i off m) (hm : 0 < m) (hx : E.at x = some (elemP us)) :
    OpOk P B ⟨dst, .fieldAddr T x i, ty, pos, after, guard⟩ E (elemP (us.drop off)) := fun ρ w _ _ hρ => by
  obtain ⟨ad, h1, hb, hc⟩ := hρ x (by simp [Op.operands]) _ hx
  unfold FieldIs at hf
  cases hu : P.underlying T with
  | none => rw [hu] at hf; cases hf
  | some d =>
    rw [hu] at hf
    cases d with
    | struct fs =>
      simp only [Option.bind_some] at hf
      cases hfi : fs[i]? with
      | none => rw [hfi] at hf; cases hf
      | some f =>
        rw [hfi] at hf
        simp only [Option.bind_some] at hf
        cases hi : P.info? f.type with
        | none => rw [hi] at hf; cases hf
        | some inf =>
          rw [hi] at hf
          simp only [Option.map_some, Option.some.injEq, Prod.mk.injEq] at hf
          obtain ⟨h2, h3⟩ := hf
          refine out_val (x := .pointer (some (ad.add off))) (w' := w) ?_ ⟨Grow.refl w, _, rfl, by rw [block_of_add]; exact hb, fun j u hj => ?_⟩
          · have : ¬ inf.size = 0 := by omega
            simp [execOp, h1, Instr.fieldAt, run_underlying hu, hfi, Instr.sureAddr, fieldPlace, sizeOf, typeInfo, hi, this, h2]
          · rw [add_of_add]; rw [List.getElem?_drop] at hj; exact hc _ _ hj
    | _ => simp at hf
theorem ok_loadP1 {T : TypeId} {td : TypeDesc} {x : Operand} {u : Value} {us : List Value} (ht : P.underlying T = some td) (hp : (match td with | .struct _ | .array _ _ => false | _ => true) = true) (hx : E.at x = some (elemP (u :: us))) :
    OpOk P B ⟨dst, .load T x, ty, pos, after, guard⟩ E (.v u) := fun ρ w _ _ hρ => by
  obtain ⟨ad, h1, _, h3⟩ := hρ x (by simp [Op.operands]) _ hx
  have hagg : (isAgg T).run P w = .ok false w := by
    unfold isAgg
    simp only [Sem.run_bind, run_underlying ht, Result.andThen_ok]
    cases td <;> simp_all
  have hc : w.cell? ad = some u := by have := h3 0 u rfl; rwa [show ad.add 0 = ad from by simp [Addr.add]] at this
  exact out_val (x := u) (w' := w) (by simp [execOp, h1, Instr.loadAt, Instr.sureAddr, loadVar, hagg, hc]) ⟨Grow.refl w, rfl⟩
theorem fill_go (us : List Value) : ∀ (ds pre : List Value), ds.length = us.length → ((us.zipIdx pre.length).foldl (fun cs (x : Value × Nat) => cs.setIfInBounds (0 + x.2) x.1) (pre ++ ds).toArray) = (pre ++ us).toArray := by
  induction us with
  | nil => intro ds pre h; cases ds with
    | nil => rfl
    | cons => cases h
  | cons u us ih =>
    intro ds pre h
    cases ds with
    | nil => cases h
    | cons d ds =>
      rw [List.zipIdx_cons, List.foldl_cons]
      have := ih ds (pre ++ [u]) (by simpa using h)
      rw [show ((pre ++ d :: ds).toArray.setIfInBounds (0 + pre.length) u) = ((pre ++ [u]) ++ ds).toArray from by
        rw [Nat.zero_add, List.setIfInBounds_toArray, List.set_append_right _ _ (Nat.le_refl _)]; simp]
      rw [show pre.length + 1 = (pre ++ [u]).length from by simp, this]; simp
theorem ok_build1K {t e : TypeId} {z : Value} {nb sz : Nat} {x : Operand} {us : List Value} (ht : P.underlying t = some (.slice e)) (hs : InfoP P e z sz nb) (hz : z.cells.size = sz) (h0 : sz ≤ 65536) (hsz : 0 < sz) (hx : E.at x = some (.v (aggV us))) (hu : us.length = sz) :
    OpOk P B ⟨dst, .buildSlice t 1 #[(0, x)], ty, pos, after, guard⟩ E (oneP us) := fun ρ w _ _ hρ => by
  obtain ⟨i, hi, hzv, hsize, _⟩ := hs.get
  have h1 : ρ x = aggV us := hρ x (by simp [Op.operands]) _ hx
  have hfill : Instr.fill (fun j => some (j * i.size, i.size)) ((Array.range (1 * i.size)).map (z.cells[· % z.cells.size]!)) [(0, ρ x)] = some us.toArray := by
    have hlen : ((Array.range (1 * i.size)).map (z.cells[· % z.cells.size]!)).size = us.length := by simp [hsize, hu]
    rw [h1]
    have hc : (aggV us).cells = us.toArray := rfl
    unfold Instr.fill
    simp only [Nat.zero_mul]
    rw [hc, if_neg (by simp [hsize, hu])]
    have hg := fill_go us ((Array.range (1 * i.size)).map (z.cells[· % z.cells.size]!)).toList [] (by rw [Array.length_toList, hlen])
    simp only [List.nil_append, List.length_nil, Array.toArray_toList] at hg
    rw [show us.toArray.zipIdx.foldl (fun cs (x : Value × Nat) => match x with | (c, j) => cs.setIfInBounds (0 + j) c) ((Array.range (1 * i.size)).map (z.cells[· % z.cells.size]!)) = us.toArray from by
      rw [← Array.foldl_toList, Array.toList_zipIdx]; exact hg]
    rfl
  have hr := run_buildSlice (P := P) w t e 1 #[(0, ρ x)] us.toArray i z ht hi hzv (by rw [hsize]; omega) (by rw [hsize]; omega) (by simpa using hfill)
  refine out_val (x := .slice (some ⟨w.heap.size, 0, none⟩) 1 1) (w' := w.alloc (.cells us.toArray e)) (by simp [execOp, hr]) ⟨Grow.alloc w _, _, rfl, by simp, fun j u hu => ?_⟩
  have hh : (w.alloc (.cells us.toArray e)).heap[w.heap.size]? = some (.cells us.toArray e (0, 0)) := heap_alloc_new w _
  rw [show (⟨w.heap.size, 0, none⟩ : Addr).add j = ⟨w.heap.size, j, none⟩ from by unfold Addr.add; split <;> simp_all]
  simp only [World.cell?, hh]
  simpa using hu
theorem oneP_rowD {us : List Value} : Le (oneP us) (rowD 1 us) := fun _ _ _ ⟨ad, h1, h2, h3⟩ => ⟨some ad, 1, h1, fun j u hu => ⟨ad, rfl, h2, h3 j u hu⟩⟩
theorem ok_makeK {t e : TypeId} {x y : Operand} {z : Value} {nb sz : Nat} {k k' : IntKind} (c : Nat) (ht : P.underlying t = some (.slice e)) (hinfo : InfoP P e z sz nb) (hnb : nb ≤ 64)
    (hx : E.at x = some (.v (.int k (c : Int)))) (hy : E.at y = some (.v (.int k' (c : Int)))) (hc : c ≤ 4398046511104) :
    OpOk P B ⟨dst, .makeSlice t x y, ty, pos, after, guard⟩ E (newD B e (fun b => .slice (some ⟨b, 0, none⟩) c c) (madeCells z.cells (c * sz)).toList) := fun ρ w hB _ hρ => by
  obtain ⟨i, hi, hz, hs, hb⟩ := hinfo.get
  have h1 : ρ x = _ := hρ x (by simp [Op.operands]) _ hx
  have h2 : ρ y = _ := hρ y (by simp [Op.operands]) _ hy
  have hbc : i.bytes * c ≤ 64 * c := Nat.mul_le_mul_right c (by omega)
  have hr := run_make (P := P) w t e i z ht hi hz k k' (c : Int) (c : Int) (by omega) (by omega) (by rw [← Int.natCast_mul]; omega) (by omega)
  refine out_val (x := .slice (some ⟨w.heap.size, 0, none⟩) c c) (w' := w.alloc (.cells (madeCells z.cells (c * i.size)) e)) ?_ ⟨Grow.alloc w _, w.heap.size, rfl, hB, by simp, ?_⟩
  · simp only [execOp, h1, h2, Sem.run_bind, hr, Result.andThen_ok, Sem.run_pure, Int.toNat_natCast]
  · rw [← hs]; exact heap_alloc_new w _
theorem ok_sliceLoK {t e : TypeId} {z : Value} {nb sz : Nat} {x o : Operand} {b len c : Nat} {kd : IntKind} (l : Nat) (ht : P.underlying t = some (.slice e)) (hs : InfoP P e z sz nb) (hx : E.at x = some (.v (.slice (some ⟨b, 0, none⟩) len c))) (ho : E.at o = some (.v (.int kd (l : Int)))) (hl : l ≤ len) :
    OpOk P B ⟨dst, .slice t x (some o) none none, ty, pos, after, guard⟩ E (.v (.slice (some ⟨b, if c = l then 0 else l * sz, none⟩) (len - l) (c - l))) := fun ρ w _ _ hρ => by
  have h1 : ρ x = _ := hρ x (by simp [Op.operands]) _ hx
  have h2 : ρ o = .int kd (l : Int) := hρ o (by simp [Op.operands]) _ ho
  obtain ⟨info, hinfo, _, hsize, _⟩ := hs.get
  refine out_val (w' := w) ?_ ⟨Grow.refl w, rfl⟩
  simp [execOp, h1, h2, Instr.sliceAt, Instr.slice, run_underlying ht, Instr.sliceBounds, Instr.sliceBound, asIntOf, sizeOf, typeInfo, hinfo, hsize, hl]
  split
  · rfl
  · unfold Addr.add
    split
    · rename_i h; rw [h]
    · simp
end
section
variable {P : Program} {n B : Nat} {ops : Array Oper} {E : Env} {ty : TypeId} {pos : String} {after : Array Edge}
theorem eff_copyK {t e : TypeId} {z : Value} {nb sz : Nat} {r x : Operand} {b o dn dc s k sn sc dst B' : Nat} {A₀ : Option Addr} {e' : TypeId} {xs ys : List Value} {E' : Env} (ht : P.underlying t = some (.slice e)) (hinfo : InfoP P e z sz nb)
    (hr : E.at r = some (.v (.slice (some ⟨b, o, none⟩) dn dc))) (hx : E.at x = some (.v (.slice A₀ sn sc))) (hk : E.look k = some (old B' (memR A₀ ys))) (h1 : ys.all (·.oneCell') = true) (hl : ys.length = sn * sz) (hsd : sn ≤ dn) (hsz : 0 < sz)
    (hb : B ≤ b) (hblk : E.look s = some (blk b e' xs)) (hfit : o + sn * sz ≤ xs.length) (hdst : dst < n) (hle : LeftS B e' b E' E) :
    Eff P n B ops ⟨some dst, .call { callee := .builtin .copy, args := #[r, x], argTypes := #[t, t] }, ty, pos, after, none⟩ E ((dst, .v (.int .i64 (sn : Int))) :: (s, blk b e' (xs.take o ++ ys ++ xs.drop (o + sn * sz))) :: E') := by
  obtain ⟨i, hi, _, hs, _⟩ := hinfo.get
  intro κ a w K Q h hK
  have hre : a.eval r = _ := h.at_ r _ hr
  have hxe : a.eval x = _ := h.at_ x _ hx
  obtain ⟨hB, hrow⟩ := h.of k _ hk
  obtain ⟨hlt, hh⟩ := h.of s _ hblk
  have hrun : ∃ w', (Builtin.copy_ #[t, t] ty #[a.eval r, a.eval x]).run P w = .ok (.int .i64 (sn : Int)) w' ∧ Wrote B e' b w w' ∧ w'.heap[b]? = some (.cells (xs.take o ++ ys ++ xs.drop (o + sn * sz)).toArray e' (0, 0)) ∧ b < w'.heap.size := by
    rw [hre, hxe]
    have hmin : Nat.min sn dn = sn := Nat.min_eq_left hsd
    cases A₀ with
    | none =>
      have hz : ys = [] := by
        cases ys with
        | nil => rfl
        | cons y ys => obtain ⟨_, h0, _⟩ := hrow 0 y rfl; cases h0
      subst hz
      have h0 : sn = 0 := by
        have : sn * sz = 0 := by simpa using hl.symm
        rcases Nat.mul_eq_zero.1 this with h | h
        · exact h
        · omega
      subst h0
      refine ⟨w, ?_, ⟨hb, rfl, rfl, rfl, Nat.le_refl _, fun o' ho => by rw [hh] at ho; injection ho with ho; exact ⟨_, _, ho.symm⟩, fun _ _ _ => rfl⟩, by simpa using hh, hlt⟩
      simp [Builtin.copy_, run_underlying ht, Builtin.lenOf, Builtin.firstCells, sizeOf, typeInfo, hi, storeCells, goInt]
    | some ad =>
      have hload := run_loadCells_list (P := P) w ad ys (fun j v hv => by obtain ⟨ad', h1, _, h3⟩ := hrow j v hv; injection h1 with h1; subst h1; exact h3)
      have hst := run_storeCells_at P b o e' ys 0 xs.toArray w hh (by simpa [hl] using hfit) (fun v hv => List.all_eq_true.1 h1 v hv)
      refine ⟨w.setRow b (xs.take o ++ ys ++ xs.drop (o + sn * sz)).toArray, ?_, Wrote.setRow hb hh _, by simp [World.setRow, Array.getElem?_modify, hh], by simpa [World.setRow] using hlt⟩
      simp only [hl] at hst
      simp [Builtin.copy_, run_underlying ht, Builtin.lenOf, Builtin.firstCells, sizeOf, typeInfo, hi, hs, hmin, ← hl, hload, goInt]
      simp [hl, hst]
  obtain ⟨w', hrun, hwr, hh', hlt'⟩ := hrun
  have hexec : (execOp a.eval ⟨some dst, .call { callee := .builtin .copy, args := #[r, x], argTypes := #[t, t] }, ty, pos, after, none⟩).run P w = .ok (.value (.int .i64 (sn : Int))) w' := by
    simp [execOp, resolve, invoke, builtin, hrun]
  rw [if_pos (by simp [Region.wanted])]
  refine opR (by nofun) ?_
  unfold Oper.wp
  rw [hexec, Oper.upon_value]
  exact hK _ _ (hwr.below h.base) (St.put ((hle.st h hwr).push (d := blk b e' (xs.take o ++ ys ++ xs.drop (o + sn * sz))) ⟨hlt', hh'⟩) hdst rfl)
end
end Go.Proofs.Ythhmimnkfklhdaa
namespace Go.Proofs.Ythhmimnkfklhdaa
open Go Go.RowKit
set_option linter.unusedSimpArgs false
set_option linter.unusedVariables false
theorem kinY {n : Nat} {l : List UInt8} (h : l.length = n) : Kin (fun _ _ => True) (List.replicate n .u8) (l.map byteV) := by
  refine ⟨by simp [h], fun i k hk => ?_⟩
  rw [List.getElem?_replicate] at hk
  split at hk
  · rename_i hi
    injection hk with hk; subst hk
    exact ⟨_, by rw [List.getElem?_map, List.getElem?_eq_getElem (by omega)]; rfl, trivial⟩
  · cases hk
theorem decY (a b : List UInt8) : decide (a = b) = true ↔ a.map byteV = b.map byteV := by
  rw [decide_eq_true_iff]
  exact ⟨fun h => by rw [h], fun h => bytes_inj h⟩
structure Us where
  key : List UInt8
  s : Nat
  c : Nat
  f : Nat
  l : Nat
deriving DecidableEq
instance : Inhabited Us := ⟨⟨[], 0, 0, 0, 0⟩⟩
def Us.Fit (u : Us) : Prop := u.key.length = 16 ∧ u.s < 4294967296 ∧ u.c < 18446744073709551616 ∧ u.f < 4294967296 ∧ u.l < 4294967296
def rV (s c f l : Nat) : List Value := [.int .u32 (s : Int), .int .u64 (c : Int), .int .u32 (f : Int), .int .u32 (l : Int)]
def usV (u : Us) : List Value := u.key.map byteV ++ rV u.s u.c u.f u.l
theorem usV_length {u : Us} (h : u.Fit) : (usV u).length = 20 := by simp [usV, rV, h.1]
def usR (us : List Us) : List Value := us.flatMap usV
def Fits (us : List Us) : Prop := ∀ u ∈ us, u.Fit
theorem Fits.cons {u : Us} {us : List Us} (h : Fits (u :: us)) : u.Fit ∧ Fits us := ⟨h u (by simp), fun v hv => h v (by simp [hv])⟩
theorem Fits.append {us vs : List Us} (h : Fits us) (k : Fits vs) : Fits (us ++ vs) := fun u hu => (List.mem_append.1 hu).elim (h u) (k u)
theorem usR_length : ∀ {us : List Us}, Fits us → (usR us).length = us.length * 20
  | [], _ => rfl
  | u :: us, h => by
    have := usR_length h.cons.2
    simp only [usR, List.flatMap_cons, List.length_append, List.length_cons] at this ⊢
    rw [usV_length h.cons.1, this]; omega
theorem usR_append (us vs : List Us) : usR (us ++ vs) = usR us ++ usR vs := by simp [usR]
theorem usR_one (u : Us) : usR [u] = usV u := by simp [usR]
theorem usR_at : ∀ {us : List Us} {i : Nat}, Fits us → (h : i < us.length) → ((usR us).drop (i * 20)).take 20 = usV us[i]
  | u :: us, 0, h, _ => by
    simp only [usR, List.flatMap_cons, Nat.zero_mul, List.drop_zero, List.getElem_cons_zero]
    rw [List.take_append_of_le_length (by rw [usV_length h.cons.1]; omega), List.take_of_length_le (by rw [usV_length h.cons.1]; omega)]
  | u :: us, i + 1, h, hi => by
    have := usR_at (i := i) h.cons.2 (by simpa using hi)
    simp only [usR, List.flatMap_cons, List.getElem_cons_succ] at this ⊢
    rw [← this, List.drop_append, usV_length h.cons.1, show (i + 1) * 20 - 20 = i * 20 from by omega, List.drop_of_length_le (by rw [usV_length h.cons.1]; omega)]; rfl
theorem usR_lt {us : List Us} {i : Nat} (h : Fits us) (hi : i < us.length) : i * 20 < (usR us).length := by rw [usR_length h]; omega
theorem Fits.get {us : List Us} {i : Nat} (h : Fits us) (hi : i < us.length) : us[i].Fit := h _ (List.getElem_mem hi)
theorem usV_key {u : Us} (h : u.Fit) : (usV u).take 16 = u.key.map byteV := by
  unfold usV
  rw [List.take_append_of_le_length (by simp [h.1]), List.take_of_length_le (by simp [h.1])]
theorem usV_range {u : Us} (h : u.Fit) : (usV u).drop 16 = rV u.s u.c u.f u.l := by
  unfold usV
  rw [List.drop_append, List.drop_of_length_le (by simp [h.1])]
  simp [h.1]
theorem usR_one' (us : List Us) : (usR us).all (·.oneCell') = true := by
  rw [List.all_eq_true]
  intro v hv
  simp only [usR, List.mem_flatMap, usV, rV, List.mem_append, List.mem_map, List.mem_cons, List.not_mem_nil, or_false] at hv
  obtain ⟨u, _, ⟨b, _, rfl⟩ | rfl | rfl | rfl | rfl⟩ := hv <;> simp [byteV, Value.oneCell']

theorem usV_one (u : Us) : (usV u).all (·.oneCell') = true := by have := usR_one' [u]; rwa [usR_one] at this

/-! ### Clashes -/
def ovB (s c f l s' c' f' l' : Nat) : Bool := decide (s = s' ∧ c = c') && decide (max f f' ≤ min l l')
def Us.ok (u : Us) : Bool := decide (u.f ≤ u.l)
def clB (a b : Us) : Bool := decide (a.key = b.key) && ovB a.s a.c a.f a.l b.s b.c b.f b.l
def stOf (u : Us) : List UInt8 × Nat × Nat := (u.key, u.s, u.c)
theorem clB_iff {a b : Us} : clB a b = true ↔ stOf a = stOf b ∧ max a.f b.f ≤ min a.l b.l := by
  simp only [clB, ovB, stOf, Bool.and_eq_true, decide_eq_true_eq, Prod.mk.injEq]
  constructor
  · rintro ⟨h1, ⟨h2, h3⟩, h4⟩; exact ⟨⟨h1, h2, h3⟩, h4⟩
  · rintro ⟨⟨h1, h2, h3⟩, h4⟩; exact ⟨h1, ⟨h2, h3⟩, h4⟩
/-- The least i below n with p i, or n. -/
def lst1 (p : Nat → Bool) : Nat → Nat
  | 0 => 0
  | n + 1 => if lst1 p n < n then lst1 p n else if p n then n else n + 1
theorem lst1_spec (p : Nat → Bool) : ∀ n, lst1 p n ≤ n ∧ (∀ i, i < lst1 p n → p i = false) ∧ (lst1 p n < n → p (lst1 p n) = true)
  | 0 => ⟨Nat.le_refl _, fun i hi => absurd hi (Nat.not_lt_zero _), fun h => absurd h (Nat.lt_irrefl _)⟩
  | n + 1 => by
    obtain ⟨h1, h2, h3⟩ := lst1_spec p n
    unfold lst1
    by_cases h : lst1 p n < n
    · rw [if_pos h]; exact ⟨by omega, h2, fun _ => h3 h⟩
    · rw [if_neg h]
      have he : lst1 p n = n := by omega
      rw [he] at h2
      cases hp : p n with
      | true => exact ⟨by simp, fun i hi => h2 i (by simpa using hi), fun _ => by simpa using hp⟩
      | false => exact ⟨by simp, fun i hi => by
          rcases Nat.lt_or_ge i n with h | h
          · exact h2 i h
          · have hi' : i < n + 1 := by simpa using hi
            rw [show i = n from by omega]; exact hp, fun hh => by simp at hh⟩
theorem lst1_eq {p : Nat → Bool} {n k : Nat} (h1 : k ≤ n) (h2 : ∀ i, i < k → p i = false) (h3 : k < n → p k = true) : lst1 p n = k := by
  obtain ⟨a, b, c⟩ := lst1_spec p n
  rcases Nat.lt_trichotomy (lst1 p n) k with h | h | h
  · have := h2 _ h; rw [c (by omega)] at this; cases this
  · exact h
  · have := b _ h; rw [h3 (by omega)] at this; cases this
/-- Use j clashes with one before it. -/
def cAt (us : List Us) (j : Nat) : Bool := (List.range j).any fun i => clB us[i]! us[j]!
theorem cAt_iff {us : List Us} {j : Nat} : cAt us j = true ↔ ∃ i, i < j ∧ clB us[i]! us[j]! = true := by simp [cAt]
/-- Among the uses up to j two clash. -/
def cUp (us : List Us) (j : Nat) : Bool := (List.range (j + 1)).any (cAt us)
theorem cUp_iff {us : List Us} {j : Nat} : cUp us j = true ↔ ∃ i k, i < k ∧ k ≤ j ∧ clB us[i]! us[k]! = true := by
  simp only [cUp, List.any_eq_true, List.mem_range, cAt_iff]
  constructor
  · rintro ⟨k, hk, i, hi, h⟩; exact ⟨i, k, hi, by omega, h⟩
  · rintro ⟨i, k, hi, hk, h⟩; exact ⟨k, by omega, i, hi, h⟩
theorem cUp_mono {us : List Us} {a b : Nat} (h : a ≤ b) (k : cUp us a = true) : cUp us b = true := by
  rw [cUp_iff] at k ⊢
  obtain ⟨i, j, h1, h2, h3⟩ := k
  exact ⟨i, j, h1, by omega, h3⟩
def repJ (us : List Us) : Nat := lst1 (cAt us) us.length
def repI (us : List Us) : Nat := lst1 (fun i => clB us[i]! us[repJ us]!) us.length
theorem lst1_cUp (us : List Us) : lst1 (cUp us) us.length = repJ us := by
  obtain ⟨a, b, c⟩ := lst1_spec (cAt us) us.length
  refine lst1_eq a (fun i hi => ?_) fun h => ?_
  · cases hc : cUp us i with
    | false => rfl
    | true =>
      simp only [cUp, List.any_eq_true, List.mem_range] at hc
      obtain ⟨k, hk, h⟩ := hc
      have := b k (by unfold repJ at hi; omega); rw [h] at this; cases this
  · simp only [cUp, List.any_eq_true, List.mem_range]
    exact ⟨repJ us, by omega, c h⟩
theorem repI_lt {us : List Us} (h : repJ us < us.length) : repI us < repJ us ∧ clB us[repI us]! us[repJ us]! = true := by
  have h1 := (lst1_spec (cAt us) us.length).2.2 h
  obtain ⟨i, hi, hc⟩ := cAt_iff.1 h1
  have hs := lst1_spec (fun i => clB us[i]! us[repJ us]!) us.length
  have hle : repI us ≤ i := by
    rcases Nat.lt_or_ge i (repI us) with hl | hl
    · have h4 : clB us[i]! us[repJ us]! = false := hs.2.1 i hl
      have h5 : clB us[i]! us[repJ us]! = true := hc
      rw [h4] at h5; cases h5
    · exact hl
  have hi' : i < repJ us := hi
  exact ⟨by omega, hs.2.2 (by unfold repI at hle; omega)⟩

/-! ### Lists of the uses of one key stream -/
/-- The walk through a list: those beyond j are passed over; does one clash with the last that was not? -/
def repG (us : List Us) (j : Nat) : Option Nat → List Nat → Bool
  | _, [] => false
  | b, i :: r => if j < i then repG us j b r else match b with
    | none => repG us j (some i) r
    | some k => if clB us[k]! us[i]! then true else repG us j (some i) r
def Sorted (us : List Us) (L : List Nat) : Prop := L.Pairwise fun a b => us[a]!.f ≤ us[b]!.f
theorem repG_sound (us : List Us) (j : Nat) : ∀ (L : List Nat) (b : Option Nat), repG us j b L = true → ∃ x y, (x ∈ L ∨ b = some x) ∧ y ∈ L ∧ y ≤ j ∧ clB us[x]! us[y]! = true ∧ (∀ k, b = some k → x = k ∨ (x ∈ L ∧ x ≤ j)) ∧ (b = none → x ≤ j) ∧ [x, y].Sublist (b.toList ++ L)
  | [], b, h => by simp [repG] at h
  | i :: r, b, h => by
    unfold repG at h
    split at h
    · obtain ⟨x, y, h1, h2, h3, h4, h5, h6, h7⟩ := repG_sound us j r b h
      refine ⟨x, y, h1.imp (fun h => List.mem_cons_of_mem _ h) id, List.mem_cons_of_mem _ h2, h3, h4, fun k hk => (h5 k hk).imp id fun h => ⟨List.mem_cons_of_mem _ h.1, h.2⟩, h6, ?_⟩
      exact h7.trans (List.Sublist.append (List.Sublist.refl _) (List.sublist_cons_self _ _))
    · rename_i hij
      cases b with
      | none =>
        obtain ⟨x, y, h1, h2, h3, h4, h5, h6, h7⟩ := repG_sound us j r (some i) h
        refine ⟨x, y, .inl ?_, List.mem_cons_of_mem _ h2, h3, h4, (fun k hk => by cases hk), fun _ => ?_, by simpa using h7⟩
        · rcases h5 i rfl with rfl | h; · simp
          · exact List.mem_cons_of_mem _ h.1
        · rcases h5 i rfl with rfl | h; · omega
          · exact h.2
      | some k =>
        simp only at h
        split at h
        · rename_i hc
          exact ⟨k, i, .inr rfl, by simp, by omega, hc, (fun k' hk => .inl (by injection hk)), (fun h => by cases h), by simp⟩
        · obtain ⟨x, y, h1, h2, h3, h4, h5, h6, h7⟩ := repG_sound us j r (some i) h
          refine ⟨x, y, .inl ?_, List.mem_cons_of_mem _ h2, h3, h4, fun k' _ => .inr ?_, fun h => (by cases h), ?_⟩
          · rcases h5 i rfl with rfl | h; · simp
            · exact List.mem_cons_of_mem _ h.1
          · rcases h5 i rfl with rfl | h
            · exact ⟨by simp, by omega⟩
            · exact ⟨List.mem_cons_of_mem _ h.1, h.2⟩
          · exact h7.trans (by simp)
theorem cl_step {a b c : Us} (h1 : clB a c = true) (h2 : stOf a = stOf b) (h3 : b.ok = true) (h4 : a.f ≤ b.f) (h5 : b.f ≤ c.f) : clB a b = true := by
  rw [clB_iff] at h1 ⊢
  have h3 : b.f ≤ b.l := by simpa [Us.ok] using h3
  exact ⟨h2, by omega⟩
theorem repG_full (us : List Us) (hv : ∀ u ∈ us, u.ok = true) (j : Nat) : ∀ (L : List Nat) (b : Option Nat), Sorted us (b.toList ++ L) → (∀ x ∈ b.toList ++ L, x < us.length) → (∀ x ∈ b.toList ++ L, ∀ y ∈ b.toList ++ L, stOf us[x]! = stOf us[y]!) →
    (∀ k, b = some k → k ≤ j) → ∀ x y, [x, y].Sublist (b.toList ++ L) → x ≤ j → y ≤ j → clB us[x]! us[y]! = true → repG us j b L = true
  | [], b, _, _, _, _, x, y, h, _, _, _ => by
    have := h.length_le
    cases b <;> simp at this
  | i :: r, b, hs, hl, hst, hb, x, y, h, hx, hy, hc => by
    unfold repG
    split
    · rename_i hij
      have drop : ∀ {z : Nat}, z ∈ b.toList ++ r → z ∈ b.toList ++ i :: r := fun hz => by
        rcases List.mem_append.1 hz with h | h
        · exact List.mem_append_left _ h
        · exact List.mem_append_right _ (List.mem_cons_of_mem _ h)
      refine repG_full us hv j r b (hs.sublist (List.Sublist.append (List.Sublist.refl _) (List.sublist_cons_self _ _))) (fun z hz => hl z (drop hz)) (fun z hz z' hz' => hst z (drop hz) z' (drop hz')) hb x y ?_ hx hy hc
      cases b with
      | none =>
        simp only [Option.toList_none, List.nil_append] at h ⊢
        cases h with
        | cons _ h => exact h
        | cons_cons _ h => omega
      | some k =>
        simp only [Option.toList_some, List.singleton_append] at h ⊢
        cases h with
        | cons _ h =>
          cases h with
          | cons _ h => exact h.cons _
          | cons_cons _ h => omega
        | cons_cons _ h =>
          cases h with
          | cons _ h => exact h.cons_cons _
          | cons_cons _ h => omega
    · rename_i hij
      cases b with
      | none => exact repG_full us hv j r (some i) (by simpa using hs) (by simpa using hl) (by simpa using hst) (fun k hk => by injection hk with hk; omega) x y (by simpa using h) hx hy hc
      | some k =>
        simp only
        split
        · rfl
        · rename_i hki
          simp only [Option.toList_some, List.singleton_append] at hs hl hst h
          refine repG_full us hv j r (some i) (List.pairwise_cons.1 hs).2 (fun z hz => hl z (List.mem_cons_of_mem _ hz)) (fun z hz z' hz' => hst z (List.mem_cons_of_mem _ hz) z' (List.mem_cons_of_mem _ hz')) (fun k hk => by injection hk with hk; omega) x y ?_ hx hy hc
          simp only [Option.toList_some, List.singleton_append]
          cases h with
          | cons _ h => exact h
          | cons_cons _ h =>
            exfalso
            have hyi : y = i ∨ y ∈ r := List.mem_cons.1 (List.singleton_sublist.1 h)
            rcases hyi with rfl | hyr
            · exact hki hc
            · apply hki
              have hs' := List.pairwise_cons.1 hs
              have hil : i < us.length := hl i (by simp)
              refine cl_step hc (hst x List.mem_cons_self i (List.mem_cons_of_mem _ List.mem_cons_self)) ?_ (hs'.1 i (by simp)) ((List.pairwise_cons.1 hs'.2).1 y hyr)
              rw [getElem!_pos us i hil]; exact hv _ (List.getElem_mem hil)
/-- Lists of indices, each of uses of one key stream by their first counters, in which any two uses of one stream stand together. -/
structure Lists (us : List Us) (Ls : List (List Nat)) : Prop where
  sorted : ∀ L ∈ Ls, Sorted us L
  lt : ∀ L ∈ Ls, ∀ x ∈ L, x < us.length
  nodup : ∀ L ∈ Ls, L.Nodup
  one : ∀ L ∈ Ls, ∀ x ∈ L, ∀ y ∈ L, stOf us[x]! = stOf us[y]!
  all : ∀ x y, x < y → y < us.length → stOf us[x]! = stOf us[y]! → ∃ L ∈ Ls, x ∈ L ∧ y ∈ L
theorem pair_sublist {α : Type} : ∀ {L : List α} {x y : α}, x ∈ L → y ∈ L → x ≠ y → [x, y].Sublist L ∨ [y, x].Sublist L
  | a :: L, x, y, hx, hy, h => by
    rcases List.mem_cons.1 hx with hxa | hx1
    · rcases List.mem_cons.1 hy with hya | hy1
      · exact absurd (hxa.trans hya.symm) h
      · rw [hxa]; exact .inl (List.cons_sublist_cons.2 (List.singleton_sublist.2 hy1))
    · rcases List.mem_cons.1 hy with hya | hy1
      · rw [hya]; exact .inr (List.cons_sublist_cons.2 (List.singleton_sublist.2 hx1))
      · exact (pair_sublist hx1 hy1 h).imp (·.cons _) (·.cons _)
theorem clB_comm (a b : Us) : clB a b = clB b a := by
  rw [Bool.eq_iff_iff, clB_iff, clB_iff]
  constructor <;> rintro ⟨h, k⟩ <;> exact ⟨h.symm, by omega⟩
theorem Lists.any {us : List Us} {Ls : List (List Nat)} (h : Lists us Ls) (hv : ∀ u ∈ us, u.ok = true) (j : Nat) (hj : j < us.length) : (Ls.any fun L => repG us j none L) = cUp us j := by
  rw [Bool.eq_iff_iff, List.any_eq_true, cUp_iff]
  constructor
  · rintro ⟨L, hL, hr⟩
    obtain ⟨x, y, h1, h2, h3, h4, h5, h6, h7⟩ := repG_sound us j L none hr
    have hxy : x ≠ y := fun he => by
      subst he
      have := (h.nodup L hL).sublist (by simpa using h7)
      simp at this
    rcases Nat.lt_or_gt_of_ne hxy with hl | hl
    · exact ⟨x, y, hl, h3, h4⟩
    · exact ⟨y, x, hl, h6 rfl, by rw [clB_comm]; exact h4⟩
  · rintro ⟨i, k, hik, hkj, hc⟩
    obtain ⟨L, hL, hi, hk⟩ := h.all i k hik (by omega) (clB_iff.1 hc).1
    refine ⟨L, hL, ?_⟩
    rcases pair_sublist hi hk (by omega) with hs | hs
    · exact repG_full us hv j L none (by simpa using h.sorted L hL) (by simpa using h.lt L hL) (by simpa using h.one L hL) (fun k hk => by cases hk) i k (by simpa using hs) (by omega) hkj hc
    · exact repG_full us hv j L none (by simpa using h.sorted L hL) (by simpa using h.lt L hL) (by simpa using h.one L hL) (fun k hk => by cases hk) k i (by simpa using hs) hkj (by omega) (by rw [clB_comm]; exact hc)
end Go.Proofs.Ythhmimnkfklhdaa
namespace Go.Proofs.Ythhmimnkfklhdaa
open Go Go.RowKit
set_option linter.unusedSimpArgs false
set_option linter.unusedVariables false
variable {κ : Cx}
def HasBody (P : Program) (g : FuncId) : Prop := ∃ fn, P.funcs[g]? = some fn ∧ (fn.name == "runtime.NumGoroutine") = false ∧ fn.body.isNone = false
/-- A function value that, called with the j-th of the values, says p j; memory at most grows. -/
def predD (P : Program) (args : List Value) (p : Nat → Bool) : D :=
  .p (fun B w x => ∃ (g : FuncId) (cb : List Value), x = .func (.func g) #[] cb.toArray ∧ HasBody P g ∧ ∀ w', Below B w w' → B ≤ w'.heap.size → ∀ (j : Nat) (v : Value), args[j]? = some v → Calls P g (v :: cb).toArray w' (PostOf w' (.v (.bool (p j)))))
    (fun _ _ _ _ g ⟨f, cb, h1, h2, h3⟩ => ⟨f, cb, h1, h2, fun w' k hB => h3 w' (g.trans k) hB⟩) (fun _ _ _ _ g ⟨f, cb, h1, h2, h3⟩ => ⟨f, cb, h1, h2, fun w' k hB => h3 w' (k.mono g) (Nat.le_trans g hB)⟩)
/-- The facts M on memory stand in the environment, each at some number. -/
def MHas (E : Env) (M : Env) : Prop := ∀ q ∈ M, ∃ k d, vbase ≤ k ∧ E.look k = some d ∧ Le d q.2
theorem MHas.nil {E : Env} : MHas E [] := fun _ h => by cases h
theorem MHas.cons {E M : Env} {t : Nat} {d' : D} (k : Nat) {d : D} (hk : vbase ≤ k) (hE : E.look k = some d) (hl : Le d d') (hr : MHas E M) : MHas E ((t, d') :: M) := fun q hq => by
  rcases List.mem_cons.1 hq with rfl | hq
  · exact ⟨k, d, hk, hE, hl⟩
  · exact hr q hq
section
variable {P : Program} {B : Nat} {E : Env} {dst : Option Tmp} {ty : TypeId} {pos : String} {after : Array Edge} {guard : Option (Nat × Bool)}
theorem ok_makePred {g : FuncId} {xs : Array Operand} {M : Env} {args : List Value} {p : Nat → Bool} (us : List Value) (hb : HasBody P g) (hf : ∀ (j : Nat) (v : Value), args[j]? = some v → FnM P g M (.v v :: us.map D.v) (.v (.bool (p j))))
    (hM : MHas E M) (hx : VArgs E us xs.toList) : OpOk P B ⟨dst, .makeFunc (.func g) #[] xs, ty, pos, after, guard⟩ E (predD P args p) := fun ρ w _ hv hρ => by
  have hmem : ∀ x ∈ xs.toList, x ∈ (Op.makeFunc (.func g) #[] xs).operands := fun x hx => by
    have hx' : x ∈ xs := by simpa using hx
    simp [Op.operands, hx']
  have h1 := hx.map (ρ := ρ) fun x hx v hv => hρ x (hmem x hx) _ hv
  have h2 : xs.map ρ = us.toArray := by
    apply Array.ext'
    rw [Array.toList_map]; exact h1
  refine out_val (x := .func (.func g) #[] us.toArray) (w' := w) (by simp [execOp, h2, Instr.makeFunc]) ⟨Grow.refl w, g, us, rfl, hb, fun w' k hB j v hj => ?_⟩
  refine (hf j v hj).calls (v :: us) w' (fun q hq => ?_) (by simp) (fun i e u he hu => ?_)
  · obtain ⟨k', d, hk, hE, hl⟩ := hM q hq
    exact hl.of (D.Of.grow (hv k' _ hk hE) k)
  · cases i with
    | zero => simp only [List.getElem?_cons_zero, Option.some.injEq] at he hu; subst he; subst hu; rfl
    | succ i =>
      simp only [List.getElem?_cons_succ, List.getElem?_map] at he hu
      rw [hu] at he
      simp only [Option.map_some, Option.some.injEq] at he
      subst he; rfl
theorem ok_callPred {x y : Operand} {f : D} {args : List Value} {p : Nat → Bool} {v : Value} {argTypes : Array TypeId} (j : Nat) (hx : E.at x = some f) (hf : Le f (predD P args p)) (hy : E.at y = some (.v v)) (hj : args[j]? = some v) :
    OpOk P B ⟨dst, .call { callee := .value x, args := #[y], argTypes := argTypes }, ty, pos, after, guard⟩ E (.v (.bool (p j))) := fun ρ w _ hv hρ => by
  obtain ⟨g, cb, hfun, ⟨fn, h1, h2, h3⟩, hc⟩ := hf.of (hρ x (by simp [Op.operands, Call.operands]) _ hx)
  have hyv : ρ y = v := hρ y (by simp [Op.operands, Call.operands]) _ hy
  have hrun : (execOp ρ ⟨dst, .call { callee := .value x, args := #[y], argTypes := argTypes }, ty, pos, after, guard⟩).run P w = .ok (.enter g (v :: cb).toArray) w := by
    have h2' : ¬ fn.name = "runtime.NumGoroutine" := by simpa using h2
    have h3' : ¬ fn.body = none := by intro h; rw [h] at h3; cases h3
    simp [execOp, resolve, Deferred.ofValue, hfun, invoke, callFunc, h1, h2', h3', hyv]
  unfold Out
  rw [hrun]
  exact (hc w (Below.refl _ _) (Nat.le_refl _) j v hj).mono fun e w' ⟨x, he, hg, hx⟩ => ⟨x, he, hg, hx⟩
/-- A slice whose value is known, told by what stands at its address. -/
theorem OpOk.rowO {o : Oper} {A₀ : Option Addr} {m q k B' : Nat} {xs : List Value} (h : OpOk P B o E (.v (.slice A₀ m q))) (hk : vbase ≤ k) (hl : E.look k = some (old B' (memR A₀ xs))) : OpOk P B o E (old B' (rowD m xs)) := fun ρ w hB hv hρ => by
  refine (h ρ w hB hv hρ).mono fun x w' hx => ⟨hx.1, ?_⟩
  have h2 : (old B' (memR A₀ xs)).Of w' undef := D.Of.grow (hv k _ hk hl) hx.1
  exact ⟨h2.1, A₀, q, hx.2, h2.2⟩
theorem OpOk.rowM {o : Oper} {A₀ : Option Addr} {m q k : Nat} {xs : List Value} (h : OpOk P B o E (.v (.slice A₀ m q))) (hk : vbase ≤ k) (hl : E.look k = some (memR A₀ xs)) : OpOk P B o E (rowD m xs) := fun ρ w hB hv hρ => by
  refine (h ρ w hB hv hρ).mono fun x w' hx => ⟨hx.1, ?_⟩
  have h2 : (memR A₀ xs).Of w' undef := D.Of.grow (hv k _ hk hl) hx.1
  exact ⟨A₀, q, hx.2, h2⟩
end
section
variable {P : Program} {B : Nat} {E : Env}
theorem OpOk.hdRow {o : Oper} {A₀ : Option Addr} {m q k B' : Nat} {xs : List Value} (h : OpOk P B o E (.v (aggV [.slice A₀ m q]))) (hk : vbase ≤ k) (hl : E.look k = some (old B' (memR A₀ xs))) : OpOk P B o E (old B' (hdD (rowD m xs) [])) := fun ρ w hB hv hρ => by
  refine (h ρ w hB hv hρ).mono fun x w' hx => ⟨hx.1, ?_⟩
  have h2 : (old B' (memR A₀ xs)).Of w' undef := D.Of.grow (hv k _ hk hl) hx.1
  exact ⟨h2.1, _, rfl, hx.2, A₀, q, rfl, h2.2⟩
theorem oneP_slice {us : List Value} {B : Nat} {w : World} {u : Value} (h : (oneP us).OfB B w u) : ∃ A m c, u = .slice A m c := by
  obtain ⟨ad, h1, _⟩ := h; exact ⟨_, _, _, h1⟩
theorem fresh_rowD {base m : Nat} {e : TypeId} {xs : List Value} : Le (fresh base e xs m) (rowD m xs) := fun B w x ⟨b, h1, _, h3, h4⟩ => ⟨some ⟨b, 0, none⟩, xs.length, h1, blk_rowIn h3 h4⟩
/-- A struct around a slice over a block that is known whole. -/
theorem OpOk.hdBlk {o : Oper} {b m q k : Nat} {e : TypeId} {xs : List Value} (h : OpOk P B o E (.v (aggV [.slice (some ⟨b, 0, none⟩) m q]))) (hk : vbase ≤ k) (hl : E.look k = some (blk b e xs)) : OpOk P B o E (hdD (rowD m xs) []) := fun ρ w hB hv hρ => by
  refine (h ρ w hB hv hρ).mono fun x w' hx => ⟨hx.1, ?_⟩
  have h2 : (blk b e xs).Of w' undef := D.Of.grow (hv k _ hk hl) hx.1
  exact ⟨_, rfl, hx.2, _, _, rfl, blk_rowIn h2.1 h2.2⟩
theorem OpOk.rowBlk {o : Oper} {b m q k : Nat} {e : TypeId} {xs : List Value} (h : OpOk P B o E (.v (.slice (some ⟨b, 0, none⟩) m q))) (hk : vbase ≤ k) (hl : E.look k = some (blk b e xs)) : OpOk P B o E (rowD m xs) := fun ρ w hB hv hρ => by
  refine (h ρ w hB hv hρ).mono fun x w' hx => ⟨hx.1, ?_⟩
  have h2 : (blk b e xs).Of w' undef := D.Of.grow (hv k _ hk hl) hx.1
  exact ⟨_, _, hx.2, blk_rowIn h2.1 h2.2⟩
end
end Go.Proofs.Ythhmimnkfklhdaa
