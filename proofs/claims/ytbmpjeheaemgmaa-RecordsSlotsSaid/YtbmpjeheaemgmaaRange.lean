/-
  OWN WORDS, PART SIX: a range over a function, by facts. The loop's record and the block for deferred calls are facts on memory like others; a round is code like other code, in a frame of its own; the function that is ranged over is walked at the caller's base. Nothing of one program stands here.
-/
import Derived.Test.YtbmpjeheaemgmaaOps4
import Derived.RangeFuncOwn
namespace Go.Proofs.Ytbmpjeheaemgmaa
open Go Go.RowKit
variable {κ : Cx}

/-! ### Facts on memory -/
/-- Block b is the object o; there are at least m blocks. -/
def recD (b : Nat) (o : Obj) (m : Nat) : D := .p (fun B w _ => b < B ∧ m ≤ B ∧ w.heap[b]? = some o) (fun _ _ _ _ g ⟨h1, h2, h3⟩ => ⟨h1, h2, (g.block b h1).trans h3⟩) (fun _ _ _ _ g ⟨h1, h2, h3⟩ => ⟨Nat.lt_of_lt_of_le h1 g, Nat.le_trans h2 g, h3⟩)
theorem Surv.rec {B T g b m : Nat} {o : Obj} (h : o.isCells = false) : Surv B T g (recD b o m) := fun w _ _ k ⟨h1, h2, h3⟩ => by
  refine ⟨Nat.lt_of_lt_of_le h1 k.size, Nat.le_trans h2 k.size, (k.other b h1 fun hb => ?_).trans h3⟩
  subst hb
  obtain ⟨cs, fr, hx⟩ := k.cel _ h3
  subst hx; cases h
/-- A property of memory that stays while memory grows, as a fact. -/
def jD (J : World → Prop) : D := .p (fun B w _ => ∃ v : World, J v ∧ v.heap.size ≤ B ∧ Below v.heap.size v w) (fun _ _ _ _ g ⟨v, h1, h2, h3⟩ => ⟨v, h1, h2, h3.trans (g.mono h2)⟩) (fun _ _ _ _ g ⟨v, h1, h2, h3⟩ => ⟨v, h1, Nat.le_trans h2 g, h3⟩)
theorem jD_get {J : World → Prop} (hst : ∀ a b, J a → Grow a b → J b) {w : World} {x : Value} (h : (jD J).Of w x) : J w := by
  obtain ⟨v, h1, _, h3⟩ := h
  exact hst v w h1 h3
theorem below_two {B : Nat} {w₀ w w' : World} (h : Below B w₀ w) (h' : Below B w₀ w') (hs : w.heap.size ≤ w'.heap.size) : Below B w w' :=
  ⟨h'.os.trans h.os.symm, h'.tape.trans h.tape.symm, h'.output.trans h.output.symm, hs, fun k hk => (h'.block k hk).trans (h.block k hk).symm⟩
/-- The fact survives a turn of block l, which is no cells before and after. -/
def Firm (l : Nat) (d : D) : Prop := ∀ (w : World) (o o' : Obj) (x : Value), w.heap[l]? = some o → o.isCells = false → d.Of w x → d.Of (w.putObj l o') x
theorem Firm.v (l : Nat) (x : Value) : Firm l (.v x) := fun _ _ _ _ _ _ h => h
theorem below_putObj {B l : Nat} (w : World) (o' : Obj) (h : B ≤ l) : Below B w (w.putObj l o') := ⟨rfl, rfl, rfl, by simp, fun _ hk => World.putObj_heap_other (by omega)⟩
theorem Firm.old {l B : Nat} {d : D} (h : B ≤ l) : Firm l (Go.Proofs.Ytbmpjeheaemgmaa.old B d) := fun w _ o' _ _ _ ⟨h1, h2⟩ => ⟨by simpa using h1, D.OfB.keep h2 (below_putObj w o' h)⟩
theorem Firm.blk {l b : Nat} {e : TypeId} {xs : List Value} : Firm l (Go.Proofs.Ytbmpjeheaemgmaa.blk b e xs) := fun w o o' _ hl ho ⟨h1, h2⟩ => ⟨by simpa using h1, (World.putObj_heap_other (fun hb => by
  subst hb; rw [h2] at hl; injection hl with hl; subst hl; cases ho)).trans h2⟩
/-- Facts on memory that hold in w, which is above w₀. -/
def Holds (w₀ : World) (V : Env) (w : World) : Prop := Below w₀.heap.size w₀ w ∧ w₀.heap.size ≤ w.heap.size ∧ ∀ p ∈ V, p.2.Of w undef
theorem Holds.grow {w₀ w w' : World} {V : Env} (h : Holds w₀ V w) (g : Grow w w') : Holds w₀ V w' := ⟨h.1.trans (g.mono h.2.1), Nat.le_trans h.2.1 g.size, fun p hp => (h.2.2 p hp).grow g⟩
theorem Holds.putObj {w₀ w : World} {V : Env} {l : Nat} {o : Obj} (o' : Obj) (h : Holds w₀ V w) (hl : w.heap[l]? = some o) (ho : o.isCells = false) (hB : w₀.heap.size ≤ l) (hf : ∀ p ∈ V, Firm l p.2) : Holds w₀ V (w.putObj l o') :=
  ⟨h.1.trans (below_putObj w o' hB), by simpa using h.2.1, fun p hp => hf p hp w o o' _ hl ho (h.2.2 p hp)⟩

/-! ### The call of yield -/
section
variable {P : Program} {n : Nat} {w₀ : World} {ops : Array Oper} {E : Env} {ty : TypeId} {pos : String} {after : Array Edge}
/-- What yield does at each round: it goes on, and the property of memory moves on by one. -/
def Yields (P : Program) (N : Nat) (l : Nat) (arg : Nat → D) (J : Nat → World → Prop) : Prop :=
  ∀ (i : Nat) (W : World) (u : Value), i < N → J i W → (arg i).Of W u → YieldAt (FR none) 0 P l #[u] W fun e W' => e = .returned (.bool true) ∧ J (i + 1) W' ∧ W.heap.size ≤ W'.heap.size
structure Seqs (P : Program) (w₀ : World) (N : Nat) (l : Nat) (arg : Nat → D) (V : Nat → Env) (J : Nat → World → Prop) : Prop where
  grow : ∀ i a b, J i a → Grow a b → J i b
  holds : ∀ i W, J i W → Holds w₀ (V i) W
  yields : Yields P N l arg J
theorem Seqs.sub {N l : Nat} {arg : Nat → D} {V V' : Nat → Env} {J : Nat → World → Prop} (h : Seqs P w₀ N l arg V J) (hs : ∀ i, ∀ p ∈ V' i, p ∈ V i) : Seqs P w₀ N l arg V' J :=
  ⟨h.grow, fun i W hJ => ⟨(h.holds i W hJ).1, (h.holds i W hJ).2.1, fun p hp => (h.holds i W hJ).2.2 p (hs i p hp)⟩, h.yields⟩
/-- A call that is walked at the caller's base. -/
theorem Calls.within {f : FuncId} {fn : Func} {c : Code} {vs : List Value} {w : World} {R : Ending → World → Prop} (hf : P.funcs[f]? = some fn) (hb : fn.body = some c) (hn : fn.ntmps = n) (hl : vs.length ≤ n) (hnv : n ≤ vbase) (hw : Below w₀.heap.size w₀ w) (hs : w₀.heap.size ≤ w.heap.size)
    (hE : ∀ p ∈ E, (vbase ≤ p.1 ∧ p.2.Of w undef) ∨ ∃ v, vs[p.1]? = some v ∧ p.2.Of w v) (h : A Cx.top P w₀ n c E (BP P fn R)) : Calls P f vs.toArray w R := by
  refine callsIn_FR.1 (callsIn_of_wp_marks (F := FR none) (n := 0) hf hb trivial (h _ w hw ⟨hs, rfl, ?_, fun t e he => ?_⟩))
  · simp [hn]; omega
  · show e.Of w ((vs.toArray ++ Array.replicate (fn.ntmps - vs.toArray.size) undef).getD t undef)
    rcases hE _ (look_mem he) with ⟨ht, hx⟩ | ⟨v, hv, hx⟩
    · rwa [Array.getD_eq_getD_getElem?, Array.getElem?_eq_none (by simp [hn]; simp only at ht; omega)]
    · have hlt : t < vs.length := (List.getElem?_eq_some_iff.1 hv).1
      rw [Array.getD_eq_getD_getElem?, Array.getElem?_append_left (by simpa using hlt)]
      simp only at hv
      simp [hv]; exact hx
/-- The end of a function that is ranged over. -/
theorem End.seq {fn : Func} {N l : Nat} {arg : Nat → D} {V : Nat → Env} {J : Nat → World → Prop} {vJ : Nat} (hq : Seqs P w₀ N l arg V J) (hr : fn.results = #[]) (hJ : E.look vJ = some (jD (J N))) :
    End Cx.top w₀ n E (BP P fn (fun e W => (∃ v, e = .returned v) ∧ J N W) .normal) := fun a w _ hs => by
  show LeavesInM (FR none) 0 P fn a.tmps _ a.defers .returning w
  rw [show a.defers = [] from hs.defers]
  exact ⟨_, by simp [results, hr]; rfl, ⟨_, rfl⟩, jD_get (hq.grow N) (hs.of vJ _ hJ)⟩

/-! ### The statement -/
/-- What the body of a round comes to: it goes on, and these facts hold. -/
def RoundQ (w₀ : World) (V : Env) : Exit → Act → World → Prop
  | .normal, _, w => Holds w₀ V w
  | _, _, _ => False
theorem End.round {V : Env} (hs : Sub V E) (hV : ∀ p ∈ V, vbase ≤ p.1) (hn : n ≤ vbase) : End κ w₀ n E (RoundQ w₀ V .normal) := fun a w g hst => ⟨g, hst.base, fun p hp => by
  have h1 := hst.of p.1 p.2 (hs p hp)
  have := hV p hp
  rwa [Array.getD_eq_getD_getElem?, Array.getElem?_eq_none (by rw [hst.size]; omega)] at h1⟩
theorem A.range {Q : Exit → Act → World → Prop} {g : Operand} {tp gf N vL vD : Nat} {assign body : Code} {lb : List Value} {S : Env} {V Eb : Nat → Env} {arg : Nat → D} (hg : E.at g = some (.v (.func (.func gf) #[] lb.toArray)))
    (hgf : ∃ fn, P.funcs[gf]? = some fn ∧ (fn.name == "runtime.NumGoroutine") = false ∧ fn.body.isNone = false) (htp : tp < n) (hn : n ≤ vbase) (h0 : Sub (V 0 ++ S) E)
    (hS : ∀ p ∈ S, p.1 < vbase ∧ ((∃ x, p.2 = .v x) ∨ ∃ d, p.2 = old w₀.heap.size d)) (hV : ∀ i, ∀ p ∈ V i, vbase ≤ p.1)
    (hfV : ∀ i l, w₀.heap.size ≤ l → ∀ p ∈ V i, Firm l p.2) (hfE : ∀ i l, w₀.heap.size ≤ l → ∀ p ∈ Eb i, Firm l p.2)
    (hseq : ∀ (J : Nat → World → Prop) (l : Nat) (w : World), Seqs P w₀ N l arg V J → J 0 w → Calls P gf (.func (.yield l) #[] #[] :: lb).toArray w fun e W => (∃ v, e = .returned v) ∧ J N W)
    (hassign : ∀ i l a w, i < N → St ⟨some l, []⟩ n w₀.heap.size ((tp, arg i) :: (V i ++ S)) a w → assign.wpIn (FR (some l)) 0 P (fun e a' w' => e = .normal ∧ Grow w w' ∧ St ⟨some l, []⟩ n w₀.heap.size (Eb i) a' w') a w)
    (hbody : ∀ i l D r m, i < N → A ⟨some l, []⟩ P w₀ n body ((vL, recD l (.loop r) m) :: (vD, recD D (.deferred (some [])) 0) :: Eb i) (RoundQ w₀ ((vL, recD l (.loop r) m) :: (vD, recD D (.deferred (some [])) 0) :: V (i + 1))))
    (hend : ∀ D, w₀.heap.size ≤ D → End ⟨none, [{ target := .collected D, args := #[] }]⟩ w₀ n ((vD, recD D (.deferred (some [])) 0) :: (V N ++ S)) (Q .normal)) :
    A ⟨none, []⟩ P w₀ n (.rangeFunc g #[tp] assign body) E Q := fun a w hb hst => by
  show (Code.rangeFunc g #[tp] assign body).wpIn (FR none) 0 P Q a w
  refine wpIn_rangeFunc fun fn _ => ?_
  obtain ⟨rec, hrec⟩ : ∃ rec : LoopState → Option Code → Loop, rec = fun st pe => { state := st, pending := pe, fn, tmps := a.tmps, params := #[tp], assign, body, defers := w.heap.size } := ⟨_, rfl⟩
  obtain ⟨W1, hW1⟩ : ∃ W1, (w.alloc (.deferred (some []))).alloc (.loop (rec .ready none)) = W1 := ⟨_, rfl⟩
  have hg' : a.eval g = .func (.func gf) #[] lb.toArray := hst.at_ g _ hg
  obtain ⟨gfn, hf1, hf2, hf3⟩ := hgf
  have eg : ∀ args w, (callFunc gf args).run P w = .ok (.enter gf args) w := fun args w => by
    have h2' : ¬ gfn.name = "runtime.NumGoroutine" := by simpa using hf2
    have h3' : ¬ gfn.body = none := by intro h; rw [h] at hf3; cases hf3
    simp [callFunc, hf1, h2', h3']
  have hgr : Grow w W1 := by
    rw [← hW1]; exact (Grow.alloc w _).trans (Grow.alloc _ _)
  have hL1 : W1.heap[w.heap.size + 1]? = some (.loop (rec .ready none)) := by
    rw [← hW1]; have := World.alloc_heap_new (w.alloc (.deferred (some []))) (.loop (rec .ready none)); rwa [World.size_alloc] at this
  have hK1 : W1.heap[w.heap.size]? = some (.deferred (some [])) := by
    rw [← hW1]; exact (Below.heap_alloc _ _ _ (by simp)).trans (World.alloc_heap_new w _)
  have hund : ∀ t, vbase ≤ t → a.tmps.getD t undef = undef := fun t ht => by
    rw [Array.getD_eq_getD_getElem?, Array.getElem?_eq_none (by rw [hst.size]; omega)]; rfl
  have hH0 : Holds w₀ (V 0) w := ⟨hb, hst.base, fun p hp => by
    have h1 := hst.of p.1 p.2 (h0 p (List.mem_append_left _ hp))
    rwa [hund _ (hV 0 p hp)] at h1⟩
  -- what holds between two rounds
  have hstS : ∀ (κ' : Cx) (i : Nat) (W : World) (a' : Act) (E' : Env), κ'.df = a'.defers → a'.tmps.size = n → Holds w₀ (V i) W → w.heap.size ≤ W.heap.size → (∀ t e, E'.look t = some e → e.Of W (a'.tmps.getD t undef) ∨ ((t, e) ∈ V i ++ S ∧ (t < vbase → a'.tmps.getD t undef = a.tmps.getD t undef))) → St κ' n w₀.heap.size E' a' W := by
    intro κ' i W a' E' hd hsz hH hs hE
    refine ⟨hH.2.1, hd.symm, hsz, fun t e he => ?_⟩
    rcases hE t e he with h | ⟨hm, hsame⟩
    · exact h
    · rcases List.mem_append.1 hm with hm | hm
      · have h1 := hH.2.2 _ hm
        have ht := hV i _ hm
        simp only at ht
        rwa [Array.getD_eq_getD_getElem?, Array.getElem?_eq_none (by rw [hsz]; omega)]
      · obtain ⟨ht, hk⟩ := hS _ hm
        rw [hsame ht]
        have h1 := hst.of t e (h0 _ (List.mem_append_right _ hm))
        rcases hk with ⟨x, hx⟩ | ⟨d, hd'⟩
        · simp only at hx; subst hx; exact h1
        · simp only at hd'; subst hd'
          exact ⟨hH.2.1, D.OfB.keep h1.2 (below_two hb hH.1 hs)⟩
  refine ⟨w.heap.size + 1, [{ target := .collected w.heap.size, args := #[] }], W1, { target := .fn (.func gf) lb.toArray, args := #[.func (.yield (w.heap.size + 1)) #[] #[]] }, W1, gf,
    #[.func (.yield (w.heap.size + 1)) #[] #[]] ++ lb.toArray, W1, ?_, ?_, fun _ _ => trivial, ?_, fun e => absurd e (by simp [FR, Fence.wide]), ?_⟩
  · rw [← hW1, hrec]; exact run_enterLoop_outer _ _ _ _ _
  · have hy : a.eval (.const (.func (.yield (w.heap.size + 1)) #[] #[])) = .func (.yield (w.heap.size + 1)) #[] #[] := rfl
    simp only [resolve, hg']
    simp [Deferred.ofValue, hy]
  · simp [invoke, eg]
  · have harr : (#[.func (.yield (w.heap.size + 1)) #[] #[]] ++ lb.toArray : Array Value) = (.func (.yield (w.heap.size + 1)) #[] #[] :: lb).toArray := by simp
    rw [harr]
    refine callsIn_FR.2 ((hseq (fun i W => Holds w₀ (V i) W ∧ W.heap[w.heap.size + 1]? = some (.loop (rec .ready none)) ∧ W.heap[w.heap.size]? = some (.deferred (some []))) (w.heap.size + 1) W1 ⟨?_, fun i W h => h.1, ?_⟩ ⟨hH0.grow hgr, hL1, hK1⟩).mono ?_)
    · rintro i x y ⟨h1, h2, h3⟩ k
      exact ⟨h1.grow k, (k.block _ (Array.getElem?_eq_some_iff.1 h2).1).trans h2, (k.block _ (Array.getElem?_eq_some_iff.1 h3).1).trans h3⟩
    · -- one round
      rintro i W u hi ⟨hH, hl, hk⟩ hu
      have hlt : w.heap.size + 1 < W.heap.size := (Array.getElem?_eq_some_iff.1 hl).1
      have hBl : w₀.heap.size ≤ w.heap.size + 1 := by have := hst.base; omega
      have hy := run_yield (P := P) (args := #[u]) hl (by rw [hrec]; rfl)
      rw [hrec] at hy
      refine ⟨fn, _, assign, body, hy, roundIn_of_wpIn (F := FR none) trivial ?_⟩
      have htm : (List.foldl (fun (tmps : Array Value) (x : Tmp × Value) => tmps.setIfInBounds x.1 x.2) a.tmps ((#[tp].zip #[u]).toList)) = a.tmps.setIfInBounds tp u := by simp
      have hsta : St ⟨some (w.heap.size + 1), []⟩ n w₀.heap.size ((tp, arg i) :: (V i ++ S)) { tmps := a.tmps.setIfInBounds tp u, defers := [] } W := by
        refine hstS _ i W _ _ rfl (by simp [hst.size]) hH (by omega) fun t e he => ?_
        by_cases hts : tp = t
        · subst hts
          rw [look_here] at he; injection he with he; subst he
          left
          have : tp < a.tmps.size := by rw [hst.size]; exact htp
          simpa [this] using hu
        · rw [look_past _ _ hts] at he
          exact .inr ⟨look_mem he, fun _ => by simp [Array.getElem?_setIfInBounds_ne hts]⟩
      have has := hassign i (w.heap.size + 1) _ W hi hsta
      have hrun0 : ({ tmps := Array.foldl (fun (tmps : Array Value) (x : Tmp × Value) => tmps.setIfInBounds x.1 x.2) a.tmps (#[tp].zip #[u]), defers := [] } : Act) = { tmps := a.tmps.setIfInBounds tp u, defers := [] } := by simp
      show assign.wpIn (FR (some (w.heap.size + 1))) 0 P _ _ W
      refine wpIn_mono (F := FR (some (w.heap.size + 1))) (n := 0) (by first | exact has | (rw [← hrun0] at has; exact has)) ?_
      rintro e a1 W2 ⟨rfl, hg2, hst2⟩
      have hl2 : W2.heap[w.heap.size + 1]? = some (.loop (rec .ready none)) := (hg2.block _ hlt).trans hl
      have hk2 : W2.heap[w.heap.size]? = some (.deferred (some [])) := (hg2.block _ (by omega)).trans hk
      have hH2 := hH.grow hg2
      have hlt2 : w.heap.size + 1 < W2.heap.size := (Array.getElem?_eq_some_iff.1 hl2).1
      refine ⟨_, run_beginRound hl2 (by rw [hrec]), ?_⟩
      have hl3 : (W2.putObj (w.heap.size + 1) (.loop { rec .ready none with state := .busy })).heap[w.heap.size + 1]? = some (.loop { rec .ready none with state := .busy }) := World.putObj_heap_same hlt2
      have hk3 : (W2.putObj (w.heap.size + 1) (.loop { rec .ready none with state := .busy })).heap[w.heap.size]? = some (.deferred (some [])) := (World.putObj_heap_other (by omega)).trans hk2
      have hH3 := hH2.putObj (.loop { rec .ready none with state := .busy }) hl2 rfl hBl (hfV i _ hBl)
      have hst3 : St ⟨some (w.heap.size + 1), []⟩ n w₀.heap.size ((vL, recD (w.heap.size + 1) (.loop { rec .ready none with state := .busy }) W.heap.size) :: (vD, recD w.heap.size (.deferred (some [])) 0) :: Eb i) a1 (W2.putObj (w.heap.size + 1) (.loop { rec .ready none with state := .busy })) := by
        refine ⟨hH3.2.1, hst2.defers, hst2.size, fun t e he => ?_⟩
        by_cases hts : vL = t
        · subst hts
          rw [look_here] at he; injection he with he; subst he
          exact ⟨by simpa using hlt2, by simpa using hg2.size, hl3⟩
        · rw [look_past _ _ hts] at he
          by_cases hts' : vD = t
          · subst hts'
            rw [look_here] at he; injection he with he; subst he
            exact ⟨by simp; omega, Nat.zero_le _, hk3⟩
          · rw [look_past _ _ hts'] at he
            exact hfE i _ hBl _ (look_mem he) W2 _ _ _ hl2 rfl (hst2.of t e he)
      refine wpIn_mono (F := FR (some (w.heap.size + 1))) (n := 0) (hbody i _ _ _ _ hi a1 _ hH3.1 hst3) ?_
      rintro e a3 W3 hp
      cases e with
      | normal =>
        obtain ⟨hb3, hs3, hv3⟩ := hp
        obtain ⟨hlt3, hm3, hl4⟩ := hv3 _ List.mem_cons_self
        obtain ⟨_, _, hk4⟩ := hv3 _ (List.mem_cons_of_mem _ List.mem_cons_self)
        have hH4 : Holds w₀ (V (i + 1)) W3 := ⟨hb3, hs3, fun p hp => hv3 p (List.mem_cons_of_mem _ (List.mem_cons_of_mem _ hp))⟩
        have hend := run_endRound (P := P) none hl4
        refine ⟨_, _, hend, rfl, ⟨hH4.putObj _ hl4 rfl hBl (hfV _ _ hBl), ?_, (World.putObj_heap_other (by omega)).trans hk4⟩, by simpa using hm3⟩
        have := World.putObj_heap_same (o := .loop { { rec .ready none with state := .busy } with state := .ready, pending := none }) hlt3
        rw [hrec] at this ⊢
        exact this
      | _ => exact hp.elim
    · -- behind it
      rintro e W2 ⟨⟨v, rfl⟩, hH, hl, hk⟩
      have hBl : w₀.heap.size ≤ w.heap.size + 1 := by have := hst.base; omega
      have hlt2 : w.heap.size + 1 < W2.heap.size := (Array.getElem?_eq_some_iff.1 hl).1
      have hel := run_endLoop (P := P) hl (by rw [hrec]; simp)
      refine ⟨none, _, by rw [hrec] at hel; exact hel, ?_⟩
      have hH3 := hH.putObj (.loop { state := .exhausted, pending := none, fn, tmps := a.tmps, params := #[tp], assign, body, defers := w.heap.size }) hl rfl hBl (hfV N _ hBl)
      refine hend w.heap.size hst.base _ _ hH3.1 (hstS _ N _ _ _ (by simp [hst.defers]) hst.size hH3 (by simp; omega) fun t e he => ?_)
      by_cases hts : vD = t
      · subst hts
        rw [look_here] at he; injection he with he; subst he
        exact .inl ⟨by simp; omega, Nat.zero_le _, (World.putObj_heap_other (by omega)).trans hk⟩
      · rw [look_past _ _ hts] at he
        exact .inr ⟨look_mem he, fun _ => rfl⟩

end
end Go.Proofs.Ytbmpjeheaemgmaa
