/-
  OWN WORDS: a range over a function whose iterator keeps memory of its own through a round: a round leaves alone whatever is told of by a frame (a family XE of facts), for each of its members. The loop's variable as a block; the end of a function with such a loop. Nothing of one program stands here.
-/
import Derived.Test.YtdnblilocdddpaaVar
namespace Go.Proofs.Ytdnblilocdddpaa
open Go Go.RowKit
variable {κ : Cx}
section
variable {P : Program} {n : Nat} {w₀ : World} {ops : Array Oper} {E : Env} {ty : TypeId} {pos : String} {after : Array Edge}
def YieldsX (P : Program) (N : Nat) (l : Nat) (arg : Nat → D) (J : Nat → World → Prop) {X : Type} (XE : X → Env) : Prop :=
  ∀ (i : Nat) (W : World) (u : Value) (x : X), i < N → J i W → (arg i).Of W u → (∀ p ∈ XE x, p.2.Of W undef) → YieldAt (FR none) 0 P l #[u] W fun e W' => e = .returned (.bool true) ∧ J (i + 1) W' ∧ W.heap.size ≤ W'.heap.size ∧ ∀ p ∈ XE x, p.2.Of W' undef
structure SeqsX (P : Program) (w₀ : World) (N : Nat) (l : Nat) (arg : Nat → D) (V : Nat → Env) (J : Nat → World → Prop) {X : Type} (XE : X → Env) : Prop where
  grow : ∀ i a b, J i a → Grow a b → J i b
  holds : ∀ i W, J i W → Holds w₀ (V i) W
  yields : YieldsX P N l arg J XE
theorem SeqsX.sub {N l : Nat} {arg : Nat → D} {V V' : Nat → Env} {J : Nat → World → Prop} {X : Type} {XE : X → Env} (h : SeqsX P w₀ N l arg V J XE) (hs : ∀ i, ∀ p ∈ V' i, p ∈ V i) : SeqsX P w₀ N l arg V' J XE :=
  ⟨h.grow, fun i W hJ => ⟨(h.holds i W hJ).1, (h.holds i W hJ).2.1, fun p hp => (h.holds i W hJ).2.2 p (hs i p hp)⟩, h.yields⟩
theorem eff_yieldX {N l : Nat} {arg : Nat → D} {V : Nat → Env} {J : Nat → World → Prop} {X : Type} {XE : X → Env} {d vJ : Nat} {fv x : Operand} {ex : D} {tys : Array TypeId} {E' : Env} (hq : SeqsX P w₀ N l arg V J XE) (z : X) (i : Nat) (hi : i < N)
    (hJ : E.look vJ = some (jD (J i))) (hf : E.at fv = some (.v (.func (.yield l) #[] #[]))) (hx : E.at x = some ex) (hle : Le ex (arg i)) (hd : d < n) (hV : ∀ p ∈ V (i + 1), vbase ≤ p.1) (hXv : ∀ p ∈ XE z, vbase ≤ p.1) (hXE : ∀ p ∈ XE z, E.look p.1 = some p.2) (hn : n ≤ vbase)
    (hl : Left w₀.heap.size E' E) :
    Eff P n w₀.heap.size ops ⟨some d, .call { callee := .value fv, args := #[x], argTypes := tys }, ty, pos, after, none⟩ E ((d, .v (.bool true)) :: (vJ, jD (J (i + 1))) :: (V (i + 1) ++ XE z ++ E')) := by
  intro κ a w K Q h hK
  have h1 : a.eval fv = _ := h.at_ fv _ hf
  have h2 := hle.of (h.at_ x _ hx)
  have hJw : J i w := jD_get (hq.grow i) (h.of vJ _ hJ)
  have hund : ∀ t, vbase ≤ t → a.tmps.getD t undef = undef := fun t ht => by
    rw [Array.getD_eq_getD_getElem?, Array.getElem?_eq_none (by rw [h.size]; omega)]; rfl
  obtain ⟨fn, tmps, assign, body, hy, hr⟩ := hq.yields i w _ z hi hJw h2 fun p hp => by
    have := h.of _ _ (hXE p hp)
    rwa [hund _ (hXv p hp)] at this
  rw [if_pos (by simp [Region.wanted])]
  refine ⟨fun _ _ => trivial, ?_⟩
  rw [Oper.semAt_eq _ _ _ (by nofun)]
  have hrun : (execOp a.eval ⟨some d, .call { callee := .value fv, args := #[x], argTypes := tys }, ty, pos, after, none⟩).run P w = .ok (.round l fn tmps assign body) w := by
    simp [execOp, resolve, Deferred.ofValue, h1, invoke, hy]
  rw [hrun, Oper.uponIn_round]
  refine ⟨fun e => absurd e (by simp [FR, Fence.wide]), RoundIn.mono (F := FR κ.rd) (n := 0) hr ?_⟩
  rintro e W' ⟨rfl, hJ', hs, hX'⟩
  obtain ⟨hb, hsz, hv⟩ := hq.holds _ _ hJ'
  have hb0 := (hq.holds _ _ hJw).1
  have hbel := below_two hb0 hb hs
  refine hK _ _ hbel (St.put ⟨hsz, h.defers, h.size, fun t e he => ?_⟩ hd rfl)
  by_cases hts : vJ = t
  · subst hts
    rw [look_here] at he; injection he with he; subst he
    exact jD_mk hJ'
  · rw [look_past _ _ hts] at he
    rcases List.mem_append.1 (look_mem he) with hm | hm
    · rcases List.mem_append.1 hm with hm | hm
      · have := hv _ hm
        rwa [hund t (hV _ hm)]
      · have := hX' _ hm
        rwa [hund t (hXv _ hm)]
    · obtain ⟨h7, h8⟩ := hl _ hm
      exact h8 _ _ _ hbel h.base (h.of t e h7)
/-- The end of a function that is ranged over. -/
theorem End.seqX {fn : Func} {N l : Nat} {arg : Nat → D} {V : Nat → Env} {J : Nat → World → Prop} {X : Type} {XE : X → Env} {vJ : Nat} (hq : SeqsX P w₀ N l arg V J XE) (hr : fn.results = #[]) (hJ : E.look vJ = some (jD (J N))) :
    End Cx.top w₀ n E (BP P fn (fun e W => (∃ v, e = .returned v) ∧ J N W) .normal) := fun a w _ hs => by
  show LeavesInM (FR none) 0 P fn a.tmps _ a.defers .returning w
  rw [show a.defers = [] from hs.defers]
  exact ⟨_, by simp [results, hr]; rfl, ⟨_, rfl⟩, jD_get (hq.grow N) (hs.of vJ _ hJ)⟩

/-- The loop's variable is a new block, filled with the round's value. -/
theorem assign_box {l tp t : Nat} {id : Nat} {ty ty' pos pos'} {e1 e2 : Array Edge} {T : TypeId} {zs ys : List Value} {E : Env} {a : Act} {w : World} (hz : ZeroIs P T zs) (hsz : SizeIs P T ys.length) (h1 : ys.all (·.oneCell') = true) (ho : zs.length = ys.length)
    (ht : t < n) (hne : t ≠ tp) (hb : w₀.heap.size ≤ w.heap.size) (h : St ⟨some l, []⟩ n w₀.heap.size ((tp, .v (aggV ys)) :: E) a w) :
    (Code.region id #[⟨some t, .alloc T, ty, pos, e1, none⟩, ⟨none, .store T (.tmp t) (.tmp tp), ty', pos', e2, none⟩] false).wpIn (FR (some l)) 0 P (fun e a' w' => e = .normal ∧ Grow w w' ∧ St ⟨some l, []⟩ n w₀.heap.size ((t, freshV w₀.heap.size [] T ys) :: (tp, .v (aggV ys)) :: E) a' w') a w := by
  obtain ⟨zi, zv, hzi, hzv, hzc⟩ := hz.get
  have ht' : t < a.tmps.size := by rw [h.size]; exact ht
  have hv : a.eval (.tmp tp) = aggV ys := h.at_ (.tmp tp) _ (look_here _ _ _)
  refine wpIn_region_list ?_
  obtain ⟨W1, hW1⟩ : ∃ W1, w.alloc (.cells zs.toArray T) = W1 := ⟨_, rfl⟩
  have hh : W1.heap[w.heap.size]? = some (.cells zs.toArray T (0, 0)) := by rw [← hW1]; exact heap_alloc_new w _
  have hg1 : Grow w W1 := by rw [← hW1]; exact Grow.alloc w _
  have hlt : w.heap.size < W1.heap.size := (Array.getElem?_eq_some_iff.1 hh).1
  refine wpListR_step (κ := ⟨some l, []⟩) fun K hK => ?_
  rw [if_pos (by simp [Region.wanted])]
  refine opR (by nofun) ?_
  unfold Oper.wp
  have hr1 : (execOp a.eval ⟨some t, .alloc T, ty, pos, e1, none⟩).run P w = .ok (.value (ptr w.heap.size)) W1 := by
    rw [← hW1]; simp [execOp, Instr.alloc, zeroValue, typeInfo, hzi, hzv, newVar, newRow, hzc]
  rw [hr1, Oper.upon_value]
  refine hK _ _ ?_
  refine wpListR_step (κ := ⟨some l, []⟩) fun K' hK' => ?_
  rw [if_pos (by simp [Region.wanted])]
  refine opR (by nofun) ?_
  unfold Oper.wp
  have hp : (a.put (some t) (ptr w.heap.size)).eval (.tmp t) = ptr w.heap.size := getD_put_here a _ ht'
  have hx : (a.put (some t) (ptr w.heap.size)).eval (.tmp tp) = aggV ys := (getD_put_past a _ hne).trans hv
  have hr2 : (execOp (a.put (some t) (ptr w.heap.size)).eval ⟨none, .store T (.tmp t) (.tmp tp), ty', pos', e2, none⟩).run P W1 = .ok .skip (W1.setRow w.heap.size ys.toArray) := by
    have := run_storeVar_row (P := P) W1 w.heap.size T T zs.toArray ys.toArray hh (by simpa [SizeIs] using hsz) (by simpa using ho) (by simpa using h1)
    simp [execOp, hp, hx, Instr.storeAt, Instr.sureAddr, aggV, this]
  rw [hr2, Oper.upon_skip]
  refine hK' _ _ (wpListIn_nil ?_)
  have hwr := Wrote.setRow (B := w.heap.size) (Nat.le_refl _) hh ys.toArray
  have hg2 : Grow w (W1.setRow w.heap.size ys.toArray) := Below.trans hg1 (hwr.below (Nat.le_of_lt hlt))
  refine ⟨rfl, hg2, ?_⟩
  have hst := h.grow hg2
  exact St.put (t := t) (d := freshV w₀.heap.size [] T ys) (h.grow hg2) ht ⟨w.heap.size, rfl, hb, (fun _ h => by cases h), by simpa using hlt, setRow_heap W1 _ _ _ T _ hh⟩

theorem A.rangeX {X : Type} {XE : X → Env} {Q : Exit → Act → World → Prop} {g : Operand} {tp gf N vL vD : Nat} {assign body : Code} {lb : List Value} {S : Env} {V : Nat → Env} {Eb : Nat → X → Env} {arg : Nat → D} (hg : E.at g = some (.v (.func (.func gf) #[] lb.toArray)))
    (hgf : ∃ fn, P.funcs[gf]? = some fn ∧ (fn.name == "runtime.NumGoroutine") = false ∧ fn.body.isNone = false) (htp : tp < n) (hn : n ≤ vbase) (h0 : Sub (V 0 ++ S) E)
    (hS : ∀ p ∈ S, p.1 < vbase ∧ ((∃ x, p.2 = .v x) ∨ ∃ d, p.2 = old w₀.heap.size d)) (hV : ∀ i, ∀ p ∈ V i, vbase ≤ p.1) (hX : ∀ x, ∀ p ∈ XE x, vbase ≤ p.1) (hfX : ∀ x l, w₀.heap.size ≤ l → ∀ p ∈ XE x, Firm l p.2)
    (hfV : ∀ i l, w₀.heap.size ≤ l → ∀ p ∈ V i, Firm l p.2) (hfE : ∀ i x l, w₀.heap.size ≤ l → ∀ p ∈ Eb i x, Firm l p.2)
    (hseq : ∀ (J : Nat → World → Prop) (l : Nat) (w : World), SeqsX P w₀ N l arg V J XE → J 0 w → Calls P gf (.func (.yield l) #[] #[] :: lb).toArray w fun e W => (∃ v, e = .returned v) ∧ J N W)
    (hassign : ∀ i l a w x, i < N → w₀.heap.size ≤ w.heap.size → St ⟨some l, []⟩ n w₀.heap.size ((tp, arg i) :: (V i ++ S ++ XE x)) a w → assign.wpIn (FR (some l)) 0 P (fun e a' w' => e = .normal ∧ Grow w w' ∧ St ⟨some l, []⟩ n w₀.heap.size (Eb i x) a' w') a w)
    (hbody : ∀ i l D r m x, i < N → A ⟨some l, []⟩ P w₀ n body ((vL, recD l (.loop r) m) :: (vD, recD D (.deferred (some [])) 0) :: Eb i x) (RoundQ w₀ ((vL, recD l (.loop r) m) :: (vD, recD D (.deferred (some [])) 0) :: (V (i + 1) ++ XE x))))
    (hend : ∀ D, w₀.heap.size ≤ D → End ⟨none, [{ target := .collected D, args := #[] }]⟩ w₀ n ((vD, recD D (.deferred (some [])) 0) :: (V N ++ S)) (Q .normal)) :
    A ⟨none, []⟩ P w₀ n (.rangeFunc g #[tp] assign body) E Q := fun a w hb hst => by
  show (Code.rangeFunc g #[tp] assign body).wpIn (FR none) 0 P Q a w
  refine wpIn_rangeFunc fun fn _ => ?_
  obtain ⟨rec, hrec⟩ : ∃ rec : LoopState → Option Code → Loop, rec = fun st pe => { state := st, pending := pe, fn, tmps := a.tmps, params := #[tp], assign, body, defers := w.heap.size } := ⟨_, rfl⟩
  obtain ⟨W1, hW1⟩ : ∃ W1, (w.alloc (.deferred (some []))).alloc (.loop (rec .ready none)) = W1 := ⟨_, rfl⟩
  have hg' : a.eval g = .func (.func gf) #[] lb.toArray := hst.at_ g _ hg
  obtain ⟨gfn, hf1, hf2, hf3⟩ := hgf
  have eg : ∀ args w, (callFunc gf args).run P w = .ok (.enter gf args) w := fun args w => by
    have h2' : ¬ gfn.name = "runtime.NumGoroutine" := by simpa using hf2
    have h3' : ¬ gfn.body = none := by intro h; rw [h] at hf3; cases hf3
    simp [callFunc, hf1, h2', h3']
  have hgr : Grow w W1 := by
    rw [← hW1]; exact (Grow.alloc w _).trans (Grow.alloc _ _)
  have hL1 : W1.heap[w.heap.size + 1]? = some (.loop (rec .ready none)) := by
    rw [← hW1]; have := World.alloc_heap_new (w.alloc (.deferred (some []))) (.loop (rec .ready none)); rwa [World.size_alloc] at this
  have hK1 : W1.heap[w.heap.size]? = some (.deferred (some [])) := by
    rw [← hW1]; exact (Below.heap_alloc _ _ _ (by simp)).trans (World.alloc_heap_new w _)
  have hund : ∀ t, vbase ≤ t → a.tmps.getD t undef = undef := fun t ht => by
    rw [Array.getD_eq_getD_getElem?, Array.getElem?_eq_none (by rw [hst.size]; omega)]; rfl
  have hH0 : Holds w₀ (V 0) w := ⟨hb, hst.base, fun p hp => by
    have h1 := hst.of p.1 p.2 (h0 p (List.mem_append_left _ hp))
    rwa [hund _ (hV 0 p hp)] at h1⟩
  -- what holds between two rounds
  have hstS : ∀ (κ' : Cx) (i : Nat) (W : World) (a' : Act) (E' : Env), κ'.df = a'.defers → a'.tmps.size = n → Holds w₀ (V i) W → w.heap.size ≤ W.heap.size → (∀ t e, E'.look t = some e → e.Of W (a'.tmps.getD t undef) ∨ ((t, e) ∈ V i ++ S ∧ (t < vbase → a'.tmps.getD t undef = a.tmps.getD t undef))) → St κ' n w₀.heap.size E' a' W := by
    intro κ' i W a' E' hd hsz hH hs hE
    refine ⟨hH.2.1, hd.symm, hsz, fun t e he => ?_⟩
    rcases hE t e he with h | ⟨hm, hsame⟩
    · exact h
    · rcases List.mem_append.1 hm with hm | hm
      · have h1 := hH.2.2 _ hm
        have ht := hV i _ hm
        simp only at ht
        rwa [Array.getD_eq_getD_getElem?, Array.getElem?_eq_none (by rw [hsz]; omega)]
      · obtain ⟨ht, hk⟩ := hS _ hm
        rw [hsame ht]
        have h1 := hst.of t e (h0 _ (List.mem_append_right _ hm))
        rcases hk with ⟨x, hx⟩ | ⟨d, hd'⟩
        · simp only at hx; subst hx; exact h1
        · simp only at hd'; subst hd'
          exact ⟨hH.2.1, D.OfB.keep h1.2 (below_two hb hH.1 hs)⟩
  refine ⟨w.heap.size + 1, [{ target := .collected w.heap.size, args := #[] }], W1, { target := .fn (.func gf) lb.toArray, args := #[.func (.yield (w.heap.size + 1)) #[] #[]] }, W1, gf,
    #[.func (.yield (w.heap.size + 1)) #[] #[]] ++ lb.toArray, W1, ?_, ?_, fun _ _ => trivial, ?_, fun e => absurd e (by simp [FR, Fence.wide]), ?_⟩
  · rw [← hW1, hrec]; exact run_enterLoop_outer _ _ _ _ _
  · have hy : a.eval (.const (.func (.yield (w.heap.size + 1)) #[] #[])) = .func (.yield (w.heap.size + 1)) #[] #[] := rfl
    simp only [resolve, hg']
    simp [Deferred.ofValue, hy]
  · simp [invoke, eg]
  · have harr : (#[.func (.yield (w.heap.size + 1)) #[] #[]] ++ lb.toArray : Array Value) = (.func (.yield (w.heap.size + 1)) #[] #[] :: lb).toArray := by simp
    rw [harr]
    refine callsIn_FR.2 ((hseq (fun i W => Holds w₀ (V i) W ∧ W.heap[w.heap.size + 1]? = some (.loop (rec .ready none)) ∧ W.heap[w.heap.size]? = some (.deferred (some []))) (w.heap.size + 1) W1 ⟨?_, fun i W h => h.1, ?_⟩ ⟨hH0.grow hgr, hL1, hK1⟩).mono ?_)
    · rintro i x y ⟨h1, h2, h3⟩ k
      exact ⟨h1.grow k, (k.block _ (Array.getElem?_eq_some_iff.1 h2).1).trans h2, (k.block _ (Array.getElem?_eq_some_iff.1 h3).1).trans h3⟩
    · -- one round
      rintro i W u x hi ⟨hH, hl, hk⟩ hu hXE
      have hlt : w.heap.size + 1 < W.heap.size := (Array.getElem?_eq_some_iff.1 hl).1
      have hBl : w₀.heap.size ≤ w.heap.size + 1 := by have := hst.base; omega
      have hy := run_yield (P := P) (args := #[u]) hl (by rw [hrec]; rfl)
      rw [hrec] at hy
      refine ⟨fn, _, assign, body, hy, roundIn_of_wpIn (F := FR none) trivial ?_⟩
      have htm : (List.foldl (fun (tmps : Array Value) (x : Tmp × Value) => tmps.setIfInBounds x.1 x.2) a.tmps ((#[tp].zip #[u]).toList)) = a.tmps.setIfInBounds tp u := by simp
      have hsta : St ⟨some (w.heap.size + 1), []⟩ n w₀.heap.size ((tp, arg i) :: (V i ++ S ++ XE x)) { tmps := a.tmps.setIfInBounds tp u, defers := [] } W := by
        refine hstS _ i W _ _ rfl (by simp [hst.size]) hH (by omega) fun t e he => ?_
        by_cases hts : tp = t
        · subst hts
          rw [look_here] at he; injection he with he; subst he
          left
          have : tp < a.tmps.size := by rw [hst.size]; exact htp
          simpa [this] using hu
        · rw [look_past _ _ hts] at he
          rcases List.mem_append.1 (look_mem he) with hm | hm
          · exact .inr ⟨hm, fun _ => by simp [Array.getElem?_setIfInBounds_ne hts]⟩
          · left
            have h1 := hXE _ hm
            have h2 := hX x _ hm
            simp only at h2 h1
            have h3 : ({ tmps := a.tmps.setIfInBounds tp u, defers := [] } : Act).tmps.getD t undef = undef := by
              rw [Array.getD_eq_getD_getElem?, Array.getElem?_eq_none (by simp [hst.size]; omega)]; rfl
            rw [h3]; exact h1
      have has := hassign i (w.heap.size + 1) _ W x hi hH.2.1 hsta
      have hrun0 : ({ tmps := Array.foldl (fun (tmps : Array Value) (x : Tmp × Value) => tmps.setIfInBounds x.1 x.2) a.tmps (#[tp].zip #[u]), defers := [] } : Act) = { tmps := a.tmps.setIfInBounds tp u, defers := [] } := by simp
      show assign.wpIn (FR (some (w.heap.size + 1))) 0 P _ _ W
      refine wpIn_mono (F := FR (some (w.heap.size + 1))) (n := 0) (by first | exact has | (rw [← hrun0] at has; exact has)) ?_
      rintro e a1 W2 ⟨rfl, hg2, hst2⟩
      have hl2 : W2.heap[w.heap.size + 1]? = some (.loop (rec .ready none)) := (hg2.block _ hlt).trans hl
      have hk2 : W2.heap[w.heap.size]? = some (.deferred (some [])) := (hg2.block _ (by omega)).trans hk
      have hH2 := hH.grow hg2
      have hlt2 : w.heap.size + 1 < W2.heap.size := (Array.getElem?_eq_some_iff.1 hl2).1
      refine ⟨_, run_beginRound hl2 (by rw [hrec]), ?_⟩
      have hl3 : (W2.putObj (w.heap.size + 1) (.loop { rec .ready none with state := .busy })).heap[w.heap.size + 1]? = some (.loop { rec .ready none with state := .busy }) := World.putObj_heap_same hlt2
      have hk3 : (W2.putObj (w.heap.size + 1) (.loop { rec .ready none with state := .busy })).heap[w.heap.size]? = some (.deferred (some [])) := (World.putObj_heap_other (by omega)).trans hk2
      have hH3 := hH2.putObj (.loop { rec .ready none with state := .busy }) hl2 rfl hBl (hfV i _ hBl)
      have hst3 : St ⟨some (w.heap.size + 1), []⟩ n w₀.heap.size ((vL, recD (w.heap.size + 1) (.loop { rec .ready none with state := .busy }) W.heap.size) :: (vD, recD w.heap.size (.deferred (some [])) 0) :: Eb i x) a1 (W2.putObj (w.heap.size + 1) (.loop { rec .ready none with state := .busy })) := by
        refine ⟨hH3.2.1, hst2.defers, hst2.size, fun t e he => ?_⟩
        by_cases hts : vL = t
        · subst hts
          rw [look_here] at he; injection he with he; subst he
          exact ⟨by simpa using hlt2, by simpa using hg2.size, hl3⟩
        · rw [look_past _ _ hts] at he
          by_cases hts' : vD = t
          · subst hts'
            rw [look_here] at he; injection he with he; subst he
            exact ⟨by simp; omega, Nat.zero_le _, hk3⟩
          · rw [look_past _ _ hts'] at he
            exact hfE i x _ hBl _ (look_mem he) W2 _ _ _ hl2 rfl (hst2.of t e he)
      refine wpIn_mono (F := FR (some (w.heap.size + 1))) (n := 0) (hbody i _ _ _ _ x hi a1 _ hH3.1 hst3) ?_
      rintro e a3 W3 hp
      cases e with
      | normal =>
        obtain ⟨hb3, hs3, hv3⟩ := hp
        obtain ⟨hlt3, hm3, hl4⟩ := hv3 _ List.mem_cons_self
        obtain ⟨_, _, hk4⟩ := hv3 _ (List.mem_cons_of_mem _ List.mem_cons_self)
        have hH4 : Holds w₀ (V (i + 1)) W3 := ⟨hb3, hs3, fun p hp => hv3 p (List.mem_cons_of_mem _ (List.mem_cons_of_mem _ (List.mem_append_left _ hp)))⟩
        have hX4 : ∀ p ∈ XE x, p.2.Of W3 undef := fun p hp => hv3 p (List.mem_cons_of_mem _ (List.mem_cons_of_mem _ (List.mem_append_right _ hp)))
        have hend := run_endRound (P := P) none hl4
        refine ⟨_, _, hend, rfl, ⟨hH4.putObj _ hl4 rfl hBl (hfV _ _ hBl), ?_, (World.putObj_heap_other (by omega)).trans hk4⟩, by simpa using hm3, fun p hp => hfX x _ hBl p hp W3 _ _ _ hl4 rfl (hX4 p hp)⟩
        have := World.putObj_heap_same (o := .loop { { rec .ready none with state := .busy } with state := .ready, pending := none }) hlt3
        rw [hrec] at this ⊢
        exact this
      | _ => exact hp.elim
    · -- behind it
      rintro e W2 ⟨⟨v, rfl⟩, hH, hl, hk⟩
      have hBl : w₀.heap.size ≤ w.heap.size + 1 := by have := hst.base; omega
      have hlt2 : w.heap.size + 1 < W2.heap.size := (Array.getElem?_eq_some_iff.1 hl).1
      have hel := run_endLoop (P := P) hl (by rw [hrec]; simp)
      refine ⟨none, _, by rw [hrec] at hel; exact hel, ?_⟩
      have hH3 := hH.putObj (.loop { state := .exhausted, pending := none, fn, tmps := a.tmps, params := #[tp], assign, body, defers := w.heap.size }) hl rfl hBl (hfV N _ hBl)
      refine hend w.heap.size hst.base _ _ hH3.1 (hstS _ N _ _ _ (by simp [hst.defers]) hst.size hH3 (by simp; omega) fun t e he => ?_)
      by_cases hts : vD = t
      · subst hts
        rw [look_here] at he; injection he with he; subst he
        exact .inl ⟨by simp; omega, Nat.zero_le _, (World.putObj_heap_other (by omega)).trans hk⟩
      · rw [look_past _ _ hts] at he
        exact .inr ⟨look_mem he, fun _ => rfl⟩


/-- return of values, from a function in which a range over a function ended. -/
theorem End.ret2C {fn : Func} {D vD r₁ r₂ : Nat} {f₁ f₂ d₁ d₂ : Go.Proofs.Ytdnblilocdddpaa.D} {m : Nat} (hD : E.look vD = some (recD D (.deferred (some [])) m)) (hDB : w₀.heap.size ≤ D) (hr : fn.results = #[.tmp r₁, .tmp r₂])
    (h1 : E.look r₁ = some f₁) (hf1 : Firm D f₁) (hl1 : Le f₁ d₁) (h2 : E.look r₂ = some f₂) (hf2 : Firm D f₂) (hl2 : Le f₂ d₂) : End ⟨none, [{ target := .collected D, args := #[] }]⟩ w₀ n E (BP P fn (PostOf w₀ (tup [d₁, d₂])) .ret) := fun a w g hs => by
  obtain ⟨hlt, _, hk⟩ := hs.of vD _ hD
  have k1 := hl1.of (hf1 w _ (.deferred none) _ hk rfl (hs.of r₁ _ h1))
  have k2 := hl2.of (hf2 w _ (.deferred none) _ hk rfl (hs.of r₂ _ h2))
  show LeavesInM (FR none) 0 P fn a.tmps _ a.defers .returning w
  rw [show a.defers = [{ target := .collected D, args := #[] }] from hs.defers]
  refine ⟨by simp, .inl ⟨D, _, rfl, run_takeDeferred hk, ?_⟩⟩
  refine ⟨.tuple #[a.tmps.getD r₁ undef, a.tmps.getD r₂ undef], by simp [results, hr], _, rfl, Below.trans g (below_putObj w _ hDB), [a.tmps.getD r₁ undef, a.tmps.getD r₂ undef], rfl, rfl, fun j e u he hu => ?_⟩
  match j, he, hu with
  | 0, he, hu => simp only [List.getElem?_cons_zero, Option.some.injEq] at he hu; subst he; subst hu; exact k1
  | 1, he, hu => simp only [List.getElem?_cons_succ, List.getElem?_cons_zero, Option.some.injEq] at he hu; subst he; subst hu; exact k2
  | j + 2, he, _ => simp at he
end
end Go.Proofs.Ytdnblilocdddpaa
