/-
  OWN WORDS, PART SIX: a range over a function, by facts. The loop's record and the block for deferred calls are facts on memory like others; a round is code like other code, in a frame of its own; the function that is ranged over is walked at the caller's base. Nothing of one program stands here.
-/
import Derived.Test.YtdnblilocdddpaaOps4
import Derived.RangeFuncOwn
namespace Go.Proofs.Ytdnblilocdddpaa
open Go Go.RowKit
variable {κ : Cx}

/-! ### Facts on memory -/
/-- Block b is the object o; there are at least m blocks. -/
def recD (b : Nat) (o : Obj) (m : Nat) : D := .p (fun B w _ => b < B ∧ m ≤ B ∧ w.heap[b]? = some o) (fun _ _ _ _ g ⟨h1, h2, h3⟩ => ⟨h1, h2, (g.block b h1).trans h3⟩) (fun _ _ _ _ g ⟨h1, h2, h3⟩ => ⟨Nat.lt_of_lt_of_le h1 g, Nat.le_trans h2 g, h3⟩)
theorem Surv.rec {B T g b m : Nat} {o : Obj} (h : o.isCells = false) : Surv B T g (recD b o m) := fun w _ _ k ⟨h1, h2, h3⟩ => by
  refine ⟨Nat.lt_of_lt_of_le h1 k.size, Nat.le_trans h2 k.size, (k.other b h1 fun hb => ?_).trans h3⟩
  subst hb
  obtain ⟨cs, fr, hx⟩ := k.cel _ h3
  subst hx; cases h
/-- A property of memory that stays while memory grows, as a fact. -/
def jD (J : World → Prop) : D := .p (fun B w _ => ∃ v : World, J v ∧ v.heap.size ≤ B ∧ Below v.heap.size v w) (fun _ _ _ _ g ⟨v, h1, h2, h3⟩ => ⟨v, h1, h2, h3.trans (g.mono h2)⟩) (fun _ _ _ _ g ⟨v, h1, h2, h3⟩ => ⟨v, h1, Nat.le_trans h2 g, h3⟩)
theorem jD_get {J : World → Prop} (hst : ∀ a b, J a → Grow a b → J b) {w : World} {x : Value} (h : (jD J).Of w x) : J w := by
  obtain ⟨v, h1, _, h3⟩ := h
  exact hst v w h1 h3
theorem jD_mk {J : World → Prop} {w : World} {x : Value} (h : J w) : (jD J).Of w x := ⟨w, h, Nat.le_refl _, Below.refl _ _⟩
theorem below_two {B : Nat} {w₀ w w' : World} (h : Below B w₀ w) (h' : Below B w₀ w') (hs : w.heap.size ≤ w'.heap.size) : Below B w w' :=
  ⟨h'.os.trans h.os.symm, h'.tape.trans h.tape.symm, h'.output.trans h.output.symm, hs, fun k hk => (h'.block k hk).trans (h.block k hk).symm⟩
/-- The fact survives a turn of block l, which is no cells before and after. -/
def Firm (l : Nat) (d : D) : Prop := ∀ (w : World) (o o' : Obj) (x : Value), w.heap[l]? = some o → o.isCells = false → d.Of w x → d.Of (w.putObj l o') x
theorem Firm.v (l : Nat) (x : Value) : Firm l (.v x) := fun _ _ _ _ _ _ h => h
theorem below_putObj {B l : Nat} (w : World) (o' : Obj) (h : B ≤ l) : Below B w (w.putObj l o') := ⟨rfl, rfl, rfl, by simp, fun _ hk => World.putObj_heap_other (by omega)⟩
theorem Firm.old {l B : Nat} {d : D} (h : B ≤ l) : Firm l (Go.Proofs.Ytdnblilocdddpaa.old B d) := fun w _ o' _ _ _ ⟨h1, h2⟩ => ⟨by simpa using h1, D.OfB.keep h2 (below_putObj w o' h)⟩
theorem Firm.blk {l b : Nat} {e : TypeId} {xs : List Value} : Firm l (Go.Proofs.Ytdnblilocdddpaa.blk b e xs) := fun w o o' _ hl ho ⟨h1, h2⟩ => ⟨by simpa using h1, (World.putObj_heap_other (fun hb => by
  subst hb; rw [h2] at hl; injection hl with hl; subst hl; cases ho)).trans h2⟩
theorem Firm.tab {l b : Nat} {xs : List Value} : Firm l (Go.Proofs.Ytdnblilocdddpaa.tab b xs) := fun w o o' _ hl ho ⟨h1, e, h2⟩ => ⟨by simpa using h1, e, (World.putObj_heap_other (fun hb => by
  subst hb; rw [h2] at hl; injection hl with hl; subst hl; cases ho)).trans h2⟩
/-- Facts on memory that hold in w, which is above w₀. -/
def Holds (w₀ : World) (V : Env) (w : World) : Prop := Below w₀.heap.size w₀ w ∧ w₀.heap.size ≤ w.heap.size ∧ ∀ p ∈ V, p.2.Of w undef
theorem Holds.grow {w₀ w w' : World} {V : Env} (h : Holds w₀ V w) (g : Grow w w') : Holds w₀ V w' := ⟨h.1.trans (g.mono h.2.1), Nat.le_trans h.2.1 g.size, fun p hp => (h.2.2 p hp).grow g⟩
theorem Holds.putObj {w₀ w : World} {V : Env} {l : Nat} {o : Obj} (o' : Obj) (h : Holds w₀ V w) (hl : w.heap[l]? = some o) (ho : o.isCells = false) (hB : w₀.heap.size ≤ l) (hf : ∀ p ∈ V, Firm l p.2) : Holds w₀ V (w.putObj l o') :=
  ⟨h.1.trans (below_putObj w o' hB), by simpa using h.2.1, fun p hp => hf p hp w o o' _ hl ho (h.2.2 p hp)⟩

theorem vle {k : Nat} {d : D} (h : Nat.ble 1000000 k = true) : vbase ≤ (k, d).1 := Nat.le_of_ble_eq_true h
theorem vlt {k : Nat} {d : D} (h : Nat.blt k 1000000 = true) : (k, d).1 < vbase := Nat.le_of_ble_eq_true h

/-! ### The call of yield -/
section
variable {P : Program} {n : Nat} {w₀ : World} {ops : Array Oper} {E : Env} {ty : TypeId} {pos : String} {after : Array Edge}
/-- What yield does at each round: it goes on, and the property of memory moves on by one. -/
def Yields (P : Program) (N : Nat) (l : Nat) (arg : Nat → D) (J : Nat → World → Prop) : Prop :=
  ∀ (i : Nat) (W : World) (u : Value), i < N → J i W → (arg i).Of W u → YieldAt (FR none) 0 P l #[u] W fun e W' => e = .returned (.bool true) ∧ J (i + 1) W' ∧ W.heap.size ≤ W'.heap.size
structure Seqs (P : Program) (w₀ : World) (N : Nat) (l : Nat) (arg : Nat → D) (V : Nat → Env) (J : Nat → World → Prop) : Prop where
  grow : ∀ i a b, J i a → Grow a b → J i b
  holds : ∀ i W, J i W → Holds w₀ (V i) W
  yields : Yields P N l arg J
theorem Seqs.sub {N l : Nat} {arg : Nat → D} {V V' : Nat → Env} {J : Nat → World → Prop} (h : Seqs P w₀ N l arg V J) (hs : ∀ i, ∀ p ∈ V' i, p ∈ V i) : Seqs P w₀ N l arg V' J :=
  ⟨h.grow, fun i W hJ => ⟨(h.holds i W hJ).1, (h.holds i W hJ).2.1, fun p hp => (h.holds i W hJ).2.2 p (hs i p hp)⟩, h.yields⟩
theorem eff_yield {N l : Nat} {arg : Nat → D} {V : Nat → Env} {J : Nat → World → Prop} {d vJ : Nat} {fv x : Operand} {ex : D} {tys : Array TypeId} {E' : Env} (hq : Seqs P w₀ N l arg V J) (i : Nat) (hi : i < N)
    (hJ : E.look vJ = some (jD (J i))) (hf : E.at fv = some (.v (.func (.yield l) #[] #[]))) (hx : E.at x = some ex) (hle : Le ex (arg i)) (hd : d < n) (hV : ∀ p ∈ V (i + 1), vbase ≤ p.1) (hn : n ≤ vbase)
    (hl : Left w₀.heap.size E' E) :
    Eff P n w₀.heap.size ops ⟨some d, .call { callee := .value fv, args := #[x], argTypes := tys }, ty, pos, after, none⟩ E ((d, .v (.bool true)) :: (vJ, jD (J (i + 1))) :: (V (i + 1) ++ E')) := by
  intro κ a w K Q h hK
  have h1 : a.eval fv = _ := h.at_ fv _ hf
  have h2 := hle.of (h.at_ x _ hx)
  have hJw : J i w := jD_get (hq.grow i) (h.of vJ _ hJ)
  obtain ⟨fn, tmps, assign, body, hy, hr⟩ := hq.yields i w _ hi hJw h2
  rw [if_pos (by simp [Region.wanted])]
  refine ⟨fun _ _ => trivial, ?_⟩
  rw [Oper.semAt_eq _ _ _ (by nofun)]
  have hrun : (execOp a.eval ⟨some d, .call { callee := .value fv, args := #[x], argTypes := tys }, ty, pos, after, none⟩).run P w = .ok (.round l fn tmps assign body) w := by
    simp [execOp, resolve, Deferred.ofValue, h1, invoke, hy]
  rw [hrun, Oper.uponIn_round]
  refine ⟨fun e => absurd e (by simp [FR, Fence.wide]), RoundIn.mono (F := FR κ.rd) (n := 0) hr ?_⟩
  rintro e W' ⟨rfl, hJ', hs⟩
  obtain ⟨hb, hsz, hv⟩ := hq.holds _ _ hJ'
  have hb0 := (hq.holds _ _ hJw).1
  have hbel := below_two hb0 hb hs
  refine hK _ _ hbel (St.put ⟨hsz, h.defers, h.size, fun t e he => ?_⟩ hd rfl)
  have hund : ∀ t, vbase ≤ t → a.tmps.getD t undef = undef := fun t ht => by
    rw [Array.getD_eq_getD_getElem?, Array.getElem?_eq_none (by rw [h.size]; omega)]; rfl
  by_cases hts : vJ = t
  · subst hts
    rw [look_here] at he; injection he with he; subst he
    exact jD_mk hJ'
  · rw [look_past _ _ hts] at he
    rcases List.mem_append.1 (look_mem he) with hm | hm
    · have := hv _ hm
      rwa [hund t (hV _ hm)]
    · obtain ⟨h7, h8⟩ := hl _ hm
      exact h8 _ _ _ hbel h.base (h.of t e h7)
/-- A call that is walked at the caller's base. -/
theorem Calls.within {f : FuncId} {fn : Func} {c : Code} {vs : List Value} {w : World} {R : Ending → World → Prop} (hf : P.funcs[f]? = some fn) (hb : fn.body = some c) (hn : fn.ntmps = n) (hl : vs.length ≤ n) (hnv : n ≤ vbase) (hw : Below w₀.heap.size w₀ w) (hs : w₀.heap.size ≤ w.heap.size)
    (hE : ∀ p ∈ E, (vbase ≤ p.1 ∧ p.2.Of w undef) ∨ ∃ v, vs[p.1]? = some v ∧ p.2.Of w v) (h : A Cx.top P w₀ n c E (BP P fn R)) : Calls P f vs.toArray w R := by
  refine callsIn_FR.1 (callsIn_of_wp_marks (F := FR none) (n := 0) hf hb trivial (h _ w hw ⟨hs, rfl, ?_, fun t e he => ?_⟩))
  · simp [hn]; omega
  · show e.Of w ((vs.toArray ++ Array.replicate (fn.ntmps - vs.toArray.size) undef).getD t undef)
    rcases hE _ (look_mem he) with ⟨ht, hx⟩ | ⟨v, hv, hx⟩
    · rwa [Array.getD_eq_getD_getElem?, Array.getElem?_eq_none (by simp [hn]; simp only at ht; omega)]
    · have hlt : t < vs.length := (List.getElem?_eq_some_iff.1 hv).1
      rw [Array.getD_eq_getD_getElem?, Array.getElem?_append_left (by simpa using hlt)]
      simp only at hv
      simp [hv]; exact hx
/-- The end of a function that is ranged over. -/
theorem End.seq {fn : Func} {N l : Nat} {arg : Nat → D} {V : Nat → Env} {J : Nat → World → Prop} {vJ : Nat} (hq : Seqs P w₀ N l arg V J) (hr : fn.results = #[]) (hJ : E.look vJ = some (jD (J N))) :
    End Cx.top w₀ n E (BP P fn (fun e W => (∃ v, e = .returned v) ∧ J N W) .normal) := fun a w _ hs => by
  show LeavesInM (FR none) 0 P fn a.tmps _ a.defers .returning w
  rw [show a.defers = [] from hs.defers]
  exact ⟨_, by simp [results, hr]; rfl, ⟨_, rfl⟩, jD_get (hq.grow N) (hs.of vJ _ hJ)⟩

/-! ### The statement -/
/-- What the body of a round comes to: it goes on, and these facts hold. -/
def RoundQ (w₀ : World) (V : Env) : Exit → Act → World → Prop
  | .normal, _, w => Holds w₀ V w
  | _, _, _ => False
theorem End.round {V : Env} (hs : Sub V E) (hV : ∀ p ∈ V, vbase ≤ p.1) (hn : n ≤ vbase) : End κ w₀ n E (RoundQ w₀ V .normal) := fun a w g hst => ⟨g, hst.base, fun p hp => by
  have h1 := hst.of p.1 p.2 (hs p hp)
  have := hV p hp
  rwa [Array.getD_eq_getD_getElem?, Array.getElem?_eq_none (by rw [hst.size]; omega)] at h1⟩
theorem End.round_block {V : Env} {id : Nat} (h : End κ w₀ n E (RoundQ w₀ V .normal)) : End κ w₀ n E (Exit.inBlock id (RoundQ w₀ V) .normal) := h
/-- The loop's variable is set. -/
theorem assign_one {l id tp t : Nat} {ty pos after} {E : Env} {d : D} {a : Act} {w : World} (ht : t < n) (htp : tp < n) (hn : n ≤ vbase) (h : St ⟨some l, []⟩ n w₀.heap.size ((tp, d) :: E) a w) :
    (Code.region id #[⟨some t, .assign (.tmp tp), ty, pos, after, none⟩] false).wpIn (FR (some l)) 0 P (fun e a' w' => e = .normal ∧ Grow w w' ∧ St ⟨some l, []⟩ n w₀.heap.size ((t, d) :: (tp, d) :: E) a' w') a w := by
  have hr : Run P w₀.heap.size #[⟨some t, .assign (.tmp tp), ty, pos, after, none⟩] [⟨some t, .assign (.tmp tp), ty, pos, after, none⟩] ((tp, d) :: E) ((t, d) :: (tp, d) :: E) := .step rfl rfl (ok_assign (look_here _ _ _)) .nil
  have := wp_text (Q := fun e a' w' => e = .normal ∧ Grow w w' ∧ St ⟨some l, []⟩ n w₀.heap.size ((t, d) :: (tp, d) :: E) a' w') (rest := []) hn hr h (fun o ho => by
    simp only [List.mem_cons, List.not_mem_nil, or_false] at ho
    subst ho
    refine ⟨fun s hs => ?_, fun s hs => by simp only [Option.some.injEq] at hs; exact hs ▸ ht⟩
    simp [Oper.looksAt, Op.operands] at hs
    exact hs ▸ htp) fun a' w' g h' => wpListIn_nil ⟨rfl, g, h'⟩
  exact wpIn_region_list (by simpa using this)

theorem A.range {Q : Exit → Act → World → Prop} {g : Operand} {tp gf N vL vD : Nat} {assign body : Code} {lb : List Value} {S : Env} {V Eb : Nat → Env} {arg : Nat → D} (hg : E.at g = some (.v (.func (.func gf) #[] lb.toArray)))
    (hgf : ∃ fn, P.funcs[gf]? = some fn ∧ (fn.name == "runtime.NumGoroutine") = false ∧ fn.body.isNone = false) (htp : tp < n) (hn : n ≤ vbase) (h0 : Sub (V 0 ++ S) E)
    (hS : ∀ p ∈ S, p.1 < vbase ∧ ((∃ x, p.2 = .v x) ∨ ∃ d, p.2 = old w₀.heap.size d)) (hV : ∀ i, ∀ p ∈ V i, vbase ≤ p.1)
    (hfV : ∀ i l, w₀.heap.size ≤ l → ∀ p ∈ V i, Firm l p.2) (hfE : ∀ i l, w₀.heap.size ≤ l → ∀ p ∈ Eb i, Firm l p.2)
    (hseq : ∀ (J : Nat → World → Prop) (l : Nat) (w : World), Seqs P w₀ N l arg V J → J 0 w → Calls P gf (.func (.yield l) #[] #[] :: lb).toArray w fun e W => (∃ v, e = .returned v) ∧ J N W)
    (hassign : ∀ i l a w, i < N → St ⟨some l, []⟩ n w₀.heap.size ((tp, arg i) :: (V i ++ S)) a w → assign.wpIn (FR (some l)) 0 P (fun e a' w' => e = .normal ∧ Grow w w' ∧ St ⟨some l, []⟩ n w₀.heap.size (Eb i) a' w') a w)
    (hbody : ∀ i l D r m, i < N → A ⟨some l, []⟩ P w₀ n body ((vL, recD l (.loop r) m) :: (vD, recD D (.deferred (some [])) 0) :: Eb i) (RoundQ w₀ ((vL, recD l (.loop r) m) :: (vD, recD D (.deferred (some [])) 0) :: V (i + 1))))
    (hend : ∀ D, w₀.heap.size ≤ D → End ⟨none, [{ target := .collected D, args := #[] }]⟩ w₀ n ((vD, recD D (.deferred (some [])) 0) :: (V N ++ S)) (Q .normal)) :
    A ⟨none, []⟩ P w₀ n (.rangeFunc g #[tp] assign body) E Q := fun a w hb hst => by
  show (Code.rangeFunc g #[tp] assign body).wpIn (FR none) 0 P Q a w
  refine wpIn_rangeFunc fun fn _ => ?_
  obtain ⟨rec, hrec⟩ : ∃ rec : LoopState → Option Code → Loop, rec = fun st pe => { state := st, pending := pe, fn, tmps := a.tmps, params := #[tp], assign, body, defers := w.heap.size } := ⟨_, rfl⟩
  obtain ⟨W1, hW1⟩ : ∃ W1, (w.alloc (.deferred (some []))).alloc (.loop (rec .ready none)) = W1 := ⟨_, rfl⟩
  have hg' : a.eval g = .func (.func gf) #[] lb.toArray := hst.at_ g _ hg
  obtain ⟨gfn, hf1, hf2, hf3⟩ := hgf
  have eg : ∀ args w, (callFunc gf args).run P w = .ok (.enter gf args) w := fun args w => by
    have h2' : ¬ gfn.name = "runtime.NumGoroutine" := by simpa using hf2
    have h3' : ¬ gfn.body = none := by intro h; rw [h] at hf3; cases hf3
    simp [callFunc, hf1, h2', h3']
  have hgr : Grow w W1 := by
    rw [← hW1]; exact (Grow.alloc w _).trans (Grow.alloc _ _)
  have hL1 : W1.heap[w.heap.size + 1]? = some (.loop (rec .ready none)) := by
    rw [← hW1]; have := World.alloc_heap_new (w.alloc (.deferred (some []))) (.loop (rec .ready none)); rwa [World.size_alloc] at this
  have hK1 : W1.heap[w.heap.size]? = some (.deferred (some [])) := by
    rw [← hW1]; exact (Below.heap_alloc _ _ _ (by simp)).trans (World.alloc_heap_new w _)
  have hund : ∀ t, vbase ≤ t → a.tmps.getD t undef = undef := fun t ht => by
    rw [Array.getD_eq_getD_getElem?, Array.getElem?_eq_none (by rw [hst.size]; omega)]; rfl
  have hH0 : Holds w₀ (V 0) w := ⟨hb, hst.base, fun p hp => by
    have h1 := hst.of p.1 p.2 (h0 p (List.mem_append_left _ hp))
    rwa [hund _ (hV 0 p hp)] at h1⟩
  -- what holds between two rounds
  have hstS : ∀ (κ' : Cx) (i : Nat) (W : World) (a' : Act) (E' : Env), κ'.df = a'.defers → a'.tmps.size = n → Holds w₀ (V i) W → w.heap.size ≤ W.heap.size → (∀ t e, E'.look t = some e → e.Of W (a'.tmps.getD t undef) ∨ ((t, e) ∈ V i ++ S ∧ (t < vbase → a'.tmps.getD t undef = a.tmps.getD t undef))) → St κ' n w₀.heap.size E' a' W := by
    intro κ' i W a' E' hd hsz hH hs hE
    refine ⟨hH.2.1, hd.symm, hsz, fun t e he => ?_⟩
    rcases hE t e he with h | ⟨hm, hsame⟩
    · exact h
    · rcases List.mem_append.1 hm with hm | hm
      · have h1 := hH.2.2 _ hm
        have ht := hV i _ hm
        simp only at ht
        rwa [Array.getD_eq_getD_getElem?, Array.getElem?_eq_none (by rw [hsz]; omega)]
      · obtain ⟨ht, hk⟩ := hS _ hm
        rw [hsame ht]
        have h1 := hst.of t e (h0 _ (List.mem_append_right _ hm))
        rcases hk with ⟨x, hx⟩ | ⟨d, hd'⟩
        · simp only at hx; subst hx; exact h1
        · simp only at hd'; subst hd'
          exact ⟨hH.2.1, D.OfB.keep h1.2 (below_two hb hH.1 hs)⟩
  refine ⟨w.heap.size + 1, [{ target := .collected w.heap.size, args := #[] }], W1, { target := .fn (.func gf) lb.toArray, args := #[.func (.yield (w.heap.size + 1)) #[] #[]] }, W1, gf,
    #[.func (.yield (w.heap.size + 1)) #[] #[]] ++ lb.toArray, W1, ?_, ?_, fun _ _ => trivial, ?_, fun e => absurd e (by simp [FR, Fence.wide]), ?_⟩
  · rw [← hW1, hrec]; exact run_enterLoop_outer _ _ _ _ _
  · have hy : a.eval (.const (.func (.yield (w.heap.size + 1)) #[] #[])) = .func (.yield (w.heap.size + 1)) #[] #[] := rfl
    simp only [resolve, hg']
    simp [Deferred.ofValue, hy]
  · simp [invoke, eg]
  · have harr : (#[.func (.yield (w.heap.size + 1)) #[] #[]] ++ lb.toArray : Array Value) = (.func (.yield (w.heap.size + 1)) #[] #[] :: lb).toArray := by simp
    rw [harr]
    refine callsIn_FR.2 ((hseq (fun i W => Holds w₀ (V i) W ∧ W.heap[w.heap.size + 1]? = some (.loop (rec .ready none)) ∧ W.heap[w.heap.size]? = some (.deferred (some []))) (w.heap.size + 1) W1 ⟨?_, fun i W h => h.1, ?_⟩ ⟨hH0.grow hgr, hL1, hK1⟩).mono ?_)
    · rintro i x y ⟨h1, h2, h3⟩ k
      exact ⟨h1.grow k, (k.block _ (Array.getElem?_eq_some_iff.1 h2).1).trans h2, (k.block _ (Array.getElem?_eq_some_iff.1 h3).1).trans h3⟩
    · -- one round
      rintro i W u hi ⟨hH, hl, hk⟩ hu
      have hlt : w.heap.size + 1 < W.heap.size := (Array.getElem?_eq_some_iff.1 hl).1
      have hBl : w₀.heap.size ≤ w.heap.size + 1 := by have := hst.base; omega
      have hy := run_yield (P := P) (args := #[u]) hl (by rw [hrec]; rfl)
      rw [hrec] at hy
      refine ⟨fn, _, assign, body, hy, roundIn_of_wpIn (F := FR none) trivial ?_⟩
      have htm : (List.foldl (fun (tmps : Array Value) (x : Tmp × Value) => tmps.setIfInBounds x.1 x.2) a.tmps ((#[tp].zip #[u]).toList)) = a.tmps.setIfInBounds tp u := by simp
      have hsta : St ⟨some (w.heap.size + 1), []⟩ n w₀.heap.size ((tp, arg i) :: (V i ++ S)) { tmps := a.tmps.setIfInBounds tp u, defers := [] } W := by
        refine hstS _ i W _ _ rfl (by simp [hst.size]) hH (by omega) fun t e he => ?_
        by_cases hts : tp = t
        · subst hts
          rw [look_here] at he; injection he with he; subst he
          left
          have : tp < a.tmps.size := by rw [hst.size]; exact htp
          simpa [this] using hu
        · rw [look_past _ _ hts] at he
          exact .inr ⟨look_mem he, fun _ => by simp [Array.getElem?_setIfInBounds_ne hts]⟩
      have has := hassign i (w.heap.size + 1) _ W hi hsta
      have hrun0 : ({ tmps := Array.foldl (fun (tmps : Array Value) (x : Tmp × Value) => tmps.setIfInBounds x.1 x.2) a.tmps (#[tp].zip #[u]), defers := [] } : Act) = { tmps := a.tmps.setIfInBounds tp u, defers := [] } := by simp
      show assign.wpIn (FR (some (w.heap.size + 1))) 0 P _ _ W
      refine wpIn_mono (F := FR (some (w.heap.size + 1))) (n := 0) (by first | exact has | (rw [← hrun0] at has; exact has)) ?_
      rintro e a1 W2 ⟨rfl, hg2, hst2⟩
      have hl2 : W2.heap[w.heap.size + 1]? = some (.loop (rec .ready none)) := (hg2.block _ hlt).trans hl
      have hk2 : W2.heap[w.heap.size]? = some (.deferred (some [])) := (hg2.block _ (by omega)).trans hk
      have hH2 := hH.grow hg2
      have hlt2 : w.heap.size + 1 < W2.heap.size := (Array.getElem?_eq_some_iff.1 hl2).1
      refine ⟨_, run_beginRound hl2 (by rw [hrec]), ?_⟩
      have hl3 : (W2.putObj (w.heap.size + 1) (.loop { rec .ready none with state := .busy })).heap[w.heap.size + 1]? = some (.loop { rec .ready none with state := .busy }) := World.putObj_heap_same hlt2
      have hk3 : (W2.putObj (w.heap.size + 1) (.loop { rec .ready none with state := .busy })).heap[w.heap.size]? = some (.deferred (some [])) := (World.putObj_heap_other (by omega)).trans hk2
      have hH3 := hH2.putObj (.loop { rec .ready none with state := .busy }) hl2 rfl hBl (hfV i _ hBl)
      have hst3 : St ⟨some (w.heap.size + 1), []⟩ n w₀.heap.size ((vL, recD (w.heap.size + 1) (.loop { rec .ready none with state := .busy }) W.heap.size) :: (vD, recD w.heap.size (.deferred (some [])) 0) :: Eb i) a1 (W2.putObj (w.heap.size + 1) (.loop { rec .ready none with state := .busy })) := by
        refine ⟨hH3.2.1, hst2.defers, hst2.size, fun t e he => ?_⟩
        by_cases hts : vL = t
        · subst hts
          rw [look_here] at he; injection he with he; subst he
          exact ⟨by simpa using hlt2, by simpa using hg2.size, hl3⟩
        · rw [look_past _ _ hts] at he
          by_cases hts' : vD = t
          · subst hts'
            rw [look_here] at he; injection he with he; subst he
            exact ⟨by simp; omega, Nat.zero_le _, hk3⟩
          · rw [look_past _ _ hts'] at he
            exact hfE i _ hBl _ (look_mem he) W2 _ _ _ hl2 rfl (hst2.of t e he)
      refine wpIn_mono (F := FR (some (w.heap.size + 1))) (n := 0) (hbody i _ _ _ _ hi a1 _ hH3.1 hst3) ?_
      rintro e a3 W3 hp
      cases e with
      | normal =>
        obtain ⟨hb3, hs3, hv3⟩ := hp
        obtain ⟨hlt3, hm3, hl4⟩ := hv3 _ List.mem_cons_self
        obtain ⟨_, _, hk4⟩ := hv3 _ (List.mem_cons_of_mem _ List.mem_cons_self)
        have hH4 : Holds w₀ (V (i + 1)) W3 := ⟨hb3, hs3, fun p hp => hv3 p (List.mem_cons_of_mem _ (List.mem_cons_of_mem _ hp))⟩
        have hend := run_endRound (P := P) none hl4
        refine ⟨_, _, hend, rfl, ⟨hH4.putObj _ hl4 rfl hBl (hfV _ _ hBl), ?_, (World.putObj_heap_other (by omega)).trans hk4⟩, by simpa using hm3⟩
        have := World.putObj_heap_same (o := .loop { { rec .ready none with state := .busy } with state := .ready, pending := none }) hlt3
        rw [hrec] at this ⊢
        exact this
      | _ => exact hp.elim
    · -- behind it
      rintro e W2 ⟨⟨v, rfl⟩, hH, hl, hk⟩
      have hBl : w₀.heap.size ≤ w.heap.size + 1 := by have := hst.base; omega
      have hlt2 : w.heap.size + 1 < W2.heap.size := (Array.getElem?_eq_some_iff.1 hl).1
      have hel := run_endLoop (P := P) hl (by rw [hrec]; simp)
      refine ⟨none, _, by rw [hrec] at hel; exact hel, ?_⟩
      have hH3 := hH.putObj (.loop { state := .exhausted, pending := none, fn, tmps := a.tmps, params := #[tp], assign, body, defers := w.heap.size }) hl rfl hBl (hfV N _ hBl)
      refine hend w.heap.size hst.base _ _ hH3.1 (hstS _ N _ _ _ (by simp [hst.defers]) hst.size hH3 (by simp; omega) fun t e he => ?_)
      by_cases hts : vD = t
      · subst hts
        rw [look_here] at he; injection he with he; subst he
        exact .inl ⟨by simp; omega, Nat.zero_le _, (World.putObj_heap_other (by omega)).trans hk⟩
      · rw [look_past _ _ hts] at he
        exact .inr ⟨look_mem he, fun _ => rfl⟩

/-- A function value with captured pointers. -/
theorem ok_makeFunc2 {B : Nat} {dst : Option Tmp} {guard : Option (Nat × Bool)} {f : FuncId} {x y : Operand} {u v : Value} (hx : E.at x = some (.v u)) (hy : E.at y = some (.v v)) :
    OpOk P B ⟨dst, .makeFunc (.func f) #[] #[x, y], ty, pos, after, guard⟩ E (.v (.func (.func f) #[] #[u, v])) := fun ρ w _ _ hρ => by
  have h1 : ρ x = _ := hρ x (by simp [Op.operands]) _ hx
  have h2 : ρ y = _ := hρ y (by simp [Op.operands]) _ hy
  exact out_val (w' := w) (by simp [execOp, h1, h2, Instr.makeFunc]) ⟨Grow.refl w, rfl⟩
/-- A function value that holds two variables of its own, new ones. -/
def closD (base f : Nat) (e₁ e₂ : TypeId) (u₁ u₂ : Value) : D :=
  .p (fun B w x => ∃ p q, base ≤ p ∧ p < q ∧ q < B ∧ x = .func (.func f) #[] #[.pointer (some ⟨p, 0, none⟩), .pointer (some ⟨q, 0, none⟩)] ∧ w.heap[p]? = some (.cells #[u₁] e₁ (0, 0)) ∧ w.heap[q]? = some (.cells #[u₂] e₂ (0, 0)))
    (fun _ _ _ _ g ⟨p, q, h1, h2, h3, h4, h5, h6⟩ => ⟨p, q, h1, h2, h3, h4, (g.block p (by omega)).trans h5, (g.block q h3).trans h6⟩) (fun _ _ _ _ g ⟨p, q, h1, h2, h3, h4, h5, h6⟩ => ⟨p, q, h1, h2, by omega, h4, h5, h6⟩)
theorem closD_mono {f : Nat} {e₁ e₂ : TypeId} {u₁ u₂ : Value} (B B' : Nat) (h : B ≤ B') : Le (closD B' f e₁ e₂ u₁ u₂) (closD B f e₁ e₂ u₁ u₂) := fun _ _ _ ⟨p, q, h1, h2⟩ => ⟨p, q, by omega, h2⟩
theorem End.clos {fn : Func} {r k₁ k₂ p q f : Nat} {e₁ e₂ : TypeId} {u₁ u₂ : Value} (hr : fn.results = #[.tmp r]) (hp : w₀.heap.size ≤ p) (hpq : p < q) (ht : E.look r = some (.v (.func (.func f) #[] #[.pointer (some ⟨p, 0, none⟩), .pointer (some ⟨q, 0, none⟩)])))
    (h1 : E.look k₁ = some (blk p e₁ [u₁])) (h2 : E.look k₂ = some (blk q e₂ [u₂])) : End Cx.top w₀ n E (BP P fn (PostOf w₀ (closD w₀.heap.size f e₁ e₂ u₁ u₂)) .ret) := fun a w g hs => by
  obtain ⟨_, h4⟩ := hs.of k₁ _ h1
  obtain ⟨h5, h6⟩ := hs.of k₂ _ h2
  exact BP.ret hs.defers ⟨a.tmps.getD r undef, by simp [results, hr], _, rfl, g, p, q, hp, hpq, h5, hs.of r _ ht, h4, h6⟩
theorem End.closN {fn : Func} {r k₁ k₂ p q f : Nat} {e₁ e₂ : TypeId} {u₁ u₂ : Value} (hr : fn.results = #[.tmp r]) (hp : w₀.heap.size ≤ p) (hpq : p < q) (ht : E.look r = some (.v (.func (.func f) #[] #[.pointer (some ⟨p, 0, none⟩), .pointer (some ⟨q, 0, none⟩)])))
    (h1 : E.look k₁ = some (blk p e₁ [u₁])) (h2 : E.look k₂ = some (blk q e₂ [u₂])) : End Cx.top w₀ n E (BP P fn (PostOf w₀ (closD w₀.heap.size f e₁ e₂ u₁ u₂)) .normal) := End.clos hr hp hpq ht h1 h2
theorem A.openClos {c : Code} {Q : Exit → Act → World → Prop} {t k₁ k₂ f : Nat} {e₁ e₂ : TypeId} {u₁ u₂ : Value} {B : Nat} (ht : E.look t = some (closD B f e₁ e₂ u₁ u₂))
    (h : ∀ p q, B ≤ p → p < q → A κ P w₀ n c ((t, .v (.func (.func f) #[] #[.pointer (some ⟨p, 0, none⟩), .pointer (some ⟨q, 0, none⟩)])) :: (k₁, blk p e₁ [u₁]) :: (k₂, blk q e₂ [u₂]) :: E) Q) : A κ P w₀ n c E Q := fun a w g hs => by
  obtain ⟨p, q, h1, h2, h3, h4, h5, h6⟩ := hs.of t _ ht
  refine h p q h1 h2 a w g ⟨hs.base, hs.defers, hs.size, fun s d hd => ?_⟩
  by_cases hts : t = s
  · subst hts
    rw [look_here] at hd; injection hd with hd; subst hd; exact h4
  · rw [look_past _ _ hts] at hd
    by_cases hks : k₁ = s
    · subst hks
      rw [look_here] at hd; injection hd with hd; subst hd
      exact ⟨Nat.lt_trans h2 h3, h5⟩
    · rw [look_past _ _ hks] at hd
      by_cases hks' : k₂ = s
      · subst hks'
        rw [look_here] at hd; injection hd with hd; subst hd
        exact ⟨h3, h6⟩
      · rw [look_past _ _ hks'] at hd
        exact hs.of s d hd
/-- return of a variable's value, from a function in which a range over a function ended. -/
theorem End.cell1C {fn : Func} {D vD r s b : Nat} {T e : TypeId} {td : TypeDesc} {xs : List Value} {d : Go.Proofs.Ytdnblilocdddpaa.D} {m : Nat} (hD : E.look vD = some (recD D (.deferred (some [])) m)) (hDB : w₀.heap.size ≤ D) (hr : fn.results = #[.cell r T]) (ht : P.underlying T = some td) (hp : (match td with | .struct _ | .array _ _ => true | _ => false) = true) (hsz : SizeIs P T xs.length)
    (h1 : E.look r = some (.v (.pointer (some ⟨b, 0, none⟩)))) (h2 : E.look s = some (blk b e xs)) (hl : ∀ w, d.Of w (aggV xs)) : End ⟨none, [{ target := .collected D, args := #[] }]⟩ w₀ n E (BP P fn (PostOf w₀ d) .ret) := fun a w g hs => by
  have h3 : a.tmps[r]?.getD undef = .pointer (some ⟨b, 0, none⟩) := by rw [← Array.getD_eq_getD_getElem?]; exact hs.of r _ h1
  obtain ⟨hlt, _, hk⟩ := hs.of vD _ hD
  obtain ⟨_, hh⟩ := hs.of s _ h2
  have hne : b ≠ D := fun h => by subst h; rw [hh] at hk; cases hk
  have hh' : (w.putObj D (.deferred none)).heap[b]? = some (.cells xs.toArray e (0, 0)) := (World.putObj_heap_other hne).trans hh
  have := run_loadVar_row (P := P) (w.putObj D (.deferred none)) b e T xs.toArray (0, 0) td hh' ht hp (by simpa [SizeIs] using hsz)
  show LeavesInM (FR none) 0 P fn a.tmps _ a.defers .returning w
  rw [show a.defers = [{ target := .collected D, args := #[] }] from hs.defers]
  refine ⟨by simp, .inl ⟨D, _, rfl, run_takeDeferred hk, ?_⟩⟩
  refine ⟨aggV xs, by simp [results, hr, h3, asAddr, this, aggV], _, rfl, ?_, hl _⟩
  exact Below.trans g (below_putObj w _ hDB)
end
end Go.Proofs.Ytdnblilocdddpaa
