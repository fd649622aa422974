/-
  OWN WORDS: function values that are handed on and called: what one says of each of some values, in whatever memory that has grown. Nothing of one program stands here.
-/
import Derived.Test.YtdnblilocdddpaaUse
namespace Go.Proofs.Ytdnblilocdddpaa
open Go Go.RowKit
set_option linter.unusedSimpArgs false
set_option linter.unusedVariables false
variable {κ : Cx}
def HasBody (P : Program) (g : FuncId) : Prop := ∃ fn, P.funcs[g]? = some fn ∧ (fn.name == "runtime.NumGoroutine") = false ∧ fn.body.isNone = false
/-- A function value that, called with the j-th of the values, says p j; memory at most grows. -/
def predD (P : Program) (args : List Value) (p : Nat → Bool) : D :=
  .p (fun B w x => ∃ (g : FuncId) (cb : List Value), x = .func (.func g) #[] cb.toArray ∧ HasBody P g ∧ ∀ w', Below B w w' → B ≤ w'.heap.size → ∀ (j : Nat) (v : Value), args[j]? = some v → Calls P g (v :: cb).toArray w' (PostOf w' (.v (.bool (p j)))))
    (fun _ _ _ _ g ⟨f, cb, h1, h2, h3⟩ => ⟨f, cb, h1, h2, fun w' k hB => h3 w' (g.trans k) hB⟩) (fun _ _ _ _ g ⟨f, cb, h1, h2, h3⟩ => ⟨f, cb, h1, h2, fun w' k hB => h3 w' (k.mono g) (Nat.le_trans g hB)⟩)
/-- The facts M on memory stand in the environment, each at some number. -/
def MHas (E : Env) (M : Env) : Prop := ∀ q ∈ M, ∃ k d, vbase ≤ k ∧ E.look k = some d ∧ Le d q.2
theorem MHas.nil {E : Env} : MHas E [] := fun _ h => by cases h
theorem MHas.cons {E M : Env} {t : Nat} {d' : D} (k : Nat) {d : D} (hk : vbase ≤ k) (hE : E.look k = some d) (hl : Le d d') (hr : MHas E M) : MHas E ((t, d') :: M) := fun q hq => by
  rcases List.mem_cons.1 hq with rfl | hq
  · exact ⟨k, d, hk, hE, hl⟩
  · exact hr q hq
section
variable {P : Program} {B : Nat} {E : Env} {dst : Option Tmp} {ty : TypeId} {pos : String} {after : Array Edge} {guard : Option (Nat × Bool)}
theorem ok_makePred {g : FuncId} {xs : Array Operand} {M : Env} {args : List Value} {p : Nat → Bool} (us : List Value) (hb : HasBody P g) (hf : ∀ (j : Nat) (v : Value), args[j]? = some v → FnM P g M (.v v :: us.map D.v) (.v (.bool (p j))))
    (hM : MHas E M) (hx : VArgs E us xs.toList) : OpOk P B ⟨dst, .makeFunc (.func g) #[] xs, ty, pos, after, guard⟩ E (predD P args p) := fun ρ w _ hv hρ => by
  have hmem : ∀ x ∈ xs.toList, x ∈ (Op.makeFunc (.func g) #[] xs).operands := fun x hx => by
    have hx' : x ∈ xs := by simpa using hx
    simp [Op.operands, hx']
  have h1 := hx.map (ρ := ρ) fun x hx v hv => hρ x (hmem x hx) _ hv
  have h2 : xs.map ρ = us.toArray := by
    apply Array.ext'
    rw [Array.toList_map]; exact h1
  refine out_val (x := .func (.func g) #[] us.toArray) (w' := w) (by simp [execOp, h2, Instr.makeFunc]) ⟨Grow.refl w, g, us, rfl, hb, fun w' k hB j v hj => ?_⟩
  refine (hf j v hj).calls (v :: us) w' (fun q hq => ?_) (by simp) (fun i e u he hu => ?_)
  · obtain ⟨k', d, hk, hE, hl⟩ := hM q hq
    exact hl.of (D.Of.grow (hv k' _ hk hE) k)
  · cases i with
    | zero => simp only [List.getElem?_cons_zero, Option.some.injEq] at he hu; subst he; subst hu; rfl
    | succ i =>
      simp only [List.getElem?_cons_succ, List.getElem?_map] at he hu
      rw [hu] at he
      simp only [Option.map_some, Option.some.injEq] at he
      subst he; rfl
theorem ok_callPred {x y : Operand} {f : D} {args : List Value} {p : Nat → Bool} {v : Value} {argTypes : Array TypeId} (j : Nat) (hx : E.at x = some f) (hf : Le f (predD P args p)) (hy : E.at y = some (.v v)) (hj : args[j]? = some v) :
    OpOk P B ⟨dst, .call { callee := .value x, args := #[y], argTypes := argTypes }, ty, pos, after, guard⟩ E (.v (.bool (p j))) := fun ρ w _ hv hρ => by
  obtain ⟨g, cb, hfun, ⟨fn, h1, h2, h3⟩, hc⟩ := hf.of (hρ x (by simp [Op.operands, Call.operands]) _ hx)
  have hyv : ρ y = v := hρ y (by simp [Op.operands, Call.operands]) _ hy
  have hrun : (execOp ρ ⟨dst, .call { callee := .value x, args := #[y], argTypes := argTypes }, ty, pos, after, guard⟩).run P w = .ok (.enter g (v :: cb).toArray) w := by
    have h2' : ¬ fn.name = "runtime.NumGoroutine" := by simpa using h2
    have h3' : ¬ fn.body = none := by intro h; rw [h] at h3; cases h3
    simp [execOp, resolve, Deferred.ofValue, hfun, invoke, callFunc, h1, h2', h3', hyv]
  unfold Out
  rw [hrun]
  exact (hc w (Below.refl _ _) (Nat.le_refl _) j v hj).mono fun e w' ⟨x, he, hg, hx⟩ => ⟨x, he, hg, hx⟩
/-- A slice whose value is known, told by what stands at its address. -/
theorem OpOk.rowO {o : Oper} {A₀ : Option Addr} {m q k B' : Nat} {xs : List Value} (h : OpOk P B o E (.v (.slice A₀ m q))) (hk : vbase ≤ k) (hl : E.look k = some (old B' (memR A₀ xs))) : OpOk P B o E (old B' (rowD m xs)) := fun ρ w hB hv hρ => by
  refine (h ρ w hB hv hρ).mono fun x w' hx => ⟨hx.1, ?_⟩
  have h2 : (old B' (memR A₀ xs)).Of w' undef := D.Of.grow (hv k _ hk hl) hx.1
  exact ⟨h2.1, A₀, q, hx.2, h2.2⟩
theorem OpOk.rowM {o : Oper} {A₀ : Option Addr} {m q k : Nat} {xs : List Value} (h : OpOk P B o E (.v (.slice A₀ m q))) (hk : vbase ≤ k) (hl : E.look k = some (memR A₀ xs)) : OpOk P B o E (rowD m xs) := fun ρ w hB hv hρ => by
  refine (h ρ w hB hv hρ).mono fun x w' hx => ⟨hx.1, ?_⟩
  have h2 : (memR A₀ xs).Of w' undef := D.Of.grow (hv k _ hk hl) hx.1
  exact ⟨A₀, q, hx.2, h2⟩
end
section
variable {P : Program} {B : Nat} {E : Env}
theorem OpOk.hdRow {o : Oper} {A₀ : Option Addr} {m q k B' : Nat} {xs : List Value} (h : OpOk P B o E (.v (aggV [.slice A₀ m q]))) (hk : vbase ≤ k) (hl : E.look k = some (old B' (memR A₀ xs))) : OpOk P B o E (old B' (hdD (rowD m xs) [])) := fun ρ w hB hv hρ => by
  refine (h ρ w hB hv hρ).mono fun x w' hx => ⟨hx.1, ?_⟩
  have h2 : (old B' (memR A₀ xs)).Of w' undef := D.Of.grow (hv k _ hk hl) hx.1
  exact ⟨h2.1, _, rfl, hx.2, A₀, q, rfl, h2.2⟩
theorem oneP_slice {us : List Value} {B : Nat} {w : World} {u : Value} (h : (oneP us).OfB B w u) : ∃ A m c, u = .slice A m c := by
  obtain ⟨ad, h1, _⟩ := h; exact ⟨_, _, _, h1⟩
theorem rowD_slice {m : Nat} {us : List Value} {B : Nat} {w : World} {u : Value} (h : (rowD m us).OfB B w u) : ∃ A m c, u = .slice A m c := by
  obtain ⟨A, c, h1, _⟩ := h; exact ⟨_, _, _, h1⟩
theorem fresh_rowD {base m : Nat} {e : TypeId} {xs : List Value} : Le (fresh base e xs m) (rowD m xs) := fun B w x ⟨b, h1, _, h3, h4⟩ => ⟨some ⟨b, 0, none⟩, xs.length, h1, blk_rowIn h3 h4⟩
theorem own_rowD {base n : Nat} {e : TypeId} {xs : List Value} : Le (own base e n xs) (rowD n xs) := fun B w x h => by
  obtain ⟨⟨hl, h2⟩, hlt⟩ := h
  rcases h2 with ⟨rfl, rfl⟩ | ⟨g, cap, cur, rfl, _, hh, _, _, _, htk⟩
  · refine ⟨none, 0, rfl, fun j u hu => ?_⟩
    have : xs = [] := List.length_eq_zero_iff.1 (by omega)
    subst this; cases hu
  · refine ⟨_, _, rfl, fun j u hu => ⟨_, rfl, hlt g rfl, ?_⟩⟩
    rw [show (⟨g, 0, none⟩ : Addr).add j = ⟨g, j, none⟩ from by unfold Addr.add; split <;> simp_all]
    rw [← htk, List.getElem?_take] at hu
    split at hu
    · simp [World.cell?, hh]; simpa using hu
    · cases hu
/-- A struct around a slice over a block that is known whole. -/
theorem OpOk.hdBlk {o : Oper} {b m q k : Nat} {e : TypeId} {xs : List Value} (h : OpOk P B o E (.v (aggV [.slice (some ⟨b, 0, none⟩) m q]))) (hk : vbase ≤ k) (hl : E.look k = some (blk b e xs)) : OpOk P B o E (hdD (rowD m xs) []) := fun ρ w hB hv hρ => by
  refine (h ρ w hB hv hρ).mono fun x w' hx => ⟨hx.1, ?_⟩
  have h2 : (blk b e xs).Of w' undef := D.Of.grow (hv k _ hk hl) hx.1
  exact ⟨_, rfl, hx.2, _, _, rfl, blk_rowIn h2.1 h2.2⟩
theorem OpOk.rowBlk {o : Oper} {b m q k : Nat} {e : TypeId} {xs : List Value} (h : OpOk P B o E (.v (.slice (some ⟨b, 0, none⟩) m q))) (hk : vbase ≤ k) (hl : E.look k = some (blk b e xs)) : OpOk P B o E (rowD m xs) := fun ρ w hB hv hρ => by
  refine (h ρ w hB hv hρ).mono fun x w' hx => ⟨hx.1, ?_⟩
  have h2 : (blk b e xs).Of w' undef := D.Of.grow (hv k _ hk hl) hx.1
  exact ⟨_, _, hx.2, blk_rowIn h2.1 h2.2⟩
end
end Go.Proofs.Ytdnblilocdddpaa
