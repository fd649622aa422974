/-
  OWN WORDS: functions that hold a label (a scope through which no goto goes), the bytes of a constant string by index, a call of a function value that holds a variable of the caller's, own rows that lie apart from a named block. Nothing of one program stands here.
-/
import Derived.Test.YtdnblilocdddpaaWrite
import Derived.Scope
namespace Go.Proofs.Ytdnblilocdddpaa
open Go Go.RowKit
variable {κ : Cx}

section
variable {P : Program} {b : Frame} {a : Act} {k : List Item} {cs : List Frame} {w : World} {Q : Exit → Act → World → Prop} {F : Fence} {n : Nat}
theorem stepR_scope {c : Code} : step P (lone (b.atR a (.code (.scope c) :: k)) cs w) = .next (lone (b.atR a (.code c :: .inScope c :: k)) cs w) :=
  step_lone_go (by simp [stepG, stepG.exec, Frame.atR])
theorem stepR_inScope {c : Code} : step P (lone (b.atR a (.inScope c :: k)) cs w) = .next (lone (b.atR a k) cs w) :=
  step_lone_go (by simp [stepG, stepG.exec, Frame.atR])
theorem wpIn_scope {c : Code} (h : c.wpIn F n P (Exit.noGoto Q) a w) : (Code.scope c).wpIn F n P Q a w := by
  intro b k cs hro hb hr
  have h0 : (lone (b.atR a (.code (.scope c) :: k)) cs w).fenced P F := fenced_calm hb hr rfl
  obtain ⟨e, a₁, w₁, hq, harr⟩ := h b (.inScope c :: k) cs hro hb hr
  have hx : ∀ id, exitTo id (.inScope c :: k) = exitTo id k := fun id => by simp [exitTo]
  cases e with
  | normal => exact ⟨.normal, a₁, w₁, hq, .head h0 stepR_scope (StepsIn.trans harr (.one (fenced_calm hb hr rfl) stepR_inScope))⟩
  | exit id => exact ⟨.exit id, a₁, w₁, hq, fun k' hk => .head h0 stepR_scope (harr.1 k' (by rw [hx]; exact hk)),
      fun hr' hk => let ⟨k₁, h1, h2⟩ := harr.2 hr' (by rw [hx]; exact hk); ⟨k₁, h1, .head h0 stepR_scope h2⟩⟩
  | goto l => exact hq.elim
  | ret => exact ⟨_, a₁, w₁, hq, .of_steps (.one h0 stepR_scope) ⟨fun hr => let ⟨todo, hs⟩ := harr.1 hr; ⟨todo, hs⟩, fun hr => let ⟨k₁, hs⟩ := harr.2 hr; ⟨k₁, hs⟩⟩⟩
  | panic ch => exact ⟨_, a₁, w₁, hq, .of_steps (.one h0 stepR_scope) harr⟩
  | outgrown => exact ⟨_, a₁, w₁, hq, .of_steps (.one h0 stepR_scope) harr⟩
end
section
variable {P : Program} {w₀ : World} {n : Nat} {c : Code} {E : Env} {Q : Exit → Act → World → Prop}
theorem A.scope (h : A κ P w₀ n c E (Exit.noGoto Q)) : A κ P w₀ n (.scope c) E Q := fun a w g hs => wpIn_scope (h a w g hs)
theorem A.label {l : Nat} (h : End κ w₀ n E (Q .normal)) : A κ P w₀ n (.label l) E Q := fun a w g hs => wpIn_label (h a w g hs)
theorem End.normal_scope (h : End κ w₀ n E (Q .normal)) : End κ w₀ n E (Exit.noGoto Q .normal) := h
theorem End.exit_scope {id : Nat} (h : End κ w₀ n E (Q (.exit id))) : End κ w₀ n E (Exit.noGoto Q (.exit id)) := h
theorem End.ret_scope (h : End κ w₀ n E (Q .ret)) : End κ w₀ n E (Exit.noGoto Q .ret) := h
end

section
variable {P : Program} {n B : Nat} {ops : Array Oper} {E : Env} {dst : Option Tmp} {ty : TypeId} {pos : String} {after : Array Edge} {guard : Option (Nat × Bool)}
/-- A byte of a constant string. -/
theorem ok_strIndex {t : TypeId} {x i : Operand} {k : IntKind} {j : Int} {l : List UInt8} {c : UInt8} (m : Nat) (ht : P.underlying t = some .string) (hx : E.at x = some (str l)) (hi : E.at i = some (.v (.int k j))) (hj : j = (m : Int)) (hc : l[m]? = some c) :
    OpOk P B ⟨dst, .index t x i, ty, pos, after, guard⟩ E (.v (byteV c)) := fun ρ w _ _ hρ => by
  have h1 : ρ x = .string ⟨l.toArray⟩ := hρ x (by simp [Op.operands]) _ hx
  have h2 : ρ i = .int k j := hρ i (by simp [Op.operands]) _ hi
  subst hj
  have hm : m < l.length := (List.getElem?_eq_some_iff.1 hc).1
  have hg : (⟨l.toArray⟩ : ByteArray)[m]? = some c := by
    have hs : m < (⟨l.toArray⟩ : ByteArray).size := hm
    rw [getElem?_pos (⟨l.toArray⟩ : ByteArray) m hs]
    rw [List.getElem?_eq_getElem hm] at hc
    exact hc
  have hr : (Instr.index t (.string ⟨l.toArray⟩) (.int k (m : Int))).run P w = .ok (byteV c) w := by
    simp [Instr.index, asIntOf, run_underlying ht, hg, byteV]
  exact out_val (w' := w) (by simp only [execOp, h1, h2, Sem.run_bind, hr, Result.andThen_ok, Sem.run_pure]) ⟨Grow.refl w, rfl⟩
/-- A call of a function value that holds what us lists, and writes one block. -/
theorem eff_callV {f : FuncId} {T g s dst : Nat} {x : Operand} {xs ys us : List Value} {argTypes : Array TypeId} {E' : Env} (hf : FnW P f [] T g xs ys (us.map D.v)) (hx : E.at x = some (.v (.func (.func f) #[] us.toArray)))
    (hg : B ≤ g) (hblk : E.look s = some (blk g T xs)) (hdst : dst < n) (hl : LeftS B T g E' E) :
    Eff P n B ops ⟨some dst, .call { callee := .value x, args := #[], argTypes := argTypes }, ty, pos, after, none⟩ E ((dst, .v (.tuple #[])) :: (s, blk g T ys) :: E') := by
  intro κ a w K Q h hK
  obtain ⟨fn, h1, h2, h3⟩ := hf.body
  have hfun : a.eval x = .func (.func f) #[] us.toArray := h.at_ x _ hx
  have hrun : (execOp a.eval ⟨some dst, .call { callee := .value x, args := #[], argTypes := argTypes }, ty, pos, after, none⟩).run P w = .ok (.enter f us.toArray) w := by
    have h2' : ¬ fn.name = "runtime.NumGoroutine" := by simpa using h2
    have h3' : ¬ fn.body = none := by intro h; rw [h] at h3; cases h3
    simp [execOp, resolve, Deferred.ofValue, hfun, invoke, callFunc, h1, h2', h3']
  obtain ⟨hlt, hh⟩ := h.of s _ hblk
  have hcall := hf.calls us w (by rw [List.length_map]) (fun j e u he hu => by
    rw [List.getElem?_map, hu] at he
    injection he with he; subst he; rfl) (fun p hp => by cases hp) hlt hh
  rw [if_pos (by simp [Region.wanted])]
  refine opR (by nofun) ?_
  unfold Oper.wp
  rw [hrun, Oper.upon_enter]
  refine Calls.mono hcall ?_
  rintro e w' ⟨rfl, hw, hh'⟩
  have hwr : Wrote B T g w w' := ⟨hg, hw.os, hw.tape, hw.output, hw.size, hw.cel, hw.other⟩
  have hst := hl.st h hwr
  have hlt' : g < w'.heap.size := (Array.getElem?_eq_some_iff.1 hh').1
  exact hK _ _ (hwr.below h.base) (St.put (hst.push (d := blk g T ys) ⟨hlt', hh'⟩) hdst rfl)
end

/-! ### Own rows that lie apart from a named block -/
def away (g base : Nat) (e : TypeId) (n : Nat) (xs : List Value) : D :=
  .p (fun B w x => (own base e n xs).OfB B w x ∧ x.ownBlock ≠ some g) (fun _ _ _ _ k ⟨h1, h2⟩ => ⟨D.OfB.keep h1 k, h2⟩) (fun _ _ _ _ k ⟨h1, h2⟩ => ⟨D.OfB.up h1 k, h2⟩)
theorem Surv.away {B T g base n : Nat} {e : TypeId} {xs : List Value} : Surv B T g (Go.Proofs.Ytdnblilocdddpaa.away g base e n xs) := fun w w' x k ⟨h1, h2⟩ => ⟨Surv.ownM (u := x) h2 w w' undef k h1, h2⟩
theorem away_le {g B n : Nat} {e : TypeId} {xs : List Value} (hn : n = xs.length) : Le (away g B e n xs) (lst (xs.map .v)) := fun b w x ⟨h1, _⟩ => own_le hn b w x h1
section
variable {P : Program} {w₀ : World} {n : Nat} {c : Code} {E : Env} {Q : Exit → Act → World → Prop}
theorem A.away {t g B B' m : Nat} {e : TypeId} {xs : List Value} (ht : E.look t = some (own B e m xs)) (hg : g < B) (hB : B' ≤ B) (h : A κ P w₀ n c ((t, Go.Proofs.Ytdnblilocdddpaa.away g B' e m xs) :: E) Q) : A κ P w₀ n c E Q := fun a w k hs => by
  have h1 := hs.of t _ ht
  refine h a w k (hs.push (d := Go.Proofs.Ytdnblilocdddpaa.away g B' e m xs) ⟨(own_mono hB : Le (own B e m xs) (own B' e m xs)).of h1, ?_⟩)
  obtain ⟨⟨_, h2⟩, _⟩ := h1
  rcases h2 with ⟨h3, _⟩ | ⟨j, cap, cur, h3, h4, _⟩
  · rw [h3]; simp [Value.ownBlock]
  · rw [h3]; simp [Value.ownBlock]; omega
/-- A block that was there at a region's beginning lies below what the region makes. -/
theorem A.ltBlk {k b B' : Nat} {T : TypeId} {xs : List Value} (hk : E.look k = some (old B' (blk b T xs))) (h : b < B' → A κ P w₀ n c E Q) : A κ P w₀ n c E Q := fun a w g hs => h (hs.of k _ hk).2.1 a w g hs
end
end Go.Proofs.Ytdnblilocdddpaa
