/-
  OWN WORDS: functions that hold a label (a scope through which no goto goes), the bytes of a constant string by index, a call of a function value that holds a variable of the caller's, own rows that lie apart from a named block. Nothing of one program stands here.
-/
import Derived.Test.YtbmpjeheaemgmaaWrite
import Derived.Scope
namespace Go.Proofs.Ytbmpjeheaemgmaa
open Go Go.RowKit
variable {κ : Cx}

section
variable {P : Program} {b : Frame} {a : Act} {k : List Item} {cs : List Frame} {w : World} {Q : Exit → Act → World → Prop} {F : Fence} {n : Nat}
theorem stepR_scope {c : Code} : step P (lone (b.atR a (.code (.scope c) :: k)) cs w) = .next (lone (b.atR a (.code c :: .inScope c :: k)) cs w) :=
  step_lone_go (by simp [stepG, stepG.exec, Frame.atR])
theorem stepR_inScope {c : Code} : step P (lone (b.atR a (.inScope c :: k)) cs w) = .next (lone (b.atR a k) cs w) :=
  step_lone_go (by simp [stepG, stepG.exec, Frame.atR])
theorem wpIn_scope {c : Code} (h : c.wpIn F n P (Exit.noGoto Q) a w) : (Code.scope c).wpIn F n P Q a w := by
  intro b k cs hro hb hr
  have h0 : (lone (b.atR a (.code (.scope c) :: k)) cs w).fenced P F := fenced_calm hb hr rfl
  obtain ⟨e, a₁, w₁, hq, harr⟩ := h b (.inScope c :: k) cs hro hb hr
  have hx : ∀ id, exitTo id (.inScope c :: k) = exitTo id k := fun id => by simp [exitTo]
  cases e with
  | normal => exact ⟨.normal, a₁, w₁, hq, .head h0 stepR_scope (StepsIn.trans harr (.one (fenced_calm hb hr rfl) stepR_inScope))⟩
  | exit id => exact ⟨.exit id, a₁, w₁, hq, fun k' hk => .head h0 stepR_scope (harr.1 k' (by rw [hx]; exact hk)),
      fun hr' hk => let ⟨k₁, h1, h2⟩ := harr.2 hr' (by rw [hx]; exact hk); ⟨k₁, h1, .head h0 stepR_scope h2⟩⟩
  | goto l => exact hq.elim
  | ret => exact ⟨_, a₁, w₁, hq, .of_steps (.one h0 stepR_scope) ⟨fun hr => let ⟨todo, hs⟩ := harr.1 hr; ⟨todo, hs⟩, fun hr => let ⟨k₁, hs⟩ := harr.2 hr; ⟨k₁, hs⟩⟩⟩
  | panic ch => exact ⟨_, a₁, w₁, hq, .of_steps (.one h0 stepR_scope) harr⟩
  | outgrown => exact ⟨_, a₁, w₁, hq, .of_steps (.one h0 stepR_scope) harr⟩
end
section
variable {P : Program} {w₀ : World} {n : Nat} {c : Code} {E : Env} {Q : Exit → Act → World → Prop}
theorem A.scope (h : A κ P w₀ n c E (Exit.noGoto Q)) : A κ P w₀ n (.scope c) E Q := fun a w g hs => wpIn_scope (h a w g hs)
theorem A.label {l : Nat} (h : End κ w₀ n E (Q .normal)) : A κ P w₀ n (.label l) E Q := fun a w g hs => wpIn_label (h a w g hs)
end

section
variable {P : Program} {n B : Nat} {ops : Array Oper} {E : Env} {dst : Option Tmp} {ty : TypeId} {pos : String} {after : Array Edge} {guard : Option (Nat × Bool)}
end

/-! ### Own rows that lie apart from a named block -/
section
variable {P : Program} {w₀ : World} {n : Nat} {c : Code} {E : Env} {Q : Exit → Act → World → Prop}
end
end Go.Proofs.Ytbmpjeheaemgmaa
