/-
  OWN WORDS: arrays of arrays (elements of several cells), checks for nil, bound methods as function values, slices of function values, functions that call such values. Nothing of one program stands here.
-/
import Derived.Test.YtbmpjeheaemgmaaScope
import Derived.Test.YtbmpjeheaemgmaaEq
namespace Go.Proofs.Ytbmpjeheaemgmaa
open Go Go.RowKit
variable {κ : Cx}

theorem SizeIs.get {P : Program} {T : TypeId} {m : Nat} (h : SizeIs P T m) : ∃ i, P.info? T = some i ∧ i.size = m := by
  unfold SizeIs at h
  cases hi : P.info? T with
  | none => rw [hi] at h; cases h
  | some i => rw [hi] at h; exact ⟨i, rfl, by simpa using h⟩
section
variable {P : Program} {n B : Nat} {ops : Array Oper} {E : Env} {dst : Option Tmp} {ty : TypeId} {pos : String} {after : Array Edge} {guard : Option (Nat × Bool)}
theorem ok_nilCheck {x : Operand} {ad : Addr} (hx : E.at x = some (.v (.pointer (some ad)))) : OpOk P B ⟨dst, .nilCheck x, ty, pos, after, guard⟩ E (.v (.pointer (some ad))) := fun ρ w _ _ hρ => by
  have h1 : ρ x = .pointer (some ad) := hρ x (by simp [Op.operands]) _ hx
  exact out_val (w' := w) (by simp [execOp, h1]) ⟨Grow.refl w, rfl⟩
/-- A method bound to its receiver. -/
theorem ok_makeFuncM {f : FuncId} {x : Operand} {u : Value} (hx : E.at x = some (.v u)) : OpOk P B ⟨dst, .makeFunc (.func f) #[x] #[], ty, pos, after, guard⟩ E (.v (.func (.func f) #[u] #[])) := fun ρ w _ _ hρ => by
  have h1 : ρ x = u := hρ x (by simp [Op.operands]) _ hx
  exact out_val (w' := w) (by simp [execOp, h1, Instr.makeFunc]) ⟨Grow.refl w, rfl⟩
/-- Called without arguments, the function value u takes block g's cells from xs to ys. -/
def Does (P : Program) (T g : Nat) (u : Value) (xs ys : List Value) : Prop := ∃ (f : FuncId) (vs : List Value), u = .func (.func f) vs.toArray #[] ∧ FnW P f [] T g xs ys (vs.map D.v)
theorem FnW.does {f : FuncId} {T g : Nat} {xs ys vs : List Value} (h : FnW P f [] T g xs ys (vs.map D.v)) : Does P T g (.func (.func f) vs.toArray #[]) xs ys := ⟨f, vs, rfl, h⟩
end
section
variable {P : Program} {w₀ : World} {n : Nat} {c : Code} {E : Env} {Q : Exit → Act → World → Prop}
end

/-! ### Variables of a function that writes one block -/
/-! ### Equality of arrays of arrays -/
section
variable {P : Program} {B : Nat} {E : Env} {dst : Option Tmp} {ty : TypeId} {pos : String} {after : Array Edge} {guard : Option (Nat × Bool)}
end
end Go.Proofs.Ytbmpjeheaemgmaa
