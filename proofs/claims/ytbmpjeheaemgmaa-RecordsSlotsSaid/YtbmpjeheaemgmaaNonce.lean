/-
  OWN WORDS: nonces and allocators as plain mathematics; rows of numbers; literals of some fields; calls of function values that write one block. Nothing of one program stands here.
-/
import Derived.Test.YtbmpjeheaemgmaaNum
import Derived.Test.YtbmpjeheaemgmaaHold
namespace Go.Proofs.Ytbmpjeheaemgmaa
open Go Go.RowKit
variable {κ : Cx}
/-- The greatest of them. -/
def mx (cs : List Nat) : Nat := cs.foldl max 0
def nonceL (s c : Nat) : List UInt8 := be 4 s ++ be 8 c
theorem nonceL_length (s c : Nat) : (nonceL s c).length = 12 := by simp [nonceL, be_length]
section
variable {P : Program} {B : Nat} {E : Env} {dst : Option Tmp} {ty : TypeId} {pos : String} {after : Array Edge} {guard : Option (Nat × Bool)}
/-- A literal of some fields. -/
def LitS (E : Env) : List (Nat × Value) → List (Nat × Operand) → Prop
  | [], [] => True
  | (i, u) :: us, (j, x) :: ps => i = j ∧ E.at x = some (.v u) ∧ LitS E us ps
  | _, _ => False
theorem LitS.map {ρ : Operand → Value} : ∀ {us : List (Nat × Value)} {ps : List (Nat × Operand)}, LitS E us ps → (∀ x, x ∈ ps.map (·.2) → ∀ v, E.at x = some (.v v) → ρ x = v) → ps.map (fun p => (p.1, ρ p.2)) = us
  | [], [], _, _ => rfl
  | [], _ :: _, h, _ => h.elim
  | _ :: _, [], h, _ => h.elim
  | (i, u) :: us, (j, x) :: ps, ⟨h1, h2, h3⟩, hρ => by
    subst h1
    simp only [List.map_cons, hρ x (by simp) u h2]
    rw [LitS.map h3 fun y hy v hv => hρ y (by simp only [List.map_cons, List.mem_cons]; exact .inr hy) v hv]
theorem ok_litS {t : TypeId} {ps : Array (Nat × Operand)} (us : List (Nat × Value)) (ys : List Value) (hl : LitS E us ps.toList) (hb : P.built t us = some ys.toArray) : OpOk P B ⟨dst, .build t ps, ty, pos, after, guard⟩ E (.v (aggV ys)) :=
  ok_lit us ys (fun _ hρ => hl.map hρ) hb
end
section
variable {P : Program} {n B : Nat} {ops : Array Oper} {E : Env} {ty : TypeId} {pos : String} {after : Array Edge}
end
end Go.Proofs.Ytbmpjeheaemgmaa
