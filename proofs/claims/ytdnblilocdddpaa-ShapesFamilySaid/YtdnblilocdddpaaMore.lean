/-
  OWN WORDS: min and max of whole numbers of any kind. Nothing of one program stands here.
-/
import Derived.Test.YtdnblilocdddpaaOps2
namespace Go.Proofs.Ytdnblilocdddpaa
open Go Go.RowKit
section
variable {P : Program} {B : Nat} {E : Env} {dst : Option Tmp} {ty : TypeId} {pos : String} {after : Array Edge} {guard : Option (Nat × Bool)}
theorem ok_minI {x y : Operand} {k k' : IntKind} {a b : Int} {ts : Array TypeId} (hx : E.at x = some (.v (.int k a))) (hy : E.at y = some (.v (.int k' b))) :
    OpOk P B ⟨dst, .call { callee := .builtin .min, args := #[x, y], argTypes := ts }, ty, pos, after, guard⟩ E (.v (.int k (min a b))) := fun ρ w _ _ hρ => by
  have h1 : ρ x = .int k a := hρ x (by simp [Op.operands, Call.operands]) _ hx
  have h2 : ρ y = .int k' b := hρ y (by simp [Op.operands, Call.operands]) _ hy
  exact out_val (w' := w) (by simp [execOp, resolve, invoke, builtin, Builtin.min_, Builtin.min2, h1, h2]; omega) ⟨Grow.refl w, rfl⟩
theorem ok_maxI {x y : Operand} {k k' : IntKind} {a b : Int} {ts : Array TypeId} (hx : E.at x = some (.v (.int k a))) (hy : E.at y = some (.v (.int k' b))) :
    OpOk P B ⟨dst, .call { callee := .builtin .max, args := #[x, y], argTypes := ts }, ty, pos, after, guard⟩ E (.v (.int k (max a b))) := fun ρ w _ _ hρ => by
  have h1 : ρ x = .int k a := hρ x (by simp [Op.operands, Call.operands]) _ hx
  have h2 : ρ y = .int k' b := hρ y (by simp [Op.operands, Call.operands]) _ hy
  exact out_val (w' := w) (by simp [execOp, resolve, invoke, builtin, Builtin.max_, Builtin.max2, h1, h2]; omega) ⟨Grow.refl w, rfl⟩
end
end Go.Proofs.Ytdnblilocdddpaa
