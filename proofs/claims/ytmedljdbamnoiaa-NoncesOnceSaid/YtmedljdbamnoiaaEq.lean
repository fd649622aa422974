/-
  OWN WORDS: an array of numbers compared with the same array. Nothing of one program stands here.
-/
import Derived.Test.YtmedljdbamnoiaaRange
import Derived.Test.YtmedljdbamnoiaaSha
import Derived.ChangeKeysEq
import Derived.Laws.StructEq
namespace Go.Proofs.Ytmedljdbamnoiaa
open Go Go.RowKit
section
variable {P : Program} {B : Nat} {E : Env} {dst : Option Tmp} {ty : TypeId} {pos : String} {after : Array Edge} {guard : Option (Nat × Bool)}
/-! ### Two arrays of numbers of which nothing is known -/
end
end Go.Proofs.Ytmedljdbamnoiaa
