/-
  OWN WORDS: min and max of whole numbers of any kind. Nothing of one program stands here.
-/
import Derived.Test.YtbmpjeheaemgmaaOps2
namespace Go.Proofs.Ytbmpjeheaemgmaa
open Go Go.RowKit
section
variable {P : Program} {B : Nat} {E : Env} {dst : Option Tmp} {ty : TypeId} {pos : String} {after : Array Edge} {guard : Option (Nat × Bool)}
end
end Go.Proofs.Ytbmpjeheaemgmaa
