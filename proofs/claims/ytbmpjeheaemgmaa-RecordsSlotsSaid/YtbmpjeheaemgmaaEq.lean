/-
  OWN WORDS: an array of numbers compared with the same array. Nothing of one program stands here.
-/
import Derived.Test.YtbmpjeheaemgmaaRange
import Derived.Test.YtbmpjeheaemgmaaSha
import Derived.ChangeKeysEq
import Derived.Laws.StructEq
namespace Go.Proofs.Ytbmpjeheaemgmaa
open Go Go.RowKit
section
variable {P : Program} {B : Nat} {E : Env} {dst : Option Tmp} {ty : TypeId} {pos : String} {after : Array Edge} {guard : Option (Nat × Bool)}
/-! ### Two arrays of numbers of which nothing is known -/
theorem bytes_inj {a b : List UInt8} (h : a.map byteV = b.map byteV) : a = b := (List.map_inj_right fun x y hxy => by
  simp only [byteV, Value.int.injEq, true_and] at hxy
  exact UInt8.toNat_inj.1 (by omega)).1 h
end
end Go.Proofs.Ytbmpjeheaemgmaa
