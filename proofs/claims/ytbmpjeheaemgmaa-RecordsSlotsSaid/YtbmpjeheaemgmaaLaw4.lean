/-
  From contracts by facts to the walks that given statements ask for: parameters that are structs of numbers and of arrays of bytes, numbers with their bounds, pairs of slices of bytes.
-/
import Derived.Test.YtbmpjeheaemgmaaFlat
import Derived.Test.YtbmpjeheaemgmaaAes
import Derived.Test.YtbmpjeheaemgmaaCalls
namespace Go.Proofs.Ytbmpjeheaemgmaa
open Go Go.RowKit Go.ChangeShapes Go.WideShapes
section
variable {H : Type} {enc : TypeId × Value → H} {P : Program} {w : World} {base : Nat} {held : Bool}
theorem arg_i64n {t : TypeId} {v : Value} {d : DataW H} {ps : List MemPlace} (ht : P.underlying t = some (.int .i64)) {r : Reach} {b0 : Nat} (hk : Value.okWide P w r b0 t v)
    (h : DataW.Trod enc P w base (fun _ => true) held t v d ps) : ∃ n : Int, -9223372036854775808 ≤ n ∧ n ≤ 9223372036854775807 ∧ v = .int .i64 n := by
  obtain ⟨n, rfl, hw⟩ := arg_num ht hk h
  exact ⟨n, (bounds_i64 hw).1, (bounds_i64 hw).2, rfl⟩
end
end Go.Proofs.Ytbmpjeheaemgmaa
