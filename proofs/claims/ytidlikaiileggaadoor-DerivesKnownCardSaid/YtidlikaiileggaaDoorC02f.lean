/-
  The definition's package of layer 2, by facts: Primes.
-/
import Derived.Test.YtidlikaiileggaaDoorC02e
namespace Go.Proofs.YtidlikaiileggaaDoor
open Go Go.RowKit
set_option linter.unusedVariables false

theorem bne_cast (a : Nat) : (((a : Nat) : Int) != 0) = (a != 0) := by rw [Bool.eq_iff_iff]; simp

-- caisson/caissonref02.Primes: not at this seat
end Go.Proofs.YtidlikaiileggaaDoor
