/-
  The definition's package of layer 2, by facts: times, above, Root.
-/
import Derived.Test.YtidlikaiileggaaDoorDig
import Derived.Test.YtidlikaiileggaaDoorC02a
namespace Go.Proofs.YtidlikaiileggaaDoor
open Go Go.RowKit
set_option linter.unusedVariables false

theorem pow16 (n : Nat) : 0 < 65536 ^ n := Nat.pow_pos (by decide)
theorem carry_small {c x k : Nat} (hc : c < x) (hx : x < 137438953472) (hk : 0 < c / 65536 ^ k) : k < 4 := by
  rcases Nat.lt_or_ge k 4 with h | h
  · exact h
  · have h1 : 65536 ^ 4 ≤ 65536 ^ k := Nat.pow_le_pow_right (by decide) h
    rw [Nat.div_eq_of_lt (by omega)] at hk; cases hk
theorem canon_next {v x N M : Nat} (hx : 0 < x) (hc : N = 1 ∨ 65536 ^ (N - 1) ≤ v) (hM : M = N ∨ 65536 ^ (M - 1) ≤ v * x) : M = 1 ∨ 65536 ^ (M - 1) ≤ v * x := by
  rcases hM with rfl | h
  · rcases hc with h | h
    · exact .inl h
    · exact .inr (Nat.le_trans h (Nat.le_mul_of_pos_right _ hx))
  · exact .inr h

theorem info57 : InfoIs Tryd.prog 57 (.int .u64 0) 8 := by unfold InfoIs; kernel_rfl
-- caisson/caissonref02.times: not at this seat
end Go.Proofs.YtidlikaiileggaaDoor
