/-
  The definition's package of layer 2, by facts: above, Root.
-/
import Derived.Test.YtidlikaiileggaaDoorC02d
namespace Go.Proofs.YtidlikaiileggaaDoor
open Go Go.RowKit
set_option linter.unusedVariables false

theorem pow_bound {x M k K : Nat} (hM : M = 1 ∨ 65536 ^ (M - 1) ≤ x) (hx : x < 65536 ^ K) (hK : 1 ≤ K) : M ≤ K := by
  rcases hM with h | h
  · omega
  · rcases Nat.lt_or_ge K M with h1 | h1
    · have h2 : 65536 ^ K ≤ 65536 ^ (M - 1) := Nat.pow_le_pow_right (by decide) (by omega)
      omega
    · exact h1
theorem pow_atleast {x M K : Nat} (hM : x < 65536 ^ M) (hx : 65536 ^ K ≤ x) : K < M := by
  rcases Nat.lt_or_ge K M with h | h
  · exact h
  · have h2 : 65536 ^ M ≤ 65536 ^ K := Nat.pow_le_pow_right (by decide) h
    omega
theorem pow37 {x i : Nat} (hx : x < 137438953472) (hi : i ≤ 3) : x ^ i < 65536 ^ 7 := by
  have h1 : x ^ i ≤ 137438953472 ^ i := Nat.pow_le_pow_left (Nat.le_of_lt hx) i
  have h2 : 137438953472 ^ i ≤ 137438953472 ^ 3 := Nat.pow_le_pow_right (by decide) hi
  have h3 : 137438953472 ^ 3 < 65536 ^ 7 := by decide
  omega
theorem root_width {x M power : Nat} (hx : 4294967296 ≤ x) (hx' : x < 137438953472) (hp : power = 2 ∨ power = 3) (h1 : x ^ power < 65536 ^ M) (h2 : M = 1 ∨ 65536 ^ (M - 1) ≤ x ^ power) : M = 2 * power + 1 := by
  have hlo : 4294967296 ^ power ≤ x ^ power := Nat.pow_le_pow_left hx power
  have hhi : x ^ power ≤ 137438953471 ^ power := Nat.pow_le_pow_left (by omega) power
  rcases hp with rfl | rfl
  · have a := pow_bound (k := 0) (K := 5) h2 (Nat.lt_of_le_of_lt hhi (by decide)) (by decide)
    have b := pow_atleast (K := 4) h1 (Nat.le_trans (by decide) hlo)
    omega
  · have a := pow_bound (k := 0) (K := 7) h2 (Nat.lt_of_le_of_lt hhi (by decide)) (by decide)
    have b := pow_atleast (K := 6) h1 (Nat.le_trans (by decide) hlo)
    omega

-- caisson/caissonref02.above: not at this seat
theorem pow32 (power : Nat) : 65536 ^ (2 * power) = 2 ^ (32 * power) := by
  rw [show (65536 : Nat) = 2 ^ 16 from rfl, ← Nat.pow_mul]; congr 1; omega
theorem root_first {p power : Nat} (hp : 0 < p) : ¬ p * 2 ^ (32 * power) < (0 + 2 ^ 32) ^ power := by
  rw [Nat.zero_add, ← Nat.pow_mul]
  exact Nat.not_lt.2 (Nat.le_mul_of_pos_left _ hp)
-- caisson/caissonref02.Root: not at this seat
end Go.Proofs.YtidlikaiileggaaDoor
