/-
  OWN WORDS: HKDF's expanding as plain mathematics (RFC 5869). Nothing of one program stands here.
-/
import Derived.Test.YtidlikaiileggaaDoorMac
namespace Go.Proofs.YtidlikaiileggaaDoor
open Go Go.RowKit
/-- T(i). -/
def hkT (prk info : List UInt8) : Nat → List UInt8
  | 0 => []
  | i + 1 => hmac prk (hkT prk info i ++ info ++ [UInt8.ofNat (i + 1)])
/-- T(1) to T(i), one after another. -/
def hkO (prk info : List UInt8) : Nat → List UInt8
  | 0 => []
  | i + 1 => hkO prk info i ++ hkT prk info (i + 1)
def hkdf (prk info : List UInt8) (n : Nat) : List UInt8 := (hkO prk info ((n + 31) / 32)).take n
variable {prk info : List UInt8}
theorem hkT_length (i : Nat) : (hkT prk info (i + 1)).length = 32 := by rw [hkT, hmac_length]
theorem hkT_le (i : Nat) : (hkT prk info i).length ≤ 32 := by
  cases i with
  | zero => simp [hkT]
  | succ i => rw [hkT_length]; exact Nat.le_refl _
theorem hkO_length : ∀ i, (hkO prk info i).length = 32 * i
  | 0 => rfl
  | i + 1 => by rw [hkO, List.length_append, hkO_length i, hkT_length]; omega
theorem hkO_take {i : Nat} : ∀ {j : Nat}, i ≤ j → (hkO prk info j).take (32 * i) = hkO prk info i
  | 0, h => by obtain rfl : i = 0 := by omega
               rfl
  | j + 1, h => by
    rcases Nat.lt_or_ge j i with hj | hj
    · obtain rfl : i = j + 1 := by omega
      rw [List.take_of_length_le (by rw [hkO_length]; exact Nat.le_refl _)]
    · rw [hkO, List.take_append_of_le_length (by rw [hkO_length]; omega)]
      exact hkO_take hj
theorem hkdf_length (n : Nat) : (hkdf prk info n).length = n := by rw [hkdf, List.length_take, hkO_length]; omega
theorem hkO_hkdf {n j : Nat} (h : n ≤ 32 * j) : (hkO prk info j).take n = hkdf prk info n := by
  have h1 : (n + 31) / 32 ≤ j := by omega
  rw [hkdf, ← hkO_take h1, List.take_take, Nat.min_eq_left (by omega)]
theorem hkdf_take {m n : Nat} (h : m ≤ n) : (hkdf prk info n).take m = hkdf prk info m := by
  rw [hkdf, List.take_take, Nat.min_eq_left h]
  exact hkO_hkdf (by omega)
end Go.Proofs.YtidlikaiileggaaDoor
