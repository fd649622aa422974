/-
  OWN WORDS: an existential fact; numbers in digits of base 65536, and the roots of prime numbers by them, as plain mathematics. Nothing of one program stands here.
-/
import Derived.Test.YtidlikaiileggaaDoorSha
namespace Go.Proofs.YtidlikaiileggaaDoor
open Go Go.RowKit
variable {κ : Cx}

/-! ### There is something of which it is known -/
def exD {ι : Type} (P : ι → Prop) (d : ι → D) : D :=
  .p (fun B w x => ∃ i, P i ∧ (d i).OfB B w x) (fun _ _ _ _ g ⟨i, h, k⟩ => ⟨i, h, k.keep g⟩) (fun _ _ _ _ g ⟨i, h, k⟩ => ⟨i, h, k.up g⟩)
theorem Le.ex {ι : Type} {P : ι → Prop} {d : ι → D} (i : ι) (h : P i) : Le (d i) (exD P d) := fun _ _ _ hx => ⟨i, h, hx⟩
theorem Le.exs {ι : Type} {P Q : ι → Prop} {d : ι → D} (h : ∀ i, P i → Q i) : Le (exD P d) (exD Q d) := fun _ _ _ ⟨i, hi, hx⟩ => ⟨i, h i hi, hx⟩
theorem Le.exi {ι : Type} {P : ι → Prop} {d : ι → D} {e : D} (h : ∀ i, P i → Le (d i) e) : Le (exD P d) e := fun B w x ⟨i, hi, hx⟩ => h i hi B w x hx
theorem A.exOpen {P : Program} {w₀ : World} {n : Nat} {c : Code} {E : Env} {Q : Exit → Act → World → Prop} {ι : Type} {R : ι → Prop} {d : ι → D} {t : Nat} (ht : E.look t = some (exD R d)) (h : ∀ i, R i → A κ P w₀ n c ((t, d i) :: E) Q) : A κ P w₀ n c E Q := fun a w g hs => by
  obtain ⟨i, hi, hx⟩ := hs.of t _ ht
  refine h i hi a w g ⟨hs.base, hs.defers, hs.size, fun s e he => ?_⟩
  by_cases hts : t = s
  · subst hts
    rw [look_here] at he; injection he with he; subst he; exact hx
  · rw [look_past _ _ hts] at he; exact hs.of s e he

/-! ### Digits -/
def u64V (n : Nat) : Value := .int .u64 (n : Int)
def u64D (n : Nat) : D := .v (u64V n)
def digs (v n : Nat) : List Nat := (List.range n).map fun i => v / 65536 ^ i % 65536
theorem digs_length (v n : Nat) : (digs v n).length = n := by simp [digs]
theorem digs_get {v n i : Nat} (h : i < n) : (digs v n)[i]? = some (v / 65536 ^ i % 65536) := by simp [digs, h]
theorem digs_snoc (v n : Nat) : digs v (n + 1) = digs v n ++ [v / 65536 ^ n % 65536] := by simp [digs, List.range_succ]
theorem digs_zero (v n : Nat) : digs (v * 65536) (n + 1) = 0 :: digs v n := by
  simp only [digs, List.range_succ_eq_map, List.map_cons, List.map_map]
  congr 1
  · simp
  · apply List.map_congr_left
    intro i _
    simp only [Function.comp, Nat.pow_succ]
    rw [Nat.mul_comm (65536 ^ i), ← Nat.div_div_eq_div_mul, Nat.mul_div_cancel _ (by decide)]
theorem times_digit (v x R : Nat) (hR : 0 < R) : (v * x / R) % 65536 = (v % R * x / R + v / R % 65536 * x) % 65536 := by
  have h1 : v * x = v % R * x + R * (v / R * x) := by
    conv => lhs; rw [← Nat.mod_add_div v R]
    rw [Nat.add_mul, Nat.mul_assoc]
  rw [h1, Nat.add_mul_div_left _ _ hR, Nat.add_mod, Nat.add_mod (v % R * x / R)]
  congr 2
  rw [Nat.mul_mod, Nat.mul_mod (v / R % 65536) x, Nat.mod_mod]
theorem times_carry (v x R : Nat) (hR : 0 < R) : (v % R * x / R + v / R % 65536 * x) / 65536 = v % (R * 65536) * x / (R * 65536) := by
  rw [Nat.mod_mul, Nat.add_mul, Nat.mul_assoc, ← Nat.div_div_eq_div_mul, Nat.add_mul_div_left _ _ hR]
theorem carry_lt (v R : Nat) {x : Nat} (hR : 0 < R) (hx : 0 < x) : v % R * x / R < x := by
  rw [Nat.div_lt_iff_lt_mul hR, Nat.mul_comm]
  exact Nat.mul_lt_mul_of_pos_left (Nat.mod_lt _ hR) hx
theorem u64_vals (l : List Nat) : lst (l.map u64D) = lst ((l.map u64V).map .v) := by rw [List.map_map]; rfl
theorem u64_ones (l : List Nat) : ∀ u ∈ l.map u64V, u.oneCell' = true := fun u hu => by
  simp only [List.mem_map] at hu; obtain ⟨b, _, rfl⟩ := hu; rfl
theorem own_u64 {B : Nat} {e : TypeId} {n : Nat} {l : List Nat} (hn : n = l.length) : Le (own B e n (l.map u64V)) (lst (l.map u64D)) := by
  rw [u64_vals]; exact own_le (by simpa using hn)
/-- Two numbers that agree from digit k on are ordered by digit k - 1, if it differs. -/
theorem digit_order {v w R : Nat} (h : v / (R * 65536) = w / (R * 65536)) (hne : v / R % 65536 ≠ w / R % 65536) : (decide (v / R % 65536 > w / R % 65536)) = decide (w < v) := by
  rw [← Nat.div_div_eq_div_mul, ← Nat.div_div_eq_div_mul] at h
  have hv := Nat.mod_add_div (v / R) 65536
  have hw := Nat.mod_add_div (w / R) 65536
  rw [h] at hv
  rw [decide_eq_decide]
  constructor
  · intro hlt
    rcases Nat.lt_or_ge w v with h1 | h1
    · exact h1
    · have := Nat.div_le_div_right (c := R) h1; omega
  · intro hlt
    have := Nat.div_le_div_right (c := R) (Nat.le_of_lt hlt); omega
theorem digit_same {v w R : Nat} (h : v / (R * 65536) = w / (R * 65536)) (he : v / R % 65536 = w / R % 65536) : v / R = w / R := by
  rw [← Nat.div_div_eq_div_mul, ← Nat.div_div_eq_div_mul] at h
  have hv := Nat.mod_add_div (v / R) 65536
  have hw := Nat.mod_add_div (w / R) 65536
  rw [h] at hv; omega
/-- Bit after bit, from bit k - 1 down: the greatest x that is no greater than the root. -/
def rootFrom (p power : Nat) : Nat → Nat → Nat
  | 0, x => x
  | k + 1, x => rootFrom p power k (if p * 2 ^ (32 * power) < (x + 2 ^ k) ^ power then x else x + 2 ^ k)
def rootF (p power : Nat) : UInt32 := UInt32.ofNat (rootFrom p power 37 0)

/-! ### Prime numbers by trial -/
def sieveN : Nat → List Nat
  | 0 => []
  | k + 1 => if (sieveN k).all (fun q => (k + 2) % q != 0) then sieveN k ++ [k + 2] else sieveN k
theorem sieve_pos : ∀ k, ∀ q ∈ sieveN k, 0 < q
  | 0, q, h => by cases h
  | k + 1, q, h => by
    rw [sieveN] at h
    split at h
    · rcases List.mem_append.1 h with h | h
      · exact sieve_pos k q h
      · simp at h; omega
    · exact sieve_pos k q h
theorem sieve_prefix (k : Nat) : ∀ j, sieveN k <+: sieveN (k + j)
  | 0 => List.prefix_refl _
  | j + 1 => (sieve_prefix k j).trans (by
    rw [← Nat.add_assoc, sieveN]
    split
    · exact List.prefix_append _ _
    · exact List.prefix_refl _)
theorem sieve310 : (sieveN 310).length = 64 := by kernel_rfl
theorem sieve_more {k : Nat} (hk : k ≤ 310) (h : (sieveN k).length < 64) : k < 310 := by
  rcases Nat.lt_or_ge k 310 with h1 | h1
  · exact h1
  · obtain rfl : k = 310 := by omega
    rw [sieve310] at h; omega
theorem sieve_end {k : Nat} (hk : k ≤ 310) (h : 64 ≤ (sieveN k).length) : sieveN k = sieveN 310 := by
  have h1 := sieve_prefix k (310 - k)
  rw [show k + (310 - k) = 310 from by omega] at h1
  exact h1.eq_of_length_le (by rw [sieve310]; exact h)
theorem roots3 : (sieveN 310).map (fun p => rootF p 3) = K64 := by kernel_rfl
theorem roots2 : ((sieveN 310).take 8).map (fun p => rootF p 2) = H8.list := by kernel_rfl
end Go.Proofs.YtidlikaiileggaaDoor
