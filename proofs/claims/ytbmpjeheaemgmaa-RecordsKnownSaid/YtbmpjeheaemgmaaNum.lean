/-
  Plain mathematics of package words: the bytes of a number, rotations, exclusive or. No program stands here.
-/
import Derived.WalkKit
namespace Go.Proofs.Ytbmpjeheaemgmaa
open Go Go.RowKit

/-- The k lowest bytes of v, the most significant one first. -/
def be (k v : Nat) : List UInt8 := (List.range k).map fun i => UInt8.ofNat (v / 256 ^ (k - 1 - i))
theorem be_length (k v : Nat) : (be k v).length = k := by simp [be]
theorem be_get {k v i : Nat} (h : i < k) : (be k v)[i]? = some (UInt8.ofNat (v / 256 ^ (k - 1 - i))) := by simp [be, h]
theorem be_succ (k v : Nat) : be (k + 1) v = be k (v / 256) ++ [UInt8.ofNat v] := by
  unfold be
  rw [List.range_succ, List.map_append]
  congr 1
  · apply List.map_congr_left
    intro i hi
    have hi : i < k := List.mem_range.1 hi
    rw [Nat.div_div_eq_div_mul, ← Nat.pow_succ']
    congr 3; omega
  · simp
theorem be_cons (k v : Nat) : be (k + 1) v = UInt8.ofNat (v / 256 ^ k) :: be k v := by
  unfold be
  rw [List.range_succ_eq_map, List.map_cons, List.map_map]
  congr 1
  apply List.map_congr_left
  intro i _
  simp only [Function.comp_def]
  congr 3; omega
theorem be_zero (v : Nat) : be 0 v = [] := rfl
theorem ofNat_add_mul (x y : Nat) : UInt8.ofNat (256 * y + x) = UInt8.ofNat x := by
  apply UInt8.toNat_inj.1
  simp
theorem be_add (k a v : Nat) : be k (a * 256 ^ k + v) = be k v := by
  unfold be
  apply List.map_congr_left
  intro i hi
  have hi : i < k := List.mem_range.1 hi
  have h1 : a * 256 ^ k = a * 256 ^ i * 256 * 256 ^ (k - 1 - i) := by
    rw [Nat.mul_assoc (a * 256 ^ i), ← Nat.pow_succ', Nat.mul_assoc, ← Nat.pow_add]
    congr 2; omega
  rw [h1, Nat.mul_comm _ (256 ^ (k - 1 - i)), Nat.mul_add_div (Nat.pow_pos (by decide)), Nat.mul_comm _ 256]
  exact ofNat_add_mul _ _
/-- The number of a list of bytes. -/
def num (l : List UInt8) : Nat := l.foldl (fun v c => v * 256 + c.toNat) 0
theorem num_snoc (l : List UInt8) (c : UInt8) : num (l ++ [c]) = num l * 256 + c.toNat := by simp [num]
theorem num_from (l : List UInt8) : ∀ a : Nat, l.foldl (fun v c => v * 256 + c.toNat) a = a * 256 ^ l.length + num l := by
  induction l with
  | nil => intro a; simp [num]
  | cons c l ih =>
    intro a
    have h1 : num (c :: l) = c.toNat * 256 ^ l.length + num l := by
      show l.foldl _ (0 * 256 + c.toNat) = _
      rw [ih]; simp
    rw [List.foldl_cons, ih, h1, List.length_cons, Nat.pow_succ, Nat.add_mul, Nat.mul_comm (256 ^ l.length) 256, Nat.mul_assoc, Nat.add_assoc]
theorem num_cons (c : UInt8) (l : List UInt8) : num (c :: l) = c.toNat * 256 ^ l.length + num l := by
  show l.foldl _ (0 * 256 + c.toNat) = _
  rw [num_from]; simp
theorem num_lt (l : List UInt8) : num l < 256 ^ l.length := by
  induction l with
  | nil => simp [num]
  | cons c l ih =>
    rw [num_cons, List.length_cons, Nat.pow_succ]
    have h1 : c.toNat * 256 ^ l.length ≤ 255 * 256 ^ l.length := Nat.mul_le_mul_right _ (by have := c.toNat_lt; omega)
    omega
theorem num_be (k v : Nat) : num (be k v) = v % 256 ^ k := by
  induction k generalizing v with
  | zero => simp [be_zero, num, Nat.mod_one]
  | succ k ih =>
    rw [be_succ, num_snoc, ih, Nat.pow_succ', Nat.mod_mul]
    have h1 : (UInt8.ofNat v).toNat = v % 256 := by simp
    rw [h1]
    omega
theorem be_num {k : Nat} {l : List UInt8} (h : l.length = k) : be k (num l) = l := by
  subst h
  induction l with
  | nil => rfl
  | cons c l ih =>
    rw [List.length_cons, num_cons, be_cons, be_add, ih]
    congr 1
    rw [Nat.mul_comm, Nat.mul_add_div (Nat.pow_pos (by decide)), Nat.div_eq_of_lt (num_lt l)]
    simp
/-! ### Numbers of Go -/
theorem wrap_u64 {n : Int} (h0 : 0 ≤ n) (h : n < 18446744073709551616) : IntKind.u64.wrap n = n := by
  simp only [IntKind.wrap, IntKind.bits, IntKind.signed, Bool.false_and, Bool.false_eq_true, if_false]
  exact Int.emod_eq_of_lt h0 h
theorem wrap_u32 {n : Int} (h0 : 0 ≤ n) (h : n < 4294967296) : IntKind.u32.wrap n = n := by
  simp only [IntKind.wrap, IntKind.bits, IntKind.signed, Bool.false_and, Bool.false_eq_true, if_false]
  exact Int.emod_eq_of_lt h0 h
theorem wrap_u8 {n : Int} (h0 : 0 ≤ n) (h : n < 256) : IntKind.u8.wrap n = n := by
  simp only [IntKind.wrap, IntKind.bits, IntKind.signed, Bool.false_and, Bool.false_eq_true, if_false]
  exact Int.emod_eq_of_lt h0 h
theorem wrap_i64 {n : Int} (h0 : -9223372036854775808 ≤ n) (h : n ≤ 9223372036854775807) : IntKind.i64.wrap n = n := by
  rw [IntKind.wrap_i64]; omega
theorem wrapN_u64 {n : Nat} (h : n < 18446744073709551616) : IntKind.u64.wrap (n : Int) = n := wrap_u64 (Int.natCast_nonneg _) (by omega)
theorem wrapN_i64 {n : Nat} (h : n < 9223372036854775808) : IntKind.i64.wrap (n : Int) = n := wrap_i64 (by omega) (by omega)
theorem wrap_u8_nat (n : Nat) : IntKind.u8.wrap (n : Int) = ((UInt8.ofNat n).toNat : Int) := by
  simp only [IntKind.wrap, IntKind.bits, IntKind.signed, Bool.false_and, Bool.false_eq_true, if_false]
  simp
theorem wrap_u64_nat (n : Nat) : IntKind.u64.wrap (n : Int) = ((n % 18446744073709551616 : Nat) : Int) := by
  simp only [IntKind.wrap, IntKind.bits, IntKind.signed, Bool.false_and, Bool.false_eq_true, if_false]
  simp
theorem pow256 (j : Nat) : 2 ^ (8 * j) = 256 ^ j := by rw [Nat.pow_mul]

theorem shr_nat (v s : Nat) : (v : Int).fdiv (2 ^ s) = ((v / 2 ^ s : Nat) : Int) := by
  rw [Int.fdiv_eq_ediv_of_nonneg _ (Int.pow_nonneg (by decide))]
  simp
theorem fill_step {l : List UInt8} {f : UInt8 → Value} {z : Value} {i : Nat} {c : UInt8} (h : l[i]? = some c) :
    ((l.take i).map f ++ List.replicate (l.length - i) z).set i (f c) = (l.take (i + 1)).map f ++ List.replicate (l.length - (i + 1)) z := by
  have hi : i < l.length := (List.getElem?_eq_some_iff.1 h).1
  have h1 : l.length - i = (l.length - (i + 1)) + 1 := by omega
  rw [List.take_add_one, h, h1, List.replicate_succ, List.set_append_right _ _ (by simp; omega)]
  simp [Nat.min_eq_left (Nat.le_of_lt hi)]
theorem or_u64_nat {a b : Nat} (ha : a < 18446744073709551616) (hb : b < 18446744073709551616) : IntKind.u64.wrap ((BitVec.ofInt 64 (a : Int) ||| BitVec.ofInt 64 (b : Int)).toNat : Int) = ((a ||| b : Nat) : Int) := by
  have h : a ||| b < 2 ^ 64 := Nat.or_lt_two_pow (by omega) (by omega)
  rw [wrap_u64_nat, BitVec.toNat_or, BitVec.ofInt_natCast, BitVec.ofInt_natCast, BitVec.toNat_ofNat, BitVec.toNat_ofNat, Nat.mod_eq_of_lt (show a < 2 ^ 64 by omega), Nat.mod_eq_of_lt (show b < 2 ^ 64 by omega), Nat.mod_eq_of_lt (by omega)]
theorem mul256_or {a : Nat} (c : UInt8) : a * 256 ||| c.toNat = a * 256 + c.toNat := by
  have := Nat.two_pow_add_eq_or_of_lt (i := 8) (b := c.toNat) (by have := c.toNat_lt; omega) a
  rw [Nat.mul_comm a 256]; exact this.symm

theorem fill_back {l : List UInt8} {f : UInt8 → Value} {z : Value} {j : Nat} {c : UInt8} (hj : j < l.length) (h : l[l.length - 1 - j]? = some c) :
    (List.replicate (l.length - j) z ++ (l.drop (l.length - j)).map f).set (l.length - 1 - j) (f c) = List.replicate (l.length - (j + 1)) z ++ (l.drop (l.length - (j + 1))).map f := by
  have h1 : l.length - j = (l.length - (j + 1)) + 1 := by omega
  have h2 : l.length - 1 - j = l.length - (j + 1) := by omega
  rw [h2] at h ⊢
  have hlt : l.length - (j + 1) < l.length := by omega
  have h3 : l.drop (l.length - (j + 1)) = c :: l.drop (l.length - j) := by
    rw [List.drop_eq_getElem_cons hlt, ← h1]
    congr 1
    rw [List.getElem?_eq_getElem hlt] at h
    injection h
  rw [h3, h1, List.replicate_succ', List.append_assoc, List.set_append_right _ _ (by simp)]
  simp
theorem tmod_lit (a : Nat) {k : Int} (hk : 0 < k) : (a : Int).tmod k = ((a % k.toNat : Nat) : Int) := by
  rw [Int.tmod_eq_emod_of_nonneg (by omega), Int.natCast_emod, Int.toNat_of_nonneg (by omega)]
theorem tdiv_lit (a : Nat) {k : Int} (hk : 0 < k) : (a : Int).tdiv k = ((a / k.toNat : Nat) : Int) := by
  rw [Int.tdiv_eq_ediv_of_nonneg (by omega), Int.natCast_ediv, Int.toNat_of_nonneg (by omega)]
theorem ofNat_mod (a : Nat) : UInt8.ofNat (a % 256) = UInt8.ofNat a := by
  apply UInt8.toNat_inj.1; simp

theorem flatten_take_succ {ps : List (List UInt8)} {i : Nat} {l : List UInt8} (h : ps[i]? = some l) : (ps.take (i + 1)).flatten = (ps.take i).flatten ++ l := by
  rw [List.take_add_one, h]; simp
theorem flatten_take_le (ps : List (List UInt8)) (i : Nat) : (ps.take i).flatten.length ≤ ps.flatten.length := by
  have h : ps.flatten = (ps.take i).flatten ++ (ps.drop i).flatten := by rw [← List.flatten_append, List.take_append_drop]
  rw [h, List.length_append]; omega
theorem copy_step {ps : List (List UInt8)} {i S : Nat} {l : List UInt8} {f : UInt8 → Value} {z : Value} (h : ps[i]? = some l) (hS : (ps.take i).flatten.length + l.length ≤ S) {o : Nat} (ho : o = if S = (ps.take i).flatten.length then 0 else (ps.take i).flatten.length) :
    ((ps.take i).flatten.map f ++ List.replicate (S - (ps.take i).flatten.length) z).take o ++ l.map f ++ ((ps.take i).flatten.map f ++ List.replicate (S - (ps.take i).flatten.length) z).drop (o + l.length) =
      (ps.take (i + 1)).flatten.map f ++ List.replicate (S - (ps.take (i + 1)).flatten.length) z := by
  rw [flatten_take_succ h]
  generalize (ps.take i).flatten = q at *
  subst ho
  by_cases hq : S = q.length
  · have hl : l = [] := List.eq_nil_of_length_eq_zero (by omega)
    subst hl
    simp
  · rw [if_neg hq]
    rw [List.take_append_of_le_length (by simp), List.take_of_length_le (by simp), List.drop_append, List.drop_eq_nil_of_le (by simp)]
    simp only [List.map_append, List.nil_append, List.length_map, List.drop_replicate, List.length_append]
    congr 2
    omega

/-! ### Rotations -/
def rotB (v : Nat) (s : Nat) : Nat := ((BitVec.ofNat 32 v).rotateLeft s).toNat
def nb (l : List Nat) : Nat := l.foldl (fun v b => 2 * v + b) 0
/-! ### Exclusive or -/
end Go.Proofs.Ytbmpjeheaemgmaa
