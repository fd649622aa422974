/-
  Plain mathematics of package words: the bytes of a number, rotations, exclusive or. No program stands here.
-/
import Derived.WalkKit
namespace Go.Proofs.Ytdnblilocdddpaa
open Go Go.RowKit

/-- The k lowest bytes of v, the most significant one first. -/
def be (k v : Nat) : List UInt8 := (List.range k).map fun i => UInt8.ofNat (v / 256 ^ (k - 1 - i))
theorem be_length (k v : Nat) : (be k v).length = k := by simp [be]
theorem be_get {k v i : Nat} (h : i < k) : (be k v)[i]? = some (UInt8.ofNat (v / 256 ^ (k - 1 - i))) := by simp [be, h]
theorem be_succ (k v : Nat) : be (k + 1) v = be k (v / 256) ++ [UInt8.ofNat v] := by
  unfold be
  rw [List.range_succ, List.map_append]
  congr 1
  · apply List.map_congr_left
    intro i hi
    have hi : i < k := List.mem_range.1 hi
    rw [Nat.div_div_eq_div_mul, ← Nat.pow_succ']
    congr 3; omega
  · simp
theorem be_cons (k v : Nat) : be (k + 1) v = UInt8.ofNat (v / 256 ^ k) :: be k v := by
  unfold be
  rw [List.range_succ_eq_map, List.map_cons, List.map_map]
  congr 1
  apply List.map_congr_left
  intro i _
  simp only [Function.comp_def]
  congr 3; omega
theorem be_zero (v : Nat) : be 0 v = [] := rfl
theorem ofNat_add_mul (x y : Nat) : UInt8.ofNat (256 * y + x) = UInt8.ofNat x := by
  apply UInt8.toNat_inj.1
  simp
theorem be_add (k a v : Nat) : be k (a * 256 ^ k + v) = be k v := by
  unfold be
  apply List.map_congr_left
  intro i hi
  have hi : i < k := List.mem_range.1 hi
  have h1 : a * 256 ^ k = a * 256 ^ i * 256 * 256 ^ (k - 1 - i) := by
    rw [Nat.mul_assoc (a * 256 ^ i), ← Nat.pow_succ', Nat.mul_assoc, ← Nat.pow_add]
    congr 2; omega
  rw [h1, Nat.mul_comm _ (256 ^ (k - 1 - i)), Nat.mul_add_div (Nat.pow_pos (by decide)), Nat.mul_comm _ 256]
  exact ofNat_add_mul _ _
theorem be_mod (k v : Nat) : be k (v % 256 ^ k) = be k v := by
  conv => rhs; rw [← Nat.div_add_mod v (256 ^ k), Nat.mul_comm, be_add]
theorem be_append (j k v : Nat) : be (j + k) v = be j (v / 256 ^ k) ++ be k v := by
  induction k generalizing v with
  | zero => simp [be_zero]
  | succ k ih =>
    rw [← Nat.add_assoc, be_succ, ih, be_succ k v, Nat.div_div_eq_div_mul, ← Nat.pow_succ', List.append_assoc]
/-- The number of a list of bytes. -/
def num (l : List UInt8) : Nat := l.foldl (fun v c => v * 256 + c.toNat) 0
theorem num_snoc (l : List UInt8) (c : UInt8) : num (l ++ [c]) = num l * 256 + c.toNat := by simp [num]
theorem num_from (l : List UInt8) : ∀ a : Nat, l.foldl (fun v c => v * 256 + c.toNat) a = a * 256 ^ l.length + num l := by
  induction l with
  | nil => intro a; simp [num]
  | cons c l ih =>
    intro a
    have h1 : num (c :: l) = c.toNat * 256 ^ l.length + num l := by
      show l.foldl _ (0 * 256 + c.toNat) = _
      rw [ih]; simp
    rw [List.foldl_cons, ih, h1, List.length_cons, Nat.pow_succ, Nat.add_mul, Nat.mul_comm (256 ^ l.length) 256, Nat.mul_assoc, Nat.add_assoc]
theorem num_cons (c : UInt8) (l : List UInt8) : num (c :: l) = c.toNat * 256 ^ l.length + num l := by
  show l.foldl _ (0 * 256 + c.toNat) = _
  rw [num_from]; simp
theorem num_lt (l : List UInt8) : num l < 256 ^ l.length := by
  induction l with
  | nil => simp [num]
  | cons c l ih =>
    rw [num_cons, List.length_cons, Nat.pow_succ]
    have h1 : c.toNat * 256 ^ l.length ≤ 255 * 256 ^ l.length := Nat.mul_le_mul_right _ (by have := c.toNat_lt; omega)
    omega
theorem num_be (k v : Nat) : num (be k v) = v % 256 ^ k := by
  induction k generalizing v with
  | zero => simp [be_zero, num, Nat.mod_one]
  | succ k ih =>
    rw [be_succ, num_snoc, ih, Nat.pow_succ', Nat.mod_mul]
    have h1 : (UInt8.ofNat v).toNat = v % 256 := by simp
    rw [h1]
    omega
theorem be_num {k : Nat} {l : List UInt8} (h : l.length = k) : be k (num l) = l := by
  subst h
  induction l with
  | nil => rfl
  | cons c l ih =>
    rw [List.length_cons, num_cons, be_cons, be_add, ih]
    congr 1
    rw [Nat.mul_comm, Nat.mul_add_div (Nat.pow_pos (by decide)), Nat.div_eq_of_lt (num_lt l)]
    simp
theorem be_inj {k v w : Nat} (hv : v < 256 ^ k) (hw : w < 256 ^ k) (h : be k v = be k w) : v = w := by
  have h1 := num_be k v
  rw [h, num_be, Nat.mod_eq_of_lt hv, Nat.mod_eq_of_lt hw] at h1
  exact h1.symm
theorem be_beq {k v w : Nat} (hv : v < 256 ^ k) (hw : w < 256 ^ k) : (be k v == be k w) = decide (v = w) := by
  by_cases h : v = w
  · subst h; simp
  · have : be k v ≠ be k w := fun he => h (be_inj hv hw he)
    simp [h, this]
theorem be_less {k v w : Nat} (hv : v < 256 ^ k) (hw : w < 256 ^ k) : Op.bytesLess (be k v) (be k w) = decide (v < w) := by
  induction k generalizing v w with
  | zero =>
    simp at hv hw
    subst hv; subst hw; simp [be_zero, Op.bytesLess]
  | succ k ih =>
    have hp : 0 < 256 ^ k := Nat.pow_pos (by decide)
    have hv' : v / 256 ^ k < 256 := by rw [Nat.div_lt_iff_lt_mul hp, ← Nat.pow_succ']; exact hv
    have hw' : w / 256 ^ k < 256 := by rw [Nat.div_lt_iff_lt_mul hp, ← Nat.pow_succ']; exact hw
    have ih' := ih (Nat.mod_lt v hp) (Nat.mod_lt w hp)
    rw [be_mod, be_mod] at ih'
    rw [be_cons, be_cons, Op.bytesLess, ih']
    have e1 : (UInt8.ofNat (v / 256 ^ k) < UInt8.ofNat (w / 256 ^ k)) ↔ v / 256 ^ k < w / 256 ^ k := by
      rw [UInt8.lt_iff_toNat_lt]; simp [Nat.mod_eq_of_lt hv', Nat.mod_eq_of_lt hw']
    have e2 : (UInt8.ofNat (v / 256 ^ k) = UInt8.ofNat (w / 256 ^ k)) ↔ v / 256 ^ k = w / 256 ^ k := by
      rw [← UInt8.toNat_inj]; simp [Nat.mod_eq_of_lt hv', Nat.mod_eq_of_lt hw']
    have d1 := Nat.div_add_mod v (256 ^ k)
    have d2 := Nat.div_add_mod w (256 ^ k)
    have m1 := Nat.mod_lt v hp
    have m2 := Nat.mod_lt w hp
    rw [Bool.eq_iff_iff]
    simp only [Bool.or_eq_true, Bool.and_eq_true, decide_eq_true_eq, beq_iff_eq, e1, e2]
    constructor
    · rintro (h | ⟨h, h'⟩)
      · exact Nat.lt_of_not_le fun hle => absurd (Nat.div_le_div_right (c := 256 ^ k) hle) (by omega)
      · rw [← d1, ← d2, h]; omega
    · intro h
      rcases Nat.lt_or_ge (v / 256 ^ k) (w / 256 ^ k) with h1 | h1
      · exact .inl h1
      · have h2 : w / 256 ^ k = v / 256 ^ k := Nat.le_antisymm h1 (Nat.div_le_div_right (Nat.le_of_lt h))
        refine .inr ⟨h2.symm, ?_⟩
        rw [h2] at d2; omega

/-! ### Numbers of Go -/
theorem wrap_u64 {n : Int} (h0 : 0 ≤ n) (h : n < 18446744073709551616) : IntKind.u64.wrap n = n := by
  simp only [IntKind.wrap, IntKind.bits, IntKind.signed, Bool.false_and, Bool.false_eq_true, if_false]
  exact Int.emod_eq_of_lt h0 h
theorem wrap_u32 {n : Int} (h0 : 0 ≤ n) (h : n < 4294967296) : IntKind.u32.wrap n = n := by
  simp only [IntKind.wrap, IntKind.bits, IntKind.signed, Bool.false_and, Bool.false_eq_true, if_false]
  exact Int.emod_eq_of_lt h0 h
theorem wrap_u8 {n : Int} (h0 : 0 ≤ n) (h : n < 256) : IntKind.u8.wrap n = n := by
  simp only [IntKind.wrap, IntKind.bits, IntKind.signed, Bool.false_and, Bool.false_eq_true, if_false]
  exact Int.emod_eq_of_lt h0 h
theorem wrap_i64 {n : Int} (h0 : -9223372036854775808 ≤ n) (h : n ≤ 9223372036854775807) : IntKind.i64.wrap n = n := by
  rw [IntKind.wrap_i64]; omega
theorem wrapN_u64 {n : Nat} (h : n < 18446744073709551616) : IntKind.u64.wrap (n : Int) = n := wrap_u64 (Int.natCast_nonneg _) (by omega)
theorem wrapN_u32 {n : Nat} (h : n < 4294967296) : IntKind.u32.wrap (n : Int) = n := wrap_u32 (Int.natCast_nonneg _) (by omega)
theorem wrapN_i64 {n : Nat} (h : n < 9223372036854775808) : IntKind.i64.wrap (n : Int) = n := wrap_i64 (by omega) (by omega)
theorem wrap_u8_nat (n : Nat) : IntKind.u8.wrap (n : Int) = ((UInt8.ofNat n).toNat : Int) := by
  simp only [IntKind.wrap, IntKind.bits, IntKind.signed, Bool.false_and, Bool.false_eq_true, if_false]
  simp
theorem wrap_u32_nat (n : Nat) : IntKind.u32.wrap (n : Int) = ((n % 4294967296 : Nat) : Int) := by
  simp only [IntKind.wrap, IntKind.bits, IntKind.signed, Bool.false_and, Bool.false_eq_true, if_false]
  simp
theorem wrap_u64_nat (n : Nat) : IntKind.u64.wrap (n : Int) = ((n % 18446744073709551616 : Nat) : Int) := by
  simp only [IntKind.wrap, IntKind.bits, IntKind.signed, Bool.false_and, Bool.false_eq_true, if_false]
  simp
theorem pow256 (j : Nat) : 2 ^ (8 * j) = 256 ^ j := by rw [Nat.pow_mul]

theorem shr_nat (v s : Nat) : (v : Int).fdiv (2 ^ s) = ((v / 2 ^ s : Nat) : Int) := by
  rw [Int.fdiv_eq_ediv_of_nonneg _ (Int.pow_nonneg (by decide))]
  simp
theorem fill_step {l : List UInt8} {f : UInt8 → Value} {z : Value} {i : Nat} {c : UInt8} (h : l[i]? = some c) :
    ((l.take i).map f ++ List.replicate (l.length - i) z).set i (f c) = (l.take (i + 1)).map f ++ List.replicate (l.length - (i + 1)) z := by
  have hi : i < l.length := (List.getElem?_eq_some_iff.1 h).1
  have h1 : l.length - i = (l.length - (i + 1)) + 1 := by omega
  rw [List.take_add_one, h, h1, List.replicate_succ, List.set_append_right _ _ (by simp; omega)]
  simp [Nat.min_eq_left (Nat.le_of_lt hi)]
theorem or_u64_nat {a b : Nat} (ha : a < 18446744073709551616) (hb : b < 18446744073709551616) : IntKind.u64.wrap ((BitVec.ofInt 64 (a : Int) ||| BitVec.ofInt 64 (b : Int)).toNat : Int) = ((a ||| b : Nat) : Int) := by
  have h : a ||| b < 2 ^ 64 := Nat.or_lt_two_pow (by omega) (by omega)
  rw [wrap_u64_nat, BitVec.toNat_or, BitVec.ofInt_natCast, BitVec.ofInt_natCast, BitVec.toNat_ofNat, BitVec.toNat_ofNat, Nat.mod_eq_of_lt (show a < 2 ^ 64 by omega), Nat.mod_eq_of_lt (show b < 2 ^ 64 by omega), Nat.mod_eq_of_lt (by omega)]
theorem or_u32_nat {a b : Nat} (ha : a < 4294967296) (hb : b < 4294967296) : IntKind.u32.wrap ((BitVec.ofInt 32 (a : Int) ||| BitVec.ofInt 32 (b : Int)).toNat : Int) = ((a ||| b : Nat) : Int) := by
  have h : a ||| b < 2 ^ 32 := Nat.or_lt_two_pow (by omega) (by omega)
  rw [wrap_u32_nat, BitVec.toNat_or, BitVec.ofInt_natCast, BitVec.ofInt_natCast, BitVec.toNat_ofNat, BitVec.toNat_ofNat, Nat.mod_eq_of_lt (show a < 2 ^ 32 by omega), Nat.mod_eq_of_lt (show b < 2 ^ 32 by omega), Nat.mod_eq_of_lt (by omega)]
theorem xor_u8_nat (a b : UInt8) : IntKind.u8.wrap ((BitVec.ofInt 8 (a.toNat : Int) ^^^ BitVec.ofInt 8 (b.toNat : Int)).toNat : Int) = ((a ^^^ b).toNat : Int) := by
  have ha := a.toNat_lt
  have hb := b.toNat_lt
  rw [wrap_u8_nat, BitVec.toNat_xor, BitVec.ofInt_natCast, BitVec.ofInt_natCast, BitVec.toNat_ofNat, BitVec.toNat_ofNat, Nat.mod_eq_of_lt (show a.toNat < 2 ^ 8 by omega), Nat.mod_eq_of_lt (show b.toNat < 2 ^ 8 by omega), ← UInt8.toNat_xor, UInt8.ofNat_toNat]
theorem mul256_or {a : Nat} (c : UInt8) : a * 256 ||| c.toNat = a * 256 + c.toNat := by
  have := Nat.two_pow_add_eq_or_of_lt (i := 8) (b := c.toNat) (by have := c.toNat_lt; omega) a
  rw [Nat.mul_comm a 256]; exact this.symm

theorem fill_back {l : List UInt8} {f : UInt8 → Value} {z : Value} {j : Nat} {c : UInt8} (hj : j < l.length) (h : l[l.length - 1 - j]? = some c) :
    (List.replicate (l.length - j) z ++ (l.drop (l.length - j)).map f).set (l.length - 1 - j) (f c) = List.replicate (l.length - (j + 1)) z ++ (l.drop (l.length - (j + 1))).map f := by
  have h1 : l.length - j = (l.length - (j + 1)) + 1 := by omega
  have h2 : l.length - 1 - j = l.length - (j + 1) := by omega
  rw [h2] at h ⊢
  have hlt : l.length - (j + 1) < l.length := by omega
  have h3 : l.drop (l.length - (j + 1)) = c :: l.drop (l.length - j) := by
    rw [List.drop_eq_getElem_cons hlt, ← h1]
    congr 1
    rw [List.getElem?_eq_getElem hlt] at h
    injection h
  rw [h3, h1, List.replicate_succ', List.append_assoc, List.set_append_right _ _ (by simp)]
  simp
theorem tmod_lit (a : Nat) {k : Int} (hk : 0 < k) : (a : Int).tmod k = ((a % k.toNat : Nat) : Int) := by
  rw [Int.tmod_eq_emod_of_nonneg (by omega), Int.natCast_emod, Int.toNat_of_nonneg (by omega)]
theorem tdiv_lit (a : Nat) {k : Int} (hk : 0 < k) : (a : Int).tdiv k = ((a / k.toNat : Nat) : Int) := by
  rw [Int.tdiv_eq_ediv_of_nonneg (by omega), Int.natCast_ediv, Int.toNat_of_nonneg (by omega)]
theorem ofNat_mod (a : Nat) : UInt8.ofNat (a % 256) = UInt8.ofNat a := by
  apply UInt8.toNat_inj.1; simp

theorem flatten_take_succ {ps : List (List UInt8)} {i : Nat} {l : List UInt8} (h : ps[i]? = some l) : (ps.take (i + 1)).flatten = (ps.take i).flatten ++ l := by
  rw [List.take_add_one, h]; simp
theorem flatten_take_le (ps : List (List UInt8)) (i : Nat) : (ps.take i).flatten.length ≤ ps.flatten.length := by
  have h : ps.flatten = (ps.take i).flatten ++ (ps.drop i).flatten := by rw [← List.flatten_append, List.take_append_drop]
  rw [h, List.length_append]; omega
theorem copy_step {ps : List (List UInt8)} {i S : Nat} {l : List UInt8} {f : UInt8 → Value} {z : Value} (h : ps[i]? = some l) (hS : (ps.take i).flatten.length + l.length ≤ S) {o : Nat} (ho : o = if S = (ps.take i).flatten.length then 0 else (ps.take i).flatten.length) :
    ((ps.take i).flatten.map f ++ List.replicate (S - (ps.take i).flatten.length) z).take o ++ l.map f ++ ((ps.take i).flatten.map f ++ List.replicate (S - (ps.take i).flatten.length) z).drop (o + l.length) =
      (ps.take (i + 1)).flatten.map f ++ List.replicate (S - (ps.take (i + 1)).flatten.length) z := by
  rw [flatten_take_succ h]
  generalize (ps.take i).flatten = q at *
  subst ho
  by_cases hq : S = q.length
  · have hl : l = [] := List.eq_nil_of_length_eq_zero (by omega)
    subst hl
    simp
  · rw [if_neg hq]
    rw [List.take_append_of_le_length (by simp), List.take_of_length_le (by simp), List.drop_append, List.drop_eq_nil_of_le (by simp)]
    simp only [List.map_append, List.nil_append, List.length_map, List.drop_replicate, List.length_append]
    congr 2
    omega

/-! ### Rotations -/
def rotB (v : Nat) (s : Nat) : Nat := ((BitVec.ofNat 32 v).rotateLeft s).toNat
theorem rotB_lt (v s : Nat) : rotB v s < 4294967296 := ((BitVec.ofNat 32 v).rotateLeft s).isLt
theorem rotB_mod (v s : Nat) : rotB v (s % 32) = rotB v s := by unfold rotB; rw [BitVec.rotateLeft_mod_eq_rotateLeft]
theorem rotB_zero {v : Nat} (h : v < 4294967296) : rotB v 0 = v := by
  unfold rotB
  have : (BitVec.ofNat 32 v).rotateLeft 0 = BitVec.ofNat 32 v := by
    apply BitVec.eq_of_getLsbD_eq
    intro i hi
    simp [hi]
  rw [this]
  simp; omega
theorem rotB_rotB (v s t : Nat) : rotB (rotB v s) t = rotB v (s + t) := by
  unfold rotB
  congr 1
  rw [BitVec.ofNat_toNat, BitVec.setWidth_eq]
  apply BitVec.eq_of_getLsbD_eq
  intro i hi
  simp only [BitVec.getLsbD_rotateLeft]
  have hs := Nat.mod_lt s (show 0 < 32 by decide)
  have ht := Nat.mod_lt t (show 0 < 32 by decide)
  have hst : (s + t) % 32 = if s % 32 + t % 32 < 32 then s % 32 + t % 32 else s % 32 + t % 32 - 32 := by split <;> omega
  rw [hst]
  generalize s % 32 = a at *
  generalize t % 32 = b at *
  by_cases h1 : i < b <;> by_cases h2 : a + b < 32 <;> by_cases h3 : i < a + b <;> by_cases h4 : i < a + b - 32 <;> by_cases h5 : 32 - b + i < a <;> by_cases h6 : i - b < a <;>
    simp [h1, h2, h3, h4, h5, h6, hi] <;> (try omega) <;> (try rw [decide_eq_true (by omega), Bool.true_and]) <;> (try (congr 1; omega))
theorem rotB_eq {v s : Nat} (hv : v < 4294967296) (hs : s < 32) : rotB v s = (v % 2 ^ (32 - s)) * 2 ^ s + v / 2 ^ (32 - s) := by
  unfold rotB
  rw [BitVec.rotateLeft, Nat.mod_eq_of_lt hs]
  simp only [BitVec.rotateLeftAux, BitVec.toNat_or, BitVec.toNat_shiftLeft, BitVec.toNat_ushiftRight, BitVec.toNat_ofNat]
  rw [Nat.mod_eq_of_lt (show v < 2 ^ 32 from hv), Nat.shiftLeft_eq, Nat.shiftRight_eq_div_pow]
  have h1 : v * 2 ^ s % 2 ^ 32 = 2 ^ s * (v % 2 ^ (32 - s)) := by
    have : 2 ^ 32 = 2 ^ s * 2 ^ (32 - s) := by rw [← Nat.pow_add]; congr 1; omega
    rw [this, Nat.mul_comm v, Nat.mul_mod_mul_left]
  rw [h1, ← Nat.two_pow_add_eq_or_of_lt, Nat.mul_comm]
  rw [Nat.div_lt_iff_lt_mul (Nat.pow_pos (by decide)), ← Nat.pow_add, show s + (32 - s) = 32 from by omega]
  exact hv
/-- The 32 bits of a number, the most significant one first. -/
def bits32 (v : Nat) : List Nat := (List.range 32).map fun j => v / 2 ^ (31 - j) % 2
def nb (l : List Nat) : Nat := l.foldl (fun v b => 2 * v + b) 0
theorem nb_from (l : List Nat) : ∀ a : Nat, l.foldl (fun v b => 2 * v + b) a = a * 2 ^ l.length + nb l := by
  induction l with
  | nil => intro a; simp [nb]
  | cons c l ih =>
    intro a
    have h1 : nb (c :: l) = c * 2 ^ l.length + nb l := by
      show l.foldl _ (2 * 0 + c) = _
      rw [ih]; simp
    rw [List.foldl_cons, ih, h1, List.length_cons, Nat.pow_succ, Nat.add_mul, Nat.mul_comm (2 ^ l.length) 2, ← Nat.mul_assoc, Nat.mul_comm a 2, Nat.add_assoc]
theorem nb_append (a b : List Nat) : nb (a ++ b) = nb a * 2 ^ b.length + nb b := by
  show (a ++ b).foldl _ 0 = _
  rw [List.foldl_append, nb_from]; rfl
theorem nb_take (v : Nat) (hv : v < 4294967296) : ∀ k, k ≤ 32 → nb ((bits32 v).take k) = v / 2 ^ (32 - k) := by
  intro k
  induction k with
  | zero => intro _; simp [nb]; omega
  | succ k ih =>
    intro hk
    have h1 : (bits32 v).take (k + 1) = (bits32 v).take k ++ [v / 2 ^ (31 - k) % 2] := by
      rw [List.take_add_one]
      congr 1
      simp [bits32, show k < 32 from by omega]
    rw [h1, nb_append, ih (by omega)]
    have h2 : nb [v / 2 ^ (31 - k) % 2] = v / 2 ^ (31 - k) % 2 := by simp [nb]
    rw [h2]
    have h3 : 2 ^ (32 - k) = 2 ^ (31 - k) * 2 := by rw [← Nat.pow_succ]; congr 1; omega
    rw [h3, ← Nat.div_div_eq_div_mul, show 32 - (k + 1) = 31 - k from by omega]
    simp only [List.length_cons, List.length_nil]
    omega
theorem nb_drop (v : Nat) (hv : v < 4294967296) (k : Nat) (hk : k ≤ 32) : nb ((bits32 v).drop k) = v % 2 ^ (32 - k) := by
  have h1 := nb_append ((bits32 v).take k) ((bits32 v).drop k)
  rw [List.take_append_drop, nb_take v hv k hk] at h1
  have h2 := nb_take v hv 32 (Nat.le_refl _)
  rw [List.take_of_length_le (by simp [bits32])] at h2
  rw [h2] at h1
  have h3 : ((bits32 v).drop k).length = 32 - k := by simp [bits32]
  rw [h3] at h1
  have h4 := Nat.div_add_mod v (2 ^ (32 - k))
  rw [Nat.mul_comm] at h4
  simp only [Nat.sub_self, Nat.pow_zero, Nat.div_one] at h1
  omega
theorem nb_rot {v k : Nat} (hv : v < 4294967296) (hk : k < 32) : nb ((bits32 v).drop k ++ (bits32 v).take k) = rotB v k := by
  rw [nb_append, nb_drop v hv k (by omega), nb_take v hv k (by omega), rotB_eq hv hk]
  have h1 : ((bits32 v).take k).length = k := by simp [bits32]; omega
  rw [h1]

theorem bits32_get {v j : Nat} (h : j < 32) : (bits32 v)[j]? = some (v / 2 ^ (31 - j) % 2) := by simp [bits32, h]
theorem bits32_length (v : Nat) : (bits32 v).length = 32 := by simp [bits32]
theorem nb_snoc (l : List Nat) (b : Nat) : nb (l ++ [b]) = 2 * nb l + b := by simp [nb]
theorem nb_lt {l : List Nat} (h : ∀ b ∈ l, b ≤ 1) : nb l < 2 ^ l.length := by
  induction l with
  | nil => simp [nb]
  | cons b l ih =>
    have h1 := nb_append [b] l
    have h2 : nb [b] = b := by simp [nb]
    rw [List.singleton_append, h2] at h1
    have h3 := ih fun c hc => h c (List.mem_cons_of_mem _ hc)
    have h4 : b * 2 ^ l.length ≤ 1 * 2 ^ l.length := Nat.mul_le_mul_right _ (h b List.mem_cons_self)
    rw [h1, List.length_cons, Nat.pow_succ]; omega
theorem bits32_le (v : Nat) : ∀ b ∈ bits32 v, b ≤ 1 := fun b hb => by
  simp only [bits32, List.mem_map] at hb
  obtain ⟨j, _, rfl⟩ := hb
  omega
theorem and31 (a : Nat) : a &&& 31 = a % 32 := Nat.and_two_pow_sub_one_eq_mod a 5
theorem and_u64_nat {a b : Nat} (ha : a < 18446744073709551616) (hb : b < 18446744073709551616) : IntKind.u64.wrap ((BitVec.ofInt 64 (a : Int) &&& BitVec.ofInt 64 (b : Int)).toNat : Int) = ((a &&& b : Nat) : Int) := by
  have h : a &&& b < 2 ^ 64 := Nat.and_lt_two_pow _ (by omega)
  rw [wrap_u64_nat, BitVec.toNat_and, BitVec.ofInt_natCast, BitVec.ofInt_natCast, BitVec.toNat_ofNat, BitVec.toNat_ofNat, Nat.mod_eq_of_lt (show a < 2 ^ 64 by omega), Nat.mod_eq_of_lt (show b < 2 ^ 64 by omega), Nat.mod_eq_of_lt (by omega)]
theorem wrap_u64_int (n : Int) : IntKind.u64.wrap n = n % 18446744073709551616 := by
  simp only [IntKind.wrap, IntKind.bits, IntKind.signed, Bool.false_and, Bool.false_eq_true, if_false]
  rfl
theorem rotB_go {v s : Nat} (hv : v < 4294967296) (hs : s < 32) : (v * 2 ^ s % 4294967296) ||| (v / 2 ^ (32 - s)) = rotB v s := by
  unfold rotB
  rw [BitVec.rotateLeft, Nat.mod_eq_of_lt hs]
  simp only [BitVec.rotateLeftAux, BitVec.toNat_or, BitVec.toNat_shiftLeft, BitVec.toNat_ushiftRight, BitVec.toNat_ofNat]
  rw [Nat.mod_eq_of_lt (show v < 2 ^ 32 from hv), Nat.shiftLeft_eq, Nat.shiftRight_eq_div_pow]

/-! ### Exclusive or -/
theorem xor_step (x y : Nat) : x ^^^ y = 2 * ((x / 2) ^^^ (y / 2)) + (x + y) % 2 := by
  have h1 := Nat.div_add_mod (x ^^^ y) 2
  have h2 : (x ^^^ y) % 2 = (x + y) % 2 := by
    have h3 := Nat.xor_mod_two_pow (a := x) (b := y) (n := 1)
    rw [Nat.pow_one] at h3
    rw [h3]
    rcases Nat.mod_two_eq_zero_or_one x with hx | hx <;> rcases Nat.mod_two_eq_zero_or_one y with hy | hy <;> rw [hx, hy, Nat.add_mod, hx, hy] <;> rfl
  rw [Nat.xor_div_two, h2] at h1
  exact h1.symm
def xors (a b : List UInt8) : List UInt8 := List.zipWith (· ^^^ ·) a b
theorem xors_length {a b : List UInt8} (h : a.length = b.length) : (xors a b).length = a.length := by simp [xors, h]
theorem xors_get {a b : List UInt8} {i : Nat} (ha : i < a.length) (hb : i < b.length) : (xors a b)[i]? = some (a[i] ^^^ b[i]) := by
  unfold xors
  rw [List.getElem?_eq_getElem (by rw [List.length_zipWith]; omega), List.getElem_zipWith]
theorem pow_half {j : Nat} (h : j < 8) : 128 / 2 ^ j = 2 ^ (7 - j) := by
  have h1 : 128 = 2 ^ j * 2 ^ (7 - j) := by rw [← Nat.pow_add, show j + (7 - j) = 7 from by omega]
  rw [h1, Nat.mul_div_cancel_left _ (Nat.pow_pos (by decide))]
theorem xor_next (x y : Nat) {j : Nat} (h : j < 8) : 2 * ((x / 2 ^ (8 - j)) ^^^ (y / 2 ^ (8 - j))) + (x / 2 ^ (7 - j) + y / 2 ^ (7 - j)) % 2 = (x / 2 ^ (8 - (j + 1))) ^^^ (y / 2 ^ (8 - (j + 1))) := by
  have h1 := xor_step (x / 2 ^ (7 - j)) (y / 2 ^ (7 - j))
  have h2 : 2 ^ (7 - j) * 2 = 2 ^ (8 - j) := by rw [← Nat.pow_succ]; congr 1; omega
  rw [Nat.div_div_eq_div_mul, Nat.div_div_eq_div_mul, h2] at h1
  rw [show 8 - (j + 1) = 7 - j from by omega, h1]
theorem xor_lt256 {x y : Nat} (j : Nat) (hx : x < 256) (hy : y < 256) : (x / 2 ^ j) ^^^ (y / 2 ^ j) < 256 :=
  Nat.xor_lt_two_pow (n := 8) (Nat.lt_of_le_of_lt (Nat.div_le_self _ _) hx) (Nat.lt_of_le_of_lt (Nat.div_le_self _ _) hy)
theorem xor_byte (a b : UInt8) : UInt8.ofNat (a.toNat ^^^ b.toNat) = a ^^^ b := by
  rw [← UInt8.toNat_xor, UInt8.ofNat_toNat]
theorem xors_comm (a b : List UInt8) : xors a b = xors b a := by
  unfold xors
  rw [List.zipWith_comm]
  congr 1
  funext x y
  exact UInt8.xor_comm _ _
theorem xors_self {a b : List UInt8} (h : a.length = b.length) : xors a (xors a b) = b := by
  apply List.ext_getElem?
  intro i
  simp only [xors, List.getElem?_zipWith]
  rcases Nat.lt_or_ge i a.length with hi | hi
  · have hb : i < b.length := by omega
    simp only [List.getElem?_eq_getElem hi, List.getElem?_eq_getElem hb]
    rw [← UInt8.xor_assoc, UInt8.xor_self, UInt8.zero_xor]
  · rw [List.getElem?_eq_none hi, List.getElem?_eq_none (by omega)]
theorem xors_append {a b c d : List UInt8} (h : a.length = b.length) : xors (a ++ c) (b ++ d) = xors a b ++ xors c d := by
  unfold xors; rw [List.zipWith_append h]
theorem xors_same (c : List UInt8) : xors c c = List.replicate c.length 0 := by
  apply List.ext_getElem?
  intro i
  simp only [xors, List.getElem?_zipWith]
  rcases Nat.lt_or_ge i c.length with hi | hi
  · simp [hi]
  · rw [List.getElem?_eq_none hi, List.getElem?_eq_none (by simpa using hi)]
end Go.Proofs.Ytdnblilocdddpaa
