/-
  OWN WORDS: the field with 256 elements as plain mathematics: products as sums of shifted terms, powers, inverses, substitutes, and the definition by lists of coefficients. No program stands here.
-/
import Derived.Test.YthggljahgnjcbaaNum
namespace Go.Proofs.Ythggljahgnjcbaa
open Go Go.RowKit
set_option maxRecDepth 100000

/-- c where t holds, else 0. -/
def mask (t : Bool) (c : Nat) : Nat := bif t then c else 0
theorem mask_xor (s t : Bool) (c : Nat) : mask (s ^^ t) c = mask s c ^^^ mask t c := by cases s <;> cases t <;> simp [mask]
theorem mask_xor2 (t : Bool) (c d : Nat) : mask t (c ^^^ d) = mask t c ^^^ mask t d := by cases t <;> simp [mask]
theorem xor4 (a b c d : Nat) : (a ^^^ b) ^^^ (c ^^^ d) = (a ^^^ c) ^^^ (b ^^^ d) := by
  rw [Nat.xor_assoc, ← Nat.xor_assoc b, Nat.xor_comm b c, Nat.xor_assoc, Nat.xor_assoc]

/-- A map that keeps sums. -/
def Lin (f : Nat → Nat) : Prop := ∀ x y, f (x ^^^ y) = f x ^^^ f y
theorem Lin.zero {f : Nat → Nat} (h : Lin f) : f 0 = 0 := by
  have := h 0 0
  rwa [Nat.xor_self, Nat.xor_self] at this
theorem Lin.mask {f : Nat → Nat} (h : Lin f) (t : Bool) (c : Nat) : f (mask t c) = Ythggljahgnjcbaa.mask t (f c) := by cases t <;> simp [Ythggljahgnjcbaa.mask, h.zero]
theorem Lin.comp {f g : Nat → Nat} (hf : Lin f) (hg : Lin g) : Lin fun x => f (g x) := fun x y => by show f (g _) = _; rw [hg, hf]
theorem Lin.xor {f g : Nat → Nat} (hf : Lin f) (hg : Lin g) : Lin fun x => f x ^^^ g x := fun x y => by show f _ ^^^ g _ = _; rw [hf, hg, xor4]
theorem Lin.bit (k c : Nat) : Lin fun x => Ythggljahgnjcbaa.mask (x.testBit k) c := fun x y => by show Ythggljahgnjcbaa.mask ((x ^^^ y).testBit k) c = _; rw [Nat.testBit_xor, mask_xor]
theorem Lin.at (t : Bool) {f : Nat → Nat} (hf : Lin f) : Lin fun x => Ythggljahgnjcbaa.mask t (f x) := fun x y => by show Ythggljahgnjcbaa.mask t (f _) = _; rw [hf, mask_xor2]
theorem Lin.none : Lin fun _ => 0 := fun _ _ => (Nat.xor_self 0).symm
theorem Lin.id : Lin fun x => x := fun _ _ => rfl

theorem eight : ∀ a < 256, a = mask (a.testBit 0) 1 ^^^ mask (a.testBit 1) 2 ^^^ mask (a.testBit 2) 4 ^^^ mask (a.testBit 3) 8 ^^^ mask (a.testBit 4) 16 ^^^ mask (a.testBit 5) 32 ^^^ mask (a.testBit 6) 64 ^^^ mask (a.testBit 7) 128 := by decide
theorem Lin.ext {f g : Nat → Nat} (hf : Lin f) (hg : Lin g) (h : ∀ i < 8, f (2 ^ i) = g (2 ^ i)) {a : Nat} (ha : a < 256) : f a = g a := by
  have h0 := h 0 (by decide); have h1 := h 1 (by decide); have h2 := h 2 (by decide); have h3 := h 3 (by decide)
  have h4 := h 4 (by decide); have h5 := h 5 (by decide); have h6 := h 6 (by decide); have h7 := h 7 (by decide)
  simp only [Nat.reducePow] at h0 h1 h2 h3 h4 h5 h6 h7
  rw [eight a ha]
  simp only [hf _ _, hg _ _, hf.mask, hg.mask, h0, h1, h2, h3, h4, h5, h6, h7]

/-- An element times x. -/
def xt (a : Nat) : Nat := (2 * a % 256) ^^^ mask (a.testBit 7) 27
def xts (a : Nat) : Nat → Nat
  | 0 => a
  | k + 1 => xt (xts a k)
/-- The sum of the products with the first k terms of b. -/
def gacc (a b : Nat) : Nat → Nat
  | 0 => 0
  | k + 1 => gacc a b k ^^^ mask (b.testBit k) (xts a k)
/-- The product of two elements. -/
def gm (a b : Nat) : Nat := gacc a b 8

theorem two_xor (a b : Nat) : 2 * (a ^^^ b) = 2 * a ^^^ 2 * b := by
  have := Nat.shiftLeft_xor_distrib (a := a) (b := b) (i := 1)
  simp only [Nat.shiftLeft_eq, Nat.pow_one] at this
  rw [Nat.mul_comm 2, Nat.mul_comm 2, Nat.mul_comm 2, this]
theorem xt_add : Lin xt := fun x y => by
  unfold xt
  rw [Nat.testBit_xor, mask_xor, two_xor, show (256 : Nat) = 2 ^ 8 from rfl, Nat.xor_mod_two_pow, xor4]
theorem xts_add : ∀ k, Lin fun x => xts x k
  | 0 => Lin.id
  | k + 1 => xt_add.comp (xts_add k)
theorem gacc_addL (b : Nat) : ∀ k, Lin fun x => gacc x b k
  | 0 => Lin.none
  | k + 1 => (gacc_addL b k).xor (Lin.at _ (xts_add k))
theorem gacc_addR (a : Nat) : ∀ k, Lin fun x => gacc a x k
  | 0 => Lin.none
  | k + 1 => (gacc_addR a k).xor (Lin.bit k _)
theorem gm_addL (b : Nat) : Lin fun x => gm x b := gacc_addL b 8
theorem gm_addR (a : Nat) : Lin (gm a) := gacc_addR a 8
theorem xt_lt (a : Nat) : xt a < 256 := Nat.xor_lt_two_pow (n := 8) (Nat.mod_lt _ (by decide)) (by unfold mask; cases a.testBit 7 <;> decide)
theorem xts_lt {a : Nat} (h : a < 256) : ∀ k, xts a k < 256
  | 0 => h
  | _ + 1 => xt_lt _
theorem gacc_lt {a : Nat} (b : Nat) (h : a < 256) : ∀ k, gacc a b k < 256
  | 0 => Nat.zero_lt_succ _
  | k + 1 => Nat.xor_lt_two_pow (n := 8) (gacc_lt b h k) (by unfold mask; cases b.testBit k; exact Nat.zero_lt_succ _; exact xts_lt h k)
theorem gm_lt {a : Nat} (b : Nat) (h : a < 256) : gm a b < 256 := gacc_lt b h 8

theorem gm_comm {a b : Nat} (ha : a < 256) (hb : b < 256) : gm a b = gm b a :=
  Lin.ext (gm_addL b) (gm_addR b) (fun i hi => Lin.ext (gm_addR (2 ^ i)) (gm_addL (2 ^ i)) (fun j hj => by revert i j; decide) hb) ha
theorem gm_assoc {a b c : Nat} (ha : a < 256) (hb : b < 256) (hc : c < 256) : gm (gm a b) c = gm a (gm b c) :=
  Lin.ext ((gm_addL c).comp (gm_addL b)) (gm_addL (gm b c)) (fun i hi =>
    Lin.ext ((gm_addL c).comp (gm_addR (2 ^ i))) ((gm_addR (2 ^ i)).comp (gm_addL c)) (fun j hj =>
      Lin.ext (gm_addR (gm (2 ^ i) (2 ^ j))) ((gm_addR (2 ^ i)).comp (gm_addR (2 ^ j))) (fun k hk => by revert i j k; decide) hc) hb) ha
theorem gm_one {a : Nat} (ha : a < 256) : gm a 1 = a := Lin.ext (gm_addL 1) Lin.id (by decide) ha
theorem gm_one' {a : Nat} (ha : a < 256) : gm 1 a = a := by rw [gm_comm (by decide) ha, gm_one ha]
theorem gm_zero (a : Nat) : gm a 0 = 0 := (gm_addR a).zero
theorem gm_zero' (a : Nat) : gm 0 a = 0 := (gm_addL a).zero

/-- The product of n factors a. -/
def gpow (a : Nat) : Nat → Nat
  | 0 => 1
  | n + 1 => gm (gpow a n) a
theorem gpow_lt {a : Nat} : ∀ n, gpow a n < 256
  | 0 => Nat.succ_lt_succ (Nat.zero_lt_succ _)
  | n + 1 => gm_lt _ (gpow_lt n)
theorem gpow_add {a : Nat} (ha : a < 256) (m : Nat) : ∀ n, gpow a (m + n) = gm (gpow a m) (gpow a n)
  | 0 => (gm_one (gpow_lt m)).symm
  | n + 1 => by
    show gm (gpow a (m + n)) a = gm (gpow a m) (gm (gpow a n) a)
    rw [gpow_add ha m n, gm_assoc (gpow_lt m) (gpow_lt n) ha]
theorem gpow_sq {a : Nat} (ha : a < 256) : ∀ n, gpow (gm a a) n = gpow a (2 * n)
  | 0 => rfl
  | n + 1 => by
    show gm (gpow (gm a a) n) (gm a a) = gm (gm (gpow a (2 * n)) a) a
    rw [gpow_sq ha n, gm_assoc (gpow_lt _) ha ha]
theorem gpow_zero {n : Nat} (h : 0 < n) : gpow 0 n = 0 := by
  obtain ⟨k, rfl⟩ : ∃ k, n = k + 1 := ⟨n - 1, by omega⟩
  exact gm_zero _
theorem gpow_mul {a : Nat} (ha : a < 256) (m : Nat) : ∀ n, gpow (gpow a m) n = gpow a (m * n)
  | 0 => rfl
  | n + 1 => by
    show gm (gpow (gpow a m) n) (gpow a m) = gpow a (m * n + m)
    rw [gpow_mul ha m n, gpow_add ha]
theorem gpow_one : ∀ n, gpow 1 n = 1
  | 0 => rfl
  | n + 1 => by show gm (gpow 1 n) 1 = 1; rw [gpow_one n]; decide
/-- Powers by squares. -/
def gsq (a : Nat) : Nat → Nat
  | 0 => a
  | n + 1 => gsq (gm a a) n
theorem gsq_eq {a : Nat} (ha : a < 256) : ∀ n, gsq a n = gpow a (2 ^ n)
  | 0 => (gm_one' ha).symm
  | n + 1 => by
    show gsq (gm a a) n = _
    rw [gsq_eq (gm_lt _ ha) n, gpow_sq ha, Nat.pow_succ, Nat.mul_comm]
theorem all256 {p : Nat → Bool} (h : (List.range 256).all p = true) {a : Nat} (ha : a < 256) : p a = true := List.all_eq_true.1 h a (List.mem_range.2 ha)
theorem gsq8_all : (List.range 256).all (fun a => gsq a 8 == a) = true := by kernel_rfl
theorem gsq8 {a : Nat} (ha : a < 256) : gsq a 8 = a := eq_of_beq (all256 gsq8_all ha)
theorem gpow_256 {a : Nat} (ha : a < 256) : gpow a 256 = a := by rw [show 256 = 2 ^ 8 from rfl, ← gsq_eq ha, gsq8 ha]
/-! ### Inverses -/
/-- The inverses of all elements. -/
def itab : List UInt8 := [0, 1, 141, 246, 203, 82, 123, 209, 232, 79, 41, 192, 176, 225, 229, 199, 116, 180, 170, 75, 153, 43, 96, 95, 88, 63, 253, 204, 255, 64, 238, 178, 58, 110, 90, 241, 85, 77, 168, 201, 193, 10, 152, 21, 48, 68, 162, 194, 44, 69, 146, 108, 243, 57, 102, 66, 242, 53, 32, 111, 119, 187, 89, 25, 29, 254, 55, 103, 45, 49, 245, 105, 167, 100, 171, 19, 84, 37, 233, 9, 237, 92, 5, 202, 76, 36, 135, 191, 24, 62, 34, 240, 81, 236, 97, 23, 22, 94, 175, 211, 73, 166, 54, 67, 244, 71, 145, 223, 51, 147, 33, 59, 121, 183, 151, 133, 16, 181, 186, 60, 182, 112, 208, 6, 161, 250, 129, 130, 131, 126, 127, 128, 150, 115, 190, 86, 155, 158, 149, 217, 247, 2, 185, 164, 222, 106, 50, 109, 216, 138, 132, 114, 42, 20, 159, 136, 249, 220, 137, 154, 251, 124, 46, 195, 143, 184, 101, 72, 38, 200, 18, 74, 206, 231, 210, 98, 12, 224, 31, 239, 17, 117, 120, 113, 165, 142, 118, 61, 189, 188, 134, 87, 11, 40, 47, 163, 218, 212, 228, 15, 169, 39, 83, 4, 27, 252, 172, 230, 122, 7, 174, 99, 197, 219, 226, 234, 148, 139, 196, 213, 157, 248, 144, 107, 177, 13, 214, 235, 198, 14, 207, 173, 8, 78, 215, 227, 93, 80, 30, 179, 91, 35, 56, 52, 104, 70, 3, 140, 221, 156, 125, 160, 205, 26, 65, 28]
def ginv (a : Nat) : Nat := (itab.getD a 0).toNat
theorem ginv_lt (a : Nat) : ginv a < 256 := (itab.getD a 0).toNat_lt
theorem itab_length : itab.length = 256 := by kernel_rfl
theorem itab_get {a : Nat} (ha : a < 256) : itab[a]? = some (itab.getD a 0) := by
  rw [List.getD_eq_getElem?_getD, List.getElem?_eq_getElem (by rw [itab_length]; exact ha)]; rfl
theorem ginv_all : (List.range 256).all (fun a => (a == 0 || gm a (ginv a) == 1) && ginv (ginv a) == a) = true := by kernel_rfl
theorem ginv_zero : ginv 0 = 0 := by kernel_rfl
theorem gm_ginv {a : Nat} (ha : a < 256) (h0 : a ≠ 0) : gm a (ginv a) = 1 := by
  have h := all256 ginv_all ha
  simpa [h0] using (Bool.and_eq_true_iff.1 h).1
theorem ginv_ginv {a : Nat} (ha : a < 256) : ginv (ginv a) = a := by
  have h := all256 ginv_all ha
  simpa using (Bool.and_eq_true_iff.1 h).2
theorem ginv_uniq {a b : Nat} (ha : a < 256) (hb : b < 256) (h : gm a b = 1) : ginv a = b := by
  have h0 : a ≠ 0 := fun h0 => by subst h0; rw [gm_zero'] at h; cases h
  rw [← gm_one (ginv_lt a), ← h, ← gm_assoc (ginv_lt a) ha hb, gm_comm (ginv_lt a) ha, gm_ginv ha h0, gm_one' hb]
theorem ginv_gm {a b : Nat} (ha : a < 256) (hb : b < 256) (h0 : a ≠ 0) : ginv (gm a b) = gm (ginv a) (ginv b) := by
  by_cases hb0 : b = 0
  · subst hb0; rw [gm_zero, ginv_zero, gm_zero]
  · apply ginv_uniq (gm_lt _ ha) (gm_lt _ (ginv_lt a))
    rw [gm_assoc ha hb (gm_lt _ (ginv_lt a)), gm_comm (ginv_lt a) (ginv_lt b), ← gm_assoc hb (ginv_lt b) (ginv_lt a), gm_ginv hb hb0, gm_one' (ginv_lt a), gm_ginv ha h0]
theorem gm_back {a b : Nat} (ha : a < 256) (hb : b < 256) (h0 : a ≠ 0) : gm (gm b a) (ginv a) = b := by
  rw [gm_assoc hb ha (ginv_lt a), gm_ginv ha h0, gm_one hb]
/-- Below the inverse no element's product is 1. -/
theorem ginv_first {a b : Nat} (ha : a < 256) (hb : b < ginv a) : gm a b ≠ 1 := fun h => by
  have := ginv_uniq ha (Nat.lt_trans hb (ginv_lt a)) h
  omega
theorem gm_ne_zero {a b : Nat} (ha : a < 256) (hb : b < 256) (h0 : a ≠ 0) (h1 : b ≠ 0) : gm a b ≠ 0 := fun h => h0 (by rw [← gm_back hb ha h1, h, gm_zero'])
theorem gpow_ne_zero {a : Nat} (ha : a < 256) (h0 : a ≠ 0) : ∀ n, gpow a n ≠ 0
  | 0 => fun h => by cases h
  | n + 1 => gm_ne_zero (gpow_lt n) ha (gpow_ne_zero ha h0 n) h0

/-! ### Powers -/
theorem gpow_255 {a : Nat} (ha : a < 256) (h0 : a ≠ 0) : gpow a 255 = 1 := by
  have h := gpow_256 ha
  have h' : gm (gpow a 255) a = a := h
  rw [← gm_back ha (gpow_lt 255) h0, h', gm_ginv ha h0]
theorem gpow_mod {a : Nat} (ha : a < 256) (h0 : a ≠ 0) (n : Nat) : gpow a n = gpow a (n % 255) := by
  have h := Nat.div_add_mod n 255
  rw [show gpow a n = gpow a (255 * (n / 255) + n % 255) from by rw [h], gpow_add ha, ← gpow_mul ha, gpow_255 ha h0, gpow_one, gm_one' (gpow_lt _)]
/-- A power, its exponent any number. -/
def gpz (a : Nat) (n : Int) : Nat := if a = 0 ∧ n ≠ 0 then 0 else gpow a (n % 255).toNat
theorem gpz_lt (a : Nat) (n : Int) : gpz a n < 256 := by
  unfold gpz; split
  · exact Nat.zero_lt_succ _
  · exact gpow_lt _
theorem gpz_zero {n : Int} (h : n ≠ 0) : gpz 0 n = 0 := if_pos ⟨rfl, h⟩
theorem gpz_one (n : Int) : gpz 0 n = if n = 0 then 1 else 0 := by
  unfold gpz
  by_cases h : n = 0
  · subst h; rfl
  · rw [if_pos ⟨rfl, h⟩, if_neg h]
theorem gpz_pos {a : Nat} (h0 : a ≠ 0) (n : Int) : gpz a n = gpow a (n % 255).toNat := if_neg fun h => h0 h.1
theorem gpz_nat {a : Nat} (ha : a < 256) (k : Nat) : gpz a (k : Int) = gpow a k := by
  by_cases h0 : a = 0
  · subst h0
    by_cases hk : k = 0
    · subst hk; rfl
    · rw [gpz_zero (by omega), gpow_zero (by omega)]
  · rw [gpz_pos h0, gpow_mod ha h0 k, show ((k : Int) % 255).toNat = k % 255 from by omega]
theorem gpz_neg {a : Nat} (ha : a < 256) {k : Nat} (hk : 0 < k) : gpz a (-(k : Int)) = ginv (gpow a k) := by
  by_cases h0 : a = 0
  · subst h0; rw [gpz_zero (by omega), gpow_zero hk, ginv_zero]
  · rw [gpz_pos h0]
    refine (ginv_uniq (gpow_lt _) (gpow_lt _) ?_).symm
    rw [← gpow_add ha, gpow_mod ha h0, show (k + (-(k : Int) % 255).toNat) % 255 = 0 from by omega]; rfl
theorem gpz_add {a : Nat} (ha : a < 256) (h0 : a ≠ 0) (x y : Int) : gm (gpz a x) (gpz a y) = gpz a (x + y) := by
  rw [gpz_pos h0, gpz_pos h0, gpz_pos h0, ← gpow_add ha, gpow_mod ha h0, gpow_mod ha h0 ((x + y) % 255).toNat]
  congr 1; omega
/-- A round of the squares' loop. -/
theorem gpow_step {x p n : Nat} (hx : x < 256) (hp : p < 256) : gm (if n % 2 = 1 then gm p x else p) (gpow (gm x x) (n / 2)) = gm p (gpow x n) := by
  rw [gpow_sq hx]
  split
  · rename_i h
    rw [show n = 1 + 2 * (n / 2) from by omega, gpow_add hx, show gpow x 1 = x from gm_one' hx, gm_assoc hp hx (gpow_lt _), show (1 + 2 * (n / 2)) / 2 = n / 2 from by omega]
  · rename_i h
    rw [show 2 * (n / 2) = n from by omega]
/-- What is left of an exponent. -/
theorem tmod255 (n : Int) : ∃ r : Int, n.tmod 255 = r ∧ -255 < r ∧ r < 255 ∧ r % 255 = n % 255 := by
  refine ⟨_, rfl, ?_⟩
  have h := Int.tmod_eq_emod (a := n) (b := 255)
  rw [show Int.natAbs 255 = 255 from rfl] at h
  split at h <;> omega

/-! ### Substitutes -/
def rotl8 (a k : Nat) : Nat := (a * 2 ^ k % 256) ||| (a / 2 ^ (8 - k))
theorem rotl8_lt {a : Nat} (k : Nat) (ha : a < 256) : rotl8 a k < 256 := Nat.or_lt_two_pow (n := 8) (Nat.mod_lt _ (by decide)) (Nat.lt_of_le_of_lt (Nat.div_le_self _ _) ha)
def subI (b : Nat) : Nat := b ^^^ rotl8 b 1 ^^^ rotl8 b 2 ^^^ rotl8 b 3 ^^^ rotl8 b 4 ^^^ 99
def sub8 (a : Nat) : Nat := subI (ginv a)
def back8 (a : Nat) : Nat := ginv (rotl8 a 1 ^^^ rotl8 a 3 ^^^ rotl8 a 6 ^^^ 5)
/-- The sum whose parity is the bit i of a substitute, its first c terms behind 63. -/
def ssum (v i : Nat) : Nat → Nat
  | 0 => 99 / 2 ^ i
  | c + 1 => ssum v i c + v / 2 ^ ((i + (4 + c)) % 8)
theorem ssum_le {v : Nat} (hv : v < 256) (i : Nat) : ∀ c, ssum v i c ≤ 99 + 256 * c
  | 0 => Nat.div_le_self _ _
  | c + 1 => by
    have h := ssum_le hv i c
    have h1 := Nat.div_le_self v (2 ^ ((i + (4 + c)) % 8))
    show ssum v i c + v / 2 ^ ((i + (4 + c)) % 8) ≤ _
    omega
def sout (v : Nat) : Nat → Nat
  | 0 => 0
  | c + 1 => 2 * sout v c + ssum v (7 - c) 5 % 2
theorem sout_lt (v : Nat) : ∀ c, sout v c < 2 ^ c
  | 0 => Nat.zero_lt_succ _
  | c + 1 => by
    have h := sout_lt v c
    rw [Nat.pow_succ]
    show 2 * sout v c + ssum v (7 - c) 5 % 2 < _
    omega
def subst8 (v : Nat) : Nat := sout v 8
theorem subst8_lt (v : Nat) : subst8 v < 256 := sout_lt v 8
theorem subst_all : (List.range 256).all (fun v => subst8 v == subI v) = true := by kernel_rfl
theorem subst8_eq {v : Nat} (hv : v < 256) : subst8 v = subI v := eq_of_beq (all256 subst_all hv)
theorem sub8_eq (a : Nat) : subst8 (ginv a) = sub8 a := subst8_eq (ginv_lt a)
theorem sub8_lt (a : Nat) : sub8 a < 256 := by rw [← sub8_eq]; exact subst8_lt _
theorem back8_lt (a : Nat) : back8 a < 256 := ginv_lt _
theorem sub_all : (List.range 256).all (fun a => (back8 (sub8 a) == a && sub8 (back8 a) == a) && sub8 a != a) = true := by kernel_rfl
theorem back_sub {a : Nat} (ha : a < 256) : back8 (sub8 a) = a := by
  have h := all256 sub_all ha
  simp only [Bool.and_eq_true, beq_iff_eq] at h; exact h.1.1
theorem sub_back {a : Nat} (ha : a < 256) : sub8 (back8 a) = a := by
  have h := all256 sub_all ha
  simp only [Bool.and_eq_true, beq_iff_eq] at h; exact h.1.2
theorem sub_ne {a : Nat} (ha : a < 256) : sub8 a ≠ a := by
  have h := all256 sub_all ha
  simp only [Bool.and_eq_true, bne_iff_ne] at h; exact h.2
theorem sub_inj {a b : Nat} (ha : a < 256) (hb : b < 256) (h : sub8 a = sub8 b) : a = b := by rw [← back_sub ha, h, back_sub hb]

/-! ### The powers of 3 -/
def p3 : List Nat := [1, 3, 5, 15, 17, 51, 85, 255, 26, 46, 114, 150, 161, 248, 19, 53, 95, 225, 56, 72, 216, 115, 149, 164, 247, 2, 6, 10, 30, 34, 102, 170, 229, 52, 92, 228, 55, 89, 235, 38, 106, 190, 217, 112, 144, 171, 230, 49, 83, 245, 4, 12, 20, 60, 68, 204, 79, 209, 104, 184, 211, 110, 178, 205, 76, 212, 103, 169, 224, 59, 77, 215, 98, 166, 241, 8, 24, 40, 120, 136, 131, 158, 185, 208, 107, 189, 220, 127, 129, 152, 179, 206, 73, 219, 118, 154, 181, 196, 87, 249, 16, 48, 80, 240, 11, 29, 39, 105, 187, 214, 97, 163, 254, 25, 43, 125, 135, 146, 173, 236, 47, 113, 147, 174, 233, 32, 96, 160, 251, 22, 58, 78, 210, 109, 183, 194, 93, 231, 50, 86, 250, 21, 63, 65, 195, 94, 226, 61, 71, 201, 64, 192, 91, 237, 44, 116, 156, 191, 218, 117, 159, 186, 213, 100, 172, 239, 42, 126, 130, 157, 188, 223, 122, 142, 137, 128, 155, 182, 193, 88, 232, 35, 101, 175, 234, 37, 111, 177, 200, 67, 197, 84, 252, 31, 33, 99, 165, 244, 7, 9, 27, 45, 119, 153, 176, 203, 70, 202, 69, 207, 74, 222, 121, 139, 134, 145, 168, 227, 62, 66, 198, 81, 243, 14, 18, 54, 90, 238, 41, 123, 141, 140, 143, 138, 133, 148, 167, 242, 13, 23, 57, 75, 221, 124, 132, 151, 162, 253, 28, 36, 108, 180, 199, 82, 246]
def l3 : List Nat := [0, 0, 25, 1, 50, 2, 26, 198, 75, 199, 27, 104, 51, 238, 223, 3, 100, 4, 224, 14, 52, 141, 129, 239, 76, 113, 8, 200, 248, 105, 28, 193, 125, 194, 29, 181, 249, 185, 39, 106, 77, 228, 166, 114, 154, 201, 9, 120, 101, 47, 138, 5, 33, 15, 225, 36, 18, 240, 130, 69, 53, 147, 218, 142, 150, 143, 219, 189, 54, 208, 206, 148, 19, 92, 210, 241, 64, 70, 131, 56, 102, 221, 253, 48, 191, 6, 139, 98, 179, 37, 226, 152, 34, 136, 145, 16, 126, 110, 72, 195, 163, 182, 30, 66, 58, 107, 40, 84, 250, 133, 61, 186, 43, 121, 10, 21, 155, 159, 94, 202, 78, 212, 172, 229, 243, 115, 167, 87, 175, 88, 168, 80, 244, 234, 214, 116, 79, 174, 233, 213, 231, 230, 173, 232, 44, 215, 117, 122, 235, 22, 11, 245, 89, 203, 95, 176, 156, 169, 81, 160, 127, 12, 246, 111, 23, 196, 73, 236, 216, 67, 31, 45, 164, 118, 123, 183, 204, 187, 62, 90, 251, 96, 177, 134, 59, 82, 161, 108, 170, 85, 41, 157, 151, 178, 135, 144, 97, 190, 220, 252, 188, 149, 207, 205, 55, 63, 91, 209, 83, 57, 132, 60, 65, 162, 109, 71, 20, 42, 158, 93, 86, 242, 211, 171, 68, 17, 146, 217, 35, 32, 46, 137, 180, 124, 184, 38, 119, 153, 227, 165, 103, 74, 237, 222, 197, 49, 254, 24, 13, 99, 140, 128, 192, 247, 112, 7]
theorem p3_all : (List.range 254).all (fun i => gm (p3.getD i 0) 3 == p3.getD (i + 1) 0) = true := by kernel_rfl
theorem p3_eq : ∀ i, i < 255 → gpow 3 i = p3.getD i 0
  | 0, _ => rfl
  | i + 1, h => by
    show gm (gpow 3 i) 3 = _
    rw [p3_eq i (by omega)]
    exact eq_of_beq (List.all_eq_true.1 p3_all i (List.mem_range.2 (by omega)))
theorem l3_all : (List.range 256).all (fun x => x == 0 || (p3.getD (l3.getD x 0) 0 == x && Nat.blt (l3.getD x 0) 255)) = true := by kernel_rfl
theorem pow3 {x : Nat} (hx : x < 256) (h0 : x ≠ 0) : ∃ i, i < 255 ∧ gpow 3 i = x := by
  have h := all256 l3_all hx
  simp only [h0, Bool.or_eq_true, beq_iff_eq, Bool.and_eq_true, false_or, Nat.blt_eq] at h
  exact ⟨_, h.2, by rw [p3_eq _ h.2, h.1]⟩
/-- Whether x is among the first k powers of 3. -/
def isP (k x : Nat) : Bool := (List.range k).any fun i => gpow 3 i == x
theorem isP_succ (k x : Nat) : isP (k + 1) x = (isP k x || gpow 3 k == x) := by simp [isP, List.range_succ, List.any_append]
theorem isP_full {k x : Nat} (hk : 255 ≤ k) (hx : x < 256) (h0 : x ≠ 0) : isP k x = true := by
  obtain ⟨i, h1, h2⟩ := pow3 hx h0
  exact List.any_eq_true.2 ⟨i, List.mem_range.2 (by omega), by simp [h2]⟩
theorem isP_zero (k : Nat) : isP k 0 = false := by
  rw [Bool.eq_false_iff]
  intro h
  obtain ⟨i, _, h2⟩ := List.any_eq_true.1 h
  exact gpow_ne_zero (by decide) (by decide) i (eq_of_beq h2)
theorem pow3_all : (List.range 256).all (fun x => (if 255 < 2 * x then (2 * x) ^^^ 283 else 2 * x) % 256 ^^^ x == gm x 3) = true := by kernel_rfl
theorem pow3_step {x : Nat} (hx : x < 256) : (if 255 < 2 * x then (2 * x) ^^^ 283 else 2 * x) % 256 ^^^ x = gm x 3 := eq_of_beq (all256 pow3_all hx)
theorem inv3 {k : Nat} (hk : k ≤ 255) : gpow 3 (255 - k) = ginv (gpow 3 k) := by
  refine (ginv_uniq (gpow_lt _) (gpow_lt _) ?_).symm
  rw [← gpow_add (by decide), show k + (255 - k) = 255 from by omega, gpow_255 (by decide) (by decide)]
theorem map_set_range {α : Type} {f : Nat → α} {n y : Nat} {v : α} : ((List.range n).map f).set y v = (List.range n).map fun x => if x = y then v else f x := by
  apply List.ext_getElem?
  intro j
  rw [List.getElem?_set]
  by_cases hj : j < n
  · by_cases hy : y = j
    · subst hy; simp [hj]
    · simp [hy, hj, Ne.symm hy]
  · simp only [List.length_map, List.length_range, List.getElem?_map, List.getElem?_eq_none (show (List.range n).length ≤ j by simp; omega), Option.map_none]
    split
    · rw [if_neg (by omega)]
    · rfl

/-! ### The product of the definition -/
def crow (a b i : Nat) : Nat → Nat
  | 0 => 0
  | k + 1 => crow a b i k ^^^ mask (a.testBit i && b.testBit k) (2 ^ (i + k))
def cml (a b : Nat) : Nat → Nat
  | 0 => 0
  | i + 1 => cml a b i ^^^ crow a b i 8
def redw (i : Nat) : Nat := 2 ^ (i - 4) ^^^ 2 ^ (i - 5) ^^^ 2 ^ (i - 7) ^^^ 2 ^ (i - 8)
def red (c : Nat) : Nat → Nat
  | 0 => c
  | m + 1 => red c m ^^^ mask ((red c m).testBit (14 - m)) (redw (14 - m))
def refm (a b : Nat) : Nat := red (cml a b 8) 7 % 256
theorem mask_and (s t u : Bool) (c : Nat) : mask ((s ^^ t) && u) c = mask (s && u) c ^^^ mask (t && u) c := by cases s <;> cases t <;> cases u <;> simp [mask]
theorem mask_and' (s t u : Bool) (c : Nat) : mask (u && (s ^^ t)) c = mask (u && s) c ^^^ mask (u && t) c := by cases s <;> cases t <;> cases u <;> simp [mask]
theorem crow_addL (b i : Nat) : ∀ k, Lin fun a => crow a b i k
  | 0 => Lin.none
  | k + 1 => (crow_addL b i k).xor fun x y => by show mask ((x ^^^ y).testBit i && _) _ = _; rw [Nat.testBit_xor, mask_and]
theorem crow_addR (a i : Nat) : ∀ k, Lin fun b => crow a b i k
  | 0 => Lin.none
  | k + 1 => (crow_addR a i k).xor fun x y => by show mask (_ && (x ^^^ y).testBit k) _ = _; rw [Nat.testBit_xor, mask_and']
theorem cml_addL (b : Nat) : ∀ i, Lin fun a => cml a b i
  | 0 => Lin.none
  | i + 1 => (cml_addL b i).xor (crow_addL b i 8)
theorem cml_addR (a : Nat) : ∀ i, Lin fun b => cml a b i
  | 0 => Lin.none
  | i + 1 => (cml_addR a i).xor (crow_addR a i 8)
theorem red_add : ∀ m, Lin fun c => red c m
  | 0 => Lin.id
  | m + 1 => (red_add m).xor ((Lin.bit (14 - m) (redw (14 - m))).comp (red_add m))
theorem mod_add : Lin fun c => c % 256 := fun _ _ => Nat.xor_mod_two_pow (n := 8)
theorem refm_eq {a b : Nat} (ha : a < 256) (hb : b < 256) : refm a b = gm a b :=
  Lin.ext (mod_add.comp ((red_add 7).comp (cml_addL b 8))) (gm_addL b) (fun i hi =>
    Lin.ext (mod_add.comp ((red_add 7).comp (cml_addR (2 ^ i) 8))) (gm_addR (2 ^ i)) (fun j hj => by revert i j; decide) hb) ha
/-- The first n bits of a number as values. -/
def bitsV (n c : Nat) : List Value := (List.range n).map fun j => .int .i64 (((c.testBit j).toNat : Nat) : Int)
theorem bitsV_length (n c : Nat) : (bitsV n c).length = n := by simp [bitsV]
theorem bitsV_get {n c j : Nat} (h : j < n) : (bitsV n c)[j]? = some (.int .i64 (((c.testBit j).toNat : Nat) : Int)) := by simp [bitsV, h]
theorem bitsV_set {n c j : Nat} {t : Bool} {v : Value} (hv : v = .int .i64 ((((c.testBit j) ^^ t).toNat : Nat) : Int)) : (bitsV n c).set j v = bitsV n (c ^^^ mask t (2 ^ j)) := by
  unfold bitsV
  rw [map_set_range]
  apply List.map_congr_left
  intro x _
  rw [Nat.testBit_xor]
  by_cases hx : x = j
  · subst hx
    rw [if_pos rfl, hv]
    cases t <;> simp [mask, Nat.testBit_two_pow_self]
  · rw [if_neg hx]
    cases t
    · simp [mask]
    · simp [mask, Ne.symm hx]
theorem bitsV_zero (n : Nat) : bitsV n 0 = List.replicate n (.int .i64 0) := by
  apply List.ext_getElem?
  intro j
  simp only [bitsV, List.getElem?_map, List.getElem?_replicate]
  by_cases hj : j < n
  · simp [hj]
  · simp [hj]
theorem bitsV_succ (n c : Nat) : bitsV (n + 1) c = bitsV n c ++ [.int .i64 (((c.testBit n).toNat : Nat) : Int)] := by simp [bitsV, List.range_succ]
theorem bit_and (s t : Bool) (x : Bool) : (x.toNat + s.toNat * t.toNat) % 2 = (x ^^ (s && t)).toNat := by cases s <;> cases t <;> cases x <;> rfl
theorem bit_not (x : Bool) : (1 : Int) - ((x.toNat : Nat) : Int) = (((x ^^ true).toNat : Nat) : Int) := by cases x <;> rfl
theorem bit_le (x : Bool) : x.toNat ≤ 1 := by cases x <;> decide
/-- A round of the loop that puts the bits together. -/
theorem out_step (c : Nat) {m : Nat} (hm : m < 8) : 2 * (c % 256 / 2 ^ (m + 1)) + (c.testBit m).toNat = c % 256 / 2 ^ m := by
  have h1 : c.testBit m = (c % 256).testBit m := by
    rw [show (256 : Nat) = 2 ^ 8 from rfl, Nat.testBit_mod_two_pow]; simp [hm]
  rw [h1, Nat.toNat_testBit, Nat.pow_succ, ← Nat.div_div_eq_div_mul]
  omega
theorem mask_mul (t : Bool) (c : Nat) : t.toNat * c = mask t c := by cases t <;> simp [mask]
theorem mask_le (t : Bool) (c : Nat) : mask t c ≤ c := by cases t <;> simp [mask]
theorem xor_u8N {a b : Nat} (ha : a < 256) (hb : b < 256) : IntKind.u8.wrap ((BitVec.ofInt 8 (a : Int) ^^^ BitVec.ofInt 8 (b : Int)).toNat : Int) = ((a ^^^ b : Nat) : Int) := by
  have h : a ^^^ b < 2 ^ 8 := Nat.xor_lt_two_pow (by omega) (by omega)
  rw [BitVec.toNat_xor, BitVec.ofInt_natCast, BitVec.ofInt_natCast, BitVec.toNat_ofNat, BitVec.toNat_ofNat, Nat.mod_eq_of_lt (show a < 2 ^ 8 by omega), Nat.mod_eq_of_lt (show b < 2 ^ 8 by omega), wrap_u8 (by omega) (by omega)]
theorem or_u8N {a b : Nat} (ha : a < 256) (hb : b < 256) : IntKind.u8.wrap ((BitVec.ofInt 8 (a : Int) ||| BitVec.ofInt 8 (b : Int)).toNat : Int) = ((a ||| b : Nat) : Int) := by
  have h : a ||| b < 2 ^ 8 := Nat.or_lt_two_pow (by omega) (by omega)
  rw [BitVec.toNat_or, BitVec.ofInt_natCast, BitVec.ofInt_natCast, BitVec.toNat_ofNat, BitVec.toNat_ofNat, Nat.mod_eq_of_lt (show a < 2 ^ 8 by omega), Nat.mod_eq_of_lt (show b < 2 ^ 8 by omega), wrap_u8 (by omega) (by omega)]
theorem and_u8N {a b : Nat} (ha : a < 256) (hb : b < 256) : IntKind.u8.wrap ((BitVec.ofInt 8 (a : Int) &&& BitVec.ofInt 8 (b : Int)).toNat : Int) = ((a &&& b : Nat) : Int) := by
  have h : a &&& b < 2 ^ 8 := Nat.and_lt_two_pow _ (by omega)
  rw [BitVec.toNat_and, BitVec.ofInt_natCast, BitVec.ofInt_natCast, BitVec.toNat_ofNat, BitVec.toNat_ofNat, Nat.mod_eq_of_lt (show a < 2 ^ 8 by omega), Nat.mod_eq_of_lt (show b < 2 ^ 8 by omega), wrap_u8 (by omega) (by omega)]
theorem xor_i64N {a b : Nat} (ha : a < 4294967296) (hb : b < 4294967296) : IntKind.i64.wrap ((BitVec.ofInt 64 (a : Int) ^^^ BitVec.ofInt 64 (b : Int)).toNat : Int) = ((a ^^^ b : Nat) : Int) := by
  have h : a ^^^ b < 2 ^ 32 := Nat.xor_lt_two_pow (by omega) (by omega)
  rw [BitVec.toNat_xor, BitVec.ofInt_natCast, BitVec.ofInt_natCast, BitVec.toNat_ofNat, BitVec.toNat_ofNat, Nat.mod_eq_of_lt (show a < 2 ^ 64 by omega), Nat.mod_eq_of_lt (show b < 2 ^ 64 by omega), wrap_i64 (by omega) (by omega)]
theorem and_i64N {a b : Nat} (ha : a < 4294967296) (hb : b < 4294967296) : IntKind.i64.wrap ((BitVec.ofInt 64 (a : Int) &&& BitVec.ofInt 64 (b : Int)).toNat : Int) = ((a &&& b : Nat) : Int) := by
  have h : a &&& b < 2 ^ 32 := Nat.and_lt_two_pow _ (by omega)
  rw [BitVec.toNat_and, BitVec.ofInt_natCast, BitVec.ofInt_natCast, BitVec.toNat_ofNat, BitVec.toNat_ofNat, Nat.mod_eq_of_lt (show a < 2 ^ 64 by omega), Nat.mod_eq_of_lt (show b < 2 ^ 64 by omega), wrap_i64 (by omega) (by omega)]
theorem wrap_u8N (n : Nat) : IntKind.u8.wrap (n : Int) = ((n % 256 : Nat) : Int) := by
  rw [wrap_u8_nat]; simp
theorem wrapN_u8 {n : Nat} (h : n < 256) : IntKind.u8.wrap (n : Int) = (n : Int) := wrap_u8 (by omega) (by omega)
end Go.Proofs.Ythggljahgnjcbaa
