/-
  OWN WORDS: HMAC with SHA-256 as plain mathematics (RFC 2104). Nothing of one program stands here.
-/
import Derived.Test.YtidlikaiileggaaDoorSt
namespace Go.Proofs.YtidlikaiileggaaDoor
open Go Go.RowKit
def kbase (k : List UInt8) : List UInt8 := if 64 < k.length then sha k else k
def kblock (k : List UInt8) : List UInt8 := kbase k ++ List.replicate (64 - (kbase k).length) 0
theorem kbase_length (k : List UInt8) : (kbase k).length ≤ 64 := by
  unfold kbase; split
  · rw [sha_length]; decide
  · omega
theorem kblock_length (k : List UInt8) : (kblock k).length = 64 := by
  have := kbase_length k
  simp [kblock]; omega
def kpad (c : UInt8) (k : List UInt8) : List UInt8 := (kblock k).map (· ^^^ c)
theorem kpad_length (c : UInt8) (k : List UInt8) : (kpad c k).length = 64 := by simp [kpad, kblock_length]
def hmac (k m : List UInt8) : List UInt8 := sha (kpad 0x5c k ++ sha (kpad 0x36 k ++ m))
def hmacR (k m : List UInt8) : R8 := shaR (kpad 0x5c k ++ sha (kpad 0x36 k ++ m))
theorem hmac_length (k m : List UInt8) : (hmac k m).length = 32 := sha_length _
theorem kblock_get {k : List UInt8} {i : Nat} (h : i < 64) : (kblock k)[i]? = some ((kblock k).getD i 0) := by
  rw [List.getD_eq_getElem?_getD, List.getElem?_eq_getElem (by rw [kblock_length]; exact h)]; rfl
theorem kpad_get {c : UInt8} {k : List UInt8} {i : Nat} (h : i < 64) : (kpad c k)[i]? = some ((kblock k).getD i 0 ^^^ c) := by
  rw [kpad, List.getElem?_map, kblock_get h]; rfl
theorem kpad_step {c : UInt8} {k : List UInt8} {i : Nat} (h : i < 64) : ((kpad c k).take i).map byteV ++ [byteV ((kblock k).getD i 0 ^^^ c)] = ((kpad c k).take (i + 1)).map byteV := by
  rw [List.take_add_one, kpad_get h]; simp
/-- A key that is a key block is its own key block. -/
theorem kblock_kblock (k : List UInt8) : kblock (kblock k) = kblock k := by
  have h : kbase (kblock k) = kblock k := by rw [kbase, if_neg (by rw [kblock_length]; decide)]
  rw [kblock, h, kblock_length, Nat.sub_self, List.replicate_zero, List.append_nil]
theorem hmac_block (k m : List UInt8) : hmac (kblock k) m = hmac k m := by rw [hmac, hmac, kpad, kpad, kpad, kpad, kblock_kblock]
/-- Bytes 00 behind a key, up to 64 bytes in all. -/
theorem kblock_pad (k : List UInt8) (z : Nat) (h : (k ++ List.replicate z 0).length ≤ 64) : kblock (k ++ List.replicate z 0) = kblock k := by
  have hk : ¬ 64 < (k ++ List.replicate z 0).length := by omega
  have hk' : ¬ 64 < k.length := by rw [List.length_append] at h; omega
  rw [kblock, kblock, kbase, kbase, if_neg hk, if_neg hk', List.append_assoc, List.replicate_append_replicate]
  congr 2
  simp only [List.length_append, List.length_replicate] at h ⊢
  omega
theorem hmac_pad {k : List UInt8} {z : Nat} (m : List UInt8) (h : (k ++ List.replicate z 0).length ≤ 64) : hmac (k ++ List.replicate z 0) m = hmac k m := by rw [hmac, hmac, kpad, kpad, kpad, kpad, kblock_pad k z h]
/-- One bit of a string of 32 bytes changed. -/
def flipB (l : List UInt8) (c : UInt8) : List UInt8 := l.set (c.toNat / 8 % 32) (l.getD (c.toNat / 8 % 32) 0 ^^^ UInt8.ofNat (2 ^ (c.toNat % 8)))
theorem flipB_length (l : List UInt8) (c : UInt8) : (flipB l c).length = l.length := by simp [flipB]
theorem pow_ne0 : ∀ s, s < 8 → UInt8.ofNat (2 ^ s) ≠ 0 := by decide
theorem flipB_ne {l : List UInt8} (h : l.length = 32) (c : UInt8) : flipB l c ≠ l := fun he => by
  have hi : c.toNat / 8 % 32 < l.length := by omega
  have h1 : (flipB l c)[c.toNat / 8 % 32]? = l[c.toNat / 8 % 32]? := by rw [he]
  rw [flipB, List.getElem?_set_self hi, List.getD_eq_getElem?_getD, List.getElem?_eq_getElem hi, Option.getD_some, Option.some.injEq] at h1
  have h2 := congrArg (l[c.toNat / 8 % 32] ^^^ ·) h1
  simp only [← UInt8.xor_assoc, UInt8.xor_self, UInt8.zero_xor] at h2
  exact pow_ne0 _ (Nat.mod_lt _ (by decide)) h2
theorem map_getB {l : List UInt8} {i : Nat} (h : i < l.length) : (l.map byteV)[i]? = some (byteV (l.getD i 0)) := by
  rw [List.getElem?_map, List.getElem?_eq_getElem h, List.getD_eq_getElem?_getD, List.getElem?_eq_getElem h]; rfl
theorem shl1_u8 {s : Nat} (h : s < 8) : Value.int .u8 (IntKind.u8.wrap (1 * 2 ^ min ((s : Nat) : Int).toNat IntKind.u8.bits)) = byteV (UInt8.ofNat (2 ^ s)) := by
  rw [Int.toNat_natCast, show min s IntKind.u8.bits = s from by simp only [IntKind.bits]; omega, Int.one_mul, show (2 : Int) ^ s = ((2 ^ s : Nat) : Int) from by simp, wrap_u8_nat]
  rfl
/-! ### Ways of computing these -/
/-- A key block whose first i bytes are exclusive-ored with c. -/
def kpart (c : UInt8) (k : List UInt8) (i : Nat) : List UInt8 := (kpad c k).take i ++ (kblock k).drop i
theorem kpart_zero (c : UInt8) (k : List UInt8) : kpart c k 0 = kblock k := by simp [kpart]
theorem kpart_full (c : UInt8) (k : List UInt8) : kpart c k 64 = kpad c k := by
  rw [kpart, List.take_of_length_le (by rw [kpad_length]; exact Nat.le_refl _), List.drop_eq_nil_of_le (by rw [kblock_length]; exact Nat.le_refl _), List.append_nil]
theorem kpart_length {c : UInt8} {k : List UInt8} {i : Nat} (h : i ≤ 64) : (kpart c k i).length = 64 := by
  rw [kpart, List.length_append, List.length_take, List.length_drop, kpad_length, kblock_length]; omega
theorem kpart_get {c : UInt8} {k : List UInt8} {i : Nat} (h : i < 64) : ((kpart c k i).map byteV)[i]? = some (byteV ((kblock k).getD i 0)) := by
  have hl : ((kpad c k).take i).length = i := by rw [List.length_take, kpad_length]; omega
  rw [List.getElem?_map, kpart, List.getElem?_append_right (by omega), hl, Nat.sub_self, List.getElem?_drop, Nat.add_zero, kblock_get h]
  rfl
theorem kpart_set {c : UInt8} {k : List UInt8} {i : Nat} (h : i < 64) : ((kpart c k i).map byteV).set i (byteV ((kblock k).getD i 0 ^^^ c)) = (kpart c k (i + 1)).map byteV := by
  have hl : ((kpad c k).take i).length = i := by rw [List.length_take, kpad_length]; omega
  rw [← List.map_set, kpart, List.set_append_right _ _ (by omega), hl, Nat.sub_self, List.drop_eq_getElem_cons (by rw [kblock_length]; exact h), List.set_cons_zero, kpart, List.take_add_one, kpad_get h]
  simp
theorem kblock_copy {k l : List UInt8} (h : kbase k = l) : (List.replicate 64 (Value.int .u8 0)).take 0 ++ (l.take 64).map byteV ++ (List.replicate 64 (Value.int .u8 0)).drop (0 + min l.length 64) = (kblock k).map byteV := by
  have hk := kbase_length k
  rw [h] at hk
  rw [kblock, h, List.take_zero, List.nil_append, List.take_of_length_le hk, Nat.zero_add, Nat.min_eq_left hk, List.drop_replicate, List.map_append, List.map_replicate]
  rfl
/-- What two strings differ in, over their first i bytes. -/
def orD (a b : List UInt8) : Nat → UInt8
  | 0 => 0
  | i + 1 => orD a b i ||| (a.getD i 0 ^^^ b.getD i 0)
theorem orD_zero (a b : List UInt8) : ∀ n, orD a b n = 0 ↔ ∀ i, i < n → a.getD i 0 = b.getD i 0
  | 0 => by simp [orD]
  | n + 1 => by
    rw [orD, UInt8.or_eq_zero_iff, UInt8.xor_eq_zero_iff, orD_zero a b n]
    constructor
    · rintro ⟨h1, h2⟩ i hi
      rcases Nat.lt_or_ge i n with h | h
      · exact h1 i h
      · rw [show i = n from by omega]; exact h2
    · exact fun h => ⟨fun i hi => h i (by omega), h n (by omega)⟩
theorem orD_eq {a b : List UInt8} {n : Nat} (ha : a.length = n) (hb : b.length = n) : orD a b n = 0 ↔ a = b := by
  rw [orD_zero]
  constructor
  · intro h
    apply List.ext_getElem (by omega)
    intro i h1 h2
    have := h i (by omega)
    rwa [List.getD_eq_getElem?_getD, List.getD_eq_getElem?_getD, List.getElem?_eq_getElem h1, List.getElem?_eq_getElem h2] at this
  · intro h i _; rw [h]
theorem or_u8_nat (a b : UInt8) : IntKind.u8.wrap ((BitVec.ofInt 8 (a.toNat : Int) ||| BitVec.ofInt 8 (b.toNat : Int)).toNat : Int) = ((a ||| b).toNat : Int) := by
  have ha := a.toNat_lt
  have hb := b.toNat_lt
  rw [wrap_u8_nat, BitVec.toNat_or, BitVec.ofInt_natCast, BitVec.ofInt_natCast, BitVec.toNat_ofNat, BitVec.toNat_ofNat, Nat.mod_eq_of_lt (show a.toNat < 2 ^ 8 by omega), Nat.mod_eq_of_lt (show b.toNat < 2 ^ 8 by omega), ← UInt8.toNat_or, UInt8.ofNat_toNat]
theorem byte_zero (c : UInt8) : (c.toNat : Int) = 0 ↔ c = 0 := by
  constructor
  · intro h; exact UInt8.toNat_inj.1 (by simpa using h)
  · intro h; subst h; rfl
end Go.Proofs.YtidlikaiileggaaDoor
