/-
  OWN WORDS: numbers of 32 bits as facts, and SHA-256 as plain mathematics (FIPS 180-4). Nothing of one program stands here.
-/
import Derived.Test.YtdnblilocdddpaaOps3
import Derived.Test.YtdnblilocdddpaaNum
namespace Go.Proofs.Ytdnblilocdddpaa
open Go Go.RowKit

/-! ### Numbers of 32 bits -/
def u32V (x : UInt32) : Value := .int .u32 (x.toNat : Int)
def u32D (x : UInt32) : D := .v (u32V x)
theorem u32_lt (x : UInt32) : x.toNat < 4294967296 := x.toNat_lt
theorem u32V_ofNat (n : Nat) : u32V (UInt32.ofNat n) = .int .u32 ((n % 4294967296 : Nat) : Int) := by simp [u32V]
theorem u32V_of {n : Nat} (h : n < 4294967296) : u32V (UInt32.ofNat n) = .int .u32 (n : Int) := by rw [u32V_ofNat, Nat.mod_eq_of_lt h]
theorem binV_add32 (x y : UInt32) : binV .add (u32V x) (u32V y) = some (u32V (x + y)) := by
  simp only [u32V, binV, if_true, Option.some.injEq, Value.int.injEq, true_and]
  rw [← Int.natCast_add, wrap_u32_nat, UInt32.toNat_add]
theorem bv32 (x : UInt32) : BitVec.ofInt 32 (x.toNat : Int) = x.toBitVec := by
  rw [BitVec.ofInt_natCast]; simp
theorem binV_xor32 (x y : UInt32) : binV .xor (u32V x) (u32V y) = some (u32V (x ^^^ y)) := by
  have key : (BitVec.ofInt 32 (x.toNat : Int) ^^^ BitVec.ofInt 32 (y.toNat : Int)).toNat = (x ^^^ y).toNat := by rw [bv32, bv32, ← UInt32.toBitVec_xor, UInt32.toNat_toBitVec]
  show some (Value.int .u32 (IntKind.u32.wrap ((BitVec.ofInt 32 (x.toNat : Int) ^^^ BitVec.ofInt 32 (y.toNat : Int)).toNat : Int))) = _
  rw [key, wrap_u32_nat, Nat.mod_eq_of_lt (u32_lt _)]; rfl
theorem binV_and32 (x y : UInt32) : binV .and (u32V x) (u32V y) = some (u32V (x &&& y)) := by
  have key : (BitVec.ofInt 32 (x.toNat : Int) &&& BitVec.ofInt 32 (y.toNat : Int)).toNat = (x &&& y).toNat := by rw [bv32, bv32, ← UInt32.toBitVec_and, UInt32.toNat_toBitVec]
  show some (Value.int .u32 (IntKind.u32.wrap ((BitVec.ofInt 32 (x.toNat : Int) &&& BitVec.ofInt 32 (y.toNat : Int)).toNat : Int))) = _
  rw [key, wrap_u32_nat, Nat.mod_eq_of_lt (u32_lt _)]; rfl
theorem binV_or32 (x y : UInt32) : binV .or (u32V x) (u32V y) = some (u32V (x ||| y)) := by
  have key : (BitVec.ofInt 32 (x.toNat : Int) ||| BitVec.ofInt 32 (y.toNat : Int)).toNat = (x ||| y).toNat := by rw [bv32, bv32, ← UInt32.toBitVec_or, UInt32.toNat_toBitVec]
  show some (Value.int .u32 (IntKind.u32.wrap ((BitVec.ofInt 32 (x.toNat : Int) ||| BitVec.ofInt 32 (y.toNat : Int)).toNat : Int))) = _
  rw [key, wrap_u32_nat, Nat.mod_eq_of_lt (u32_lt _)]; rfl
theorem binV_andNot32 (x y : UInt32) : binV .andNot (u32V x) (u32V y) = some (u32V (x &&& ~~~y)) := by
  have key : (BitVec.ofInt 32 (x.toNat : Int) &&& ~~~ BitVec.ofInt 32 (y.toNat : Int)).toNat = (x &&& ~~~y).toNat := by rw [bv32, bv32, ← UInt32.toBitVec_not, ← UInt32.toBitVec_and, UInt32.toNat_toBitVec]
  show some (Value.int .u32 (IntKind.u32.wrap ((BitVec.ofInt 32 (x.toNat : Int) &&& ~~~ BitVec.ofInt 32 (y.toNat : Int)).toNat : Int))) = _
  rw [key, wrap_u32_nat, Nat.mod_eq_of_lt (u32_lt _)]; rfl
def shr32 (x : UInt32) (n : Nat) : UInt32 := UInt32.ofNat (x.toNat / 2 ^ n)
/-- n places to the right. -/
def rotr32 (x : UInt32) (n : Nat) : UInt32 := UInt32.ofNat (rotB x.toNat (32 - n))
theorem rotr32_toNat (x : UInt32) (n : Nat) : (rotr32 x n).toNat = rotB x.toNat (32 - n) := by
  rw [rotr32, UInt32.toNat_ofNat', Nat.mod_eq_of_lt (rotB_lt _ _)]
theorem rotr32_val (x : UInt32) (n : Nat) : u32V (rotr32 x n) = .int .u32 ((rotB x.toNat (32 - n) : Nat) : Int) := by rw [u32V, rotr32_toNat]

section
variable {P : Program} {B : Nat} {E : Env} {dst : Option Tmp} {ty : TypeId} {pos : String} {after : Array Edge} {guard : Option (Nat × Bool)} {t t' : TypeId} {x y : Operand} {a b : UInt32}
theorem ok_add32 (hx : E.at x = some (.v (u32V a))) (hy : E.at y = some (.v (u32V b))) : OpOk P B ⟨dst, .binOp .add t x y t', ty, pos, after, guard⟩ E (.v (u32V (a + b))) := ok_bin hx hy (binV_add32 a b)
theorem ok_xor32 (hx : E.at x = some (.v (u32V a))) (hy : E.at y = some (.v (u32V b))) : OpOk P B ⟨dst, .binOp .xor t x y t', ty, pos, after, guard⟩ E (.v (u32V (a ^^^ b))) := ok_bin hx hy (binV_xor32 a b)
theorem ok_and32 (hx : E.at x = some (.v (u32V a))) (hy : E.at y = some (.v (u32V b))) : OpOk P B ⟨dst, .binOp .and t x y t', ty, pos, after, guard⟩ E (.v (u32V (a &&& b))) := ok_bin hx hy (binV_and32 a b)
theorem ok_or32 (hx : E.at x = some (.v (u32V a))) (hy : E.at y = some (.v (u32V b))) : OpOk P B ⟨dst, .binOp .or t x y t', ty, pos, after, guard⟩ E (.v (u32V (a ||| b))) := ok_bin hx hy (binV_or32 a b)
theorem ok_andNot32 (hx : E.at x = some (.v (u32V a))) (hy : E.at y = some (.v (u32V b))) : OpOk P B ⟨dst, .binOp .andNot t x y t', ty, pos, after, guard⟩ E (.v (u32V (a &&& ~~~b))) := ok_bin hx hy (binV_andNot32 a b)
theorem ok_not32 (hx : E.at x = some (.v (u32V a))) : OpOk P B ⟨dst, .unOp .xor t x, ty, pos, after, guard⟩ E (.v (u32V (~~~a))) := by
  refine ok_xorU (k := .u32) (a := (a.toNat : Int)) rfl hx ?_
  have h1 : BitVec.ofInt 32 (IntKind.max .u32) = BitVec.allOnes 32 := by decide
  have key : (BitVec.ofInt 32 (IntKind.max .u32) ^^^ BitVec.ofInt 32 (a.toNat : Int)).toNat = (~~~a).toNat := by rw [bv32, h1, BitVec.allOnes_xor, ← UInt32.toBitVec_not, UInt32.toNat_toBitVec]
  show _ = Value.int .u32 (IntKind.u32.wrap ((BitVec.ofInt 32 (IntKind.max .u32) ^^^ BitVec.ofInt 32 (a.toNat : Int)).toNat : Int))
  rw [key, wrap_u32_nat, Nat.mod_eq_of_lt (u32_lt _)]; rfl
theorem ok_shr32 {k' : IntKind} {c : Int} (n : Nat) (hx : E.at x = some (.v (u32V a))) (hy : E.at y = some (.v (.int k' c))) (hc : c = (n : Int)) (hn : n ≤ 32) : OpOk P B ⟨dst, .binOp .shr t x y t', ty, pos, after, guard⟩ E (.v (u32V (shr32 a n))) := by
  subst hc
  have := ok_shr (P := P) (B := B) (dst := dst) (ty := ty) (pos := pos) (after := after) (guard := guard) (t := t) (t' := t') hx hy (Int.natCast_nonneg n)
  rw [Int.toNat_natCast, show min n IntKind.u32.bits = n from Nat.min_eq_left hn, shr_nat] at this
  rwa [shr32, u32V_of (Nat.lt_of_le_of_lt (Nat.div_le_self _ _) (u32_lt a))]
end

/-! ### SHA-256 -/
structure R8 where
  (a b c d e f g h : UInt32)
def R8.list (s : R8) : List UInt32 := [s.a, s.b, s.c, s.d, s.e, s.f, s.g, s.h]
def R8.add (s t : R8) : R8 := ⟨s.a + t.a, s.b + t.b, s.c + t.c, s.d + t.d, s.e + t.e, s.f + t.f, s.g + t.g, s.h + t.h⟩
theorem R8.size (s : R8) : (s.list.map u32V).length = 8 := rfl
theorem R8.add_list (s t : R8) : (s.add t).list.map u32V = [u32V (s.a + t.a), u32V (s.b + t.b), u32V (s.c + t.c), u32V (s.d + t.d), u32V (s.e + t.e), u32V (s.f + t.f), u32V (s.g + t.g), u32V (s.h + t.h)] := rfl
theorem all_u32 (xs : List UInt32) : (xs.map u32V).all (·.oneCell') = true := by simp [u32V, Value.oneCell']
def sha0 (x : UInt32) : UInt32 := rotr32 x 7 ^^^ rotr32 x 18 ^^^ shr32 x 3
def sha1 (x : UInt32) : UInt32 := rotr32 x 17 ^^^ rotr32 x 19 ^^^ shr32 x 10
def big0 (x : UInt32) : UInt32 := rotr32 x 2 ^^^ rotr32 x 13 ^^^ rotr32 x 22
def big1 (x : UInt32) : UInt32 := rotr32 x 6 ^^^ rotr32 x 11 ^^^ rotr32 x 25
def choice (e f g : UInt32) : UInt32 := (e &&& f) ^^^ (~~~e &&& g)
def most (a b c : UInt32) : UInt32 := (a &&& b) ^^^ (a &&& c) ^^^ (b &&& c)
def round8 (s : R8) (k w : UInt32) : R8 :=
  let t1 := s.h + big1 s.e + choice s.e s.f s.g + k + w
  ⟨t1 + (big0 s.a + most s.a s.b s.c), s.a, s.b, s.c, s.d + t1, s.e, s.f, s.g⟩
/-- Number t of the words that a block consists of. -/
def word (l : List UInt8) (t : Nat) : UInt32 := UInt32.ofNat (num ((l.drop (4 * t)).take 4))
theorem word_lt (l : List UInt8) (t : Nat) : num ((l.drop (4 * t)).take 4) < 4294967296 :=
  Nat.lt_of_lt_of_le (num_lt _) (Nat.le_trans (Nat.pow_le_pow_right (by decide) (show ((l.drop (4 * t)).take 4).length ≤ 4 by simp; omega)) (by decide))
def nextW (l : List UInt8) (ws : List UInt32) (t : Nat) : UInt32 :=
  if t < 16 then word l t else ws.getD (t - 16) 0 + ws.getD (t - 7) 0 + sha0 (ws.getD (t - 15) 0) + sha1 (ws.getD (t - 2) 0)
def sched (l : List UInt8) : Nat → List UInt32
  | 0 => []
  | t + 1 => sched l t ++ [nextW l (sched l t) t]
theorem sched_length (l : List UInt8) : ∀ t, (sched l t).length = t
  | 0 => rfl
  | t + 1 => by simp [sched, sched_length l t]
def rounds (s : R8) (ks ws : List UInt32) : Nat → R8
  | 0 => s
  | t + 1 => round8 (rounds s ks ws t) (ks.getD t 0) (ws.getD t 0)
def K64 : List UInt32 := [
  0x428a2f98, 0x71374491, 0xb5c0fbcf, 0xe9b5dba5, 0x3956c25b, 0x59f111f1, 0x923f82a4, 0xab1c5ed5,
  0xd807aa98, 0x12835b01, 0x243185be, 0x550c7dc3, 0x72be5d74, 0x80deb1fe, 0x9bdc06a7, 0xc19bf174,
  0xe49b69c1, 0xefbe4786, 0x0fc19dc6, 0x240ca1cc, 0x2de92c6f, 0x4a7484aa, 0x5cb0a9dc, 0x76f988da,
  0x983e5152, 0xa831c66d, 0xb00327c8, 0xbf597fc7, 0xc6e00bf3, 0xd5a79147, 0x06ca6351, 0x14292967,
  0x27b70a85, 0x2e1b2138, 0x4d2c6dfc, 0x53380d13, 0x650a7354, 0x766a0abb, 0x81c2c92e, 0x92722c85,
  0xa2bfe8a1, 0xa81a664b, 0xc24b8b70, 0xc76c51a3, 0xd192e819, 0xd6990624, 0xf40e3585, 0x106aa070,
  0x19a4c116, 0x1e376c08, 0x2748774c, 0x34b0bcb5, 0x391c0cb3, 0x4ed8aa4a, 0x5b9cca4f, 0x682e6ff3,
  0x748f82ee, 0x78a5636f, 0x84c87814, 0x8cc70208, 0x90befffa, 0xa4506ceb, 0xbef9a3f7, 0xc67178f2]
def H8 : R8 := ⟨0x6a09e667, 0xbb67ae85, 0x3c6ef372, 0xa54ff53a, 0x510e527f, 0x9b05688c, 0x1f83d9ab, 0x5be0cd19⟩
def compress (s : R8) (l : List UInt8) : R8 := s.add (rounds s K64 (sched l 64) 64)
def chain (s : R8) (l : List UInt8) : Nat → R8
  | 0 => s
  | k + 1 => compress (chain s l k) ((l.drop (64 * k)).take 64)
def padded (l : List UInt8) : List UInt8 := l ++ 128 :: (List.replicate ((119 - l.length % 64) % 64) 0 ++ be 8 (8 * l.length))
def shaR (l : List UInt8) : R8 := chain H8 (padded l) ((padded l).length / 64)
def sha (l : List UInt8) : List UInt8 := (shaR l).list.flatMap fun x => be 4 x.toNat
/-- The words of the table so far, zeros behind. -/
def table (ws : List UInt32) (m : Nat) : List Value := (ws ++ List.replicate (m - ws.length) 0).map u32V
theorem table_length {ws : List UInt32} {m : Nat} (h : ws.length ≤ m) : (table ws m).length = m := by simp [table]; omega
theorem table_get {ws : List UInt32} {m j : Nat} (h : j < ws.length) : (table ws m)[j]? = some (u32V (ws.getD j 0)) := by
  rw [table, List.map_append, List.getElem?_append_left (by simpa using h)]
  simp [h]
theorem table_set {ws : List UInt32} {m t : Nat} {x : UInt32} (ht : ws.length = t) (h : t < m) : (table ws m).set t (u32V x) = table (ws ++ [x]) m := by
  subst ht
  have h1 : m - ws.length = (m - (ws.length + 1)) + 1 := by omega
  simp only [table, List.length_append, List.length_cons, List.length_nil, List.map_append]
  rw [h1, List.replicate_succ, List.map_cons, List.set_append_right _ _ (by simp)]
  simp
theorem table_full {ws : List UInt32} {m : Nat} (h : ws.length = m) : table ws m = ws.map u32V := by
  subst h; simp [table]
theorem map_get32 {ws : List UInt32} {j : Nat} (h : j < ws.length) : (ws.map u32V)[j]? = some (u32V (ws.getD j 0)) := by
  simp [h]
theorem most_or (a b c : UInt32) : (a &&& b) ||| (a &&& c) ||| (b &&& c) = most a b c := by
  unfold most
  apply UInt32.eq_of_toBitVec_eq
  apply BitVec.eq_of_getLsbD_eq
  intro i _
  simp only [UInt32.toBitVec_or, UInt32.toBitVec_and, UInt32.toBitVec_xor, BitVec.getLsbD_or, BitVec.getLsbD_and, BitVec.getLsbD_xor]
  cases a.toBitVec.getLsbD i <;> cases b.toBitVec.getLsbD i <;> cases c.toBitVec.getLsbD i <;> rfl
theorem choice_or (e f g : UInt32) : (e &&& f) ||| (~~~e &&& g) = choice e f g := by
  unfold choice
  apply UInt32.eq_of_toBitVec_eq
  apply BitVec.eq_of_getLsbD_eq
  intro i hi
  simp only [UInt32.toBitVec_or, UInt32.toBitVec_and, UInt32.toBitVec_xor, UInt32.toBitVec_not, BitVec.getLsbD_or, BitVec.getLsbD_and, BitVec.getLsbD_xor, BitVec.getLsbD_not, hi, decide_true, Bool.true_and]
  cases e.toBitVec.getLsbD i <;> cases f.toBitVec.getLsbD i <;> cases g.toBitVec.getLsbD i <;> rfl
/-! ### The digest's bytes -/
theorem padded_length (l : List UInt8) : (padded l).length = l.length + 1 + (119 - l.length % 64) % 64 + 8 := by
  simp [padded, be_length]; omega
theorem padded_mod (l : List UInt8) : (padded l).length % 64 = 0 := by
  rw [padded_length]; omega
theorem flatBe_length (xs : List UInt32) : (xs.flatMap fun x => be 4 x.toNat).length = 4 * xs.length := by
  induction xs with
  | nil => rfl
  | cons x xs ih => rw [List.flatMap_cons, List.length_append, ih, be_length, List.length_cons]; omega
theorem flatBe_get : ∀ (xs : List UInt32) (i k : Nat), i < xs.length → k < 4 → (xs.flatMap fun x => be 4 x.toNat)[4 * i + k]? = (be 4 (xs.getD i 0).toNat)[k]?
  | [], i, k, hi, _ => by simp at hi
  | x :: xs, 0, k, _, hk => by
    rw [List.flatMap_cons, List.getElem?_append_left (by rw [be_length]; omega)]
    simp
  | x :: xs, i + 1, k, hi, hk => by
    rw [List.flatMap_cons, List.getElem?_append_right (by rw [be_length]; omega), be_length, show 4 * (i + 1) + k - 4 = 4 * i + k from by omega, flatBe_get xs i k (by simpa using hi) hk]
    simp
theorem sha_length (l : List UInt8) : (sha l).length = 32 := by
  rw [sha, flatBe_length]; rfl
theorem sha_get (l : List UInt8) {i k : Nat} (hi : i < 8) (hk : k < 4) : (be 4 ((shaR l).list.getD i 0).toNat)[k]? = some ((sha l).getD (4 * i + k) 0) := by
  have h1 : (sha l)[4 * i + k]? = _ := flatBe_get (shaR l).list i k hi hk
  rw [← h1, List.getD_eq_getElem?_getD, List.getElem?_eq_getElem (by rw [sha_length]; omega)]
  rfl
def tableB (bs : List UInt8) (m : Nat) : List Value := (bs ++ List.replicate (m - bs.length) 0).map byteV
theorem tableB_length {bs : List UInt8} {m : Nat} (h : bs.length ≤ m) : (tableB bs m).length = m := by simp [tableB]; omega
theorem tableB_nil (m : Nat) : List.replicate m (.int .u8 0) = tableB [] m := by simp [tableB, byteV]
theorem tableB_full {bs : List UInt8} {m : Nat} (h : bs.length = m) : tableB bs m = bs.map byteV := by subst h; simp [tableB]
theorem tableB_step {bs : List UInt8} {m j : Nat} (hm : bs.length = m) (h : j < m) : (tableB (bs.take j) m).set j (byteV (bs.getD j 0)) = tableB (bs.take (j + 1)) m := by
  have hj : j < bs.length := by omega
  have h1 : m - (bs.take j).length = (m - (bs.take (j + 1)).length) + 1 := by simp; omega
  have h2 : bs.take (j + 1) = bs.take j ++ [bs.getD j 0] := by
    rw [List.take_add_one, List.getElem?_eq_getElem hj, List.getD_eq_getElem?_getD, List.getElem?_eq_getElem hj]; rfl
  rw [tableB, h1, List.replicate_succ, List.map_append, List.map_cons, List.set_append_right _ _ (by simp; omega)]
  rw [tableB, h2, List.map_append, List.map_append, List.append_assoc]
  congr 1
  rw [← h2]
  simp [Nat.min_eq_left (Nat.le_of_lt hj)]
theorem all_bytes (xs : List UInt8) : (xs.map byteV).all (·.oneCell') = true := by simp [byteV, Value.oneCell']
theorem byt_vals (l : List UInt8) : byt l = lst ((l.map byteV).map .v) := by unfold byt; rw [List.map_map]; rfl
theorem bytes_ones (l : List UInt8) : ∀ u ∈ l.map byteV, u.oneCell' = true := fun u hu => by
  simp only [List.mem_map] at hu; obtain ⟨b, _, rfl⟩ := hu; rfl
end Go.Proofs.Ytdnblilocdddpaa
