/-
  OWN WORDS: what a state of a running digest holds, as a function of the bytes that it has taken in, as plain mathematics. Nothing of one program stands here.
-/
import Derived.Test.YtidlikaiileggaaDoorSha
namespace Go.Proofs.YtidlikaiileggaaDoor
open Go Go.RowKit

/-- Place i of the part block: the last byte that came to that place, or zero. -/
def restAt (l : List UInt8) (i : Nat) : UInt8 := if (l.length + 63 - i) / 64 = 0 then 0 else l.getD (64 * ((l.length + 63 - i) / 64 - 1) + i) 0
def restL (l : List UInt8) : List UInt8 := (List.range 64).map (restAt l)
def fullR (l : List UInt8) : R8 := if l.length < 64 then ⟨0, 0, 0, 0, 0, 0, 0, 0⟩ else chain H8 l (l.length / 64)
def stM (f : R8) (r : List UInt8) (n : Nat) : List Value := f.list.map u32V ++ (r.map byteV ++ [.int .u64 (n : Int)])
def stL (l : List UInt8) : List Value := stM (fullR l) (restL l) l.length
def stV (l : List UInt8) : Value := aggV (stL l)
theorem restL_length (l : List UInt8) : (restL l).length = 64 := by simp [restL]
theorem restL_get (l : List UInt8) {i : Nat} (h : i < 64) : (restL l)[i]? = some (restAt l i) := by simp [restL, h]
theorem stM_length {f : R8} {r : List UInt8} {n : Nat} (hr : r.length = 64) : (stM f r n).length = 73 := by simp [stM, hr, R8.list]
theorem stM_full (f : R8) (r : List UInt8) (n : Nat) : ((stM f r n).drop 0).take 8 = f.list.map u32V := by
  rw [List.drop_zero, stM, List.take_left' (by simp [R8.list])]
theorem stM_rest {f : R8} {r : List UInt8} {n : Nat} (hr : r.length = 64) : ((stM f r n).drop 8).take 64 = r.map byteV := by
  rw [stM, List.drop_left' (by simp [R8.list]), List.take_left' (by simp [hr])]
theorem stM_size {f : R8} {r : List UInt8} {n : Nat} (hr : r.length = 64) : (stM f r n)[72]? = some (.int .u64 (n : Int)) := by
  rw [stM, List.getElem?_append_right (by simp [R8.list]), List.getElem?_append_right (by simp [R8.list, hr])]
  simp [R8.list, hr]
theorem stM_setSize {f : R8} {r : List UInt8} {n m : Nat} (hr : r.length = 64) : (stM f r n).set 72 (.int .u64 (m : Int)) = stM f r m := by
  rw [stM, List.set_append_right _ _ (by simp [R8.list]), List.set_append_right _ _ (by simp [R8.list, hr])]
  simp [R8.list, hr, stM]
theorem stM_setFull {f f' : R8} {r : List UInt8} {n : Nat} : (stM f r n).take 0 ++ f'.list.map u32V ++ (stM f r n).drop (0 + (f'.list.map u32V).length) = stM f' r n := by
  rw [R8.size, List.take_zero, List.nil_append, Nat.zero_add, stM, List.drop_left' (by simp [R8.list]), stM]
theorem stM_ones {f : R8} {r : List UInt8} {n : Nat} : (stM f r n).all (·.oneCell') = true := by
  simp [stM, List.all_append, u32V, byteV, Value.oneCell']
theorem stL_length (l : List UInt8) : (stL l).length = 73 := stM_length (restL_length l)
theorem stL_full (l : List UInt8) : ((stL l).drop 0).take 8 = (fullR l).list.map u32V := stM_full _ _ _
theorem stL_rest (l : List UInt8) : ((stL l).drop 8).take 64 = (restL l).map byteV := stM_rest (restL_length l)
theorem stL_size (l : List UInt8) : (stL l)[72]? = some (.int .u64 (l.length : Int)) := stM_size (restL_length l)
theorem stL_nil : stL [] = List.replicate 8 (.int .u32 0) ++ List.replicate 64 (.int .u8 0) ++ [.int .u64 0] := by kernel_rfl
theorem stL_ones (l : List UInt8) : (stL l).all (·.oneCell') = true := stM_ones

theorem chain_append (s : R8) (l b : List UInt8) : ∀ k, 64 * k ≤ l.length → chain s (l ++ b) k = chain s l k
  | 0, _ => rfl
  | k + 1, h => by
    have h1 := chain_append s l b k (by omega)
    rw [chain, chain, h1, List.drop_append_of_le_length (by omega), List.take_append_of_le_length (by simp; omega)]
/-- What is known of the full blocks, whether there is one or not. -/
theorem chain_start (l : List UInt8) (h : l.length < 64) : chain H8 l (l.length / 64) = H8 := by rw [Nat.div_eq_of_lt h]; rfl
theorem restAt_grow (l b : List UInt8) (i : Nat) (hi : i < 64) (hb : l.length % 64 + b.length ≤ 64) :
    restAt (l ++ b) i = if i < l.length % 64 then restAt l i else if i < l.length % 64 + b.length then b.getD (i - l.length % 64) 0 else restAt l i := by
  have hlen : (l ++ b).length = l.length + b.length := by simp
  by_cases h1 : i < l.length % 64
  · rw [if_pos h1]
    have h2 : (l.length + b.length + 63 - i) / 64 = (l.length + 63 - i) / 64 := by omega
    have h3 : ¬ (l.length + 63 - i) / 64 = 0 := by omega
    have h4 : 64 * ((l.length + 63 - i) / 64 - 1) + i < l.length := by omega
    rw [restAt, restAt, hlen, h2, if_neg h3, if_neg h3, List.getD_eq_getElem?_getD, List.getD_eq_getElem?_getD, List.getElem?_append_left h4]
  · rw [if_neg h1]
    by_cases h2 : i < l.length % 64 + b.length
    · rw [if_pos h2]
      have h3 : (l.length + b.length + 63 - i) / 64 = l.length / 64 + 1 := by omega
      have h4 : 64 * (l.length / 64 + 1 - 1) + i = l.length + (i - l.length % 64) := by omega
      rw [restAt, hlen, h3, if_neg (by omega), h4, List.getD_eq_getElem?_getD, List.getElem?_append_right (by omega), List.getD_eq_getElem?_getD]
      congr 2
      omega
    · rw [if_neg h2]
      have h3 : (l.length + b.length + 63 - i) / 64 = (l.length + 63 - i) / 64 := by omega
      by_cases h5 : (l.length + 63 - i) / 64 = 0
      · rw [restAt, restAt, hlen, h3, if_pos h5, if_pos h5]
      · have h4 : 64 * ((l.length + 63 - i) / 64 - 1) + i < l.length := by omega
        rw [restAt, restAt, hlen, h3, if_neg h5, if_neg h5, List.getD_eq_getElem?_getD, List.getD_eq_getElem?_getD, List.getElem?_append_left h4]
theorem restL_step (l b : List UInt8) (hb : l.length % 64 + b.length ≤ 64) : (restL l).take (l.length % 64) ++ b ++ (restL l).drop (l.length % 64 + b.length) = restL (l ++ b) := by
  have hk : l.length % 64 < 64 := Nat.mod_lt _ (by decide)
  apply List.ext_getElem?
  intro i
  rcases Nat.lt_or_ge i 64 with hi | hi
  · rw [restL_get _ hi, restAt_grow l b i hi hb]
    by_cases h1 : i < l.length % 64
    · rw [if_pos h1, List.append_assoc, List.getElem?_append_left (by simp [restL_length]; omega), List.getElem?_take, if_pos h1, restL_get _ hi]
    · rw [if_neg h1]
      by_cases h2 : i < l.length % 64 + b.length
      · rw [if_pos h2, List.append_assoc, List.getElem?_append_right (by simp [restL_length]; omega)]
        have h3 : i - ((restL l).take (l.length % 64)).length = i - l.length % 64 := by simp [restL_length]; omega
        rw [h3, List.getElem?_append_left (by omega), List.getD_eq_getElem?_getD, List.getElem?_eq_getElem (by omega)]
        rfl
      · rw [if_neg h2, List.getElem?_append_right (by simp [restL_length]; omega), List.getElem?_drop]
        have h3 : l.length % 64 + b.length + (i - ((restL l).take (l.length % 64) ++ b).length) = i := by simp [restL_length]; omega
        rw [h3, restL_get _ hi]
  · rw [List.getElem?_eq_none (by simp [restL_length]; omega), List.getElem?_eq_none (by rw [restL_length]; exact hi)]
/-- The bytes that fill no block yet. -/
theorem restL_take (l : List UInt8) : (restL l).take (l.length % 64) = l.drop (64 * (l.length / 64)) := by
  have hk : l.length % 64 < 64 := Nat.mod_lt _ (by decide)
  apply List.ext_getElem?
  intro i
  rw [List.getElem?_take, List.getElem?_drop]
  split
  · rename_i hi
    rw [restL_get _ (by omega), restAt]
    have h3 : (l.length + 63 - i) / 64 = l.length / 64 + 1 := by omega
    rw [h3, if_neg (by omega), Nat.add_sub_cancel, List.getD_eq_getElem?_getD, List.getElem?_eq_getElem (by omega)]
    rfl
  · rw [List.getElem?_eq_none (by omega)]
/-- A block that is full. -/
theorem restL_block (l : List UInt8) (h : l.length % 64 = 0) (h0 : 0 < l.length) : restL l = (l.drop (64 * (l.length / 64 - 1))).take 64 := by
  apply List.ext_getElem?
  intro i
  rw [List.getElem?_take, List.getElem?_drop]
  split
  · rename_i hi
    rw [restL_get _ hi, restAt]
    have h3 : (l.length + 63 - i) / 64 = l.length / 64 := by omega
    rw [h3, if_neg (by omega), List.getD_eq_getElem?_getD, List.getElem?_eq_getElem (by omega)]
    rfl
  · rw [List.getElem?_eq_none (by rw [restL_length]; omega)]
theorem fullR_same (l b : List UInt8) (h : (l.length + b.length) / 64 = l.length / 64) : fullR (l ++ b) = fullR l := by
  unfold fullR
  rw [List.length_append, h, chain_append _ _ _ _ (by omega)]
  by_cases h1 : l.length < 64
  · rw [if_pos h1, if_pos (by omega)]
  · rw [if_neg h1, if_neg (by omega)]
theorem fullR_step (l b : List UInt8) (h : l.length % 64 + b.length = 64) : fullR (l ++ b) = compress (chain H8 l (l.length / 64)) (restL (l ++ b)) := by
  have hk : l.length % 64 < 64 := Nat.mod_lt _ (by decide)
  have h1 : (l ++ b).length / 64 = l.length / 64 + 1 := by simp; omega
  rw [fullR, if_neg (by simp; omega), h1, chain, chain_append _ _ _ _ (by omega), restL_block _ (by simp; omega) (by simp; omega), h1, Nat.add_sub_cancel]
/-- Bytes are copied to where the part block goes on. -/
theorem st_copy (L r : List UInt8) : (stL L).take (8 + L.length % 64) ++ (r.take (64 - L.length % 64)).map byteV ++ (stL L).drop (8 + L.length % 64 + min r.length (64 - L.length % 64)) = stM (fullR L) (restL (L ++ r.take (64 - L.length % 64))) L.length := by
  have hk : L.length % 64 < 64 := Nat.mod_lt _ (by decide)
  have hb : (r.take (64 - L.length % 64)).length = min r.length (64 - L.length % 64) := by rw [List.length_take, Nat.min_comm]
  have h8 : ((fullR L).list.map u32V).length = 8 := R8.size _
  rw [← restL_step L (r.take (64 - L.length % 64)) (by rw [hb]; omega), hb]
  have h1 : (stL L).take (8 + L.length % 64) = (fullR L).list.map u32V ++ ((restL L).take (L.length % 64)).map byteV := by
    rw [stL, stM, List.take_append, h8, Nat.add_sub_cancel_left, List.take_of_length_le (by rw [h8]; omega), List.take_append_of_le_length (by simp [restL_length]; omega), List.map_take]
  have h2 : (stL L).drop (8 + L.length % 64 + min r.length (64 - L.length % 64)) = ((restL L).drop (L.length % 64 + min r.length (64 - L.length % 64))).map byteV ++ [.int .u64 (L.length : Int)] := by
    rw [stL, stM, List.drop_append, h8, List.drop_eq_nil_of_le (by rw [h8]; omega), List.nil_append, show 8 + L.length % 64 + min r.length (64 - L.length % 64) - 8 = L.length % 64 + min r.length (64 - L.length % 64) from by omega,
      List.drop_append_of_le_length (by simp [restL_length]; omega), List.map_drop]
  rw [h1, h2, stM]
  simp
/-- What is left of a string behind its full blocks, with its ending. -/
theorem padded_tail (l e : List UInt8) : l ++ e = l.take (64 * (l.length / 64)) ++ (l.drop (64 * (l.length / 64)) ++ e) := by
  rw [← List.append_assoc, List.take_append_drop]
/-- The blocks behind the first k. -/
theorem chain_tail (s : R8) (a t : List UInt8) (k : Nat) (ha : a.length = 64 * k) : ∀ i, chain (chain s a k) t i = chain s (a ++ t) (k + i)
  | 0 => by rw [Nat.add_zero, chain_append _ _ _ _ (by omega)]; rfl
  | i + 1 => by
    have h1 : (a ++ t).drop (64 * (k + i)) = t.drop (64 * i) := by
      rw [List.drop_append, show a.drop (64 * (k + i)) = [] from List.drop_eq_nil_of_le (by omega), List.nil_append, show 64 * (k + i) - a.length = 64 * i from by omega]
    rw [chain, chain_tail s a t k ha i, ← Nat.add_assoc, chain, h1]
theorem tableB_more {bs c : List UInt8} {m : Nat} (h : bs.length + c.length ≤ m) : (tableB bs m).take bs.length ++ c.map byteV ++ (tableB bs m).drop (bs.length + c.length) = tableB (bs ++ c) m := by
  have h1 : m - bs.length = c.length + (m - (bs ++ c).length) := by rw [List.length_append]; omega
  rw [tableB, List.map_append, List.take_left' (by simp), List.drop_append, List.drop_eq_nil_of_le (by simp), List.nil_append, List.length_map, Nat.add_sub_cancel_left, h1, List.map_replicate, List.drop_replicate, Nat.add_sub_cancel_left, tableB, List.map_append, List.map_append, List.map_replicate]
theorem flatBe_take : ∀ (xs : List UInt32) (i : Nat), i < xs.length → (xs.flatMap fun x => be 4 x.toNat).take (4 * (i + 1)) = (xs.flatMap fun x => be 4 x.toNat).take (4 * i) ++ be 4 (xs.getD i 0).toNat
  | [], i, h => by simp at h
  | x :: xs, 0, _ => by
    rw [List.flatMap_cons, List.take_left' (by rw [be_length]), Nat.mul_zero, List.take_zero]; rfl
  | x :: xs, i + 1, h => by
    have hb : (be 4 x.toNat).length = 4 := be_length _ _
    have h1 : ∀ k, 4 ≤ k → (be 4 x.toNat ++ xs.flatMap fun x => be 4 x.toNat).take k = be 4 x.toNat ++ (xs.flatMap fun x => be 4 x.toNat).take (k - 4) := fun k hk => by
      rw [List.take_append, hb, show (be 4 x.toNat).take k = be 4 x.toNat from List.take_of_length_le (by omega)]
    rw [List.flatMap_cons, h1 _ (by omega), h1 _ (by omega), show 4 * (i + 1 + 1) - 4 = 4 * (i + 1) from by omega, show 4 * (i + 1) - 4 = 4 * i from by omega,
      flatBe_take xs i (by simpa using h), List.append_assoc]
    rfl
theorem sha_part (l : List UInt8) {i : Nat} (h : i < 8) : ((sha l).take (4 * i + 4)).drop (4 * i) = be 4 ((shaR l).list.getD i 0).toNat := by
  have h1 : (sha l).take (4 * (i + 1)) = (sha l).take (4 * i) ++ be 4 ((shaR l).list.getD i 0).toNat := flatBe_take (shaR l).list i h
  rw [show 4 * i + 4 = 4 * (i + 1) from by omega, h1, List.drop_left' (by rw [List.length_take, sha_length]; omega)]
theorem sha_copy (l : List UInt8) {i : Nat} (h : i < 8) : (tableB ((sha l).take (4 * i)) 32).take (0 + 4 * i) ++ ((be 4 ((shaR l).list.getD i 0).toNat).take (32 - 4 * i)).map byteV ++ (tableB ((sha l).take (4 * i)) 32).drop (0 + 4 * i + min (be 4 ((shaR l).list.getD i 0).toNat).length (32 - 4 * i)) = tableB ((sha l).take (4 * (i + 1))) 32 := by
  have hb : (be 4 ((shaR l).list.getD i 0).toNat).length = 4 := be_length _ _
  have hl : ((sha l).take (4 * i)).length = 4 * i := by rw [List.length_take, sha_length]; omega
  have h1 : (sha l).take (4 * (i + 1)) = (sha l).take (4 * i) ++ be 4 ((shaR l).list.getD i 0).toNat := flatBe_take (shaR l).list i h
  have := tableB_more (bs := (sha l).take (4 * i)) (c := be 4 ((shaR l).list.getD i 0).toNat) (m := 32) (by rw [hl, hb]; omega)
  rw [h1, ← this, hl, hb, Nat.zero_add, show (be 4 ((shaR l).list.getD i 0).toNat).take (32 - 4 * i) = be 4 ((shaR l).list.getD i 0).toNat from List.take_of_length_le (by omega), Nat.min_eq_left (by omega)]
/-- What follows a string of n bytes, up to the end of a block. -/
def endL (n : Nat) : List UInt8 := 128 :: (List.replicate ((119 - n % 64) % 64) 0 ++ be 8 (8 * n))
theorem endL_length (n : Nat) : (endL n).length = 1 + (119 - n % 64) % 64 + 8 := by simp [endL, be_length]; omega
def tailL (l : List UInt8) : List UInt8 := l.drop (64 * (l.length / 64)) ++ endL l.length
theorem tailL_length (l : List UInt8) : (tailL l).length = l.length % 64 + (1 + (119 - l.length % 64) % 64 + 8) := by
  rw [tailL, List.length_append, List.length_drop, endL_length]; omega
theorem tailL_mod (l : List UInt8) : (tailL l).length = 64 * ((tailL l).length / 64) := by
  rw [tailL_length]; omega
theorem tailL_sha (l : List UInt8) : chain (chain H8 l (l.length / 64)) (tailL l) ((tailL l).length / 64) = shaR l := by
  have ha : (l.take (64 * (l.length / 64))).length = 64 * (l.length / 64) := by rw [List.length_take]; omega
  have h1 : chain H8 l (l.length / 64) = chain H8 (l.take (64 * (l.length / 64))) (l.length / 64) := by
    have := chain_append H8 (l.take (64 * (l.length / 64))) (l.drop (64 * (l.length / 64))) (l.length / 64) (by omega)
    rwa [List.take_append_drop] at this
  have h2 : padded l = l.take (64 * (l.length / 64)) ++ tailL l := padded_tail l (endL l.length)
  have h3 : (padded l).length / 64 = l.length / 64 + (tailL l).length / 64 := by
    rw [h2, List.length_append, ha]; omega
  rw [h1, chain_tail _ _ _ _ ha, ← h2, ← h3]; rfl
theorem tailL_block (l : List UInt8) {ys : List Value} {i : Nat} (h : i < (tailL l).length / 64) : (((tailL l).map byteV ++ ys).drop (64 * i)).take 64 = (((tailL l).drop (64 * i)).take 64).map byteV := by
  rw [List.drop_append_of_le_length (by simp; omega), List.take_append_of_le_length (by simp; omega), List.map_take, List.map_drop]
theorem stL_zero_append (l : List UInt8) : stL (l ++ []) = stL l := by rw [List.append_nil]
end Go.Proofs.YtidlikaiileggaaDoor
