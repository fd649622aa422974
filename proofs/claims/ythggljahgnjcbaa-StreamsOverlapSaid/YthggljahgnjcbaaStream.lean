/-
  OWN WORDS: a key stream as plain mathematics; the parts that a range of its blocks stands for. Nothing of one program stands here.
-/
import Derived.Test.YthggljahgnjcbaaAes
import Derived.Test.YthggljahgnjcbaaNum
namespace Go.Proofs.Ythggljahgnjcbaa
open Go Go.RowKit
set_option linter.unusedVariables false

/-- The bytes of a counter's block. -/
def ctrL (s c t : Nat) : List UInt8 := be 4 s ++ be 8 c ++ be 4 t
theorem ctrL_length (s c t : Nat) : (ctrL s c t).length = 16 := by simp [ctrL, be_length]
/-- A block of the key stream. -/
def ksB (k : Sta) (s c t : Nat) : Sta := enc (expand k) (byL (ctrL s c t))
theorem ksB_by {k : Sta} (hk : By k) (s c t : Nat) : By (ksB k s c t) := enc_by (expand_lt hk)
def ksAt (k : Sta) (s c o : Nat) : Nat := ksB k s c (o / 16) (o % 16)
theorem ksAt_lt {k : Sta} (hk : By k) (s c o : Nat) : ksAt k s c o < 256 := ksB_by hk _ _ _ _
def xorG (k : Sta) (s c o : Nat) (F : Nat → Nat) : Nat → Nat := fun i => F i ^^^ ksAt k s c (o + i)
theorem xorG_lt {k : Sta} (hk : By k) (s c o : Nat) {F : Nat → Nat} (hF : ∀ i, F i < 256) (i : Nat) : xorG k s c o F i < 256 := xor_lt _ _ (hF i) (ksB_by hk _ _ _ _)
def xorK (k : Sta) (s c o : Nat) (l : List UInt8) : List UInt8 := (List.range l.length).map fun i => UInt8.ofNat (xorG k s c o (byL l) i)
theorem xorK_length (k : Sta) (s c o : Nat) (l : List UInt8) : (xorK k s c o l).length = l.length := by simp [xorK]
theorem xorK_get {k : Sta} {s c o i : Nat} {l : List UInt8} (h : i < l.length) : (xorK k s c o l)[i]? = some (UInt8.ofNat (xorG k s c o (byL l) i)) := by simp [xorK, h]
theorem ofNat_byte {n : Nat} (h : n < 256) : byteV (UInt8.ofNat n) = .int .u8 ((n : Nat) : Int) := by
  unfold byteV
  rw [UInt8.toNat_ofNat', Nat.mod_eq_of_lt h]
theorem xorK_row {k : Sta} (hk : By k) (s c o : Nat) (l : List UInt8) {n : Nat} (hn : l.length = n) : (xorK k s c o l).map byteV = rowV n (xorG k s c o (byL l)) := by
  subst hn
  unfold xorK rowV
  rw [List.map_map]
  exact List.map_congr_left fun i _ => ofNat_byte (xorG_lt hk s c o (byL_lt l) i)
theorem byL_get {l : List UInt8} {i : Nat} (h : i < l.length) : l[i]? = some (UInt8.ofNat (byL l i)) := by
  rw [List.getElem?_eq_getElem h]
  congr 1
  unfold byL
  rw [List.getD_eq_getElem?_getD, List.getElem?_eq_getElem h, Option.getD_some, UInt8.ofNat_toNat]
theorem byL_xorK {k : Sta} (hk : By k) {s c o i : Nat} {l : List UInt8} (h : i < l.length) : byL (xorK k s c o l) i = xorG k s c o (byL l) i := by
  show ((xorK k s c o l).getD i 0).toNat = _
  rw [List.getD_eq_getElem?_getD, xorK_get h, Option.getD_some, UInt8.toNat_ofNat', Nat.mod_eq_of_lt (xorG_lt hk s c o (byL_lt l) i)]
theorem xorK_xorK {k : Sta} (hk : By k) (s c o : Nat) (l : List UInt8) : xorK k s c o (xorK k s c o l) = l := by
  apply List.ext_getElem?
  intro i
  rcases Nat.lt_or_ge i l.length with h | h
  · rw [xorK_get (by rw [xorK_length]; exact h), byL_get h]
    congr 2
    show byL (xorK k s c o l) i ^^^ ksAt k s c (o + i) = byL l i
    rw [byL_xorK hk h]
    show byL l i ^^^ ksAt k s c (o + i) ^^^ ksAt k s c (o + i) = byL l i
    rw [Nat.xor_assoc, Nat.xor_self, Nat.xor_zero]
  · rw [List.getElem?_eq_none (by rw [xorK_length, xorK_length]; exact h), List.getElem?_eq_none h]
theorem byL_left {a b : List UInt8} {i : Nat} (h : i < a.length) : byL (a ++ b) i = byL a i := by
  unfold byL
  rw [List.getD_eq_getElem?_getD, List.getD_eq_getElem?_getD, List.getElem?_append_left h]
theorem byL_right (a b : List UInt8) (i : Nat) : byL (a ++ b) (a.length + i) = byL b i := by
  unfold byL
  rw [List.getD_eq_getElem?_getD, List.getD_eq_getElem?_getD, List.getElem?_append_right (by omega), Nat.add_sub_cancel_left]
theorem xorK_append (k : Sta) (s c o : Nat) (a b : List UInt8) : xorK k s c o (a ++ b) = xorK k s c o a ++ xorK k s c (o + a.length) b := by
  unfold xorK
  rw [List.length_append, List.range_add, List.map_append, List.map_map]
  congr 1
  · refine List.map_congr_left fun i hi => ?_
    have hi := List.mem_range.1 hi
    show UInt8.ofNat (byL (a ++ b) i ^^^ _) = UInt8.ofNat (byL a i ^^^ _)
    rw [byL_left hi]
  · refine List.map_congr_left fun i _ => ?_
    show UInt8.ofNat (byL (a ++ b) (a.length + i) ^^^ ksAt k s c (o + (a.length + i))) = UInt8.ofNat (byL b i ^^^ ksAt k s c (o + a.length + i))
    rw [byL_right, Nat.add_assoc]
theorem xorK_nil (k : Sta) (s c o : Nat) : xorK k s c o [] = [] := rfl

/-! ### In blocks: a bytes of the first block are skipped, m bytes there are -/
def dnS (a m i : Nat) : Nat := min m (16 * i - a)
def skS (a i : Nat) : Nat := if i = 0 then a else 0
def rpS (a m i : Nat) : Nat := if dnS a m i = m then dnS a m (i - 1) else dnS a m i
theorem dnS_zero (a m : Nat) : dnS a m 0 = 0 := by unfold dnS; omega
theorem rpS_zero {a m : Nat} (hm : 0 < m) : rpS a m 0 = 0 := by unfold rpS; rw [dnS_zero, if_neg (by omega)]
theorem dnS_lt {a m i : Nat} (hm : 0 < m) (hi : i < (a + m - 1) / 16 + 1) : dnS a m i < m := by unfold dnS; omega
theorem rpS_lt {a m i : Nat} (hm : 0 < m) (hi : i < (a + m - 1) / 16 + 1) : rpS a m i = dnS a m i := by unfold rpS; rw [if_neg (by have := dnS_lt hm hi; omega)]
theorem skS_lt {a : Nat} (ha : a < 16) (i : Nat) : skS a i < 16 := by unfold skS; split <;> omega
theorem dnS_next {a m i : Nat} (ha : a < 16) (hm : 0 < m) (hi : i < (a + m - 1) / 16 + 1) : dnS a m i + min (m - dnS a m i) (16 - skS a i) = dnS a m (i + 1) := by
  unfold dnS skS
  split <;> omega
theorem dnS_end {a m : Nat} (ha : a < 16) (hm : 0 < m) : dnS a m ((a + m - 1) / 16 + 1) = m := by unfold dnS; omega
theorem rpS_next {a m i : Nat} (ha : a < 16) (hm : 0 < m) (hi : i < (a + m - 1) / 16 + 1) : (if m - dnS a m i = min (m - dnS a m i) (16 - skS a i) then dnS a m i else dnS a m i + min (m - dnS a m i) (16 - skS a i)) = rpS a m (i + 1) := by
  have h1 := dnS_next ha hm hi
  have h2 := dnS_lt hm hi
  unfold rpS
  rw [Nat.add_sub_cancel]
  by_cases h : dnS a m (i + 1) = m
  · rw [if_pos h, if_pos (by omega)]
  · rw [if_neg h, if_neg (by omega)]; exact h1
/-- The bytes of one block. -/
theorem xorG_block {k : Sta} {s c o m i j : Nat} {F : Nat → Nat} (hm : 0 < m) (hi : i < (o % 16 + m - 1) / 16 + 1) (hj : j < min (m - dnS (o % 16) m i) (16 - skS (o % 16) i)) :
    F (dnS (o % 16) m i + j) ^^^ ksB k s c (o / 16 + i) (skS (o % 16) i + j) = xorG k s c o F (dnS (o % 16) m i + j) := by
  have h : o + (dnS (o % 16) m i + j) = 16 * (o / 16 + i) + (skS (o % 16) i + j) ∧ skS (o % 16) i + j < 16 := by
    have h1 := dnS_lt hm hi
    have h2 := Nat.div_add_mod o 16
    have h3 := Nat.mod_lt o (show 0 < 16 by decide)
    generalize o % 16 = a at *
    generalize o / 16 = d at *
    unfold dnS skS at *
    split at hj <;> rename_i h0 <;> (first | rw [if_pos h0] | rw [if_neg h0]) <;> constructor <;> omega
  unfold xorG ksAt
  rw [h.1, show (16 * (o / 16 + i) + (skS (o % 16) i + j)) / 16 = o / 16 + i from by omega, show (16 * (o / 16 + i) + (skS (o % 16) i + j)) % 16 = skS (o % 16) i + j from by omega]
theorem skS_zero (a : Nat) : skS a 0 = a := if_pos rfl
theorem skS_succ (a i : Nat) : skS a (i + 1) = 0 := if_neg (Nat.succ_ne_zero i)
theorem copy_row (l : List UInt8) (xs : List Value) (hx : xs.length = l.length) (G : Nat → Nat) : xs.take 0 ++ (l.take l.length).map byteV ++ xs.drop (0 + min l.length l.length) = rowV l.length (mid (byL l) G 0) := by
  rw [← mid_zero, ← rowV_byL rfl, Nat.min_self, Nat.zero_add, List.take_zero, List.nil_append, List.take_length, List.drop_eq_nil_of_le (by omega), List.append_nil]
theorem ctr_flat (s c t : Nat) : [be 4 s, be 8 c, be 4 t].flatten = ctrL s c t := by simp [ctrL]
theorem by_lst7 {l : List Nat} (h : l.all (fun x => Nat.blt x 256) = true) : By (lst16 l) := fun i => by
  unfold lst16
  rw [List.getD_eq_getElem?_getD]
  cases hi : l[i]? with
  | none => exact Nat.zero_lt_succ _
  | some x => exact Nat.le_of_ble_eq_true (List.all_eq_true.1 h x (List.mem_of_getElem? hi))
theorem eq16_all {f g : Sta} (h : (List.range 16).all (fun i => Nat.beq (f i) (g i)) = true) : Eq16 f g := fun i hi => Nat.eq_of_beq_eq_true (List.all_eq_true.1 h i (List.mem_range.2 hi))
theorem K_key (k : Nat → Nat) (r : List Value) : ((rowV 16 k ++ r).drop 0).take 16 = rowV 16 k := by rw [List.drop_zero]; exact List.take_left' (rowV_length _ _)
theorem K_non (k : Nat → Nat) (a b : Value) : ((rowV 16 k ++ [a, b]).drop 16).take 2 = [a, b] := by
  rw [List.drop_left' (rowV_length _ _)]; rfl
theorem K_len (k : Nat → Nat) (a b : Value) : (rowV 16 k ++ [a, b]).length = 18 := by simp [rowV_length]
theorem K_one (k : Nat → Nat) (a b : Value) (ha : a.oneCell' = true) (hb : b.oneCell' = true) : (rowV 16 k ++ [a, b]).all (·.oneCell') = true := by rw [List.all_append, rowV_one]; simp [ha, hb]
theorem wrapN_u16 {n : Nat} (h : n < 65536) : IntKind.u16.wrap (n : Int) = n := by
  simp [IntKind.wrap, IntKind.signed, IntKind.bits]
  omega
/-- Bytes out of a row of numbers. -/
def rowL (f : Nat → Nat) (o m : Nat) : List UInt8 := (List.range m).map fun j => UInt8.ofNat (f (o + j))
theorem rowL_length (f : Nat → Nat) (o m : Nat) : (rowL f o m).length = m := by simp [rowL]
theorem rowL_row {n o m : Nat} {f : Nat → Nat} (hf : ∀ i, f i < 256) (h : o + m ≤ n) : ((rowV n f).drop o).take m = (rowL f o m).map byteV := by
  rw [rowV_part (g := fun j => f (o + j)) h (fun _ _ => rfl)]
  unfold rowL rowV
  rw [List.map_map]
  exact List.map_congr_left fun i _ => (ofNat_byte (hf _)).symm
theorem cutid_lt {n : Nat} (h : n ≤ 256) (i : Nat) : cutF (fun j => j) n i < 256 := by
  show (if i < n then i else 0) < 256
  split <;> omega
/-- Two ranges of counters. -/
def overB (s c f l s' c' f' l' : Nat) : Bool := decide (s = s' ∧ c = c') && decide (max f f' ≤ min l l')
end Go.Proofs.Ythggljahgnjcbaa
