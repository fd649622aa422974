/-
  OWN TEXTS of this seat, put together, part 4: Aes, C06a, C06b, Stream, C07a, C07b, Nonce, C08a, Acts, Seal, SealE, Rets.
-/
import Derived.Test.YtffiflfjlemggaaGreatDoorM3
import Derived.Test.YtffiflfjlemggaaGreatDoorM1
import Derived.Test.YtffiflfjlemggaaGreatDoorM2
namespace Go.Proofs.YtffiflfjlemggaaGreatDoor
open Go Go.RowKit
set_option maxRecDepth 100000
set_option linter.unusedVariables false

/-! ### Rows of bytes -/
/-- n bytes as values. -/
def rowV (n : Nat) (f : Nat → Nat) : List Value := (List.range n).map fun i => .int .u8 ((f i : Nat) : Int)
theorem rowV_length (n : Nat) (f : Nat → Nat) : (rowV n f).length = n := by simp [rowV]
theorem rowV_get {n i : Nat} {f : Nat → Nat} (h : i < n) : (rowV n f)[i]? = some (.int .u8 ((f i : Nat) : Int)) := by simp [rowV, h]
theorem rowV_one (n : Nat) (f : Nat → Nat) : (rowV n f).all (·.oneCell') = true := by
  rw [List.all_eq_true]
  intro u hu
  simp only [rowV, List.mem_map] at hu
  obtain ⟨i, _, rfl⟩ := hu
  rfl
theorem rowV_congr {n : Nat} {f g : Nat → Nat} (h : ∀ i < n, f i = g i) : rowV n f = rowV n g :=
  List.map_congr_left fun i hi => by rw [h i (List.mem_range.1 hi)]
theorem rowV_set {n k x : Nat} {f : Nat → Nat} : (rowV n f).set k (.int .u8 ((x : Nat) : Int)) = rowV n fun i => if i = k then x else f i := by
  unfold rowV
  rw [map_set_range]
  apply List.map_congr_left
  intro i _
  by_cases hi : i = k
  · simp only [hi, if_true]
  · simp only [hi, if_false]
theorem rowV_set' {n k x : Nat} {f g : Nat → Nat} (h : ∀ i < n, (if i = k then x else f i) = g i) : (rowV n f).set k (.int .u8 ((x : Nat) : Int)) = rowV n g := by
  rw [rowV_set]; exact rowV_congr h
theorem rowV_zero (n : Nat) : List.replicate n (.int .u8 0) = rowV n fun _ => 0 := by
  apply List.ext_getElem?
  intro j
  simp only [rowV, List.getElem?_map, List.getElem?_replicate]
  by_cases hj : j < n
  · simp [hj]
  · simp [hj]
theorem rowV_part {n o m : Nat} {f g : Nat → Nat} (h : o + m ≤ n) (hg : ∀ i < m, f (o + i) = g i) : ((rowV n f).drop o).take m = rowV m g := by
  apply List.ext_getElem?
  intro j
  rw [List.getElem?_take]
  split
  · rename_i hj
    rw [List.getElem?_drop, rowV_get (by omega), rowV_get hj, hg j hj]
  · rename_i hj
    rw [List.getElem?_eq_none (by rw [rowV_length]; omega)]
theorem rowV_put {n o m : Nat} {f g h : Nat → Nat} (hm : o + m ≤ n) (hh : ∀ i < n, (if o ≤ i ∧ i < o + m then g (i - o) else f i) = h i) : (rowV n f).take o ++ rowV m g ++ (rowV n f).drop (o + m) = rowV n h := by
  apply List.ext_getElem?
  intro j
  rcases Nat.lt_or_ge j n with hj | hj
  · rw [rowV_get hj, ← hh j hj]
    rcases Nat.lt_or_ge j o with h1 | h1
    · rw [List.getElem?_append_left (by simp [rowV_length]; omega), List.getElem?_append_left (by simp [rowV_length]; omega), List.getElem?_take, if_pos h1, rowV_get hj, if_neg (by omega)]
    · rcases Nat.lt_or_ge j (o + m) with h2 | h2
      · rw [List.getElem?_append_left (by simp [rowV_length]; omega), List.getElem?_append_right (by simp [rowV_length]; omega), if_pos ⟨h1, h2⟩]
        simp only [List.length_take, rowV_length]
        rw [Nat.min_eq_left (by omega), rowV_get (by omega)]
      · rw [List.getElem?_append_right (by simp [rowV_length]; omega), if_neg (by omega)]
        simp only [List.length_append, List.length_take, rowV_length]
        rw [Nat.min_eq_left (by omega), List.getElem?_drop, show o + m + (j - (o + m)) = j from by omega, rowV_get hj]
  · rw [List.getElem?_eq_none (by simp [rowV_length]; omega), List.getElem?_eq_none (by rw [rowV_length]; omega)]
/-- The bytes of a list. -/
def byL (l : List UInt8) (i : Nat) : Nat := (l.getD i 0).toNat
theorem byL_lt (l : List UInt8) (i : Nat) : byL l i < 256 := (l.getD i 0).toNat_lt
theorem rowV_byL {l : List UInt8} {n : Nat} (h : l.length = n) : l.map byteV = rowV n (byL l) := by
  apply List.ext_getElem?
  intro j
  rcases Nat.lt_or_ge j n with hj | hj
  · rw [rowV_get hj, List.getElem?_map, List.getElem?_eq_getElem (by omega), Option.map_some]
    simp only [byL, List.getD_eq_getElem?_getD, List.getElem?_eq_getElem (show j < l.length by omega), Option.getD_some]
    rfl
  · rw [List.getElem?_eq_none (by rw [List.length_map]; omega), List.getElem?_eq_none (by rw [rowV_length]; omega)]

/-! ### The transformations -/
abbrev Sta := Nat → Nat
/-- Bytes, at all places. -/
def By (f : Sta) : Prop := ∀ i, f i < 256
/-- The same 16 bytes. -/
def Eq16 (f g : Sta) : Prop := ∀ i < 16, f i = g i
theorem Eq16.refl (f : Sta) : Eq16 f f := fun _ _ => rfl
theorem Eq16.symm {f g : Sta} (h : Eq16 f g) : Eq16 g f := fun i hi => (h i hi).symm
theorem Eq16.trans {f g h : Sta} (a : Eq16 f g) (b : Eq16 g h) : Eq16 f h := fun i hi => (a i hi).trans (b i hi)
def addS (f k : Sta) : Sta := fun i => f i ^^^ k i
def subS (f : Sta) : Sta := fun i => sub8 (f i)
def backS (f : Sta) : Sta := fun i => back8 (f i)
def rotS (f : Sta) : Sta := fun i => f (4 * ((i / 4 + i % 4) % 4) + i % 4)
def rotbS (f : Sta) : Sta := fun i => f (4 * ((i / 4 + (4 - i % 4)) % 4) + i % 4)
/-- A byte of a column, behind. -/
def col (a : Nat → Nat) (r : Nat) : Nat := gm 2 (a (r % 4) ^^^ a ((r + 1) % 4)) ^^^ a ((r + 1) % 4) ^^^ a ((r + 2) % 4) ^^^ a ((r + 3) % 4)
def mixS (f : Sta) : Sta := fun i => col (fun r => f (4 * (i / 4) + r)) (i % 4)
def mixbS (f : Sta) : Sta := mixS (mixS (mixS f))
theorem xor_lt (a b : Nat) (ha : a < 256) (hb : b < 256) : a ^^^ b < 256 := Nat.xor_lt_two_pow (n := 8) ha hb
theorem addS_by {f k : Sta} (hf : By f) (hk : By k) : By (addS f k) := fun i => xor_lt _ _ (hf i) (hk i)
theorem subS_by (f : Sta) : By (subS f) := fun _ => sub8_lt _
theorem backS_by (f : Sta) : By (backS f) := fun _ => back8_lt _
theorem rotS_by {f : Sta} (h : By f) : By (rotS f) := fun _ => h _
theorem rotbS_by {f : Sta} (h : By f) : By (rotbS f) := fun _ => h _
theorem col_lt {a : Nat → Nat} (h : ∀ r, a r < 256) (r : Nat) : col a r < 256 := xor_lt _ _ (xor_lt _ _ (xor_lt _ _ (gm_lt _ (by decide)) (h _)) (h _)) (h _)
theorem mixS_by {f : Sta} (h : By f) : By (mixS f) := fun _ => col_lt (fun _ => h _) _
theorem mixbS_by {f : Sta} (h : By f) : By (mixbS f) := mixS_by (mixS_by (mixS_by h))
theorem addS_eq {f g k : Sta} (h : Eq16 f g) : Eq16 (addS f k) (addS g k) := fun i hi => by simp only [addS, h i hi]
theorem backS_eq {f g : Sta} (h : Eq16 f g) : Eq16 (backS f) (backS g) := fun i hi => by simp only [backS, h i hi]
theorem rotbS_eq {f g : Sta} (h : Eq16 f g) : Eq16 (rotbS f) (rotbS g) := fun i _ => h _ (by omega)
theorem col_eq {a b : Nat → Nat} (h : ∀ r < 4, a r = b r) (r : Nat) : col a r = col b r := by
  simp only [col, h _ (show r % 4 < 4 by omega), h _ (show (r + 1) % 4 < 4 by omega), h _ (show (r + 2) % 4 < 4 by omega), h _ (show (r + 3) % 4 < 4 by omega)]
theorem mixS_eq {f g : Sta} (h : Eq16 f g) : Eq16 (mixS f) (mixS g) := fun i hi => col_eq (fun r hr => h _ (by omega)) _
theorem mixbS_eq {f g : Sta} (h : Eq16 f g) : Eq16 (mixbS f) (mixbS g) := mixS_eq (mixS_eq (mixS_eq h))
theorem add_add (f k : Sta) : addS (addS f k) k = f := funext fun i => by show f i ^^^ k i ^^^ k i = f i; rw [Nat.xor_assoc, Nat.xor_self, Nat.xor_zero]
theorem back_subS {f : Sta} (h : By f) : backS (subS f) = f := funext fun i => back_sub (h i)
theorem rotb_rot (f : Sta) : Eq16 (rotbS (rotS f)) f := fun i hi => by
  show f _ = f i
  congr 1; omega
theorem xor_lcomm (a b c : Nat) : a ^^^ (b ^^^ c) = b ^^^ (a ^^^ c) := by rw [← Nat.xor_assoc, Nat.xor_comm a b, Nat.xor_assoc]
theorem xs2 (x y z w X Y Z W : Nat) : (X ^^^ Y ^^^ y ^^^ z ^^^ w) ^^^ (Y ^^^ Z ^^^ z ^^^ w ^^^ x) = (X ^^^ Z) ^^^ (x ^^^ y) := by
  apply Nat.eq_of_testBit_eq
  intro i
  simp only [Nat.testBit_xor]
  generalize x.testBit i = p0
  generalize y.testBit i = p1
  generalize z.testBit i = p2
  generalize w.testBit i = p3
  generalize X.testBit i = p4
  generalize Y.testBit i = p5
  generalize Z.testBit i = p6
  revert p0 p1 p2 p3 p4 p5 p6
  decide
theorem xs3 (A x y z w X Y Z W : Nat) : A ^^^ (Y ^^^ Z ^^^ z ^^^ w ^^^ x) ^^^ (Z ^^^ W ^^^ w ^^^ x ^^^ y) ^^^ (W ^^^ X ^^^ x ^^^ y ^^^ z) = A ^^^ (X ^^^ Y) ^^^ x := by
  apply Nat.eq_of_testBit_eq
  intro i
  simp only [Nat.testBit_xor]
  generalize x.testBit i = p0
  generalize y.testBit i = p1
  generalize z.testBit i = p2
  generalize w.testBit i = p3
  generalize X.testBit i = p4
  generalize Y.testBit i = p5
  generalize Z.testBit i = p6
  generalize W.testBit i = p7
  generalize A.testBit i = p8
  revert p0 p1 p2 p3 p4 p5 p6 p7 p8
  decide
theorem col2 (a : Nat → Nat) : ∀ r < 4, col (col a) r = gm 2 (gm 2 (a r ^^^ a ((r + 2) % 4))) ^^^ a r := by
  have hl := gm_addR 2
  have hc : ∀ b : Nat → Nat, ∀ r, col b r = gm 2 (b (r % 4)) ^^^ gm 2 (b ((r + 1) % 4)) ^^^ b ((r + 1) % 4) ^^^ b ((r + 2) % 4) ^^^ b ((r + 3) % 4) := fun b r => by simp only [col, hl _ _]
  have go : ∀ x y z w : Nat, gm 2 ((gm 2 x ^^^ gm 2 y ^^^ y ^^^ z ^^^ w) ^^^ (gm 2 y ^^^ gm 2 z ^^^ z ^^^ w ^^^ x)) ^^^ (gm 2 y ^^^ gm 2 z ^^^ z ^^^ w ^^^ x) ^^^ (gm 2 z ^^^ gm 2 w ^^^ w ^^^ x ^^^ y) ^^^ (gm 2 w ^^^ gm 2 x ^^^ x ^^^ y ^^^ z) = gm 2 (gm 2 (x ^^^ z)) ^^^ x := fun x y z w => by
    rw [xs2 x y z w _ _ _ 0, xs3, hl _ _, hl (gm 2 x) (gm 2 z), hl x z, hl x y, hl (gm 2 x) (gm 2 z), Nat.xor_assoc, Nat.xor_assoc, ← Nat.xor_assoc (gm 2 x ^^^ gm 2 y), Nat.xor_self, Nat.zero_xor]
  intro r hr
  obtain rfl | rfl | rfl | rfl : r = 0 ∨ r = 1 ∨ r = 2 ∨ r = 3 := by omega
  · show gm 2 (col a 0 ^^^ col a 1) ^^^ col a 1 ^^^ col a 2 ^^^ col a 3 = _
    rw [hc, hc, hc, hc]; exact go (a 0) (a 1) (a 2) (a 3)
  · show gm 2 (col a 1 ^^^ col a 2) ^^^ col a 2 ^^^ col a 3 ^^^ col a 0 = _
    rw [hc, hc, hc, hc]; exact go (a 1) (a 2) (a 3) (a 0)
  · show gm 2 (col a 2 ^^^ col a 3) ^^^ col a 3 ^^^ col a 0 ^^^ col a 1 = _
    rw [hc, hc, hc, hc]; exact go (a 2) (a 3) (a 0) (a 1)
  · show gm 2 (col a 3 ^^^ col a 0) ^^^ col a 0 ^^^ col a 1 ^^^ col a 2 = _
    rw [hc, hc, hc, hc]; exact go (a 3) (a 0) (a 1) (a 2)
theorem col4 (a : Nat → Nat) (r : Nat) (hr : r < 4) : col (col (col (col a))) r = a r := by
  have hl := gm_addR 2
  rw [col2 (col (col a)) r hr, col2 a r hr, col2 a ((r + 2) % 4) (by omega), show ((r + 2) % 4 + 2) % 4 = r from by omega]
  simp only [hl _ _, Nat.xor_comm, xor_lcomm, Nat.xor_self, Nat.xor_zero]
theorem mixS_col (f : Sta) (c r : Nat) (hr : r < 4) : mixS f (4 * c + r) = col (fun r => f (4 * c + r)) r := by
  show col (fun q => f (4 * ((4 * c + r) / 4) + q)) ((4 * c + r) % 4) = _
  rw [show (4 * c + r) / 4 = c from by omega, show (4 * c + r) % 4 = r from by omega]
theorem mix4 (f : Sta) : Eq16 (mixS (mixbS f)) f := fun i hi => by
  have h1 : ∀ (g : Sta) (c : Nat), ∀ r < 4, (fun r => mixS g (4 * c + r)) r = col (fun r => g (4 * c + r)) r := fun g c r hr => mixS_col g c r hr
  show col (fun r => mixS (mixS (mixS f)) (4 * (i / 4) + r)) (i % 4) = f i
  rw [col_eq (h1 _ _)]
  have e1 : ∀ r, col (fun r => mixS (mixS f) (4 * (i / 4) + r)) r = col (col (col (fun r => f (4 * (i / 4) + r)))) r := fun r => by
    rw [col_eq (h1 _ _)]
    exact col_eq (fun q _ => col_eq (h1 _ _) q) r
  rw [col_eq (fun q _ => e1 q), col4 _ _ (by omega)]
  show f _ = f i
  congr 1; omega
theorem mixb_mix (f : Sta) : Eq16 (mixbS (mixS f)) f := mix4 f

/-! ### The cipher -/
/-- A round key of a schedule, whose bytes stand side by side. -/
def keyS (s : Nat → Nat) (k : Nat) : Sta := fun i => s (16 * k + i)
def encR (s : Nat → Nat) (f : Sta) : Nat → Sta
  | 0 => addS f (keyS s 0)
  | r + 1 => addS (mixS (rotS (subS (encR s f r)))) (keyS s (r + 1))
def enc (s : Nat → Nat) (f : Sta) : Sta := addS (rotS (subS (encR s f 9))) (keyS s 10)
def decR (s : Nat → Nat) (f : Sta) : Nat → Sta
  | 0 => backS (rotbS (addS f (keyS s 10)))
  | r + 1 => backS (rotbS (mixbS (addS (decR s f r) (keyS s (9 - r)))))
def dec (s : Nat → Nat) (f : Sta) : Sta := addS (decR s f 9) (keyS s 0)
theorem decR_by {s : Nat → Nat} {f : Sta} : ∀ r, By (decR s f r)
  | 0 => backS_by _
  | _ + 1 => backS_by _
section
variable {s : Nat → Nat} {f g : Sta} (hs : ∀ i, s i < 256)
include hs
theorem keyS_by (k : Nat) : By (keyS s k) := fun _ => hs _
theorem encR_by (hf : By f) : ∀ r, By (encR s f r)
  | 0 => addS_by hf (keyS_by hs 0)
  | r + 1 => addS_by (mixS_by (rotS_by (subS_by _))) (keyS_by hs _)
theorem enc_by : By (enc s f) := addS_by (rotS_by (subS_by _)) (keyS_by hs _)
theorem dec_step (hf : By f) : ∀ r, r ≤ 9 → Eq16 (decR s (enc s f) r) (encR s f (9 - r))
  | 0, _ => by
    show Eq16 (backS (rotbS (addS (addS (rotS (subS (encR s f 9))) (keyS s 10)) (keyS s 10)))) _
    rw [add_add]
    exact (backS_eq (rotb_rot _)).trans (by rw [back_subS (encR_by hs hf 9)]; exact Eq16.refl _)
  | r + 1, hr => by
    have ih := dec_step hf r (by omega)
    rw [show 9 - r = 9 - (r + 1) + 1 from by omega] at ih
    show Eq16 (backS (rotbS (mixbS (addS (decR s (enc s f) r) (keyS s (9 - r)))))) _
    refine (backS_eq (rotbS_eq (mixbS_eq (addS_eq ih)))).trans ?_
    show Eq16 (backS (rotbS (mixbS (addS (addS (mixS (rotS (subS (encR s f (9 - (r + 1)))))) (keyS s (9 - (r + 1) + 1))) (keyS s (9 - r)))))) _
    rw [show 9 - (r + 1) + 1 = 9 - r from by omega, add_add]
    refine (backS_eq ((rotbS_eq (mixb_mix _)).trans (rotb_rot _))).trans ?_
    rw [back_subS (encR_by hs hf _)]; exact Eq16.refl _
theorem dec_enc (hf : By f) : Eq16 (dec s (enc s f)) f := by
  refine (addS_eq (dec_step hs hf 9 (Nat.le_refl _))).trans ?_
  show Eq16 (addS (addS f (keyS s 0)) (keyS s 0)) f
  rw [add_add]; exact Eq16.refl _
end
/-! ### The round keys -/
/-- The word that the first column of the next round key takes in. -/
def wordS (k : Sta) (p r : Nat) : Nat := sub8 (k (12 + (r + 1) % 4)) ^^^ (if r = 0 then p else 0)
/-- The sum of c columns of the key, and of the word. -/
def accS (k : Sta) (p r : Nat) : Nat → Nat
  | 0 => wordS k p r
  | c + 1 => k (4 * c + r) ^^^ accS k p r c
def nextS (k : Sta) (p : Nat) : Sta := fun i => accS k p (i % 4) (i / 4 + 1)
/-- The round keys of a key. -/
def roundK (k : Sta) : Nat → Sta
  | 0 => k
  | n + 1 => nextS (roundK k n) (gpow 2 n)
def expand (k : Sta) : Nat → Nat := fun j => roundK k (j / 16) (j % 16)
theorem accS_lt {k : Sta} {p : Nat} (hk : By k) (hp : p < 256) (r : Nat) : ∀ c, accS k p r c < 256
  | 0 => by
    show sub8 _ ^^^ _ < 256
    refine xor_lt _ _ (sub8_lt _) ?_
    split
    · exact hp
    · decide
  | c + 1 => xor_lt _ _ (hk _) (accS_lt hk hp r c)
theorem roundK_by {k : Sta} (hk : By k) : ∀ n, By (roundK k n)
  | 0 => hk
  | n + 1 => fun _ => accS_lt (roundK_by hk n) (gpow_lt n) _ _
theorem expand_lt {k : Sta} (hk : By k) (j : Nat) : expand k j < 256 := roundK_by hk _ _
/-! ### The definition's rows and words -/
theorem v8 {a b : Nat} (h : a = b) : Value.int .u8 ((a : Nat) : Int) = .int .u8 ((b : Nat) : Int) := by rw [h]
theorem expand_key (k : Sta) {j : Nat} (h : j < 16) : expand k j = k j := by
  show roundK k (j / 16) (j % 16) = k j
  rw [show j / 16 = 0 from by omega, show j % 16 = j from by omega]; rfl
theorem word_row (k : Sta) (p : Nat) : [.int .u8 ((sub8 (k 13) ^^^ p : Nat) : Int), .int .u8 ((sub8 (k 14) : Nat) : Int), .int .u8 ((sub8 (k 15) : Nat) : Int), .int .u8 ((sub8 (k 12) : Nat) : Int)] = rowV 4 (wordS k p) := by
  simp [rowV, wordS, List.range_succ]
/-- A row that is filled from its head. -/
def cutF (f : Nat → Nat) (i : Nat) : Nat → Nat := fun j => if j < i then f j else 0
theorem cutF_full (n : Nat) (f : Nat → Nat) : rowV n (cutF f n) = rowV n f := rowV_congr fun i hi => by simp only [cutF, if_pos hi]
/-- A row that is rewritten from its head. -/
def mid (f g : Nat → Nat) (i : Nat) : Nat → Nat := fun j => if j < i then g j else f j
theorem mid_zero (n : Nat) (f g : Nat → Nat) : rowV n f = rowV n (mid f g 0) := rowV_congr fun i _ => by simp [mid]
theorem mid_set {n : Nat} {f g : Nat → Nat} {i o x : Nat} (ho : o = i) (hx : x = g i) : (rowV n (mid f g i)).set o (.int .u8 ((x : Nat) : Int)) = rowV n (mid f g (i + 1)) := by
  subst ho; subst hx
  refine rowV_set' fun y hy => ?_
  unfold mid
  by_cases h : y = o
  · subst h; rw [if_pos rfl, if_pos (by omega)]
  · rw [if_neg h]
    by_cases h1 : y < o
    · rw [if_pos h1, if_pos (by omega)]
    · rw [if_neg h1, if_neg (by omega)]
theorem mid_full (n : Nat) (f g : Nat → Nat) : rowV n (mid f g n) = rowV n g := rowV_congr fun i hi => by simp only [mid, if_pos hi]
theorem mid_at (f g : Nat → Nat) (i : Nat) : mid f g i i = f i := if_neg (Nat.lt_irrefl i)
/-! ### The program's rows on their way -/
theorem mixS_at (f : Sta) (c : Nat) {r : Nat} (hr : r < 4) : gm 2 (f (4 * c + (r + 0) % 4) ^^^ f (4 * c + (r + 1) % 4)) ^^^ f (4 * c + (r + 1) % 4) ^^^ f (4 * c + (r + 2) % 4) ^^^ f (4 * c + (r + 3) % 4) = mixS f (4 * c + r) := by
  rw [mixS_col f c r hr]; rfl
def rotbM (f : Sta) (z : Nat) : Sta := fun x => if 4 * ((x / 4 + (4 - x % 4)) % 4) + x % 4 < z then rotbS f x else f x
theorem rotbM_zero (f : Sta) : rowV 16 f = rowV 16 (rotbM f 0) := rowV_congr fun i _ => by simp [rotbM]
theorem rotbM_full (f : Sta) : rowV 16 (rotbM f 16) = rowV 16 (rotbS f) := rowV_congr fun i hi => by simp only [rotbM, if_pos (show 4 * ((i / 4 + (4 - i % 4)) % 4) + i % 4 < 16 by omega)]
theorem rotbM_set {f : Sta} {c r : Nat} (hc : c < 4) (hr : r < 4) : (rowV 16 (rotbM f (4 * c + r))).set (4 * ((c + r) % 4) + r) (.int .u8 ((f (4 * c + r) : Nat) : Int)) = rowV 16 (rotbM f (4 * c + r + 1)) := by
  refine rowV_set' fun y hy => ?_
  unfold rotbM
  have e0 : (4 * ((c + r) % 4) + r) % 4 = r := by omega
  have e1 : (4 * ((c + r) % 4) + r) / 4 = (c + r) % 4 := by omega
  have e2 : ((c + r) % 4 + (4 - r)) % 4 = c := by omega
  by_cases h : y = 4 * ((c + r) % 4) + r
  · subst h
    rw [if_pos rfl, e0, e1, e2, if_pos (by omega)]
    show _ = f _
    rw [e0, e1, e2]
  · rw [if_neg h]
    by_cases h1 : 4 * ((y / 4 + (4 - y % 4)) % 4) + y % 4 < 4 * c + r
    · rw [if_pos h1, if_pos (by omega)]
    · rw [if_neg h1, if_neg fun h2 => h ?_]
      have h3 : 4 * ((y / 4 + (4 - y % 4)) % 4) + y % 4 = 4 * c + r := by omega
      have h4 : y % 4 = r := by omega
      have h5 : (y / 4 + (4 - y % 4)) % 4 = c := by omega
      rw [h4] at h5
      omega
theorem nextS_at (k : Sta) (p : Nat) {c r : Nat} (hr : r < 4) : nextS k p (4 * c + r) = accS k p r (c + 1) := by
  show accS k p ((4 * c + r) % 4) ((4 * c + r) / 4 + 1) = _
  rw [show (4 * c + r) % 4 = r from by omega, show (4 * c + r) / 4 = c from by omega]
theorem nextS_col (k : Sta) (p : Nat) {c r : Nat} (hr : r < 4) : k (4 * c + r) ^^^ accS k p r c = nextS k p (4 * c + r) := (nextS_at k p hr).symm
theorem expand_at (k : Sta) {q i : Nat} (hq : q < 10) (hi : i < 16) : cutF (expand k) (16 * (q + 1)) (0 + q * 16 + i) = roundK k q i := by
  unfold cutF
  rw [if_pos (by omega)]
  show roundK k ((0 + q * 16 + i) / 16) ((0 + q * 16 + i) % 16) = _
  rw [show (0 + q * 16 + i) / 16 = q from by omega, show (0 + q * 16 + i) % 16 = i from by omega]
theorem expand_start (k : Sta) : rowV 176 (fun j => if j < 16 then k j else 0) = rowV 176 (cutF (expand k) (16 * (0 + 1))) := rowV_congr fun j _ => by
  unfold cutF
  by_cases h : j < 16
  · rw [if_pos h, if_pos h, expand_key k h]
  · rw [if_neg h, if_neg h]
theorem expand_put (k : Sta) {q : Nat} (hq : q < 10) : (rowV 176 (cutF (expand k) (16 * (q + 1)))).take (0 + (q + 1) * 16) ++ rowV 16 (nextS (roundK k q) (gpow 2 q)) ++ (rowV 176 (cutF (expand k) (16 * (q + 1)))).drop (0 + (q + 1) * 16 + (rowV 16 (nextS (roundK k q) (gpow 2 q))).length) = rowV 176 (cutF (expand k) (16 * (q + 1 + 1))) := by
  rw [rowV_length]
  refine rowV_put (by omega) fun i hi => ?_
  unfold cutF
  by_cases h : 0 + (q + 1) * 16 ≤ i ∧ i < 0 + (q + 1) * 16 + 16
  · rw [if_pos h, if_pos (by omega)]
    show roundK k (q + 1) _ = roundK k (i / 16) (i % 16)
    rw [show i / 16 = q + 1 from by omega, show i - (0 + (q + 1) * 16) = i % 16 from by omega]
  · rw [if_neg h]
    by_cases h1 : i < 16 * (q + 1)
    · rw [if_pos h1, if_pos (by omega)]
    · rw [if_neg h1, if_neg (by omega)]

/-! ### Examples: the kernel goes through them round by round -/
end Go.Proofs.YtffiflfjlemggaaGreatDoor
namespace Go.Proofs.YtffiflfjlemggaaGreatDoor
open Go Go.RowKit
set_option linter.unusedVariables false
set_option maxRecDepth 20000

theorem zero167 : ZeroIs Tryz.prog 167 (List.replicate 4 (.int .u8 0)) := by unfold ZeroIs; kernel_rfl
theorem size167 : SizeIs Tryz.prog 167 4 := by unfold SizeIs; kernel_rfl
theorem zero43 : ZeroIs Tryz.prog 43 (List.replicate 176 (.int .u8 0)) := by unfold ZeroIs; kernel_rfl
theorem size43 : SizeIs Tryz.prog 43 176 := by unfold SizeIs; kernel_rfl
theorem zero117 : ZeroIs Tryz.prog 117 (List.replicate 16 (.int .u8 0)) := by unfold ZeroIs; kernel_rfl
theorem size117 : SizeIs Tryz.prog 117 16 := by unfold SizeIs; kernel_rfl
end Go.Proofs.YtffiflfjlemggaaGreatDoor
namespace Go.Proofs.YtffiflfjlemggaaGreatDoor
open Go Go.RowKit
set_option linter.unusedVariables false
set_option maxRecDepth 20000

theorem info1 : InfoIs Tryz.prog 1 (.nilFunc) 8 := by unfold InfoIs; kernel_rfl
theorem add_fnW (g : Nat) (f k : Nat → Nat) (hf : By f) (hk : By k) : FnW Tryz.prog 50 [] 117 g (rowV 16 (f)) (rowV 16 (addS f k)) ([ptr g, aggV (rowV 16 k)].map D.v) := by
 refine FnW.of (n := 21) (kb := 1000080) (kw := 1000081) Tryz.func50 rfl (by kernel_rfl) Tryz.ntmps50 (by simp) (by decide) (fun p hp => by cases hp) (by decide) (by decide) [(0, .v (ptr g)), (1, .v (aggV (rowV 16 k)))]
  (fun p hp => by simp only [List.mem_cons, List.not_mem_nil, or_false] at hp; rcases hp with rfl | rfl <;> exact ⟨_, rfl, rfl⟩) fun w₀ w₁ hw hM => ?_
 have hBg : w₀.heap.size ≤ g := Nat.le_of_eq hw
 refine GS ?_
 refine TN 0 ?_
 refine RN ?_
 refine ZB 1000003 rfl fun b3 ⟨hBb3, hb3⟩ => ?_
 refine TL ?_
 refine RN ?_
 refine GT ?_
 refine RL 1000003 Tryz.underlying37 rfl rfl (size37.of rfl) ?_
 refine RVN 1 rfl ?_
 refine A.block ?_
 refine A.loop (ι := Nat) (fun i => i ≤ 16) (fun i => [(0, .v (ptr g)), (6, .v (aggV (rowV 16 k))), (7, .v (nI i)), (1000080, blk g 117 (rowV 16 (mid f (addS f k) i))), (1000081, wroteD 117 g w₁)]) (fun i => 16 - i) 0 ?_ ?_ ?_
 ·exact Nat.zero_le _
 ·exact (KC 0 rfl (KC 6 rfl (KC 7 rfl (KE 1000080 rfl (congrArg _ (mid_zero 16 f _)) (KC 1000081 rfl KN)))))
 intro i hi'
 refine GV rfl ?_
 refine QS ?_
 refine A.cond rfl (fun hc8 => ?_) (fun hc8 => ?_)
 ·have hi : i < 16 := by simp at hc8; omega
  refine QK ?_
  refine QSB ?_
  refine GT ?_
  refine RM rfl ?_
  refine RS (ok_indexV1 i Tryz.underlying37 Tryz.underlying5 rfl info5 rfl rfl rfl (by omega) (rowV_get (by omega))) ?_
  refine RVN 2 rfl ?_
  refine A.reg (by kernel_rfl) (by kernel_rfl) (.inr (by kernel_rfl)) ?_
  refine TD 9 ?_
  refine RV 2 rfl ?_
  refine RS (ok_nilCheck rfl) ?_
  refine RS (ok_index0 _ Tryz.underlying117 info5 rfl rfl (rfl) (by omega)) ?_
  refine RS (ok_loadV (s := 1000080) (by decide) Tryz.underlying5 rfl rfl rfl (rowV_get (by omega))) ?_; refine RZ (nB (f i)) (v8 (mid_at f _ i)) ?_
  refine RV 2 rfl ?_
  refine RZ (nB (addS f k i)) (by rw [show IntKind.u8.bits = 8 from rfl, xor_u8N (hf _) (hk _), show f i ^^^ k i = addS f k i from rfl]) ?_
  refine RS (ok_nilCheck rfl) ?_
  refine RS (ok_index0 _ Tryz.underlying117 info5 rfl rfl (rfl) (by omega)) ?_
  refine RN ?_
  refine ⟨_, eff_storeS (n := 21) (s := 1000080) info5 rfl rfl rfl hBg rfl (by simp only [rowV_length]; omega) (LeftS.cons (t := 1000081) rfl (Surv.wrote) (LW [0, 6, 7] rfl)), ?_⟩
  refine TL ?_
  refine RN ?_
  refine End.normal_block ?_
  refine EN ?_
  refine GTE ?_
  refine RB rfl rfl rfl ?_
  refine RZ (nI (i + 1)) (by rw [wrap_i64 (by omega) (by omega)]; exact congrArg (Value.int .i64) (by omega)) ?_
  refine RVN 1 rfl ?_
  refine End.normal_then ?_
  refine End.again (i + 1) ?_ ?_ ?_
  ·show _ ≤ _; omega
  ·show _ - _ < _ - _; omega
  ·exact (KC 0 rfl (KC 6 rfl (KC 7 rfl (KE 1000080 rfl (congrArg _ (mid_set rfl rfl)) (KC 1000081 rfl KN)))))
 ·obtain rfl : i = 16 := by simp at hc8; omega
  refine A.exit ?_
  refine End.exit_then ?_
  refine End.exit_then ?_
  refine End.exit_here ?_
  exact End.wrote (kb := 1000080) (kw := 1000081) rfl rfl (mid_full 16 _ _) rfl
theorem substitute_fnW (g : Nat) (f : Nat → Nat) (hf : By f) : FnW Tryz.prog 74 [] 117 g (rowV 16 (f)) (rowV 16 (subS f)) ([ptr g].map D.v) := by
 refine FnW.of (n := 18) (kb := 1000080) (kw := 1000081) Tryz.func74 rfl (by kernel_rfl) Tryz.ntmps74 (by simp) (by decide) (fun p hp => by cases hp) (by decide) (by decide) [(0, .v (ptr g))]
  (fun p hp => by simp only [List.mem_cons, List.not_mem_nil, or_false] at hp; rcases hp with rfl <;> exact ⟨_, rfl, rfl⟩) fun w₀ w₁ hw hM => ?_
 have hBg : w₀.heap.size ≤ g := Nat.le_of_eq hw
 refine GV rfl ?_
 refine A.block ?_
 refine A.loop (ι := Nat) (fun i => i ≤ 16) (fun i => [(0, .v (ptr g)), (4, .v (ptr g)), (5, .v (nI i)), (1000080, blk g 117 (rowV 16 (mid f (subS f) i))), (1000081, wroteD 117 g w₁)]) (fun i => 16 - i) 0 ?_ ?_ ?_
 ·exact Nat.zero_le _
 ·exact (KC 0 rfl (KC 4 rfl (KC 5 rfl (KE 1000080 rfl (congrArg _ (mid_zero 16 f _)) (KC 1000081 rfl KN)))))
 intro i hi'
 refine GV rfl ?_
 refine QS ?_
 refine A.cond rfl (fun hc6 => ?_) (fun hc6 => ?_)
 ·have hi : i < 16 := by simp at hc6; omega
  refine QK ?_
  refine QSB ?_
  refine GTD ?_
  refine RM rfl ?_
  refine RS (ok_nilCheck rfl) ?_
  refine RS (ok_index0 _ Tryz.underlying117 info5 rfl rfl (rfl) (by omega)) ?_
  refine RS (ok_loadV (s := 1000080) (by decide) Tryz.underlying5 rfl rfl rfl (rowV_get (by omega))) ?_; refine RZ (nB (f i)) (v8 (mid_at f _ i)) ?_
  refine RVN 2 rfl ?_
  refine A.reg (by kernel_rfl) (by kernel_rfl) (.inr (by kernel_rfl)) ?_
  refine TD 6 ?_
  refine RV 3 rfl ?_
  refine RS (ok_call (Sub_fn (f i) (hf _)) (A1 rfl)) ?_; refine RZ (nB (subS f i)) (v8 (by rfl)) ?_
  refine RS (ok_nilCheck rfl) ?_
  refine RS (ok_index0 _ Tryz.underlying117 info5 rfl rfl (rfl) (by omega)) ?_
  refine RN ?_
  refine ⟨_, eff_storeS (n := 18) (s := 1000080) info5 rfl rfl rfl hBg rfl (by simp only [rowV_length]; omega) (LeftS.cons (t := 1000081) rfl (Surv.wrote) (LW [0, 4, 5] rfl)), ?_⟩
  refine TL ?_
  refine RN ?_
  refine End.normal_block ?_
  refine EN ?_
  refine GTE ?_
  refine RB rfl rfl rfl ?_
  refine RZ (nI (i + 1)) (by rw [wrap_i64 (by omega) (by omega)]; exact congrArg (Value.int .i64) (by omega)) ?_
  refine RVN 1 rfl ?_
  refine End.normal_then ?_
  refine End.again (i + 1) ?_ ?_ ?_
  ·show _ ≤ _; omega
  ·show _ - _ < _ - _; omega
  ·exact (KC 0 rfl (KC 4 rfl (KC 5 rfl (KE 1000080 rfl (congrArg _ (mid_set rfl rfl)) (KC 1000081 rfl KN)))))
 ·obtain rfl : i = 16 := by simp at hc6; omega
  refine A.exit ?_
  refine End.exit_then ?_
  refine End.exit_then ?_
  refine End.exit_here ?_
  exact End.wrote (kb := 1000080) (kw := 1000081) rfl rfl (mid_full 16 _ _) rfl
theorem substituteBack_fnW (g : Nat) (f : Nat → Nat) (hf : By f) : FnW Tryz.prog 53 [] 117 g (rowV 16 (f)) (rowV 16 (backS f)) ([ptr g].map D.v) := by
 refine FnW.of (n := 18) (kb := 1000080) (kw := 1000081) Tryz.func53 rfl (by kernel_rfl) Tryz.ntmps53 (by simp) (by decide) (fun p hp => by cases hp) (by decide) (by decide) [(0, .v (ptr g))]
  (fun p hp => by simp only [List.mem_cons, List.not_mem_nil, or_false] at hp; rcases hp with rfl <;> exact ⟨_, rfl, rfl⟩) fun w₀ w₁ hw hM => ?_
 have hBg : w₀.heap.size ≤ g := Nat.le_of_eq hw
 refine GV rfl ?_
 refine A.block ?_
 refine A.loop (ι := Nat) (fun i => i ≤ 16) (fun i => [(0, .v (ptr g)), (4, .v (ptr g)), (5, .v (nI i)), (1000080, blk g 117 (rowV 16 (mid f (backS f) i))), (1000081, wroteD 117 g w₁)]) (fun i => 16 - i) 0 ?_ ?_ ?_
 ·exact Nat.zero_le _
 ·exact (KC 0 rfl (KC 4 rfl (KC 5 rfl (KE 1000080 rfl (congrArg _ (mid_zero 16 f _)) (KC 1000081 rfl KN)))))
 intro i hi'
 refine GV rfl ?_
 refine QS ?_
 refine A.cond rfl (fun hc6 => ?_) (fun hc6 => ?_)
 ·have hi : i < 16 := by simp at hc6; omega
  refine QK ?_
  refine QSB ?_
  refine GTD ?_
  refine RM rfl ?_
  refine RS (ok_nilCheck rfl) ?_
  refine RS (ok_index0 _ Tryz.underlying117 info5 rfl rfl (rfl) (by omega)) ?_
  refine RS (ok_loadV (s := 1000080) (by decide) Tryz.underlying5 rfl rfl rfl (rowV_get (by omega))) ?_; refine RZ (nB (f i)) (v8 (mid_at f _ i)) ?_
  refine RVN 2 rfl ?_
  refine A.reg (by kernel_rfl) (by kernel_rfl) (.inr (by kernel_rfl)) ?_
  refine TD 6 ?_
  refine RV 3 rfl ?_
  refine RS (ok_call (Back_fn (f i) (hf _)) (A1 rfl)) ?_; refine RZ (nB (backS f i)) (v8 (by rfl)) ?_
  refine RS (ok_nilCheck rfl) ?_
  refine RS (ok_index0 _ Tryz.underlying117 info5 rfl rfl (rfl) (by omega)) ?_
  refine RN ?_
  refine ⟨_, eff_storeS (n := 18) (s := 1000080) info5 rfl rfl rfl hBg rfl (by simp only [rowV_length]; omega) (LeftS.cons (t := 1000081) rfl (Surv.wrote) (LW [0, 4, 5] rfl)), ?_⟩
  refine TL ?_
  refine RN ?_
  refine End.normal_block ?_
  refine EN ?_
  refine GTE ?_
  refine RB rfl rfl rfl ?_
  refine RZ (nI (i + 1)) (by rw [wrap_i64 (by omega) (by omega)]; exact congrArg (Value.int .i64) (by omega)) ?_
  refine RVN 1 rfl ?_
  refine End.normal_then ?_
  refine End.again (i + 1) ?_ ?_ ?_
  ·show _ ≤ _; omega
  ·show _ - _ < _ - _; omega
  ·exact (KC 0 rfl (KC 4 rfl (KC 5 rfl (KE 1000080 rfl (congrArg _ (mid_set rfl rfl)) (KC 1000081 rfl KN)))))
 ·obtain rfl : i = 16 := by simp at hc6; omega
  refine A.exit ?_
  refine End.exit_then ?_
  refine End.exit_then ?_
  refine End.exit_here ?_
  exact End.wrote (kb := 1000080) (kw := 1000081) rfl rfl (mid_full 16 _ _) rfl
set_option maxHeartbeats 1000000 in
theorem rotate_fnW (g : Nat) (f : Nat → Nat) : FnW Tryz.prog 75 [] 117 g (rowV 16 (f)) (rowV 16 (rotS f)) ([ptr g].map D.v) := by
 refine FnW.of (n := 32) (kb := 1000080) (kw := 1000081) Tryz.func75 rfl (by kernel_rfl) Tryz.ntmps75 (by simp) (by decide) (fun p hp => by cases hp) (by decide) (by decide) [(0, .v (ptr g))]
  (fun p hp => by simp only [List.mem_cons, List.not_mem_nil, or_false] at hp; rcases hp with rfl <;> exact ⟨_, rfl, rfl⟩) fun w₀ w₁ hw hM => ?_
 have hBg : w₀.heap.size ≤ g := Nat.le_of_eq hw
 refine GS ?_
 refine TN 3 ?_
 refine RM rfl ?_
 refine RS (ok_nilCheck rfl) ?_
 refine RS (ok_loadA (s := 1000080) (by decide) Tryz.underlying117 rfl (size117.of (rowV_length _ _)) rfl rfl) ?_
 refine RN ?_
 refine ⟨_, _, eff_allocW (n := 32) (d := 2) (k := 1000002) zero117 (by decide), fun b2 hb2 => ?_⟩
 have hBb2 := hb2.1
 have hlt_g_b2 : g < b2 := hb2.2.1 1000080 _ _ _ rfl
 have hw_b2 := hb2.2.2 1000081 _ _ _ rfl
 refine TF 4 ?_
 refine RN ?_
 refine ⟨_, eff_storeA (n := 32) (s := 1000002) (size117.of (rowV_length _ _)) rfl rfl (rowV_one _ _) hBb2 rfl (by first | (simp only [rowV_length]; done) | simp only [rowV_length, List.length_replicate]) (LB 1000080 rfl (LeftS.cons (t := 1000081) rfl (Surv.wroteN hw_b2) (LW [0, 2] rfl))), ?_⟩
 refine TL ?_
 refine RN ?_
 refine GV rfl ?_
 refine A.block ?_
 refine A.loop (ι := Nat) (fun c => c ≤ 4) (fun c => [(0, .v (ptr g)), (2, .v (.pointer (some ⟨b2, 0, none⟩))), (8, .v (nI c)), (1000002, blk b2 117 (rowV 16 (f))), (1000080, blk g 117 (rowV 16 (mid f (rotS f) (4 * c)))), (1000081, wroteD 117 g w₁)]) (fun c => 4 - c) 0 ?_ ?_ ?_
 ·exact Nat.zero_le _
 ·exact (KC 0 rfl (KC 2 rfl (KC 8 rfl (KC 1000002 rfl (KE 1000080 rfl (congrArg _ (mid_zero 16 f _)) (KC 1000081 rfl KN))))))
 intro c hc
 refine GV rfl ?_
 refine QS ?_
 refine A.cond rfl (fun hc9 => ?_) (fun hc9 => ?_)
 ·have hc4 : c < 4 := by simp at hc9; omega
  refine QK ?_
  refine QSB ?_
  refine GV rfl ?_
  refine GV rfl ?_
  refine A.block ?_
  refine A.loop (ι := Nat) (fun r => r ≤ 4) (fun r => [(0, .v (ptr g)), (2, .v (.pointer (some ⟨b2, 0, none⟩))), (3, .v (nI c)), (8, .v (nI c)), (11, .v (nI r)), (1000002, blk b2 117 (rowV 16 (f))), (1000080, blk g 117 (rowV 16 (mid f (rotS f) (4 * c + r)))), (1000081, wroteD 117 g w₁)]) (fun r => 4 - r) 0 ?_ ?_ ?_
  ·exact Nat.zero_le _
  ·exact (SV [0, 2, 3, 8, 11, 1000002, 1000080, 1000081] rfl)
  intro r hr
  refine GV rfl ?_
  refine QS ?_
  refine A.cond rfl (fun hc12 => ?_) (fun hc12 => ?_)
  ·have hr4 : r < 4 := by simp at hc12; omega
   refine QK ?_
   refine QSB ?_
   refine GV rfl ?_
   refine A.reg (by kernel_rfl) (by kernel_rfl) (.inr (by kernel_rfl)) ?_
   refine TD 16 ?_
   refine RV 3 rfl ?_
   refine RZ (nI (4 * c)) (by rw [wrap_i64 (by omega) (by omega)]; exact congrArg (Value.int .i64) (by omega)) ?_
   refine RV 2 rfl ?_
   refine RZ (nI (4 * c + r)) (by rw [wrap_i64 (by omega) (by omega)]; exact congrArg (Value.int .i64) (by omega)) ?_
   refine RV 3 rfl ?_
   refine RZ (nI (c + r)) (by rw [wrap_i64 (by omega) (by omega)]; exact congrArg (Value.int .i64) (by omega)) ?_
   refine RS (ok_rem rfl rfl (by decide)) ?_; refine RZ (nI ((c + r) % 4)) (by rw [tmod_lit _ (by decide)]; rfl) ?_
   refine RB rfl rfl rfl ?_
   refine RZ (nI (4 * ((c + r) % 4))) (by rw [wrap_i64 (by omega) (by omega)]; exact congrArg (Value.int .i64) (by omega)) ?_
   refine RV 2 rfl ?_
   refine RZ (nI (4 * ((c + r) % 4) + r)) (by rw [wrap_i64 (by omega) (by omega)]; exact congrArg (Value.int .i64) (by omega)) ?_
   refine RS (ok_index0 _ Tryz.underlying117 info5 rfl rfl (rfl) (by omega)) ?_
   refine RS (ok_loadV (s := 1000002) (by decide) Tryz.underlying5 rfl rfl rfl (rowV_get (by omega))) ?_; refine RZ (nB (rotS f (4 * c + r))) (v8 (congrArg f (by omega))) ?_
   refine RS (ok_nilCheck rfl) ?_
   refine RS (ok_index0 _ Tryz.underlying117 info5 rfl rfl (rfl) (by omega)) ?_
   refine RN ?_
   refine ⟨_, eff_storeS (n := 32) (s := 1000080) info5 rfl rfl rfl hBg rfl (by simp only [rowV_length]; omega) (LB 1000002 rfl (LeftS.cons (t := 1000081) rfl (Surv.wrote) (LW [0, 2, 3, 8, 11] rfl))), ?_⟩
   refine TL ?_
   refine RN ?_
   refine End.normal_block ?_
   refine EN ?_
   refine GTE ?_
   refine RB rfl rfl rfl ?_
   refine RZ (nI (r + 1)) (by rw [wrap_i64 (by omega) (by omega)]; exact congrArg (Value.int .i64) (by omega)) ?_
   refine RVN 1 rfl ?_
   refine End.normal_then ?_
   refine End.again (r + 1) ?_ ?_ ?_
   ·show _ ≤ _; omega
   ·show _ - _ < _ - _; omega
   ·exact (KC 0 rfl (KC 2 rfl (KC 3 rfl (KC 8 rfl (KC 11 rfl (KC 1000002 rfl (KE 1000080 rfl (congrArg _ (mid_set rfl rfl)) (KC 1000081 rfl KN))))))))
  ·obtain rfl : r = 4 := by simp at hc12; omega
   refine A.exit ?_
   refine End.exit_then ?_
   refine End.exit_then ?_
   refine End.exit_here ?_
   refine End.normal_block ?_
   refine EN ?_
   refine GTE ?_
   refine RB rfl rfl rfl ?_
   refine RZ (nI (c + 1)) (by rw [wrap_i64 (by omega) (by omega)]; exact congrArg (Value.int .i64) (by omega)) ?_
   refine RVN 1 rfl ?_
   refine End.normal_then ?_
   refine End.again (c + 1) ?_ ?_ ?_
   ·show _ ≤ _; omega
   ·show _ - _ < _ - _; omega
   ·exact (KC 0 rfl (KC 2 rfl (KC 8 rfl (KC 1000002 rfl (KE 1000080 rfl (by rw [show 4 * (c + 1) = 4 * c + 4 from by omega]) (KC 1000081 rfl KN))))))
 ·obtain rfl : c = 4 := by simp at hc9; omega
  refine A.exit ?_
  refine End.exit_then ?_
  refine End.exit_then ?_
  refine End.exit_here ?_
  exact End.wrote (kb := 1000080) (kw := 1000081) rfl rfl (mid_full 16 _ _) rfl
set_option maxHeartbeats 1000000 in
theorem rotateBack_fnW (g : Nat) (f : Nat → Nat) : FnW Tryz.prog 52 [] 117 g (rowV 16 (f)) (rowV 16 (rotbS f)) ([ptr g].map D.v) := by
 refine FnW.of (n := 32) (kb := 1000080) (kw := 1000081) Tryz.func52 rfl (by kernel_rfl) Tryz.ntmps52 (by simp) (by decide) (fun p hp => by cases hp) (by decide) (by decide) [(0, .v (ptr g))]
  (fun p hp => by simp only [List.mem_cons, List.not_mem_nil, or_false] at hp; rcases hp with rfl <;> exact ⟨_, rfl, rfl⟩) fun w₀ w₁ hw hM => ?_
 have hBg : w₀.heap.size ≤ g := Nat.le_of_eq hw
 refine GS ?_
 refine TN 3 ?_
 refine RM rfl ?_
 refine RS (ok_nilCheck rfl) ?_
 refine RS (ok_loadA (s := 1000080) (by decide) Tryz.underlying117 rfl (size117.of (rowV_length _ _)) rfl rfl) ?_
 refine RN ?_
 refine ⟨_, _, eff_allocW (n := 32) (d := 2) (k := 1000002) zero117 (by decide), fun b2 hb2 => ?_⟩
 have hBb2 := hb2.1
 have hlt_g_b2 : g < b2 := hb2.2.1 1000080 _ _ _ rfl
 have hw_b2 := hb2.2.2 1000081 _ _ _ rfl
 refine TF 4 ?_
 refine RN ?_
 refine ⟨_, eff_storeA (n := 32) (s := 1000002) (size117.of (rowV_length _ _)) rfl rfl (rowV_one _ _) hBb2 rfl (by first | (simp only [rowV_length]; done) | simp only [rowV_length, List.length_replicate]) (LB 1000080 rfl (LeftS.cons (t := 1000081) rfl (Surv.wroteN hw_b2) (LW [0, 2] rfl))), ?_⟩
 refine TL ?_
 refine RN ?_
 refine GV rfl ?_
 refine A.block ?_
 refine A.loop (ι := Nat) (fun c => c ≤ 4) (fun c => [(0, .v (ptr g)), (2, .v (.pointer (some ⟨b2, 0, none⟩))), (8, .v (nI c)), (1000002, blk b2 117 (rowV 16 (f))), (1000080, blk g 117 (rowV 16 (rotbM f (4 * c)))), (1000081, wroteD 117 g w₁)]) (fun c => 4 - c) 0 ?_ ?_ ?_
 ·exact Nat.zero_le _
 ·exact (KC 0 rfl (KC 2 rfl (KC 8 rfl (KC 1000002 rfl (KE 1000080 rfl (congrArg _ (rotbM_zero f)) (KC 1000081 rfl KN))))))
 intro c hc
 refine GV rfl ?_
 refine QS ?_
 refine A.cond rfl (fun hc9 => ?_) (fun hc9 => ?_)
 ·have hc4 : c < 4 := by simp at hc9; omega
  refine QK ?_
  refine QSB ?_
  refine GV rfl ?_
  refine GV rfl ?_
  refine A.block ?_
  refine A.loop (ι := Nat) (fun r => r ≤ 4) (fun r => [(0, .v (ptr g)), (2, .v (.pointer (some ⟨b2, 0, none⟩))), (3, .v (nI c)), (8, .v (nI c)), (11, .v (nI r)), (1000002, blk b2 117 (rowV 16 (f))), (1000080, blk g 117 (rowV 16 (rotbM f (4 * c + r)))), (1000081, wroteD 117 g w₁)]) (fun r => 4 - r) 0 ?_ ?_ ?_
  ·exact Nat.zero_le _
  ·exact (SV [0, 2, 3, 8, 11, 1000002, 1000080, 1000081] rfl)
  intro r hr
  refine GV rfl ?_
  refine QS ?_
  refine A.cond rfl (fun hc12 => ?_) (fun hc12 => ?_)
  ·have hr4 : r < 4 := by simp at hc12; omega
   refine QK ?_
   refine QSB ?_
   refine GV rfl ?_
   refine A.reg (by kernel_rfl) (by kernel_rfl) (.inr (by kernel_rfl)) ?_
   refine TD 16 ?_
   refine RV 4 rfl ?_
   refine RZ (nI (c + r)) (by rw [wrap_i64 (by omega) (by omega)]; exact congrArg (Value.int .i64) (by omega)) ?_
   refine RS (ok_rem rfl rfl (by decide)) ?_; refine RZ (nI ((c + r) % 4)) (by rw [tmod_lit _ (by decide)]; rfl) ?_
   refine RB rfl rfl rfl ?_
   refine RZ (nI (4 * ((c + r) % 4))) (by rw [wrap_i64 (by omega) (by omega)]; exact congrArg (Value.int .i64) (by omega)) ?_
   refine RV 2 rfl ?_
   refine RZ (nI (4 * ((c + r) % 4) + r)) (by rw [wrap_i64 (by omega) (by omega)]; exact congrArg (Value.int .i64) (by omega)) ?_
   refine RV 2 rfl ?_
   refine RZ (nI (4 * c)) (by rw [wrap_i64 (by omega) (by omega)]; exact congrArg (Value.int .i64) (by omega)) ?_
   refine RV 2 rfl ?_
   refine RZ (nI (4 * c + r)) (by rw [wrap_i64 (by omega) (by omega)]; exact congrArg (Value.int .i64) (by omega)) ?_
   refine RS (ok_index0 _ Tryz.underlying117 info5 rfl rfl (rfl) (by omega)) ?_
   refine RS (ok_loadV (s := 1000002) (by decide) Tryz.underlying5 rfl rfl rfl (rowV_get (by omega))) ?_; refine RZ (nB (f (4 * c + r))) (v8 (by rfl)) ?_
   refine RS (ok_nilCheck rfl) ?_
   refine RS (ok_index0 _ Tryz.underlying117 info5 rfl rfl (rfl) (by omega)) ?_
   refine RN ?_
   refine ⟨_, eff_storeS (n := 32) (s := 1000080) info5 rfl rfl rfl hBg rfl (by simp only [rowV_length]; omega) (LB 1000002 rfl (LeftS.cons (t := 1000081) rfl (Surv.wrote) (LW [0, 2, 3, 8, 11] rfl))), ?_⟩
   refine TL ?_
   refine RN ?_
   refine End.normal_block ?_
   refine EN ?_
   refine GTE ?_
   refine RB rfl rfl rfl ?_
   refine RZ (nI (r + 1)) (by rw [wrap_i64 (by omega) (by omega)]; exact congrArg (Value.int .i64) (by omega)) ?_
   refine RVN 1 rfl ?_
   refine End.normal_then ?_
   refine End.again (r + 1) ?_ ?_ ?_
   ·show _ ≤ _; omega
   ·show _ - _ < _ - _; omega
   ·exact (KC 0 rfl (KC 2 rfl (KC 3 rfl (KC 8 rfl (KC 11 rfl (KC 1000002 rfl (KE 1000080 rfl (congrArg _ (rotbM_set hc4 hr4)) (KC 1000081 rfl KN))))))))
  ·obtain rfl : r = 4 := by simp at hc12; omega
   refine A.exit ?_
   refine End.exit_then ?_
   refine End.exit_then ?_
   refine End.exit_here ?_
   refine End.normal_block ?_
   refine EN ?_
   refine GTE ?_
   refine RB rfl rfl rfl ?_
   refine RZ (nI (c + 1)) (by rw [wrap_i64 (by omega) (by omega)]; exact congrArg (Value.int .i64) (by omega)) ?_
   refine RVN 1 rfl ?_
   refine End.normal_then ?_
   refine End.again (c + 1) ?_ ?_ ?_
   ·show _ ≤ _; omega
   ·show _ - _ < _ - _; omega
   ·exact (KC 0 rfl (KC 2 rfl (KC 8 rfl (KC 1000002 rfl (KE 1000080 rfl (by rw [show 4 * (c + 1) = 4 * c + 4 from by omega]) (KC 1000081 rfl KN))))))
 ·obtain rfl : c = 4 := by simp at hc9; omega
  refine A.exit ?_
  refine End.exit_then ?_
  refine End.exit_then ?_
  refine End.exit_here ?_
  exact End.wrote (kb := 1000080) (kw := 1000081) rfl rfl (rotbM_full f) rfl
theorem mixAt_fn (f : Nat → Nat) (p q c r : Nat) (hc : c < 4) (hr : r < 8) : FnM Tryz.prog 109 [(1000002, blk p 117 (rowV 16 f)), (1000003, blk q 3 [nI c])] [.v (nI r), .v (ptr p), .v (ptr q)] (.v (nB (f (4 * c + r % 4)))) := by
 refine FnM.of (n := 12) Tryz.func109 rfl (by kernel_rfl) Tryz.ntmps109 (by simp) (by decide) (fun w => [(0, .v (nI r)), (1, .v (ptr p)), (2, .v (ptr q)), (1000002, blk p 117 (rowV 16 f)), (1000003, blk q 3 [nI c])])
  (fun w => StartM.v rfl (StartM.v rfl (StartM.v rfl (StartM.m (by simp) (by decide) (StartM.m (by simp) (by decide) StartM.nil))))) fun w₀ hM => ?_
 refine GV rfl ?_
 refine GT ?_
 refine RLV 1000003 Tryz.underlying3 rfl rfl rfl ?_
 refine RB rfl rfl rfl ?_
 refine RZ (nI (4 * c)) (by rw [wrap_i64 (by omega) (by omega)]; exact congrArg (Value.int .i64) (by omega)) ?_
 refine RM rfl ?_
 refine RS (ok_rem rfl rfl (by decide)) ?_; refine RZ (nI (r % 4)) (by rw [tmod_lit _ (by decide)]; rfl) ?_
 refine RB rfl rfl rfl ?_
 refine RZ (nI (4 * c + r % 4)) (by rw [wrap_i64 (by omega) (by omega)]; exact congrArg (Value.int .i64) (by omega)) ?_
 refine RS (ok_index0 _ Tryz.underlying117 info5 rfl rfl (rfl) (by omega)) ?_
 refine RS (ok_loadV (s := 1000002) (by decide) Tryz.underlying5 rfl rfl rfl (rowV_get (by omega))) ?_; refine RZ (nB (f (4 * c + r % 4))) (v8 (by rfl)) ?_
 refine RVN 1 rfl ?_
 refine A.ret ?_
 exact ER rfl rfl
theorem mixAt_v {f : Nat → Nat} {p q c : Nat} : ∀ x ∈ ([(1000002, blk p 117 (rowV 16 f)), (1000003, blk q 3 [nI c])] : Env), vbase ≤ x.1 := fun x hx => by
 simp only [List.mem_cons, List.not_mem_nil, or_false] at hx
 rcases hx with rfl | rfl
 ·exact vle rfl
 ·exact vle rfl
theorem zero3 : ZeroIs Tryz.prog 3 [.int .i64 0] := by unfold ZeroIs; kernel_rfl
set_option maxHeartbeats 2000000 in
theorem mix_fnW (g : Nat) (f : Nat → Nat) (hf : By f) : FnW Tryz.prog 76 [] 117 g (rowV 16 (f)) (rowV 16 (mixS f)) ([ptr g].map D.v) := by
 refine FnW.of (n := 49) (kb := 1000080) (kw := 1000081) Tryz.func76 rfl (by kernel_rfl) Tryz.ntmps76 (by simp) (by decide) (fun p hp => by cases hp) (by decide) (by decide) [(0, .v (ptr g))]
  (fun p hp => by simp only [List.mem_cons, List.not_mem_nil, or_false] at hp; rcases hp with rfl <;> exact ⟨_, rfl, rfl⟩) fun w₀ w₁ hw hM => ?_
 have hBg : w₀.heap.size ≤ g := Nat.le_of_eq hw
 refine GS ?_
 refine TN 3 ?_
 refine RM rfl ?_
 refine RS (ok_nilCheck rfl) ?_
 refine RS (ok_loadA (s := 1000080) (by decide) Tryz.underlying117 rfl (size117.of (rowV_length _ _)) rfl rfl) ?_
 refine RN ?_
 refine ⟨_, _, eff_allocW (n := 49) (d := 2) (k := 1000002) zero117 (by decide), fun b2 hb2 => ?_⟩
 have hBb2 := hb2.1
 have hlt_g_b2 : g < b2 := hb2.2.1 1000080 _ _ _ rfl
 have hw_b2 := hb2.2.2 1000081 _ _ _ rfl
 refine TF 4 ?_
 refine RN ?_
 refine ⟨_, eff_storeA (n := 49) (s := 1000002) (size117.of (rowV_length _ _)) rfl rfl (rowV_one _ _) hBb2 rfl (by first | (simp only [rowV_length]; done) | simp only [rowV_length, List.length_replicate]) (LB 1000080 rfl (LeftS.cons (t := 1000081) rfl (Surv.wroteN hw_b2) (LW [0, 2] rfl))), ?_⟩
 refine TL ?_
 refine RN ?_
 refine GV rfl ?_
 refine A.block ?_
 refine A.loop (ι := Nat) (fun c => c ≤ 4) (fun c => [(0, .v (ptr g)), (2, .v (.pointer (some ⟨b2, 0, none⟩))), (9, .v (nI c)), (1000002, blk b2 117 (rowV 16 (f))), (1000080, blk g 117 (rowV 16 (mid f (mixS f) (4 * c)))), (1000081, wroteD 117 g w₁)]) (fun c => 4 - c) 0 ?_ ?_ ?_
 ·exact Nat.zero_le _
 ·exact (KC 0 rfl (KC 2 rfl (KC 9 rfl (KC 1000002 rfl (KE 1000080 rfl (congrArg _ (mid_zero 16 f _)) (KC 1000081 rfl KN))))))
 intro c hc
 refine GV rfl ?_
 refine QS ?_
 refine A.cond rfl (fun hc10 => ?_) (fun hc10 => ?_)
 ·have hc4 : c < 4 := by simp at hc10; omega
  refine QK ?_
  refine QSB ?_
  refine GS ?_
  refine TN 1 ?_
  refine RVN 1 rfl ?_
  refine ⟨_, _, eff_allocW (n := 49) (d := 3) (k := 1000003) zero3 (by decide), fun b3 hb3 => ?_⟩
  have hBb3 := hb3.1
  have hw_b3 := hb3.2.2 1000081 _ _ _ rfl
  refine TF 2 ?_
  refine RN ?_
  refine ⟨_, eff_storeS (n := 49) (s := 1000003) info3 rfl rfl rfl hBb3 rfl (by decide) (LT 1000002 rfl (LT 1000080 rfl (LeftS.cons (t := 1000081) rfl (Surv.wroteN hw_b3) (LW [0, 2, 3, 9] rfl)))), ?_⟩
  refine TL ?_
  refine RN ?_
  refine GT ?_
  refine RS (ok_makeFuncN [ptr b2, ptr b3] ⟨rfl, rfl, trivial⟩) ?_
  refine RVN 1 rfl ?_
  refine GV rfl ?_
  refine A.block ?_
  refine A.loop (ι := Nat) (fun r => r ≤ 4) (fun r => [(0, .v (ptr g)), (2, .v (.pointer (some ⟨b2, 0, none⟩))), (3, .v (.pointer (some ⟨b3, 0, none⟩))), (4, .v (.func (.func 109) #[] #[ptr b2, ptr b3])), (9, .v (nI c)), (13, .v (nI r)), (1000002, blk b2 117 (rowV 16 (f))), (1000003, blk b3 3 [nI c]), (1000080, blk g 117 (rowV 16 (mid f (mixS f) (4 * c + r)))), (1000081, wroteD 117 g w₁)]) (fun r => 4 - r) 0 ?_ ?_ ?_
  ·exact Nat.zero_le _
  ·exact (SV [0, 2, 3, 4, 9, 13, 1000002, 1000003, 1000080, 1000081] rfl)
  intro r hr
  refine GV rfl ?_
  refine QS ?_
  refine A.cond rfl (fun hc14 => ?_) (fun hc14 => ?_)
  ·have hr4 : r < 4 := by simp at hc14; omega
   refine QK ?_
   refine QSB ?_
   refine GV rfl ?_
   refine A.reg (by kernel_rfl) (by kernel_rfl) (.inr (by kernel_rfl)) ?_
   refine TD 31 ?_
   refine RM rfl ?_
   refine RLV 1000003 Tryz.underlying3 rfl rfl rfl ?_
   refine RB rfl rfl rfl ?_
   refine RZ (nI (4 * c)) (by rw [wrap_i64 (by omega) (by omega)]; exact congrArg (Value.int .i64) (by omega)) ?_
   refine RV 2 rfl ?_
   refine RZ (nI (4 * c + r)) (by rw [wrap_i64 (by omega) (by omega)]; exact congrArg (Value.int .i64) (by omega)) ?_
   refine RV 2 rfl ?_
   refine RS (ok_callVM (mixAt_fn f b2 b3 c (r + 0) hc4 (by omega)) (SV [1000002, 1000003] rfl) mixAt_v rfl (A1 rfl)) ?_
   refine RV 3 rfl ?_
   refine RZ (nI (r + 1)) (by rw [wrap_i64 (by omega) (by omega)]; exact congrArg (Value.int .i64) (by omega)) ?_
   refine RS (ok_callVM (mixAt_fn f b2 b3 c (r + 1) hc4 (by omega)) (SV [1000002, 1000003] rfl) mixAt_v rfl (A1 rfl)) ?_
   refine RB rfl rfl rfl ?_
   refine RZ (nB (f (4 * c + (r + 0) % 4) ^^^ f (4 * c + (r + 1) % 4))) (by rw [show IntKind.u8.bits = 8 from rfl, xor_u8N (hf _) (hf _)]) ?_
   refine RS (ok_call (Mul_fn 2 (f (4 * c + (r + 0) % 4) ^^^ f (4 * c + (r + 1) % 4)) (by decide) (xor_lt _ _ (hf _) (hf _))) (A2 rfl rfl)) ?_
   refine RV 3 rfl ?_
   refine RZ (nI (r + 1)) (by rw [wrap_i64 (by omega) (by omega)]; exact congrArg (Value.int .i64) (by omega)) ?_
   refine RS (ok_callVM (mixAt_fn f b2 b3 c (r + 1) hc4 (by omega)) (SV [1000002, 1000003] rfl) mixAt_v rfl (A1 rfl)) ?_
   refine RB rfl rfl rfl ?_
   refine RZ (nB (gm 2 (f (4 * c + (r + 0) % 4) ^^^ f (4 * c + (r + 1) % 4)) ^^^ f (4 * c + (r + 1) % 4))) (by rw [show IntKind.u8.bits = 8 from rfl, xor_u8N (gm_lt _ (by decide)) (hf _)]) ?_
   refine RV 3 rfl ?_
   refine RZ (nI (r + 2)) (by rw [wrap_i64 (by omega) (by omega)]; exact congrArg (Value.int .i64) (by omega)) ?_
   refine RS (ok_callVM (mixAt_fn f b2 b3 c (r + 2) hc4 (by omega)) (SV [1000002, 1000003] rfl) mixAt_v rfl (A1 rfl)) ?_
   refine RB rfl rfl rfl ?_
   refine RZ (nB (gm 2 (f (4 * c + (r + 0) % 4) ^^^ f (4 * c + (r + 1) % 4)) ^^^ f (4 * c + (r + 1) % 4) ^^^ f (4 * c + (r + 2) % 4))) (by rw [show IntKind.u8.bits = 8 from rfl, xor_u8N (xor_lt _ _ (gm_lt _ (by decide)) (hf _)) (hf _)]) ?_
   refine RV 3 rfl ?_
   refine RZ (nI (r + 3)) (by rw [wrap_i64 (by omega) (by omega)]; exact congrArg (Value.int .i64) (by omega)) ?_
   refine RS (ok_callVM (mixAt_fn f b2 b3 c (r + 3) hc4 (by omega)) (SV [1000002, 1000003] rfl) mixAt_v rfl (A1 rfl)) ?_
   refine RB rfl rfl rfl ?_
   refine RZ (nB (mixS f (4 * c + r))) (by rw [show IntKind.u8.bits = 8 from rfl, xor_u8N (xor_lt _ _ (xor_lt _ _ (gm_lt _ (by decide)) (hf _)) (hf _)) (hf _), mixS_at f c hr4]) ?_
   refine RS (ok_nilCheck rfl) ?_
   refine RS (ok_index0 _ Tryz.underlying117 info5 rfl rfl (rfl) (by omega)) ?_
   refine RN ?_
   refine ⟨_, eff_storeS (n := 49) (s := 1000080) info5 rfl rfl rfl hBg rfl (by simp only [rowV_length]; omega) (LB 1000002 rfl (LT 1000003 rfl (LeftS.cons (t := 1000081) rfl (Surv.wrote) (LW [0, 2, 3, 4, 9, 13] rfl)))), ?_⟩
   refine TL ?_
   refine RN ?_
   refine End.sub (SV [0, 2, 3, 4, 9, 13, 1000002, 1000003, 1000080, 1000081] rfl) ?_
   refine End.normal_block ?_
   refine EN ?_
   refine GTE ?_
   refine RB rfl rfl rfl ?_
   refine RZ (nI (r + 1)) (by rw [wrap_i64 (by omega) (by omega)]; exact congrArg (Value.int .i64) (by omega)) ?_
   refine RVN 1 rfl ?_
   refine End.normal_then ?_
   refine End.again (r + 1) ?_ ?_ ?_
   ·show _ ≤ _; omega
   ·show _ - _ < _ - _; omega
   ·exact (KC 0 rfl (KC 2 rfl (KC 3 rfl (KC 4 rfl (KC 9 rfl (KC 13 rfl (KC 1000002 rfl (KC 1000003 rfl (KE 1000080 rfl (congrArg _ (mid_set rfl rfl)) (KC 1000081 rfl KN))))))))))
  ·obtain rfl : r = 4 := by simp at hc14; omega
   refine A.exit ?_
   refine End.exit_then ?_
   refine End.exit_then ?_
   refine End.exit_here ?_
   refine End.normal_block ?_
   refine EN ?_
   refine GTE ?_
   refine RB rfl rfl rfl ?_
   refine RZ (nI (c + 1)) (by rw [wrap_i64 (by omega) (by omega)]; exact congrArg (Value.int .i64) (by omega)) ?_
   refine RVN 1 rfl ?_
   refine End.normal_then ?_
   refine End.again (c + 1) ?_ ?_ ?_
   ·show _ ≤ _; omega
   ·show _ - _ < _ - _; omega
   ·exact (KC 0 rfl (KC 2 rfl (KC 9 rfl (KC 1000002 rfl (KE 1000080 rfl (by rw [show 4 * (c + 1) = 4 * c + 4 from by omega]) (KC 1000081 rfl KN))))))
 ·obtain rfl : c = 4 := by simp at hc10; omega
  refine A.exit ?_
  refine End.exit_then ?_
  refine End.exit_then ?_
  refine End.exit_here ?_
  exact End.wrote (kb := 1000080) (kw := 1000081) rfl rfl (mid_full 16 _ _) rfl
/-- i times the columns' step. -/
def mixN (f : Sta) : Nat → Sta
 | 0 => f
 | i + 1 => mixS (mixN f i)
theorem mixN_by {f : Sta} (h : By f) : ∀ i, By (mixN f i)
 | 0 => h
 | i + 1 => mixS_by (mixN_by h i)
theorem mixBack_fnW (g : Nat) (f : Nat → Nat) (hf : By f) : FnW Tryz.prog 54 [] 117 g (rowV 16 (f)) (rowV 16 (mixbS f)) ([ptr g].map D.v) := by
 refine FnW.of (n := 7) (kb := 1000080) (kw := 1000081) Tryz.func54 rfl (by kernel_rfl) Tryz.ntmps54 (by simp) (by decide) (fun p hp => by cases hp) (by decide) (by decide) [(0, .v (ptr g))]
  (fun p hp => by simp only [List.mem_cons, List.not_mem_nil, or_false] at hp; rcases hp with rfl <;> exact ⟨_, rfl, rfl⟩) fun w₀ w₁ hw hM => ?_
 have hBg : w₀.heap.size ≤ g := Nat.le_of_eq hw
 refine GV rfl ?_
 refine A.block ?_
 refine A.loop (ι := Nat) (fun i => i ≤ 3) (fun i => [(0, .v (ptr g)), (2, .v (nI i)), (1000080, blk g 117 (rowV 16 (mixN f i))), (1000081, wroteD 117 g w₁)]) (fun i => 3 - i) 0 ?_ ?_ ?_
 ·exact Nat.zero_le _
 ·exact (SV [0, 2, 1000080, 1000081] rfl)
 intro i hi'
 refine GV rfl ?_
 refine QS ?_
 refine A.cond rfl (fun hc3 => ?_) (fun hc3 => ?_)
 ·have hi : i < 3 := by simp at hc3; omega
  refine QK ?_
  refine QSB ?_
  refine GE ?_
  refine TF 1 ?_
  refine RVN 1 rfl ?_
  refine ⟨_, eff_callW (n := 7) (s := 1000080) (mix_fnW g (mixN f i) (mixN_by hf i)) (fun p hp => by cases hp) (A1 rfl) hBg rfl (by decide) (LeftS.cons (t := 1000081) rfl (Surv.wrote) (LW [0, 2] rfl)), ?_⟩
  refine TL ?_
  refine RN ?_
  refine End.normal_block ?_
  refine EN ?_
  refine GTE ?_
  refine RB rfl rfl rfl ?_
  refine RZ (nI (i + 1)) (by rw [wrap_i64 (by omega) (by omega)]; exact congrArg (Value.int .i64) (by omega)) ?_
  refine RVN 1 rfl ?_
  refine End.normal_then ?_
  refine End.again (i + 1) ?_ ?_ ?_
  ·show _ ≤ _; omega
  ·show _ - _ < _ - _; omega
  ·exact (SV [0, 2, 1000080, 1000081] rfl)
 ·obtain rfl : i = 3 := by simp at hc3; omega
  refine A.exit ?_
  refine End.exit_then ?_
  refine End.exit_then ?_
  refine End.exit_here ?_
  exact End.wrote (kb := 1000080) (kw := 1000081) rfl rfl rfl rfl
theorem carryOut_fnW (g : Nat) (us : List Value) (cs : Nat → List Value) (hl : us.length ≤ 1000) (h : ∀ (i : Nat) (u : Value), us[i]? = some u → Does Tryz.prog 117 g u (cs i) (cs (i + 1))) : FnW Tryz.prog 51 [] 117 g (cs 0) (cs us.length) [fresh 0 1 us us.length] := by
 refine FnW.ofD (n := 13) (kb := 1000080) (kw := 1000081) Tryz.func51 rfl (by kernel_rfl) Tryz.ntmps51 (by simp) (by decide) (fun p hp => by cases hp) (by decide) (by decide) [(0, fresh 0 1 us us.length)]
  (fun p hp => by simp only [List.mem_cons, List.not_mem_nil, or_false] at hp; rcases hp with rfl; rfl) fun w₀ w₁ hw hM => ?_
 have hBg : w₀.heap.size ≤ g := Nat.le_of_eq hw
 refine A.openAt (t := 0) (k := 1000070) rfl fun b => ?_
 refine GT ?_
 refine RM rfl ?_
 refine RS (ok_lenV Tryz.underlying169 rfl) ?_
 refine RVN 1 rfl ?_
 refine A.block ?_
 refine A.loop (ι := Nat) (fun i => i ≤ us.length) (fun i => [(4, .v (.slice (some ⟨b, 0, none⟩) us.length us.length)), (5, .v (nI (us.length))), (6, .v (nI i)), (1000070, blk b 1 us), (1000080, blk g 117 (cs i)), (1000081, wroteD 117 g w₁)]) (fun i => us.length - i) 0 ?_ ?_ ?_
 ·exact Nat.zero_le _
 ·exact (SV [4, 5, 6, 1000070, 1000080, 1000081] rfl)
 intro i hi'
 refine GV rfl ?_
 refine QS ?_
 refine A.cond rfl (fun hc7 => ?_) (fun hc7 => ?_)
 ·have hi : i < us.length := by simp at hc7; omega
  obtain ⟨u, hu⟩ : ∃ u, us[i]? = some u := ⟨_, List.getElem?_eq_getElem hi⟩
  refine QK ?_
  refine QSB ?_
  refine GT ?_
  refine RS (ok_indexV i Tryz.underlying169 info1 rfl rfl rfl hi) ?_
  refine RS (ok_loadV (s := 1000070) (by decide) Tryz.underlying1 rfl rfl rfl (by rw [Nat.zero_add]; exact hu)) ?_
  refine RVN 1 rfl ?_
  refine GE ?_
  refine TF 1 ?_
  refine RVN 1 rfl ?_
  refine ⟨_, eff_callF (n := 13) (s := 1000080) (h i u hu) rfl hBg rfl (by decide) (LT 1000070 rfl (LeftS.cons (t := 1000081) rfl (Surv.wrote) (LW [4, 5, 6] rfl))), ?_⟩
  refine TL ?_
  refine RN ?_
  refine End.normal_block ?_
  refine EN ?_
  refine GTE ?_
  refine RB rfl rfl rfl ?_
  refine RZ (nI (i + 1)) (by rw [wrap_i64 (by omega) (by omega)]; exact congrArg (Value.int .i64) (by omega)) ?_
  refine RVN 1 rfl ?_
  refine End.normal_then ?_
  refine End.again (i + 1) ?_ ?_ ?_
  ·show _ ≤ _; omega
  ·show _ - _ < _ - _; omega
  ·exact (SV [4, 5, 6, 1000070, 1000080, 1000081] rfl)
 ·obtain rfl : i = us.length := by simp at hc7; omega
  refine A.exit ?_
  refine End.exit_then ?_
  refine End.exit_then ?_
  refine End.exit_here ?_
  exact End.wrote (kb := 1000080) (kw := 1000081) rfl rfl rfl rfl
theorem carry2 (g : Nat) {u₁ u₂ : Value} {x₀ x₁ x₂ : List Value} (h₁ : Does Tryz.prog 117 g u₁ x₀ x₁) (h₂ : Does Tryz.prog 117 g u₂ x₁ x₂) : FnW Tryz.prog 51 [] 117 g x₀ x₂ [fresh 0 1 [u₁, u₂] 2] :=
 carryOut_fnW g [u₁, u₂] (fun i => match i with | 0 => x₀ | 1 => x₁ | _ => x₂) (show 2 ≤ 1000 by decide) fun i u hu => by
  match i, hu with
  | 0, hu => simp at hu; subst hu; exact h₁
  | 1, hu => simp at hu; subst hu; exact h₂
  | i + 2, hu => simp at hu
theorem carry3 (g : Nat) {u₁ u₂ u₃ : Value} {x₀ x₁ x₂ x₃ : List Value} (h₁ : Does Tryz.prog 117 g u₁ x₀ x₁) (h₂ : Does Tryz.prog 117 g u₂ x₁ x₂) (h₃ : Does Tryz.prog 117 g u₃ x₂ x₃) : FnW Tryz.prog 51 [] 117 g x₀ x₃ [fresh 0 1 [u₁, u₂, u₃] 3] :=
 carryOut_fnW g [u₁, u₂, u₃] (fun i => match i with | 0 => x₀ | 1 => x₁ | 2 => x₂ | _ => x₃) (show 3 ≤ 1000 by decide) fun i u hu => by
  match i, hu with
  | 0, hu => simp at hu; subst hu; exact h₁
  | 1, hu => simp at hu; subst hu; exact h₂
  | 2, hu => simp at hu; subst hu; exact h₃
  | i + 3, hu => simp at hu
set_option maxHeartbeats 2000000 in
theorem Encrypt_fn (s f : Nat → Nat) (hs : ∀ i, s i < 256) (hf : By f) : Fn Tryz.prog 29 [.v (aggV (rowV 176 (s))), .v (aggV (rowV 16 (f)))] (.v (aggV (rowV 16 (enc s f)))) := by
 refine FV Tryz.func29 rfl Tryz.ntmps29 rfl fun w₀ => ?_
 refine GS ?_
 refine TN 0 ?_
 refine RN ?_
 refine ZB 1000002 rfl fun b2 ⟨hBb2, hb2⟩ => ?_
 refine TN 1 ?_
 refine RN ?_
 refine ZB 1000003 rfl fun b3 ⟨hBb3, hb3⟩ => ?_
 refine TN 2 ?_
 refine RN ?_
 refine ZN 1000004 zero37 fun b4 ⟨hBb4, hb4⟩ => ?_
 have hlt_b3_b4 := hb4 1000003 b3 _ _ rfl
 refine TL ?_
 refine RN ?_
 refine GS ?_
 refine TN 1 ?_
 refine RS (ok_loadA (s := 1000003) (by decide) Tryz.underlying37 rfl (size37.of (rowV_length _ _)) rfl rfl) ?_
 refine RN ?_
 refine ZN 1000005 zero117 fun b5 ⟨hBb5, hb5⟩ => ?_
 refine TF 2 ?_
 refine RN ?_
 refine ⟨_, eff_storeA (n := 32) (s := 1000005) (size117.of (rowV_length _ _)) rfl rfl (rowV_one _ _) hBb5 rfl (by first | (simp only [rowV_length]; done) | simp only [rowV_length, List.length_replicate]) (LT 1000002 rfl (LT 1000003 rfl (LT 1000004 rfl (LW [2, 4, 5] rfl)))), ?_⟩
 refine TL ?_
 refine RN ?_
 refine GS ?_
 refine TF 2 ?_
 refine RS (ok_indexN (0) Tryz.underlying43 size37 rfl rfl (rfl) (by decide)) ?_
 refine RS (ok_loadP (s := 1000002) (by decide) Tryz.underlying37 rfl size37 rfl rfl (by simp only [rowV_length]; omega) (rowV_part (g := keyS s (0)) (by omega) (fun i _ => congrArg s (by omega)))) ?_
 refine RN ?_
 refine ⟨_, eff_callW (n := 32) (s := 1000005) (add_fnW b5 (f) (keyS s (0)) hf (keyS_by hs _)) (fun p hp => by cases hp) (A2 rfl rfl) hBb5 rfl (by decide) (LT 1000002 rfl (LT 1000003 rfl (LT 1000004 rfl (LW [2, 4, 5] rfl)))), ?_⟩
 refine TL ?_
 refine RN ?_
 refine QS ?_
 refine GV rfl ?_
 refine A.block ?_
 refine A.loop (ι := Nat) (fun q => q ≤ 9) (fun q => [(2, .v (.pointer (some ⟨b2, 0, none⟩))), (4, .v (.pointer (some ⟨b4, 0, none⟩))), (5, .v (.pointer (some ⟨b5, 0, none⟩))), (1000002, blk b2 43 (rowV 176 (s))), (1000004, blk b4 37 (List.replicate 16 (.int .u8 0))), (6, .v (nI (q + 1))), (1000005, blk b5 117 (rowV 16 (encR s f q)))]) (fun q => 9 - q) 0 ?_ ?_ ?_
 ·exact Nat.zero_le _
 ·exact (SV [2, 4, 5, 1000002, 1000004, 6, 1000005] rfl)
 intro q hq'
 refine QS ?_
 refine GV rfl ?_
 refine A.cond rfl (fun hc12 => ?_) (fun hc12 => ?_)
 ·have hq : q < 9 := by simp at hc12; omega
  refine QK ?_
  refine QSB ?_
  refine GS ?_
  refine TF 4 ?_
  refine RS (ok_makeFuncM rfl) ?_
  refine RS (ok_makeFuncM rfl) ?_
  refine RS (ok_makeFuncM rfl) ?_
  refine RS (ok_buildF [.func (.func 74) #[ptr b5] #[], .func (.func 75) #[ptr b5] #[], .func (.func 76) #[ptr b5] #[]] Tryz.underlying169 info1 rfl (by decide) (by decide) rfl ⟨rfl, rfl, rfl, rfl, rfl, rfl, trivial⟩ rfl) ?_
  refine RN ?_
  refine ⟨_, eff_callW (n := 32) (s := 1000005) (carry3 b5 (substitute_fnW b5 (encR s f q) (encR_by hs hf q)).does (rotate_fnW b5 (subS (encR s f q))).does (mix_fnW b5 (rotS (subS (encR s f q))) (rotS_by (subS_by _))).does) (fun p hp => by cases hp) (Args.cons rfl (fresh_mono _ _ (Nat.zero_le _)) Args.nil) hBb5 rfl (by decide) (LT 1000002 rfl (LT 1000004 rfl (LW [2, 4, 5, 6] rfl))), ?_⟩
  refine TL ?_
  refine RN ?_
  refine GE ?_
  refine TF 3 ?_
  refine RM rfl ?_
  refine RS (ok_indexN _ Tryz.underlying43 size37 rfl rfl (rfl) (by omega)) ?_
  refine RS (ok_loadP (s := 1000002) (by decide) Tryz.underlying37 rfl size37 rfl rfl (by simp only [rowV_length]; omega) (rowV_part (g := keyS s (q + 1)) (by omega) (fun i _ => congrArg s (by omega)))) ?_
  refine RN ?_
  refine ⟨_, eff_callW (n := 32) (s := 1000005) (add_fnW b5 (mixS (rotS (subS (encR s f q)))) (keyS s (q + 1)) (mixS_by (rotS_by (subS_by _))) (keyS_by hs _)) (fun p hp => by cases hp) (A2 rfl rfl) hBb5 rfl (by decide) (LT 1000002 rfl (LT 1000004 rfl (LW [2, 4, 5, 6] rfl))), ?_⟩
  refine TL ?_
  refine RN ?_
  refine End.normal_block ?_
  refine EN ?_
  refine GTE ?_
  refine RV 2 rfl ?_
  refine RZ (nI (q + 1 + 1)) (by rw [wrap_i64 (by omega) (by omega)]; exact congrArg (Value.int .i64) (by omega)) ?_
  refine RVN 1 rfl ?_
  refine End.normal_then ?_
  refine End.again (q + 1) ?_ ?_ ?_
  ·show _ ≤ _; omega
  ·show _ - _ < _ - _; omega
  ·exact (SV [2, 4, 5, 1000002, 1000004, 6, 1000005] rfl)
 ·obtain rfl : q = 9 := by simp at hc12; omega
  refine A.exit ?_
  refine End.exit_then ?_
  refine End.exit_then ?_
  refine End.exit_here ?_
  refine EN ?_
  refine GS ?_
  refine TF 3 ?_
  refine RS (ok_makeFuncM rfl) ?_
  refine RS (ok_makeFuncM rfl) ?_
  refine RS (ok_buildF [.func (.func 74) #[ptr b5] #[], .func (.func 75) #[ptr b5] #[]] Tryz.underlying169 info1 rfl (by decide) (by decide) rfl ⟨rfl, rfl, rfl, rfl, trivial⟩ rfl) ?_
  refine RN ?_
  refine ⟨_, eff_callW (n := 32) (s := 1000005) (carry2 b5 (substitute_fnW b5 (encR s f 9) (encR_by hs hf 9)).does (rotate_fnW b5 (subS (encR s f 9))).does) (fun p hp => by cases hp) (Args.cons rfl (fresh_mono _ _ (Nat.zero_le _)) Args.nil) hBb5 rfl (by decide) (LT 1000002 rfl (LT 1000004 rfl (LW [2, 4, 5] rfl))), ?_⟩
  refine TL ?_
  refine RN ?_
  refine GS ?_
  refine TF 2 ?_
  refine RS (ok_indexN (10) Tryz.underlying43 size37 rfl rfl (rfl) (by decide)) ?_
  refine RS (ok_loadP (s := 1000002) (by decide) Tryz.underlying37 rfl size37 rfl rfl (by simp only [rowV_length]; omega) (rowV_part (g := keyS s (10)) (by omega) (fun i _ => congrArg s (by omega)))) ?_
  refine RN ?_
  refine ⟨_, eff_callW (n := 32) (s := 1000005) (add_fnW b5 (rotS (subS (encR s f 9))) (keyS s (10)) (rotS_by (subS_by _)) (keyS_by hs _)) (fun p hp => by cases hp) (A2 rfl rfl) hBb5 rfl (by decide) (LT 1000002 rfl (LT 1000004 rfl (LW [4, 5] rfl))), ?_⟩
  refine TL ?_
  refine RN ?_
  refine GS ?_
  refine TF 1 ?_
  refine RS (ok_loadA (s := 1000005) (by decide) Tryz.underlying117 rfl (size117.of (rowV_length _ _)) rfl rfl) ?_
  refine RN ?_
  refine ⟨_, eff_storeA (n := 32) (s := 1000004) (size37.of (rowV_length _ _)) rfl rfl (rowV_one _ _) hBb4 rfl (by first | (simp only [rowV_length]; done) | simp only [rowV_length, List.length_replicate]) (LV 4 rfl (LT 1000002 rfl (LT 1000005 rfl LN))), ?_⟩
  refine TL ?_
  refine RN ?_
  refine A.ret ?_
  exact End.cell1 (s := 1000004) rfl Tryz.underlying37 rfl (size37.of (rowV_length _ _)) rfl rfl (Le.refl _)
set_option maxHeartbeats 2000000 in
theorem Decrypt_fn (s f : Nat → Nat) (hs : ∀ i, s i < 256) (hf : By f) : Fn Tryz.prog 18 [.v (aggV (rowV 176 (s))), .v (aggV (rowV 16 (f)))] (.v (aggV (rowV 16 (dec s f)))) := by
 refine FV Tryz.func18 rfl Tryz.ntmps18 rfl fun w₀ => ?_
 refine GS ?_
 refine TN 0 ?_
 refine RN ?_
 refine ZB 1000002 rfl fun b2 ⟨hBb2, hb2⟩ => ?_
 refine TN 1 ?_
 refine RN ?_
 refine ZB 1000003 rfl fun b3 ⟨hBb3, hb3⟩ => ?_
 refine TN 2 ?_
 refine RN ?_
 refine ZN 1000004 zero37 fun b4 ⟨hBb4, hb4⟩ => ?_
 have hlt_b3_b4 := hb4 1000003 b3 _ _ rfl
 refine TL ?_
 refine RN ?_
 refine GS ?_
 refine TN 1 ?_
 refine RS (ok_loadA (s := 1000003) (by decide) Tryz.underlying37 rfl (size37.of (rowV_length _ _)) rfl rfl) ?_
 refine RN ?_
 refine ZN 1000005 zero117 fun b5 ⟨hBb5, hb5⟩ => ?_
 refine TF 2 ?_
 refine RN ?_
 refine ⟨_, eff_storeA (n := 32) (s := 1000005) (size117.of (rowV_length _ _)) rfl rfl (rowV_one _ _) hBb5 rfl (by first | (simp only [rowV_length]; done) | simp only [rowV_length, List.length_replicate]) (LT 1000002 rfl (LT 1000003 rfl (LT 1000004 rfl (LW [2, 4, 5] rfl)))), ?_⟩
 refine TL ?_
 refine RN ?_
 refine GS ?_
 refine TF 2 ?_
 refine RS (ok_indexN (10) Tryz.underlying43 size37 rfl rfl (rfl) (by decide)) ?_
 refine RS (ok_loadP (s := 1000002) (by decide) Tryz.underlying37 rfl size37 rfl rfl (by simp only [rowV_length]; omega) (rowV_part (g := keyS s (10)) (by omega) (fun i _ => congrArg s (by omega)))) ?_
 refine RN ?_
 refine ⟨_, eff_callW (n := 32) (s := 1000005) (add_fnW b5 (f) (keyS s (10)) hf (keyS_by hs _)) (fun p hp => by cases hp) (A2 rfl rfl) hBb5 rfl (by decide) (LT 1000002 rfl (LT 1000003 rfl (LT 1000004 rfl (LW [2, 4, 5] rfl)))), ?_⟩
 refine TL ?_
 refine RN ?_
 refine GS ?_
 refine TF 3 ?_
 refine RS (ok_makeFuncM rfl) ?_
 refine RS (ok_makeFuncM rfl) ?_
 refine RS (ok_buildF [.func (.func 52) #[ptr b5] #[], .func (.func 53) #[ptr b5] #[]] Tryz.underlying169 info1 rfl (by decide) (by decide) rfl ⟨rfl, rfl, rfl, rfl, trivial⟩ rfl) ?_
 refine RN ?_
 refine ⟨_, eff_callW (n := 32) (s := 1000005) (carry2 b5 (rotateBack_fnW b5 (addS f (keyS s 10))).does (substituteBack_fnW b5 (rotbS (addS f (keyS s 10))) (rotbS_by (addS_by hf (keyS_by hs _)))).does) (fun p hp => by cases hp) (Args.cons rfl (fresh_mono _ _ (Nat.zero_le _)) Args.nil) hBb5 rfl (by decide) (LT 1000002 rfl (LT 1000003 rfl (LT 1000004 rfl (LW [2, 4, 5] rfl)))), ?_⟩
 refine TL ?_
 refine RN ?_
 refine QS ?_
 refine GV rfl ?_
 refine A.block ?_
 refine A.loop (ι := Nat) (fun q => q ≤ 9) (fun q => [(2, .v (.pointer (some ⟨b2, 0, none⟩))), (4, .v (.pointer (some ⟨b4, 0, none⟩))), (5, .v (.pointer (some ⟨b5, 0, none⟩))), (1000002, blk b2 43 (rowV 176 (s))), (1000004, blk b4 37 (List.replicate 16 (.int .u8 0))), (6, .v (nI (9 - q))), (1000005, blk b5 117 (rowV 16 (decR s f q)))]) (fun q => 9 - q) 0 ?_ ?_ ?_
 ·exact Nat.zero_le _
 ·exact (SV [2, 4, 5, 1000002, 1000004, 6, 1000005] rfl)
 intro q hq'
 refine QS ?_
 refine GV rfl ?_
 refine A.cond rfl (fun hc16 => ?_) (fun hc16 => ?_)
 ·have hq : q < 9 := by simp at hc16; omega
  refine QK ?_
  refine QSB ?_
  refine GS ?_
  refine TF 3 ?_
  refine RM rfl ?_
  refine RS (ok_indexN (9 - q) Tryz.underlying43 size37 rfl rfl (rfl) (by omega)) ?_
  refine RS (ok_loadP (s := 1000002) (by decide) Tryz.underlying37 rfl size37 rfl rfl (by simp only [rowV_length]; omega) (rowV_part (g := keyS s (9 - q)) (by omega) (fun i _ => congrArg s (by omega)))) ?_
  refine RN ?_
  refine ⟨_, eff_callW (n := 32) (s := 1000005) (add_fnW b5 (decR s f q) (keyS s (9 - q)) (decR_by q) (keyS_by hs _)) (fun p hp => by cases hp) (A2 rfl rfl) hBb5 rfl (by decide) (LT 1000002 rfl (LT 1000004 rfl (LW [2, 4, 5, 6] rfl))), ?_⟩
  refine TL ?_
  refine RN ?_
  refine GE ?_
  refine TF 4 ?_
  refine RS (ok_makeFuncM rfl) ?_
  refine RS (ok_makeFuncM rfl) ?_
  refine RS (ok_makeFuncM rfl) ?_
  refine RS (ok_buildF [.func (.func 54) #[ptr b5] #[], .func (.func 52) #[ptr b5] #[], .func (.func 53) #[ptr b5] #[]] Tryz.underlying169 info1 rfl (by decide) (by decide) rfl ⟨rfl, rfl, rfl, rfl, rfl, rfl, trivial⟩ rfl) ?_
  refine RN ?_
  refine ⟨_, eff_callW (n := 32) (s := 1000005) (carry3 b5 (mixBack_fnW b5 (addS (decR s f q) (keyS s (9 - q))) (addS_by (decR_by q) (keyS_by hs _))).does (rotateBack_fnW b5 (mixbS (addS (decR s f q) (keyS s (9 - q))))).does (substituteBack_fnW b5 (rotbS (mixbS (addS (decR s f q) (keyS s (9 - q))))) (rotbS_by (mixbS_by (addS_by (decR_by q) (keyS_by hs _))))).does) (fun p hp => by cases hp) (Args.cons rfl (fresh_mono _ _ (Nat.zero_le _)) Args.nil) hBb5 rfl (by decide) (LT 1000002 rfl (LT 1000004 rfl (LW [2, 4, 5, 6] rfl))), ?_⟩
  refine TL ?_
  refine RN ?_
  refine End.normal_block ?_
  refine EN ?_
  refine GTE ?_
  refine RV 2 rfl ?_
  refine RZ (nI (9 - (q + 1))) (by rw [wrap_i64 (by omega) (by omega)]; exact congrArg (Value.int .i64) (by omega)) ?_
  refine RVN 1 rfl ?_
  refine End.normal_then ?_
  refine End.again (q + 1) ?_ ?_ ?_
  ·show _ ≤ _; omega
  ·show _ - _ < _ - _; omega
  ·exact (SV [2, 4, 5, 1000002, 1000004, 6, 1000005] rfl)
 ·obtain rfl : q = 9 := by simp at hc16; omega
  refine A.exit ?_
  refine End.exit_then ?_
  refine End.exit_then ?_
  refine End.exit_here ?_
  refine EN ?_
  refine GS ?_
  refine TF 2 ?_
  refine RS (ok_indexN (0) Tryz.underlying43 size37 rfl rfl (rfl) (by decide)) ?_
  refine RS (ok_loadP (s := 1000002) (by decide) Tryz.underlying37 rfl size37 rfl rfl (by simp only [rowV_length]; omega) (rowV_part (g := keyS s (0)) (by omega) (fun i _ => congrArg s (by omega)))) ?_
  refine RN ?_
  refine ⟨_, eff_callW (n := 32) (s := 1000005) (add_fnW b5 (decR s f 9) (keyS s (0)) (decR_by 9) (keyS_by hs _)) (fun p hp => by cases hp) (A2 rfl rfl) hBb5 rfl (by decide) (LT 1000002 rfl (LT 1000004 rfl (LW [4, 5] rfl))), ?_⟩
  refine TL ?_
  refine RN ?_
  refine GS ?_
  refine TF 1 ?_
  refine RS (ok_loadA (s := 1000005) (by decide) Tryz.underlying117 rfl (size117.of (rowV_length _ _)) rfl rfl) ?_
  refine RN ?_
  refine ⟨_, eff_storeA (n := 32) (s := 1000004) (size37.of (rowV_length _ _)) rfl rfl (rowV_one _ _) hBb4 rfl (by first | (simp only [rowV_length]; done) | simp only [rowV_length, List.length_replicate]) (LV 4 rfl (LT 1000002 rfl (LT 1000005 rfl LN))), ?_⟩
  refine TL ?_
  refine RN ?_
  refine A.ret ?_
  exact End.cell1 (s := 1000004) rfl Tryz.underlying37 rfl (size37.of (rowV_length _ _)) rfl rfl (Le.refl _)
set_option maxHeartbeats 1000000 in
theorem next_fn (k : Nat → Nat) (p : Nat) (hk : By k) (hp : p < 256) : Fn Tryz.prog 47 [.v (aggV (rowV 16 (k))), .v (nB p)] (.v (aggV (rowV 16 (nextS k p)))) := by
 refine FV Tryz.func47 rfl Tryz.ntmps47 rfl fun w₀ => ?_
 refine GS ?_
 refine TN 0 ?_
 refine RN ?_
 refine ZB 1000002 rfl fun b2 ⟨hBb2, hb2⟩ => ?_
 refine TN 1 ?_
 refine RN ?_
 refine ZN 1000004 zero37 fun b4 ⟨hBb4, hb4⟩ => ?_
 have hlt_b2_b4 := hb4 1000002 b2 _ _ rfl
 refine TL ?_
 refine RN ?_
 refine GS ?_
 refine TN 3 ?_
 refine RS (ok_sliceX (l := 12) (h := 16) (m := 16) Tryz.underlying37 info5 rfl (.inl ⟨_, _, rfl, rfl⟩) (.inr ⟨rfl, rfl, rfl⟩) (.inr ⟨rfl, rfl⟩) (by decide) (by decide) (by decide) (.inl (by decide))) ?_
 refine RS (ok_arrayAt Tryz.underlying167 rfl (by decide)) ?_
 refine RS (ok_loadP (s := 1000002) (by decide) Tryz.underlying167 rfl size167 rfl rfl (by simp only [rowV_length]; omega) (rowV_part (g := fun r => k (12 + r)) (by decide) (fun i _ => congrArg k (by omega)))) ?_
 refine RN ?_
 refine ZN 1000005 zero167 fun b5 ⟨hBb5, hb5⟩ => ?_
 refine TF 4 ?_
 refine RN ?_
 refine ⟨_, eff_storeA (n := 55) (s := 1000005) (size167.of (rowV_length _ _)) rfl rfl (rowV_one _ _) hBb5 rfl (by first | (simp only [rowV_length]; done) | simp only [rowV_length, List.length_replicate]) (LT 1000002 rfl (LT 1000004 rfl (LW [1, 2, 4, 5] rfl))), ?_⟩
 refine TL ?_
 refine RN ?_
 refine GD ?_
 refine RunTK.new 16 (by decide) rfl (.inr (by kernel_rfl)) ?_
 refine RS (ok_index0 (1) Tryz.underlying167 info5 rfl rfl (rfl) (by decide)) ?_
 refine RS (ok_loadV (s := 1000005) (by decide) Tryz.underlying5 rfl rfl rfl (rowV_get (by decide))) ?_; refine RZ (nB (k 13)) (v8 (by rfl)) ?_
 refine RS (ok_call (Sub_fn (k 13) (hk _)) (A1 rfl)) ?_
 refine RV 2 rfl ?_
 refine RZ (nB (sub8 (k 13) ^^^ p)) (by rw [show IntKind.u8.bits = 8 from rfl, xor_u8N (sub8_lt _) hp]) ?_
 refine RS (ok_index0 (2) Tryz.underlying167 info5 rfl rfl (rfl) (by decide)) ?_
 refine RS (ok_loadV (s := 1000005) (by decide) Tryz.underlying5 rfl rfl rfl (rowV_get (by decide))) ?_; refine RZ (nB (k 14)) (v8 (by rfl)) ?_
 refine RS (ok_call (Sub_fn (k 14) (hk _)) (A1 rfl)) ?_
 refine RS (ok_index0 (3) Tryz.underlying167 info5 rfl rfl (rfl) (by decide)) ?_
 refine RS (ok_loadV (s := 1000005) (by decide) Tryz.underlying5 rfl rfl rfl (rowV_get (by decide))) ?_; refine RZ (nB (k 15)) (v8 (by rfl)) ?_
 refine RS (ok_call (Sub_fn (k 15) (hk _)) (A1 rfl)) ?_
 refine RS (ok_index0 (0) Tryz.underlying167 info5 rfl rfl (rfl) (by decide)) ?_
 refine RS (ok_loadV (s := 1000005) (by decide) Tryz.underlying5 rfl rfl rfl (rowV_get (by decide))) ?_; refine RZ (nB (k 12)) (v8 (by rfl)) ?_
 refine RS (ok_call (Sub_fn (k 12) (hk _)) (A1 rfl)) ?_
 refine RS (ok_litA [_, _, _, _] Tryz.underlying167 info5 zero167 rfl ⟨rfl, rfl, rfl, rfl, rfl, rfl, rfl, rfl, trivial⟩ rfl) ?_; refine RZ (aggV (rowV 4 (wordS k p))) (congrArg aggV (word_row k p)) ?_
 refine RS (ok_allocF [b2, b4, b5] zero167 (Named.cons (s := 1000002) (by decide) rfl (Named.cons (s := 1000004) (by decide) rfl (Named.cons (s := 1000005) (by decide) rfl Named.nil)))) ?_
 refine RN ?_
 refine ⟨_, _, eff_storeF (n := 55) (d := 6) (k := 1000006) (size167.of (rowV_length _ _)) rfl rfl (rowV_one _ _) (by first | (simp only [rowV_length]; done) | simp only [rowV_length, List.length_replicate]) (fun b hb => (LT 1000002 rfl (LT 1000004 rfl (LeftS.cons (t := 1000005) rfl (Surv.blk (Nat.ne_of_lt (hb.2 _ (by simp)))) (LW [1, 2, 4, 5, 12, 13, 14, 15, 16, 17, 18, 19, 20, 21, 22, 23, 24, 25, 26] rfl))))), fun b6 hb6 => ?_⟩
 have hBb6 := hb6.1
 have hlt_b2_b6 : b2 < b6 := hb6.2 _ (by simp)
 have hlt_b4_b6 : b4 < b6 := hb6.2 _ (by simp)
 have hlt_b5_b6 : b5 < b6 := hb6.2 _ (by simp)
 refine TL ?_
 refine RN ?_
 refine QS ?_
 refine GV rfl ?_
 refine A.sub (SV [2, 4, 6, 27, 1000002, 1000004, 1000005, 1000006] rfl) ?_
 refine A.block ?_
 refine A.loop (ι := Nat) (fun c => c ≤ 4) (fun c => [(2, .v (.pointer (some ⟨b2, 0, none⟩))), (4, .v (.pointer (some ⟨b4, 0, none⟩))), (6, .v (.pointer (some ⟨b6, 0, none⟩))), (27, .v (nI c)), (1000004, blk b4 37 (List.replicate 16 (.int .u8 0))), (1000002, blk b2 37 (rowV 16 (mid k (nextS k p) (4 * c)))), (1000006, blk b6 167 (rowV 4 (fun q => accS k p q c)))]) (fun c => 4 - c) 0 ?_ ?_ ?_
 ·exact Nat.zero_le _
 ·exact (KC 2 rfl (KC 4 rfl (KC 6 rfl (KC 27 rfl (KC 1000004 rfl (KE 1000002 rfl (congrArg _ (mid_zero 16 k _)) (KC 1000006 rfl KN)))))))
 intro c hc
 refine GV rfl ?_
 refine QS ?_
 refine A.cond rfl (fun hc28 => ?_) (fun hc28 => ?_)
 ·have hc4 : c < 4 := by simp at hc28; omega
  refine QK ?_
  refine QSB ?_
  refine GV rfl ?_
  refine GV rfl ?_
  refine A.block ?_
  refine A.loop (ι := Nat) (fun r => r ≤ 4) (fun r => [(2, .v (.pointer (some ⟨b2, 0, none⟩))), (4, .v (.pointer (some ⟨b4, 0, none⟩))), (6, .v (.pointer (some ⟨b6, 0, none⟩))), (7, .v (nI c)), (27, .v (nI c)), (30, .v (nI r)), (1000004, blk b4 37 (List.replicate 16 (.int .u8 0))), (1000002, blk b2 37 (rowV 16 (mid k (nextS k p) (4 * c + r)))), (1000006, blk b6 167 (rowV 4 (mid (fun q => accS k p q c) (fun q => accS k p q (c + 1)) r)))]) (fun r => 4 - r) 0 ?_ ?_ ?_
  ·exact Nat.zero_le _
  ·exact (KC 2 rfl (KC 4 rfl (KC 6 rfl (KC 7 rfl (KC 27 rfl (KC 30 rfl (KC 1000004 rfl (KC 1000002 rfl (KE 1000006 rfl (congrArg _ (mid_zero 4 _ _)) KN)))))))))
  intro r hr
  refine GV rfl ?_
  refine QS ?_
  refine A.cond rfl (fun hc31 => ?_) (fun hc31 => ?_)
  ·have hr4 : r < 4 := by simp at hc31; omega
   refine QK ?_
   refine QSB ?_
   refine GV rfl ?_
   refine GD ?_
   refine TD 11 ?_
   refine RV 2 rfl ?_
   refine RZ (nI (4 * c)) (by rw [wrap_i64 (by omega) (by omega)]; exact congrArg (Value.int .i64) (by omega)) ?_
   refine RV 2 rfl ?_
   refine RZ (nI (4 * c + r)) (by rw [wrap_i64 (by omega) (by omega)]; exact congrArg (Value.int .i64) (by omega)) ?_
   refine RS (ok_index0 _ Tryz.underlying37 info5 rfl rfl (rfl) (by omega)) ?_
   refine RS (ok_loadV (s := 1000002) (by decide) Tryz.underlying5 rfl rfl rfl (rowV_get (by omega))) ?_; refine RZ (nB (k (4 * c + r))) (v8 (mid_at k _ _)) ?_
   refine RM rfl ?_
   refine RS (ok_index0 _ Tryz.underlying167 info5 rfl rfl (rfl) (by omega)) ?_
   refine RS (ok_loadV (s := 1000006) (by decide) Tryz.underlying5 rfl rfl rfl (rowV_get (by omega))) ?_; refine RZ (nB (accS k p r c)) (v8 (mid_at (fun q => accS k p q c) _ _)) ?_
   refine RB rfl rfl rfl ?_
   refine RZ (nB (nextS k p (4 * c + r))) (by rw [show IntKind.u8.bits = 8 from rfl, xor_u8N (hk _) (accS_lt hk hp _ _), nextS_col k p hr4]) ?_
   refine RS (ok_index0 _ Tryz.underlying37 info5 rfl rfl (rfl) (by omega)) ?_
   refine RN ?_
   refine ⟨_, eff_storeS (n := 55) (s := 1000002) info5 rfl rfl rfl hBb2 rfl (by simp only [rowV_length]; omega) (LB 1000004 rfl (LT 1000006 rfl (LW [2, 4, 6, 7, 8, 27, 30] rfl))), ?_⟩
   refine TL ?_
   refine RN ?_
   refine A.sub (KC 2 rfl (KC 4 rfl (KC 6 rfl (KC 7 rfl (KC 8 rfl (KC 27 rfl (KC 30 rfl (KE 1000002 rfl (show blk b2 37 _ = blk b2 37 (rowV 16 (mid k (nextS k p) (4 * c + r + 1))) from congrArg _ (mid_set rfl rfl)) (KC 1000004 rfl (KC 1000006 rfl KN)))))))))) ?_
   refine GE ?_
   refine TF 8 ?_
   refine RV 3 rfl ?_
   refine RZ (nI (4 * c)) (by rw [wrap_i64 (by omega) (by omega)]; exact congrArg (Value.int .i64) (by omega)) ?_
   refine RV 2 rfl ?_
   refine RZ (nI (4 * c + r)) (by rw [wrap_i64 (by omega) (by omega)]; exact congrArg (Value.int .i64) (by omega)) ?_
   refine RS (ok_index0 _ Tryz.underlying37 info5 rfl rfl (rfl) (by omega)) ?_
   refine RS (ok_loadV (s := 1000002) (by decide) Tryz.underlying5 rfl rfl rfl (rowV_get (by omega))) ?_; refine RZ (nB (nextS k p (4 * c + r))) (v8 (if_pos (Nat.lt_succ_self _))) ?_
   refine RS (ok_index0 _ Tryz.underlying167 info5 rfl rfl (rfl) (by omega)) ?_
   refine RN ?_
   refine ⟨_, eff_storeS (n := 55) (s := 1000006) info5 rfl rfl rfl hBb6 rfl (by simp only [rowV_length]; omega) (LT 1000002 rfl (LT 1000004 rfl (LW [2, 4, 6, 7, 27, 30] rfl))), ?_⟩
   refine TL ?_
   refine RN ?_
   refine End.normal_block ?_
   refine EN ?_
   refine GTE ?_
   refine RB rfl rfl rfl ?_
   refine RZ (nI (r + 1)) (by rw [wrap_i64 (by omega) (by omega)]; exact congrArg (Value.int .i64) (by omega)) ?_
   refine RVN 1 rfl ?_
   refine End.normal_then ?_
   refine End.again (r + 1) ?_ ?_ ?_
   ·show _ ≤ _; omega
   ·show _ - _ < _ - _; omega
   ·exact (KC 2 rfl (KC 4 rfl (KC 6 rfl (KC 7 rfl (KC 27 rfl (KC 30 rfl (KC 1000004 rfl (KC 1000002 rfl (KE 1000006 rfl (congrArg _ (mid_set rfl (nextS_at k p hr4))) KN)))))))))
  ·obtain rfl : r = 4 := by simp at hc31; omega
   refine A.exit ?_
   refine End.exit_then ?_
   refine End.exit_then ?_
   refine End.exit_here ?_
   refine End.normal_block ?_
   refine EN ?_
   refine GTE ?_
   refine RB rfl rfl rfl ?_
   refine RZ (nI (c + 1)) (by rw [wrap_i64 (by omega) (by omega)]; exact congrArg (Value.int .i64) (by omega)) ?_
   refine RVN 1 rfl ?_
   refine End.normal_then ?_
   refine End.again (c + 1) ?_ ?_ ?_
   ·show _ ≤ _; omega
   ·show _ - _ < _ - _; omega
   ·exact (KC 2 rfl (KC 4 rfl (KC 6 rfl (KC 27 rfl (KC 1000004 rfl (KE 1000002 rfl (by rw [show 4 * (c + 1) = 4 * c + 4 from by omega]) (KE 1000006 rfl (congrArg _ (mid_full 4 _ _)) KN)))))))
 ·obtain rfl : c = 4 := by simp at hc28; omega
  refine A.exit ?_
  refine End.exit_then ?_
  refine End.exit_then ?_
  refine End.exit_here ?_
  refine EN ?_
  refine GS ?_
  refine TF 1 ?_
  refine RS (ok_loadA (s := 1000002) (by decide) Tryz.underlying37 rfl (size37.of (rowV_length _ _)) rfl rfl) ?_
  refine RN ?_
  refine ⟨_, eff_storeA (n := 55) (s := 1000004) (size37.of (rowV_length _ _)) rfl rfl (rowV_one _ _) hBb4 rfl (by first | (simp only [rowV_length]; done) | simp only [rowV_length, List.length_replicate]) (LV 4 rfl (LB 1000002 rfl (LT 1000006 rfl LN))), ?_⟩
  refine TL ?_
  refine RN ?_
  refine A.ret ?_
  exact End.cell1 (s := 1000004) rfl Tryz.underlying37 rfl (size37.of (rowV_length _ _)) rfl rfl (Le.v (congrArg aggV (mid_full 16 _ _)))
theorem build43 (k : Nat → Nat) : Tryz.prog.built 43 (([aggV (rowV 16 k)].zipIdx 0).map fun x => (x.2, x.1)) = some (rowV 176 (fun j => if j < 16 then k j else 0)).toArray := by kernel_rfl
set_option maxHeartbeats 1000000 in
theorem Expand_fn (k : Nat → Nat) (hk : By k) : Fn Tryz.prog 16 [.v (aggV (rowV 16 (k)))] (.v (aggV (rowV 176 (expand k)))) := by
 refine FV Tryz.func16 rfl Tryz.ntmps16 rfl fun w₀ => ?_
 refine GS ?_
 refine TN 0 ?_
 refine RN ?_
 refine ZB 1000001 rfl fun b1 ⟨hBb1, hb1⟩ => ?_
 refine TN 1 ?_
 refine RN ?_
 refine ZN 1000002 zero43 fun b2 ⟨hBb2, hb2⟩ => ?_
 refine TL ?_
 refine RN ?_
 refine GS ?_
 refine TN 2 ?_
 refine RS (ok_loadA (s := 1000001) (by decide) Tryz.underlying37 rfl (size37.of (rowV_length _ _)) rfl rfl) ?_
 refine RS (ok_litU [aggV (rowV 16 k)] _ ⟨rfl, rfl, trivial⟩ (build43 k)) ?_
 refine RN ?_
 refine ZN 1000003 zero43 fun b3 ⟨hBb3, hb3⟩ => ?_
 have hlt_b2_b3 := hb3 1000002 b2 _ _ rfl
 refine TF 3 ?_
 refine RN ?_
 refine ⟨_, eff_storeA (n := 22) (s := 1000003) (size43.of (rowV_length _ _)) rfl rfl (rowV_one _ _) hBb3 rfl (by first | (simp only [rowV_length]; done) | simp only [rowV_length, List.length_replicate]) (LT 1000001 rfl (LB 1000002 rfl (LW [2, 3] rfl))), ?_⟩
 refine TL ?_
 refine RN ?_
 refine QS ?_
 refine GV rfl ?_
 refine A.block ?_
 refine A.loop (ι := Nat) (fun q => q ≤ 10) (fun q => [(2, .v (.pointer (some ⟨b2, 0, none⟩))), (3, .v (.pointer (some ⟨b3, 0, none⟩))), (4, .v (nI (q + 1))), (1000002, blk b2 43 (List.replicate 176 (.int .u8 0))), (1000003, blk b3 43 (rowV 176 (cutF (expand k) (16 * (q + 1)))))]) (fun q => 10 - q) 0 ?_ ?_ ?_
 ·exact Nat.zero_le _
 ·exact (KC 2 rfl (KC 3 rfl (KC 4 rfl (KC 1000002 rfl (KE 1000003 rfl (congrArg _ (expand_start k)) KN)))))
 intro q hq'
 refine QS ?_
 refine GV rfl ?_
 refine A.cond rfl (fun hc8 => ?_) (fun hc8 => ?_)
 ·have hq : q < 10 := by simp at hc8; omega
  refine QK ?_
  refine QSB ?_
  refine A.reg (by kernel_rfl) (by kernel_rfl) (.inr (by kernel_rfl)) ?_
  refine TD 10 ?_
  refine RV 3 rfl ?_
  refine RZ (nI q) (by rw [wrap_i64 (by omega) (by omega)]; exact congrArg (Value.int .i64) (by omega)) ?_
  refine RS (ok_indexN _ Tryz.underlying43 size37 rfl rfl (rfl) (by omega)) ?_
  refine RS (ok_loadP (s := 1000003) (by decide) Tryz.underlying37 rfl size37 rfl rfl (by simp only [rowV_length]; omega) (rowV_part (g := roundK k q) (by omega) (fun i hi => expand_at k (by omega) hi))) ?_
  refine RV 2 rfl ?_
  refine RZ (nI q) (by rw [wrap_i64 (by omega) (by omega)]; exact congrArg (Value.int .i64) (by omega)) ?_
  refine RS (ok_call (Power_fn 2 ((q : Nat) : Int) (by decide)) (A2 rfl rfl)) ?_; refine RZ (nB (gpow 2 q)) (v8 (gpz_nat (by decide) q)) ?_
  refine RS (ok_call (next_fn (roundK k q) (gpow 2 q) (roundK_by hk q) (gpow_lt q)) (A2 rfl rfl)) ?_
  refine RS (ok_indexN _ Tryz.underlying43 size37 rfl rfl (rfl) (by omega)) ?_
  refine RN ?_
  refine ⟨_, eff_storeP (n := 22) (s := 1000003) (size37.of (rowV_length _ _)) rfl rfl (rowV_one _ _) hBb3 rfl (by simp only [rowV_length]; omega) (LB 1000002 rfl (LW [2, 3, 4] rfl)), ?_⟩
  refine TL ?_
  refine RN ?_
  refine End.normal_block ?_
  refine EN ?_
  refine GTE ?_
  refine RV 2 rfl ?_
  refine RZ (nI (q + 1 + 1)) (by rw [wrap_i64 (by omega) (by omega)]; exact congrArg (Value.int .i64) (by omega)) ?_
  refine RVN 1 rfl ?_
  refine End.normal_then ?_
  refine End.again (q + 1) ?_ ?_ ?_
  ·show _ ≤ _; omega
  ·show _ - _ < _ - _; omega
  ·exact (KC 2 rfl (KC 3 rfl (KC 4 rfl (KC 1000002 rfl (KE 1000003 rfl (congrArg _ (expand_put k (by omega))) KN)))))
 ·obtain rfl : q = 10 := by simp at hc8; omega
  refine A.exit ?_
  refine End.exit_then ?_
  refine End.exit_then ?_
  refine End.exit_here ?_
  refine EN ?_
  refine GS ?_
  refine TF 1 ?_
  refine RS (ok_loadA (s := 1000003) (by decide) Tryz.underlying43 rfl (size43.of (rowV_length _ _)) rfl rfl) ?_
  refine RN ?_
  refine ⟨_, eff_storeA (n := 22) (s := 1000002) (size43.of (rowV_length _ _)) rfl rfl (rowV_one _ _) hBb2 rfl (by first | (simp only [rowV_length]; done) | simp only [rowV_length, List.length_replicate]) (LV 2 rfl (LB 1000003 rfl LN)), ?_⟩
  refine TL ?_
  refine RN ?_
  refine A.ret ?_
  exact End.cell1 (s := 1000002) rfl Tryz.underlying43 rfl (size43.of (rowV_length _ _)) rfl rfl (Le.v (congrArg aggV (cutF_full 176 _)))
end Go.Proofs.YtffiflfjlemggaaGreatDoor
namespace Go.Proofs.YtffiflfjlemggaaGreatDoor
open Go Go.RowKit
set_option linter.unusedVariables false

/-- The bytes of a counter's block. -/
def ctrL (s c t : Nat) : List UInt8 := be 4 s ++ be 8 c ++ be 4 t
theorem ctrL_length (s c t : Nat) : (ctrL s c t).length = 16 := by simp [ctrL, be_length]
/-- A block of the key stream. -/
def ksB (k : Sta) (s c t : Nat) : Sta := enc (expand k) (byL (ctrL s c t))
theorem ksB_by {k : Sta} (hk : By k) (s c t : Nat) : By (ksB k s c t) := enc_by (expand_lt hk)
def ksAt (k : Sta) (s c o : Nat) : Nat := ksB k s c (o / 16) (o % 16)
theorem ksAt_lt {k : Sta} (hk : By k) (s c o : Nat) : ksAt k s c o < 256 := ksB_by hk _ _ _ _
def xorG (k : Sta) (s c o : Nat) (F : Nat → Nat) : Nat → Nat := fun i => F i ^^^ ksAt k s c (o + i)
theorem xorG_lt {k : Sta} (hk : By k) (s c o : Nat) {F : Nat → Nat} (hF : ∀ i, F i < 256) (i : Nat) : xorG k s c o F i < 256 := xor_lt _ _ (hF i) (ksB_by hk _ _ _ _)
def xorK (k : Sta) (s c o : Nat) (l : List UInt8) : List UInt8 := (List.range l.length).map fun i => UInt8.ofNat (xorG k s c o (byL l) i)
theorem xorK_length (k : Sta) (s c o : Nat) (l : List UInt8) : (xorK k s c o l).length = l.length := by simp [xorK]
theorem xorK_get {k : Sta} {s c o i : Nat} {l : List UInt8} (h : i < l.length) : (xorK k s c o l)[i]? = some (UInt8.ofNat (xorG k s c o (byL l) i)) := by simp [xorK, h]
theorem ofNat_byte {n : Nat} (h : n < 256) : byteV (UInt8.ofNat n) = .int .u8 ((n : Nat) : Int) := by
  unfold byteV
  rw [UInt8.toNat_ofNat', Nat.mod_eq_of_lt h]
theorem xorK_row {k : Sta} (hk : By k) (s c o : Nat) (l : List UInt8) {n : Nat} (hn : l.length = n) : (xorK k s c o l).map byteV = rowV n (xorG k s c o (byL l)) := by
  subst hn
  unfold xorK rowV
  rw [List.map_map]
  exact List.map_congr_left fun i _ => ofNat_byte (xorG_lt hk s c o (byL_lt l) i)
theorem byL_get {l : List UInt8} {i : Nat} (h : i < l.length) : l[i]? = some (UInt8.ofNat (byL l i)) := by
  rw [List.getElem?_eq_getElem h]
  congr 1
  unfold byL
  rw [List.getD_eq_getElem?_getD, List.getElem?_eq_getElem h, Option.getD_some, UInt8.ofNat_toNat]
theorem byL_xorK {k : Sta} (hk : By k) {s c o i : Nat} {l : List UInt8} (h : i < l.length) : byL (xorK k s c o l) i = xorG k s c o (byL l) i := by
  show ((xorK k s c o l).getD i 0).toNat = _
  rw [List.getD_eq_getElem?_getD, xorK_get h, Option.getD_some, UInt8.toNat_ofNat', Nat.mod_eq_of_lt (xorG_lt hk s c o (byL_lt l) i)]
theorem xorK_xorK {k : Sta} (hk : By k) (s c o : Nat) (l : List UInt8) : xorK k s c o (xorK k s c o l) = l := by
  apply List.ext_getElem?
  intro i
  rcases Nat.lt_or_ge i l.length with h | h
  · rw [xorK_get (by rw [xorK_length]; exact h), byL_get h]
    congr 2
    show byL (xorK k s c o l) i ^^^ ksAt k s c (o + i) = byL l i
    rw [byL_xorK hk h]
    show byL l i ^^^ ksAt k s c (o + i) ^^^ ksAt k s c (o + i) = byL l i
    rw [Nat.xor_assoc, Nat.xor_self, Nat.xor_zero]
  · rw [List.getElem?_eq_none (by rw [xorK_length, xorK_length]; exact h), List.getElem?_eq_none h]
/-! ### In blocks: a bytes of the first block are skipped, m bytes there are -/
def dnS (a m i : Nat) : Nat := min m (16 * i - a)
def skS (a i : Nat) : Nat := if i = 0 then a else 0
def rpS (a m i : Nat) : Nat := if dnS a m i = m then dnS a m (i - 1) else dnS a m i
theorem dnS_zero (a m : Nat) : dnS a m 0 = 0 := by unfold dnS; omega
theorem rpS_zero {a m : Nat} (hm : 0 < m) : rpS a m 0 = 0 := by unfold rpS; rw [dnS_zero, if_neg (by omega)]
theorem dnS_lt {a m i : Nat} (hm : 0 < m) (hi : i < (a + m - 1) / 16 + 1) : dnS a m i < m := by unfold dnS; omega
theorem rpS_lt {a m i : Nat} (hm : 0 < m) (hi : i < (a + m - 1) / 16 + 1) : rpS a m i = dnS a m i := by unfold rpS; rw [if_neg (by have := dnS_lt hm hi; omega)]
theorem skS_lt {a : Nat} (ha : a < 16) (i : Nat) : skS a i < 16 := by unfold skS; split <;> omega
theorem dnS_next {a m i : Nat} (ha : a < 16) (hm : 0 < m) (hi : i < (a + m - 1) / 16 + 1) : dnS a m i + min (m - dnS a m i) (16 - skS a i) = dnS a m (i + 1) := by
  unfold dnS skS
  split <;> omega
theorem dnS_end {a m : Nat} (ha : a < 16) (hm : 0 < m) : dnS a m ((a + m - 1) / 16 + 1) = m := by unfold dnS; omega
theorem rpS_next {a m i : Nat} (ha : a < 16) (hm : 0 < m) (hi : i < (a + m - 1) / 16 + 1) : (if m - dnS a m i = min (m - dnS a m i) (16 - skS a i) then dnS a m i else dnS a m i + min (m - dnS a m i) (16 - skS a i)) = rpS a m (i + 1) := by
  have h1 := dnS_next ha hm hi
  have h2 := dnS_lt hm hi
  unfold rpS
  rw [Nat.add_sub_cancel]
  by_cases h : dnS a m (i + 1) = m
  · rw [if_pos h, if_pos (by omega)]
  · rw [if_neg h, if_neg (by omega)]; exact h1
/-- The bytes of one block. -/
theorem xorG_block {k : Sta} {s c o m i j : Nat} {F : Nat → Nat} (hm : 0 < m) (hi : i < (o % 16 + m - 1) / 16 + 1) (hj : j < min (m - dnS (o % 16) m i) (16 - skS (o % 16) i)) :
    F (dnS (o % 16) m i + j) ^^^ ksB k s c (o / 16 + i) (skS (o % 16) i + j) = xorG k s c o F (dnS (o % 16) m i + j) := by
  have h : o + (dnS (o % 16) m i + j) = 16 * (o / 16 + i) + (skS (o % 16) i + j) ∧ skS (o % 16) i + j < 16 := by
    have h1 := dnS_lt hm hi
    have h2 := Nat.div_add_mod o 16
    have h3 := Nat.mod_lt o (show 0 < 16 by decide)
    generalize o % 16 = a at *
    generalize o / 16 = d at *
    unfold dnS skS at *
    split at hj <;> rename_i h0 <;> (first | rw [if_pos h0] | rw [if_neg h0]) <;> constructor <;> omega
  unfold xorG ksAt
  rw [h.1, show (16 * (o / 16 + i) + (skS (o % 16) i + j)) / 16 = o / 16 + i from by omega, show (16 * (o / 16 + i) + (skS (o % 16) i + j)) % 16 = skS (o % 16) i + j from by omega]
theorem skS_zero (a : Nat) : skS a 0 = a := if_pos rfl
theorem skS_succ (a i : Nat) : skS a (i + 1) = 0 := if_neg (Nat.succ_ne_zero i)
theorem copy_row (l : List UInt8) (xs : List Value) (hx : xs.length = l.length) (G : Nat → Nat) : xs.take 0 ++ (l.take l.length).map byteV ++ xs.drop (0 + min l.length l.length) = rowV l.length (mid (byL l) G 0) := by
  rw [← mid_zero, ← rowV_byL rfl, Nat.min_self, Nat.zero_add, List.take_zero, List.nil_append, List.take_length, List.drop_eq_nil_of_le (by omega), List.append_nil]
theorem ctr_flat (s c t : Nat) : [be 4 s, be 8 c, be 4 t].flatten = ctrL s c t := by simp [ctrL]
theorem K_key (k : Nat → Nat) (r : List Value) : ((rowV 16 k ++ r).drop 0).take 16 = rowV 16 k := by rw [List.drop_zero]; exact List.take_left' (rowV_length _ _)
/-- Bytes out of a row of numbers. -/
def rowL (f : Nat → Nat) (o m : Nat) : List UInt8 := (List.range m).map fun j => UInt8.ofNat (f (o + j))
/-- Two ranges of counters. -/
def overB (s c f l s' c' f' l' : Nat) : Bool := decide (s = s' ∧ c = c') && decide (max f f' ≤ min l l')
end Go.Proofs.YtffiflfjlemggaaGreatDoor
namespace Go.Proofs.YtffiflfjlemggaaGreatDoor
open Go Go.RowKit
set_option linter.unusedVariables false
set_option maxRecDepth 20000

theorem info26 : InfoIs Tryz.prog 26 (.int .i64 0) 8 := by unfold InfoIs; kernel_rfl
theorem zero41 : ZeroIs Tryz.prog 41 ([.int .u32 0] ++ [.int .u64 0]) := by unfold ZeroIs; kernel_rfl
theorem size41 : SizeIs Tryz.prog 41 2 := by unfold SizeIs; kernel_rfl
theorem field41_0 : FieldIs Tryz.prog 41 0 0 1 := by unfold FieldIs; kernel_rfl
theorem field41_1 : FieldIs Tryz.prog 41 1 1 1 := by unfold FieldIs; kernel_rfl
theorem zero90 : ZeroIs Tryz.prog 90 ([.int .u32 0] ++ [.int .u64 0] ++ [.int .u32 0] ++ [.int .u32 0]) := by unfold ZeroIs; kernel_rfl
theorem size90 : SizeIs Tryz.prog 90 4 := by unfold SizeIs; kernel_rfl
theorem field90_0 : FieldIs Tryz.prog 90 0 0 2 := by unfold FieldIs; kernel_rfl
theorem field90_1 : FieldIs Tryz.prog 90 1 2 1 := by unfold FieldIs; kernel_rfl
theorem field90_2 : FieldIs Tryz.prog 90 2 3 1 := by unfold FieldIs; kernel_rfl

theorem flat41 : flat Tryz.prog 3 41 = some [.u32, .u64] := by kernel_rfl
theorem kinN (a b : Int) : Kin (fun _ _ => True) [.u32, .u64] [.int .u32 a, .int .u64 b] := kin_cons (kin_cons kin_nil)
theorem eqN {s c s' c' : Nat} : decide (s = s' ∧ c = c') = true ↔ [nW s, nQ c] = ([nW s', nQ c'] : List Value) := by simp; omega
end Go.Proofs.YtffiflfjlemggaaGreatDoor
namespace Go.Proofs.YtffiflfjlemggaaGreatDoor
open Go Go.RowKit
set_option linter.unusedVariables false
set_option maxRecDepth 20000
theorem build90 (s c f l : Nat) : Tryz.prog.built 90 (([aggV [nW s, nQ c], nW f, nW l].zipIdx 0).map fun x => (x.2, x.1)) = some ([nW s, nQ c, nW f, nW l] : List Value).toArray := by kernel_rfl

theorem counterBlock_fn (s c t : Nat) (hs : s < 4294967296) (hc : c < 18446744073709551616) (ht : t < 4294967296) : Fn Tryz.prog 49 [.v (aggV ([nW s, nQ c])), .v (nW t)] (.v (aggV (rowV 16 (byL (ctrL s c t))))) := by
 refine FV Tryz.func49 rfl Tryz.ntmps49 rfl fun w₀ => ?_
 refine GS ?_
 refine TN 0 ?_
 refine RN ?_
 refine ZB 1000002 rfl fun b2 ⟨hBb2, hb2⟩ => ?_
 refine TN 1 ?_
 refine RN ?_
 refine ZN 1000004 zero37 fun b4 ⟨hBb4, hb4⟩ => ?_
 refine TL ?_
 refine RN ?_
 refine GD ?_
 refine TD 12 ?_
 refine RS (ok_field field41_0 (by decide) rfl) ?_
 refine RLV 1000002 Tryz.underlying38 rfl rfl rfl ?_
 refine RS (ok_call ((Put32_fn ((s : Nat) : Int) (by omega) (by omega)).le (d' := bytes (be 4 s) 4) (Le.refl _)) (A1 rfl)) ?_
 refine RS (ok_field field41_1 (by decide) rfl) ?_
 refine RLV 1000002 Tryz.underlying39 rfl rfl rfl ?_
 refine RS (ok_call ((Put64_fn ((c : Nat) : Int) (by omega) (by omega)).le (d' := bytes (be 8 c) 8) (Le.refl _)) (A1 rfl)) ?_
 refine RM rfl ?_
 refine RS (ok_call ((Put32_fn ((t : Nat) : Int) (by omega) (by omega)).le (d' := bytes (be 4 t) 4) (Le.refl _)) (A1 rfl)) ?_
 refine RS (ok_build [bytes (be 4 s) 4, bytes (be 8 c) 8, bytes (be 4 t) 4] Tryz.underlying103 info22 rfl (by decide) (by decide) rfl ⟨rfl, rfl, rfl, rfl, rfl, rfl, trivial⟩ (fun d hd w x h => by simp only [List.mem_cons, List.not_mem_nil, or_false] at hd; rcases hd with rfl | rfl | rfl <;> exact list_one h)) ?_
 refine RS ((ok_callB (Join_fnB [be 4 s, be 8 c, be 4 t] (by simp) (by simp [be_length])) (fun _ _ => fresh_mono _ _) (Args.cons rfl (list_lst3 (le_byt _ 4) (le_byt _ 8) (le_byt _ 4)) Args.nil)).le (d' := fresh w₀.heap.size 5 ((ctrL s c t).map byteV) 16) (Le.eq (by rw [ctr_flat, ctrL_length]))) ?_
 refine RS (ok_arrayF Tryz.underlying37 rfl (by decide)) ?_
 refine RS (ok_loadF Tryz.underlying37 rfl (size37.of (by rw [List.length_map, ctrL_length])) rfl) ?_; refine RZ (aggV (rowV 16 (byL (ctrL s c t)))) (congrArg aggV (rowV_byL (ctrL_length s c t))) ?_
 refine RN ?_
 refine ⟨_, eff_storeA (n := 17) (s := 1000004) (size37.of (rowV_length _ _)) rfl rfl (rowV_one _ _) hBb4 rfl (by first | (simp only [rowV_length]; done) | simp only [rowV_length, List.length_replicate]) (LV 4 rfl (LT 1000002 rfl LN)), ?_⟩
 refine TL ?_
 refine RN ?_
 refine A.ret ?_
 exact End.cell1 (s := 1000004) rfl Tryz.underlying37 rfl (size37.of (rowV_length _ _)) rfl rfl (Le.refl _)
theorem Block_fn7 (k : Nat → Nat) (hk : By k) (s c t : Nat) (hs : s < 4294967296) (hc : c < 18446744073709551616) (ht : t < 4294967296) : Fn Tryz.prog 17 [.v (aggV (rowV 16 (k))), .v (aggV ([nW s, nQ c])), .v (nW t)] (.v (aggV (rowV 16 (ksB k s c t)))) := by
 refine FV Tryz.func17 rfl Tryz.ntmps17 rfl fun w₀ => ?_
 refine GS ?_
 refine TN 0 ?_
 refine RN ?_
 refine ZB 1000003 rfl fun b3 ⟨hBb3, hb3⟩ => ?_
 refine TN 1 ?_
 refine RN ?_
 refine ZB 1000004 rfl fun b4 ⟨hBb4, hb4⟩ => ?_
 refine TN 2 ?_
 refine RN ?_
 refine ZN 1000006 zero37 fun b6 ⟨hBb6, hb6⟩ => ?_
 have hlt_b3_b6 := hb6 1000003 b3 _ _ rfl
 refine TL ?_
 refine RN ?_
 refine GD ?_
 refine TD 6 ?_
 refine RS (ok_loadA (s := 1000003) (by decide) Tryz.underlying37 rfl (size37.of (rowV_length _ _)) rfl rfl) ?_
 refine RS (ok_call (Expand_fn k hk) (A1 rfl)) ?_
 refine RL 1000004 Tryz.underlying41 rfl rfl (size41.of rfl) ?_
 refine RM rfl ?_
 refine RS (ok_call (counterBlock_fn s c t hs hc ht) (A2 rfl rfl)) ?_
 refine RS (ok_call (Encrypt_fn (expand k) (byL (ctrL s c t)) (expand_lt hk) (byL_lt _)) (A2 rfl rfl)) ?_
 refine RN ?_
 refine ⟨_, eff_storeA (n := 13) (s := 1000006) (size37.of (rowV_length _ _)) rfl rfl (rowV_one _ _) hBb6 rfl (by first | (simp only [rowV_length]; done) | simp only [rowV_length, List.length_replicate]) (LV 6 rfl (LB 1000003 rfl (LT 1000004 rfl LN))), ?_⟩
 refine TL ?_
 refine RN ?_
 refine A.ret ?_
 exact End.cell1 (s := 1000006) rfl Tryz.underlying37 rfl (size37.of (rowV_length _ _)) rfl rfl (Le.refl _)
theorem counterOf_fn (x : Nat) (hx : x ≤ 1048576) : Fn Tryz.prog 87 [.v (nI x)] (.v (nW (x / 16))) := by
 refine FV Tryz.func87 rfl Tryz.ntmps87 rfl fun w₀ => ?_
 refine GV rfl ?_
 refine GT ?_
 refine RM rfl ?_
 refine RS (ok_div rfl rfl (by decide)) ?_; refine RZ (nI (x / 16)) (by rw [tdiv_lit _ (by decide), show Int.toNat 16 = 16 from rfl, wrapN_i64 (by omega)]) ?_
 refine RS (ok_conv Tryz.underlying3 Tryz.underlying38 rfl) ?_; refine RZ (nW (x / 16)) (by rw [wrapN_u32 (by omega)]) ?_
 refine RVN 1 rfl ?_
 refine A.ret ?_
 exact ER rfl rfl
theorem Used_empty (s c : Nat) (o n : Int) (h : 0 ≤ o) (h1 : o ≤ 1048576) (h2 : n = 0) : Fn Tryz.prog 38 [.v (aggV ([nW s, nQ c])), .v (.int .i64 o), .v (.int .i64 n)] (tup [.v (aggV ([.int .u32 0, .int .u64 0, .int .u32 0, .int .u32 0])), .v (.int .i64 16)]) := by
 refine FV Tryz.func38 rfl Tryz.ntmps38 rfl fun w₀ => ?_
 refine GS ?_
 refine TN 0 ?_
 refine RN ?_
 refine ZB 1000003 rfl fun b3 ⟨hBb3, hb3⟩ => ?_
 refine TN 1 ?_
 refine RN ?_
 refine ZN 1000006 zero90 fun b6 ⟨hBb6, hb6⟩ => ?_
 refine TL ?_
 refine RVN 1 rfl ?_
 refine QSB ?_
 refine GT ?_
 refine RV 2 rfl ?_
 refine RZ (.bool false) (by simp; omega) ?_
 refine RV 3 rfl ?_
 refine RZ (.bool false) (by simp; omega) ?_
 refine RVN 2 rfl ?_
 refine A.no rfl ?_
 refine GT ?_
 refine RV 3 rfl ?_
 refine RZ (.int .i64 (1048576 - o)) (by rw [wrap_i64 (by omega) (by omega)]) ?_
 refine RB rfl rfl rfl ?_
 refine RZ (.bool false) (by simp; omega) ?_
 refine RVN 1 rfl ?_
 refine A.no rfl ?_
 refine GT ?_
 refine RV 2 rfl ?_
 refine RZ (.bool true) (by simp; omega) ?_
 refine RVN 1 rfl ?_
 refine A.yes rfl ?_
 refine GS ?_
 refine TF 1 ?_
 refine RS (ok_lit [] ([.int .u32 0] ++ [.int .u64 0] ++ [.int .u32 0] ++ [.int .u32 0]) (fun _ _ => rfl) (by kernel_rfl)) ?_
 refine RN ?_
 refine ZA 1000006 (size90.of rfl) hBb6 rfl rfl rfl (LV 6 rfl (LT 1000003 rfl LN)) ?_
 refine TL ?_
 refine RVN 1 rfl ?_
 refine A.ret ?_
 refine End.ret_block ?_
 refine End.ret_then ?_
 exact End.cellT (s := 1000006) rfl Tryz.underlying90 rfl (size90.of (rfl)) rfl rfl (Le.v rfl) rfl (Le.refl _)
theorem Used_fn (s c o n : Nat) (h0 : 0 < n) (h : o + n ≤ 1048576) : Fn Tryz.prog 38 [.v (aggV ([nW s, nQ c])), .v (nI o), .v (nI n)] (tup [.v (aggV ([nW s, nQ c, nW (o / 16), nW ((o + n - 1) / 16)])), .v (.int .i64 0)]) := by
 refine FV Tryz.func38 rfl Tryz.ntmps38 rfl fun w₀ => ?_
 refine GS ?_
 refine TN 0 ?_
 refine RN ?_
 refine ZB 1000003 rfl fun b3 ⟨hBb3, hb3⟩ => ?_
 refine TN 1 ?_
 refine RN ?_
 refine ZN 1000006 zero90 fun b6 ⟨hBb6, hb6⟩ => ?_
 refine TL ?_
 refine RVN 1 rfl ?_
 refine QSB ?_
 refine GT ?_
 refine RV 2 rfl ?_
 refine RZ (.bool false) (by simp) ?_
 refine RV 3 rfl ?_
 refine RZ (.bool false) (by simp) ?_
 refine RVN 2 rfl ?_
 refine A.no rfl ?_
 refine GT ?_
 refine RV 3 rfl ?_
 refine RZ (.int .i64 (1048576 - (o : Int))) (by rw [wrap_i64 (by omega) (by omega)]) ?_
 refine RB rfl rfl rfl ?_
 refine RZ (.bool false) (by simp; omega) ?_
 refine RVN 1 rfl ?_
 refine A.no rfl ?_
 refine GT ?_
 refine RV 2 rfl ?_
 refine RZ (.bool false) (by simp; omega) ?_
 refine RVN 1 rfl ?_
 refine A.no rfl ?_
 refine A.skip ?_
 refine End.normal_block ?_
 refine EN ?_
 refine GD ?_
 refine TD 9 ?_
 refine RL 1000003 Tryz.underlying41 rfl rfl (size41.of rfl) ?_
 refine RM rfl ?_
 refine RS (ok_call (counterOf_fn o (by omega)) (A1 rfl)) ?_
 refine RV 3 rfl ?_
 refine RZ (nI (o + n)) (by rw [wrap_i64 (by omega) (by omega)]; exact congrArg (Value.int .i64) (by omega)) ?_
 refine RB rfl rfl rfl ?_
 refine RZ (nI (o + n - 1)) (by rw [wrap_i64 (by omega) (by omega)]; exact congrArg (Value.int .i64) (by omega)) ?_
 refine RS (ok_call (counterOf_fn (o + n - 1) (by omega)) (A1 rfl)) ?_
 refine RS (ok_litU [aggV [nW s, nQ c], nW (o / 16), nW ((o + n - 1) / 16)] _ ⟨rfl, rfl, rfl, rfl, rfl, rfl, trivial⟩ (build90 s c (o / 16) ((o + n - 1) / 16))) ?_
 refine RN ?_
 refine ZA 1000006 (size90.of rfl) hBb6 rfl rfl rfl (LV 6 rfl (LT 1000003 rfl LN)) ?_
 refine TL ?_
 refine RVN 1 rfl ?_
 refine A.sub (SV [6, 7, 1000003, 1000006] rfl) ?_
 refine A.ret ?_
 exact End.cellT (s := 1000006) rfl Tryz.underlying90 rfl (size90.of (rfl)) rfl rfl (Le.refl _) rfl (Le.refl _)
theorem Over_A (s c f l s' c' f' l' : Nat) (he : ¬ (s = s' ∧ c = c')) : Fn Tryz.prog 118 [.v (aggV ([nW s, nQ c, nW f, nW l])), .v (aggV ([nW s', nQ c', nW f', nW l']))] (.v (.bool false)) := by
 refine FV Tryz.func118 rfl Tryz.ntmps118 rfl fun w₀ => ?_
 refine GS ?_
 refine TN 0 ?_
 refine RN ?_
 refine ZB 1000002 rfl fun b2 ⟨hBb2, hb2⟩ => ?_
 refine TN 1 ?_
 refine RN ?_
 refine ZB 1000003 rfl fun b3 ⟨hBb3, hb3⟩ => ?_
 have hlt_b2_b3 := hb3 1000002 b2 _ _ rfl
 refine TL ?_
 refine RVN 1 rfl ?_
 refine GT ?_
 refine RS (ok_field field90_0 (by decide) rfl) ?_
 refine RS (ok_loadP (s := 1000002) (by decide) Tryz.underlying41 rfl size41 rfl rfl (by simp) (rfl)) ?_
 refine RS (ok_field field90_0 (by decide) rfl) ?_
 refine RS (ok_loadP (s := 1000003) (by decide) Tryz.underlying41 rfl size41 rfl rfl (by simp) (rfl)) ?_
 refine RS (ok_eqlT (n := 3) (decide (s = s' ∧ c = c')) flat41 (by decide) (by kernel_rfl) (by kernel_rfl) rfl rfl (kinN _ _) (kinN _ _) eqN) ?_; refine RZ (.bool false) (by simp [he]) ?_
 refine RVN 14 rfl ?_
 refine A.ret ?_
 exact ER rfl rfl
theorem Over_B (s c f l s' c' f' l' : Nat) (he : s = s' ∧ c = c') : Fn Tryz.prog 118 [.v (aggV ([nW s, nQ c, nW f, nW l])), .v (aggV ([nW s', nQ c', nW f', nW l']))] (.v (.bool (decide (max f f' ≤ min l l')))) := by
 refine FV Tryz.func118 rfl Tryz.ntmps118 rfl fun w₀ => ?_
 refine GS ?_
 refine TN 0 ?_
 refine RN ?_
 refine ZB 1000002 rfl fun b2 ⟨hBb2, hb2⟩ => ?_
 refine TN 1 ?_
 refine RN ?_
 refine ZB 1000003 rfl fun b3 ⟨hBb3, hb3⟩ => ?_
 have hlt_b2_b3 := hb3 1000002 b2 _ _ rfl
 refine TL ?_
 refine RVN 1 rfl ?_
 refine GT ?_
 refine RS (ok_field field90_0 (by decide) rfl) ?_
 refine RS (ok_loadP (s := 1000002) (by decide) Tryz.underlying41 rfl size41 rfl rfl (by simp) (rfl)) ?_
 refine RS (ok_field field90_0 (by decide) rfl) ?_
 refine RS (ok_loadP (s := 1000003) (by decide) Tryz.underlying41 rfl size41 rfl rfl (by simp) (rfl)) ?_
 refine RS (ok_eqlT (n := 3) (decide (s = s' ∧ c = c')) flat41 (by decide) (by kernel_rfl) (by kernel_rfl) rfl rfl (kinN _ _) (kinN _ _) eqN) ?_; refine RZ (.bool true) (by simp [he]) ?_
 refine RM rfl ?_
 refine RQ (ok_field field90_1 (by decide) rfl) ?_
 refine RQ (ok_loadV (s := 1000002) (by decide) Tryz.underlying38 rfl rfl rfl (rfl)) ?_
 refine RQ (ok_field field90_1 (by decide) rfl) ?_
 refine RQ (ok_loadV (s := 1000003) (by decide) Tryz.underlying38 rfl rfl rfl (rfl)) ?_
 refine RQ (ok_maxI rfl rfl) ?_
 refine RQ (ok_field field90_2 (by decide) rfl) ?_
 refine RQ (ok_loadV (s := 1000002) (by decide) Tryz.underlying38 rfl rfl rfl (rfl)) ?_
 refine RQ (ok_field field90_2 (by decide) rfl) ?_
 refine RQ (ok_loadV (s := 1000003) (by decide) Tryz.underlying38 rfl rfl rfl (rfl)) ?_
 refine RQ (ok_minI rfl rfl) ?_
 refine RQ (ok_bin rfl rfl rfl) ?_
 refine RZ (.bool (decide (max f f' ≤ min l l'))) (congrArg Value.bool (decide_eq_decide.2 (by omega))) ?_
 refine RVN 2 rfl ?_
 refine A.ret ?_
 exact ER rfl rfl
theorem Overlap_fn (s c f l s' c' f' l' : Nat) : Fn Tryz.prog 118 [.v (aggV ([nW s, nQ c, nW f, nW l])), .v (aggV ([nW s', nQ c', nW f', nW l']))] (.v (.bool (overB s c f l s' c' f' l'))) := by
 by_cases he : s = s' ∧ c = c'
 ·rw [show overB s c f l s' c' f' l' = decide (max f f' ≤ min l l') from by simp [overB, he]]; exact Over_B _ _ _ _ _ _ _ _ he
 ·rw [show overB s c f l s' c' f' l' = false from by simp [overB, he]]; exact Over_A _ _ _ _ _ _ _ _ he
set_option maxHeartbeats 1000000 in
theorem combine_fnWR (g h o p n : Nat) (F G S : Nat → Nat) (hF : ∀ i, F i < 256) (hS : ∀ i, S i < 256) (ho : o ≤ n) (hn : n ≤ 1048576) (hp : p ≤ 16) (hG : ∀ j, j < (min (n - o) (16 - p)) → F (o + j) ^^^ S (p + j) = G (o + j)) : FnWR Tryz.prog 58 [(1000070, blk h 37 (rowV 16 S))] 5 g (rowV n (mid F G o)) (rowV n (mid F G (o + (min (n - o) (16 - p))))) ([.slice (some ⟨g, o, none⟩) (n - o) (n - o), .slice (some ⟨h, p, none⟩) (16 - p) (16 - p)].map D.v) (.slice (some ⟨g, if n - o = (min (n - o) (16 - p)) then o else o + (min (n - o) (16 - p)), none⟩) (n - o - (min (n - o) (16 - p))) (n - o - (min (n - o) (16 - p)))) := by
 refine FnWR.of (n := 30) (kb := 1000080) (kw := 1000081) Tryz.func58 rfl (by kernel_rfl) Tryz.ntmps58 (by simp) (by decide) (fun p hp => by simp only [List.mem_cons, List.not_mem_nil, or_false] at hp; rcases hp with rfl; exact vle rfl) (by decide) (by decide) [(0, .v (.slice (some ⟨g, o, none⟩) (n - o) (n - o))), (1, .v (.slice (some ⟨h, p, none⟩) (16 - p) (16 - p)))]
  (fun p hp => by simp only [List.mem_cons, List.not_mem_nil, or_false] at hp; rcases hp with rfl | rfl <;> exact ⟨_, rfl, rfl⟩) fun w₀ w₁ hw => ?_
 have hBg : w₀.heap.size ≤ g := Nat.le_of_eq hw
 refine GV rfl ?_
 refine GT ?_
 refine RM rfl ?_
 refine RS (ok_lenV Tryz.underlying22 rfl) ?_
 refine RM rfl ?_
 refine RS (ok_lenV Tryz.underlying22 rfl) ?_
 refine RS (ok_min rfl rfl) ?_; refine RZ (nI ((min (n - o) (16 - p)))) (congrArg (Value.int .i64) (by omega)) ?_
 refine RVN 1 rfl ?_
 refine QS ?_
 refine GV rfl ?_
 refine A.block ?_
 refine A.loop (ι := Nat) (fun i => i ≤ (min (n - o) (16 - p))) (fun i => [(0, .v (.slice (some ⟨g, o, none⟩) (n - o) (n - o))), (1, .v (.slice (some ⟨h, p, none⟩) (16 - p) (16 - p))), (5, .v (nI ((min (n - o) (16 - p))))), (12, .v (nI ((min (n - o) (16 - p))))), (13, .v (nI i)), (1000080, blk g 5 (rowV n (mid F G (o + i)))), (1000070, blk h 37 (rowV 16 S)), (1000081, wroteD 5 g w₁)]) (fun i => (min (n - o) (16 - p)) - i) 0 ?_ ?_ ?_
 ·exact Nat.zero_le _
 ·exact (SV [0, 1, 5, 12, 13, 1000080, 1000070, 1000081] rfl)
 intro i hi'
 refine GV rfl ?_
 refine QS ?_
 refine A.cond rfl (fun hc14 => ?_) (fun hc14 => ?_)
 ·have hi : i < (min (n - o) (16 - p)) := by simp at hc14; omega
  refine QK ?_
  refine QSB ?_
  refine GV rfl ?_
  refine A.reg (by kernel_rfl) (by kernel_rfl) (.inr (by kernel_rfl)) ?_
  refine TD 10 ?_
  refine RV 2 rfl ?_
  refine RS (ok_indexV i Tryz.underlying22 info5 rfl rfl rfl (by omega)) ?_
  refine RS (ok_loadV (s := 1000080) (by decide) Tryz.underlying5 rfl rfl rfl (rowV_get (by omega))) ?_; refine RZ (nB (F (o + i))) (v8 (mid_at F G _)) ?_
  refine RV 2 rfl ?_
  refine RS (ok_indexV i Tryz.underlying22 info5 rfl rfl rfl (by omega)) ?_
  refine RS (ok_loadV (s := 1000070) (by decide) Tryz.underlying5 rfl rfl rfl (rowV_get (by omega))) ?_; refine RZ (nB (S (p + i))) (v8 (by rfl)) ?_
  refine RB rfl rfl rfl ?_
  refine RZ (nB (G (o + i))) (by rw [show IntKind.u8.bits = 8 from rfl, xor_u8N (hF _) (hS _), hG i hi]) ?_
  refine RS (ok_indexV i Tryz.underlying22 info5 rfl rfl rfl (by omega)) ?_
  refine RN ?_
  refine ⟨_, eff_storeS (n := 30) (s := 1000080) info5 rfl rfl rfl hBg rfl (by simp only [rowV_length]; omega) (LT 1000070 rfl (LeftS.cons (t := 1000081) rfl (Surv.wrote) (LW [0, 1, 5, 12, 13] rfl))), ?_⟩
  refine TL ?_
  refine RN ?_
  refine End.normal_block ?_
  refine EN ?_
  refine GTE ?_
  refine RB rfl rfl rfl ?_
  refine RZ (nI (i + 1)) (by rw [wrap_i64 (by omega) (by omega)]; exact congrArg (Value.int .i64) (by omega)) ?_
  refine RVN 1 rfl ?_
  refine End.normal_then ?_
  refine End.again (i + 1) ?_ ?_ ?_
  ·show _ ≤ _; omega
  ·show _ - _ < _ - _; omega
  ·exact (KC 0 rfl (KC 1 rfl (KC 5 rfl (KC 12 rfl (KC 13 rfl (KE 1000080 rfl (congrArg _ (mid_set rfl rfl)) (KC 1000070 rfl (KC 1000081 rfl KN))))))))
 ·have hi2 : i = (min (n - o) (16 - p)) := by simp at hc14; omega
  refine A.exit ?_
  refine End.exit_then ?_
  refine End.exit_then ?_
  refine End.exit_here ?_
  refine EN ?_
  refine GT ?_
  refine RV 2 rfl ?_
  refine RS (ok_sliceE (l := (min (n - o) (16 - p))) (h := n - o) (m := n - o) Tryz.underlying22 info5 rfl (.inl ⟨_, _, rfl, rfl⟩) (.inr ⟨rfl, rfl, rfl⟩) (.inr ⟨rfl, rfl⟩) (by omega) (Nat.le_refl _) (Nat.le_refl _)) ?_
  refine RVN 1 rfl ?_
  refine A.ret ?_
  exact End.wroteR (kb := 1000080) (kw := 1000081) (.inl rfl) rfl rfl rfl (by rw [hi2]) rfl
theorem blocks_fnB (k : Nat → Nat) (s c f l : Nat) : FnB Tryz.prog 57 [.v (aggV (rowV 16 (k))), .v (aggV ([nW s, nQ c, nW f, nW l]))] (fun B => closR B 106 37 (rowV 16 k) 90 [nW s, nQ c, nW f, nW l]) := by
 refine FnB.of Tryz.func57 rfl (by kernel_rfl) Tryz.ntmps57 (by simp) (fun w => [(0, .v (aggV (rowV 16 (k)))), (1, .v (aggV ([nW s, nQ c, nW f, nW l])))]) (fun w => (Start.v rfl (Start.v rfl Start.nil))) fun w₀ => ?_
 refine GS ?_
 refine TN 0 ?_
 refine RN ?_
 refine ZB 1000002 rfl fun b2 ⟨hBb2, hb2⟩ => ?_
 refine TN 1 ?_
 refine RN ?_
 refine ZB 1000003 rfl fun b3 ⟨hBb3, hb3⟩ => ?_
 have hlt_b2_b3 := hb3 1000002 b2 _ _ rfl
 refine TL ?_
 refine RVN 1 rfl ?_
 refine GT ?_
 refine RS (ok_makeFuncN [ptr b2, ptr b3] ⟨rfl, rfl, trivial⟩) ?_
 refine RVN 1 rfl ?_
 refine A.ret ?_
 exact End.closR (.inl rfl) rfl hBb2 hBb3 (by omega) rfl (k₁ := 1000002) (k₂ := 1000003) rfl rfl
set_option maxHeartbeats 1000000 in
theorem blocks1_seq {w₀ : World} {N y p q : Nat} {J : Nat → World → Prop} {k : Nat → Nat} (hk : By k) {s c f t : Nat} (hs : s < 4294967296) (hc : c < 18446744073709551616) (hN : f + N = t + 1) (ht : t < 4294967296)
  (hq : SeqsX Tryz.prog w₀ N y (fun i => .v (aggV (rowV 16 (ksB k s c (f + i))))) (fun _ => [(1000091, blk p 37 (rowV 16 k)), (1000092, blk q 90 [nW s, nQ c, nW f, nW t])]) J (fun z : Nat × List Value => [(1000004, blk z.1 43 z.2)])) {w : World} (h0 : J 0 w) :
  Calls Tryz.prog 106 (.func (.yield y) #[] #[] :: [ptr p, ptr q] : List Value).toArray w fun e W => (∃ v, e = .returned v) ∧ J N W := by
 obtain ⟨hb, hz, hV⟩ := hq.holds 0 w h0
 refine Calls.within (n := 28) (E := [(0, .v (.func (.yield y) #[] #[])), (1, .v (ptr p)), (2, .v (ptr q)), (1000090, jD (J 0)), (1000091, blk p 37 (rowV 16 k)), (1000092, blk q 90 [nW s, nQ c, nW f, nW t])]) Tryz.func106 rfl Tryz.ntmps106 (by simp) (by decide) hb hz ?_ ?_
 ·intro x hx
  simp only [List.mem_cons, List.not_mem_nil, or_false] at hx
  rcases hx with rfl | rfl | rfl | rfl | rfl | rfl
  ·exact .inr ⟨_, rfl, rfl⟩
  ·exact .inr ⟨_, rfl, rfl⟩
  ·exact .inr ⟨_, rfl, rfl⟩
  ·exact .inl ⟨vle rfl, jD_mk h0⟩
  ·exact .inl ⟨vle rfl, hV _ (by simp)⟩
  ·exact .inl ⟨vle rfl, hV _ (by simp)⟩
 refine A.regsH _ (fun B => (OldH.same (t := 0) rfl (OldH.same (t := 1) rfl (OldH.same (t := 2) rfl (OldH.p (t := 1000090) rfl (OldH.same (t := 1000091) rfl (OldH.same (t := 1000092) rfl OldH.nil))))))) (by kernel_rfl) (by kernel_rfl) (.inl rfl) (fun B hB => ?_)
 refine TN 2 ?_
 refine RS (ok_loadA (s := 1000091) (by decide) Tryz.underlying37 rfl (size37.of (rowV_length _ _)) rfl rfl) ?_
 refine RS (ok_call (Expand_fn k hk) (A1 rfl)) ?_
 refine RN ?_
 refine ZN 1000004 zero43 fun b4 ⟨hBb4, hb4⟩ => ?_
 refine TF 3 ?_
 refine RN ?_
 refine ⟨_, eff_storeA (n := 28) (s := 1000004) (size43.of (rowV_length _ _)) rfl rfl (rowV_one _ _) hBb4 rfl (by first | (simp only [rowV_length]; done) | simp only [rowV_length, List.length_replicate]) (LO 1000090 rfl (LT 1000091 rfl (LT 1000092 rfl (LW [0, 2, 4] rfl)))), ?_⟩
 refine TL ?_
 refine RN ?_
 refine A.sub (SV [0, 2, 4, 1000004, 1000090, 1000091, 1000092] rfl) ?_
 refine A.subL (SubL.cons (t := 0) rfl (Le.refl _) (SubL.cons (t := 2) rfl (Le.refl _) (SubL.cons (t := 4) rfl (Le.refl _) (SubL.cons (t := 1000004) rfl (Le.refl _) (SubL.cons (t := 1000090) rfl (Le.old _ _) (SubL.cons (t := 1000091) rfl (Le.refl _) (SubL.cons (t := 1000092) rfl (Le.refl _) SubL.nil))))))) ?_
 refine GT ?_
 refine RS (ok_field field90_1 (by decide) rfl) ?_
 refine RLV 1000092 Tryz.underlying38 rfl rfl rfl ?_
 refine RS (ok_conv Tryz.underlying38 Tryz.underlying39 rfl) ?_; refine RZ (nQ f) (by rw [wrapN_u64 (by omega)]) ?_
 refine RVN 1 rfl ?_
 refine A.block ?_
 refine A.loop (ι := Nat) (fun i => i ≤ N) (fun i => [(0, .v (.func (.yield y) #[] #[])), (2, .v (ptr q)), (4, .v (.pointer (some ⟨b4, 0, none⟩))), (5, .v (nQ (f + i))), (1000090, jD (J i)), (1000091, blk p 37 (rowV 16 k)), (1000092, blk q 90 [nW s, nQ c, nW f, nW t]), (1000004, blk b4 43 (rowV 176 (expand k)))]) (fun i => N - i) 0 ?_ ?_ ?_
 ·exact Nat.zero_le _
 ·exact (KC 0 rfl (KC 2 rfl (KC 4 rfl (KE 5 rfl (by rfl) (KC 1000090 rfl (KC 1000091 rfl (KC 1000092 rfl (KC 1000004 rfl KN))))))))
 intro i hi'
 refine QS ?_
 refine GT ?_
 refine RM rfl ?_
 refine RS (ok_field field90_2 (by decide) rfl) ?_
 refine RLV 1000092 Tryz.underlying38 rfl rfl rfl ?_
 refine RS (ok_conv Tryz.underlying38 Tryz.underlying39 rfl) ?_; refine RZ (nQ t) (by rw [wrapN_u64 (by omega)]) ?_
 refine RVN 1 rfl ?_
 refine A.cond rfl (fun hc15 => ?_) (fun hc15 => ?_)
 ·have hlt : i < N := by simp at hc15; omega
  refine QK ?_
  refine QSB ?_
  refine GD ?_
  refine TD 8 ?_
  refine RM rfl ?_
  refine RS (ok_loadA (s := 1000004) (by decide) Tryz.underlying43 rfl (size43.of (rowV_length _ _)) rfl rfl) ?_
  refine RS (ok_field field90_0 (by decide) rfl) ?_
  refine RS (ok_loadP (s := 1000092) (by decide) Tryz.underlying41 rfl size41 rfl rfl (by simp) (rfl)) ?_
  refine RM rfl ?_
  refine RS (ok_conv Tryz.underlying39 Tryz.underlying38 rfl) ?_; refine RZ (nW (f + i)) (by rw [wrapN_u32 (by omega)]) ?_
  refine RS (ok_call (counterBlock_fn s c (f + i) hs hc (by omega)) (A2 rfl rfl)) ?_
  refine RS (ok_call (Encrypt_fn (expand k) (byL (ctrL s c (f + i))) (expand_lt hk) (byL_lt _)) (A2 rfl rfl)) ?_; refine RZ (aggV (rowV 16 (ksB k s c (f + i)))) (rfl) ?_
  refine RN ?_
  refine ⟨_, eff_yieldX (vJ := 1000090) hq (b4, (rowV 176 (expand k))) i hlt rfl rfl rfl (Le.refl _) (by decide) (fun p hp => by simp only [List.mem_cons, List.not_mem_nil, or_false] at hp; rcases hp with rfl | rfl <;> exact vle rfl) (fun p hp => by simp only [List.mem_cons, List.not_mem_nil, or_false] at hp; rcases hp with rfl; exact vle rfl) (fun p hp => by simp only [List.mem_cons, List.not_mem_nil, or_false] at hp; rcases hp with rfl; rfl) (by decide) (Left.cons (t := 0) rfl (Stays.v _ _) (Left.cons (t := 2) rfl (Stays.v _ _) (Left.cons (t := 4) rfl (Stays.v _ _) (Left.cons (t := 5) rfl (Stays.v _ _) Left.nil)))), ?_⟩
  refine TL ?_
  refine RS (ok_not rfl) ?_; refine RZ (.bool false) (rfl) ?_
  refine RN ?_
  refine A.no rfl ?_
  refine A.skip ?_
  refine End.normal_block ?_
  refine EN ?_
  refine GTE ?_
  refine RV 2 rfl ?_
  refine RZ (nQ (f + (i + 1))) (by rw [wrap_u64 (by omega) (by omega)]; exact congrArg (Value.int .u64) (by omega)) ?_
  refine RVN 1 rfl ?_
  refine End.normal_then ?_
  refine End.again (i + 1) ?_ ?_ ?_
  ·show _ ≤ _; omega
  ·show _ - _ < _ - _; omega
  ·exact (SV [0, 2, 4, 5, 1000090, 1000091, 1000092, 1000004] rfl)
 ·obtain rfl : i = N := by simp at hc15; omega
  refine A.exit ?_
  refine End.exit_then ?_
  refine End.exit_then ?_
  refine End.exit_here ?_
  exact End.seqX (vJ := 1000090) hq rfl rfl
set_option maxHeartbeats 1000000 in
theorem Xor7_empty (k : Nat → Nat) (s c : Nat) (o : Int) (l : List UInt8) (h : 0 ≤ o) (h1 : o ≤ 1048576) (h2 : (l.length : Int) = 0) : Fn Tryz.prog 22 [.v (aggV (rowV 16 (k))), .v (aggV ([nW s, nQ c])), .v (.int .i64 o), byt l] (tup [.v (.slice none 0 0), .v (.int .i64 0)]) := by
 refine Fn.of Tryz.func22 rfl (by kernel_rfl) Tryz.ntmps22 (by simp) (fun w => [(0, .v (aggV (rowV 16 (k)))), (1, .v (aggV ([nW s, nQ c]))), (2, .v (.int .i64 o)), (3, old w.heap.size (byt l))]) (fun w => (Start.v rfl (Start.v rfl (Start.v rfl (Start.old rfl Start.nil))))) fun w₀ => ?_
 refine GS ?_
 refine TN 0 ?_
 refine RN ?_
 refine ZB 1000004 rfl fun b4 ⟨hBb4, hb4⟩ => ?_
 refine TN 1 ?_
 refine RN ?_
 refine ZB 1000005 rfl fun b5 ⟨hBb5, hb5⟩ => ?_
 refine TL ?_
 refine RVN 2 rfl ?_
 refine GS ?_
 refine TN 8 ?_
 refine RL 1000005 Tryz.underlying41 rfl rfl (size41.of rfl) ?_
 refine RV 2 rfl ?_
 refine RS (ok_lenB Tryz.underlying22 rfl LA) ?_
 refine RS (ok_call (Used_empty s c o (l.length : Int) h h1 h2) (A3 rfl rfl rfl)) ?_
 refine RM rfl ?_
 refine RS (ok_extract rfl rfl) ?_
 refine RS (ok_extract rfl rfl) ?_
 refine RN ?_
 refine ZN 1000010 zero90 fun b10 ⟨hBb10, hb10⟩ => ?_
 refine TF 9 ?_
 refine RN ?_
 refine ZA 1000010 (size90.of rfl) hBb10 rfl rfl rfl (LO 3 rfl (LT 1000004 rfl (LT 1000005 rfl (LW [2, 4, 10, 23] rfl)))) ?_
 refine TL ?_
 refine RVN 1 rfl ?_
 refine QS ?_
 refine GV rfl ?_
 refine A.block ?_
 refine GT ?_
 refine RB rfl rfl rfl ?_
 refine RZ (.bool false) (by rfl) ?_
 refine RVN 1 rfl ?_
 refine A.no rfl ?_
 refine GT ?_
 refine RB rfl rfl rfl ?_
 refine RZ (.bool true) (by rfl) ?_
 refine RVN 1 rfl ?_
 refine A.yes rfl ?_
 refine GV rfl ?_
 refine A.ret ?_
 refine End.ret_block ?_
 refine End.ret_then ?_
 exact End.ret2 rfl rfl (by first | exact Le.refl _ | exact Le.old _ _) rfl (by first | exact Le.refl _ | exact Le.old _ _)
set_option maxHeartbeats 4000000 in
theorem Xor7_pos (k : Nat → Nat) (hk : By k) (s c o : Nat) (l : List UInt8) (hs : s < 4294967296) (hc : c < 18446744073709551616) (hm : 0 < l.length) (ho : o + l.length ≤ 1048576) : Fn Tryz.prog 22 [.v (aggV (rowV 16 (k))), .v (aggV ([nW s, nQ c])), .v (nI o), byt l] (tup [bytes (xorK k s c o l) l.length, .v (.int .i64 0)]) := by
 have ha : o % 16 < 16 := Nat.mod_lt _ (by decide)
 refine Fn.of Tryz.func22 rfl (by kernel_rfl) Tryz.ntmps22 (by simp) (fun w => [(0, .v (aggV (rowV 16 (k)))), (1, .v (aggV ([nW s, nQ c]))), (2, .v (nI o)), (3, old w.heap.size (byt l))]) (fun w => (Start.v rfl (Start.v rfl (Start.v rfl (Start.old rfl Start.nil))))) fun w₀ => ?_
 refine GS ?_
 refine TN 0 ?_
 refine RN ?_
 refine ZB 1000004 rfl fun b4 ⟨hBb4, hb4⟩ => ?_
 refine TN 1 ?_
 refine RN ?_
 refine ZB 1000005 rfl fun b5 ⟨hBb5, hb5⟩ => ?_
 refine TL ?_
 refine RVN 2 rfl ?_
 refine GS ?_
 refine TN 8 ?_
 refine RL 1000005 Tryz.underlying41 rfl rfl (size41.of rfl) ?_
 refine RV 2 rfl ?_
 refine RS (ok_lenB Tryz.underlying22 rfl LA) ?_
 refine RS (ok_call (Used_fn s c o l.length hm ho) (A3 rfl rfl rfl)) ?_
 refine RM rfl ?_
 refine RS (ok_extract rfl rfl) ?_
 refine RS (ok_extract rfl rfl) ?_
 refine RN ?_
 refine ZN 1000010 zero90 fun b10 ⟨hBb10, hb10⟩ => ?_
 refine TF 9 ?_
 refine RN ?_
 refine ZA 1000010 (size90.of rfl) hBb10 rfl rfl rfl (LO 3 rfl (LT 1000004 rfl (LT 1000005 rfl (LW [2, 4, 10, 23] rfl)))) ?_
 refine TL ?_
 refine RVN 1 rfl ?_
 refine QS ?_
 refine GV rfl ?_
 refine A.block ?_
 refine GT ?_
 refine RB rfl rfl rfl ?_
 refine RZ (.bool true) (by rfl) ?_
 refine RVN 1 rfl ?_
 refine A.yes rfl ?_
 refine A.skip ?_
 refine End.normal_block ?_
 refine EN ?_
 refine GT ?_
 refine RM rfl ?_
 refine RS (ok_lenB Tryz.underlying22 rfl LA) ?_
 refine RS (ok_make l.length Tryz.underlying22 info5 (by decide) rfl rfl rfl rfl rfl (by omega)) ?_
 refine RVN 1 rfl ?_
 refine A.open (t := 12) (k := 1000012) rfl fun b12 hb12 => ?_
 have hBb12 := hb12
 refine GS ?_
 refine TF 2 ?_
 refine RVN 2 rfl ?_
 refine ⟨_, eff_copyS (n := 48) (s := 1000012) (l := l) Tryz.underlying22 info5 rfl rfl LA hBb12 rfl (by simp) (by decide) (LT 1000004 rfl (LT 1000005 rfl (LT 1000010 rfl (LW [2, 4, 10, 12] rfl)))), ?_⟩
 refine TL ?_
 refine RN ?_
 refine A.sub (KC 2 rfl (KC 4 rfl (KC 10 rfl (KC 12 rfl (KC 1000004 rfl (KC 1000005 rfl (KC 1000010 rfl (KE 1000012 rfl (show blk b12 5 _ = blk b12 5 (rowV l.length (mid (byL l) (xorG k s c o (byL l)) 0)) from congrArg _ (copy_row l _ (by simp) _)) KN)))))))) ?_
 refine GS ?_
 refine TN 3 ?_
 refine RV 2 rfl ?_
 refine RS (ok_rem rfl rfl (by decide)) ?_; refine RZ (nI (o % 16)) (by rw [tmod_lit _ (by decide)]; rfl) ?_
 refine RN ?_
 refine ZN 1000013 zero22 fun b13 ⟨hBb13, hb13⟩ => ?_
 refine TN 4 ?_
 refine RN ?_
 refine ZN 1000014 zero3 fun b14 ⟨hBb14, hb14⟩ => ?_
 refine TF 5 ?_
 refine RN ?_
 refine ⟨_, eff_storeS (n := 48) (s := 1000013) info22 rfl rfl rfl hBb13 rfl (by simp) (LT 1000004 rfl (LT 1000005 rfl (LT 1000010 rfl (LT 1000012 rfl (LT 1000014 rfl (LW [4, 10, 12, 13, 14, 38] rfl)))))), ?_⟩
 refine TF 6 ?_
 refine RN ?_
 refine ⟨_, eff_storeS (n := 48) (s := 1000014) info3 rfl rfl rfl hBb14 rfl (by simp) (LT 1000004 rfl (LT 1000005 rfl (LT 1000010 rfl (LT 1000012 rfl (LT 1000013 rfl (LW [4, 10, 12, 13, 14] rfl)))))), ?_⟩
 refine TL ?_
 refine RN ?_
 refine QS ?_
 refine GT ?_
 refine RS (ok_loadA (s := 1000004) (by decide) Tryz.underlying37 rfl (size37.of (rowV_length _ _)) rfl rfl) ?_
 refine RL 1000010 Tryz.underlying90 rfl rfl (size90.of rfl) ?_
 refine RS (ok_callB (blocks_fnB k s c (o / 16) ((o + l.length - 1) / 16)) (fun _ _ => closR_mono _ _) (A2 rfl rfl)) ?_
 refine RN ?_
 refine A.openClosR (t := 41) (k₁ := 1000091) (k₂ := 1000092) rfl fun p q hBp hBq hpq => ?_
 refine A.block ?_
 refine A.rangeX (gf := 106) (N := ((o % 16 + l.length - 1) / 16 + 1)) (vL := 1000098) (vD := 1000099) (tp := 42) (lb := [ptr p, ptr q]) (S := [(12, .v (.slice (some ⟨b12, 0, none⟩) l.length l.length)), (13, .v (ptr b13)), (14, .v (ptr b14))]) (XE := fun z : Nat × List Value => [(1000004, blk z.1 43 z.2)])
  (V := fun i => [(1000012, blk b12 5 (rowV l.length (mid (byL l) (xorG k s c o (byL l)) (dnS (o % 16) l.length (i))))), (1000013, blk b13 22 [.slice (some ⟨b12, rpS (o % 16) l.length (i), none⟩) (l.length - dnS (o % 16) l.length (i)) (l.length - dnS (o % 16) l.length (i))]), (1000014, blk b14 3 [nI (skS (o % 16) (i))]), (1000091, blk p 37 (rowV 16 k)), (1000092, blk q 90 [nW s, nQ c, nW (o / 16), nW ((o + l.length - 1) / 16)])])
  (Eb := fun i z => (15, freshV w₀.heap.size [] 37 (rowV 16 (ksB k s c (o / 16 + i)))) :: (42, .v (aggV (rowV 16 (ksB k s c (o / 16 + i))))) :: ([(1000012, blk b12 5 (rowV l.length (mid (byL l) (xorG k s c o (byL l)) (dnS (o % 16) l.length (i))))), (1000013, blk b13 22 [.slice (some ⟨b12, rpS (o % 16) l.length (i), none⟩) (l.length - dnS (o % 16) l.length (i)) (l.length - dnS (o % 16) l.length (i))]), (1000014, blk b14 3 [nI (skS (o % 16) (i))]), (1000091, blk p 37 (rowV 16 k)), (1000092, blk q 90 [nW s, nQ c, nW (o / 16), nW ((o + l.length - 1) / 16)])] ++ [(12, .v (.slice (some ⟨b12, 0, none⟩) l.length l.length)), (13, .v (ptr b13)), (14, .v (ptr b14))] ++ [(1000004, blk z.1 43 z.2)]))
  (arg := fun i => .v (aggV (rowV 16 (ksB k s c (o / 16 + i))))) rfl ⟨_, Tryz.func106, by kernel_rfl, rfl⟩ (by decide) (by decide) (KE 1000012 rfl (by rw [dnS_zero]) (KE 1000013 rfl (by rw [rpS_zero hm, dnS_zero, List.length_replicate, Nat.sub_zero]; rfl) (KE 1000014 rfl (by rw [skS_zero]; rfl) (KC 1000091 rfl (KC 1000092 rfl (KE 12 rfl (by rw [List.length_replicate]) (KC 13 rfl (KC 14 rfl KN))))))))
  (fun x hx => by simp only [List.mem_cons, List.not_mem_nil, or_false] at hx; rcases hx with rfl | rfl | rfl <;> exact ⟨vlt rfl, .inl ⟨_, rfl⟩⟩)
  (fun i x hx => by simp only [List.mem_cons, List.not_mem_nil, or_false] at hx; rcases hx with rfl | rfl | rfl | rfl | rfl <;> exact vle rfl)
  (fun z x hx => by simp only [List.mem_cons, List.not_mem_nil, or_false] at hx; rcases hx with rfl; exact vle rfl)
  (fun z l _ x hx => by simp only [List.mem_cons, List.not_mem_nil, or_false] at hx; rcases hx with rfl; exact Firm.blk)
  (fun i l' hl x hx => by simp only [List.mem_cons, List.not_mem_nil, or_false] at hx; rcases hx with rfl | rfl | rfl | rfl | rfl <;> first | exact Firm.blk | exact Firm.v _ _ | exact Firm.freshV)
  (fun i z l' hl x hx => by simp only [List.mem_cons, List.mem_append, List.not_mem_nil, or_false] at hx; rcases hx with rfl | rfl | ((rfl | rfl | rfl | rfl | rfl) | rfl | rfl | rfl) | rfl <;> first | exact Firm.blk | exact Firm.v _ _ | exact Firm.freshV)
  (fun J l' w hq h0 => blocks1_seq (f := o / 16) (t := (o + l.length - 1) / 16) hk hs hc (by omega) (by omega) (hq.sub fun i x hx => by simp only [List.mem_cons, List.not_mem_nil, or_false] at hx ⊢; rcases hx with rfl | rfl <;> simp) h0)
  (fun i l' a w z _ hb h => assign_box zero37 (size37.of (rowV_length _ _)) (rowV_one _ _) (by rw [rowV_length, List.length_replicate]) (by decide) (by decide) hb h) ?_ ?_
 ·intro i l' D rr mm z hi'
  have hdl := dnS_lt hm hi'
  have hsk := skS_lt ha i
  refine A.openFresh (t := 15) (k := 1000015) rfl fun b15 hBb15 => ?_
  refine A.block ?_
  refine GD ?_
  refine TD 3 ?_
  refine RS (ok_loadV (s := 1000013) (by decide) Tryz.underlying22 rfl rfl rfl (rfl)) ?_; refine RZ (.slice (some ⟨b12, dnS (o % 16) l.length (i), none⟩) (l.length - dnS (o % 16) l.length (i)) (l.length - dnS (o % 16) l.length (i))) (by rw [rpS_lt hm hi']) ?_
  refine RLV 1000014 Tryz.underlying3 rfl rfl rfl ?_
  refine RS (ok_sliceX (l := skS (o % 16) i) (h := 16) (m := 16) Tryz.underlying37 info5 rfl (.inl ⟨_, _, rfl, rfl⟩) (.inr ⟨rfl, rfl, rfl⟩) (.inr ⟨rfl, rfl⟩) (by omega) (by decide) (by decide) (.inl hsk)) ?_; refine RZ (.slice (some ⟨b15, skS (o % 16) i, none⟩) (16 - skS (o % 16) i) (16 - skS (o % 16) i)) (by rw [Nat.zero_add]) ?_
  refine RN ?_
  refine ⟨_, eff_callWR (n := 48) (s := 1000012) (combine_fnWR b12 b15 (dnS (o % 16) l.length (i)) (skS (o % 16) i) l.length (byL l) (xorG k s c o (byL l)) (ksB k s c (o / 16 + i)) (byL_lt l) (ksB_by hk _ _ _) (by omega) (by omega) (by omega) (fun j hj => xorG_block hm hi' hj)) (fun p hp => by simp only [List.mem_cons, List.not_mem_nil, or_false] at hp; rcases hp with rfl; exact ⟨1000015, by decide, rfl⟩) (A2 rfl rfl) hBb12 rfl (by decide) (by decide) (LT 1000004 rfl (LT 1000013 rfl (LT 1000014 rfl (LT 1000015 rfl (LT 1000091 rfl (LT 1000092 rfl (LeftS.cons (t := 1000098) rfl (Surv.rec rfl) (LeftS.cons (t := 1000099) rfl (Surv.rec rfl) (LW [13, 14] rfl))))))))), ?_⟩
  refine TD 4 ?_
  refine RN ?_
  refine ⟨_, eff_storeS (n := 48) (s := 1000013) info22 rfl rfl rfl hBb13 rfl (by simp) (LV 14 rfl (LT 1000004 rfl (LT 1000012 rfl (LT 1000014 rfl (LT 1000015 rfl (LT 1000091 rfl (LT 1000092 rfl (LeftS.cons (t := 1000098) rfl (Surv.rec rfl) (LeftS.cons (t := 1000099) rfl (Surv.rec rfl) LN))))))))), ?_⟩
  refine TL ?_
  refine RN ?_
  refine A.sub (KC 14 rfl (KC 1000004 rfl (KE 1000012 rfl (show _ = blk b12 5 (rowV l.length (mid (byL l) (xorG k s c o (byL l)) (dnS (o % 16) l.length (i + 1)))) from by rw [dnS_next ha hm hi']) (KE 1000013 rfl (show _ = blk b13 22 [.slice (some ⟨b12, rpS (o % 16) l.length (i + 1), none⟩) (l.length - dnS (o % 16) l.length (i + 1)) (l.length - dnS (o % 16) l.length (i + 1))] from congrArg _ (by rw [rpS_next ha hm hi', Nat.sub_sub, dnS_next ha hm hi']; rfl)) (KC 1000014 rfl (KC 1000015 rfl (KC 1000091 rfl (KC 1000092 rfl (KC 1000098 rfl (KC 1000099 rfl KN)))))))))) ?_
  refine GE ?_
  refine TF 0 ?_
  refine RN ?_
  refine ⟨_, eff_storeS (n := 48) (s := 1000014) info3 rfl rfl rfl hBb14 rfl (by simp) (LT 1000004 rfl (LT 1000012 rfl (LT 1000013 rfl (LT 1000015 rfl (LT 1000091 rfl (LT 1000092 rfl (LeftS.cons (t := 1000098) rfl (Surv.rec rfl) (LeftS.cons (t := 1000099) rfl (Surv.rec rfl) LN)))))))), ?_⟩
  refine TL ?_
  refine RN ?_
  refine End.sub (KC 1000004 rfl (KC 1000012 rfl (KC 1000013 rfl (KE 1000014 rfl (show _ = blk b14 3 [nI (skS (o % 16) (i + 1))] from by rw [skS_succ]; rfl) (KC 1000015 rfl (KC 1000091 rfl (KC 1000092 rfl (KC 1000098 rfl (KC 1000099 rfl KN))))))))) ?_
  refine End.normal_block ?_
  exact End.round (SV [1000098, 1000099, 1000012, 1000013, 1000014, 1000091, 1000092, 1000004] rfl) (fun x hx => by simp only [List.mem_cons, List.mem_append, List.not_mem_nil, or_false] at hx; rcases hx with rfl | rfl | (rfl | rfl | rfl | rfl | rfl) | rfl <;> exact vle rfl) (by decide)
 ·intro D hD
  refine End.normal_block ?_
  refine EN ?_
  refine GV rfl ?_
  refine A.ret ?_
  refine End.bytes 8 1000012 (xorK k s c o l) rfl (xorK_length k s c o l).symm rfl (by rw [dnS_end ha hm, mid_full, xorK_length, List.take_of_length_le (Nat.le_of_eq (rowV_length _ _)), xorK_row hk s c o l rfl]) (Nat.le_of_eq (xorK_length k s c o l)) (by simp only [maxLen]; omega) ?_
  exact End.ret2C (D := D) (vD := 1000099) rfl hD rfl rfl Firm.bytes (Le.refl _) rfl (Firm.v _ _) (Le.refl _)
theorem Xor7_fn (k : Nat → Nat) (hk : By k) (s c o : Nat) (l : List UInt8) (hs : s < 4294967296) (hc : c < 18446744073709551616) (ho : o + l.length ≤ 1048576) : Fn Tryz.prog 22 [.v (aggV (rowV 16 (k))), .v (aggV ([nW s, nQ c])), .v (nI o), byt l] (tup [bytes (xorK k s c o l) l.length, .v (.int .i64 0)]) := by
 by_cases hm : 0 < l.length
 ·exact Xor7_pos k hk s c o l hs hc hm ho
 ·obtain rfl : l = [] := List.eq_nil_of_length_eq_zero (by omega)
  exact (Xor7_empty k s c (o : Int) [] (by omega) (by omega) rfl).le (tup_le2 bytes_nil_le (Le.refl _))
end Go.Proofs.YtffiflfjlemggaaGreatDoor
namespace Go.Proofs.YtffiflfjlemggaaGreatDoor
open Go Go.RowKit
variable {κ : Cx}
abbrev qV (n : Nat) : Value := .int .u64 (n : Int)
def rowQ (cs : List Nat) : List Value := cs.map qV
theorem rowQ_length (cs : List Nat) : (rowQ cs).length = cs.length := by simp [rowQ]
theorem rowQ_get {cs : List Nat} {i : Nat} (h : i < cs.length) : (rowQ cs)[i]? = some (qV (cs.getD i 0)) := by
  simp [rowQ, h, List.getD_eq_getElem?_getD]
theorem rowQ_set (cs : List Nat) (i n : Nat) : (rowQ cs).set i (qV n) = rowQ (cs.set i n) := by simp [rowQ]
theorem rowQ_one (cs : List Nat) : (rowQ cs).all (·.oneCell') = true := by
  simp [rowQ, List.all_eq_true, Value.oneCell']
theorem rowQ_rep (n c : Nat) : List.replicate n (qV c) = rowQ (List.replicate n c) := by simp [rowQ]
def alR (m l r : Nat) : List Value := [qV m, qV l, qV r]
/-- The greatest of them. -/
def mx (cs : List Nat) : Nat := cs.foldl max 0
theorem foldl_max (cs : List Nat) (a m : Nat) : cs.foldl max a ≤ m ↔ a ≤ m ∧ ∀ c ∈ cs, c ≤ m := by
  induction cs generalizing a with
  | nil => simp
  | cons c cs ih => rw [List.foldl_cons, ih, Nat.max_le, List.forall_mem_cons, and_assoc]
theorem mx_le {cs : List Nat} {m : Nat} : mx cs ≤ m ↔ ∀ c ∈ cs, c ≤ m := by simp [mx, foldl_max]
theorem mx_succ {cs : List Nat} {i : Nat} (h : i < cs.length) : mx (cs.take (i + 1)) = max (mx (cs.take i)) (cs.getD i 0) := by
  rw [List.take_add_one, List.getElem?_eq_getElem h, List.getD_eq_getElem?_getD, List.getElem?_eq_getElem h]
  simp only [mx, List.foldl_append, Option.toList_some, List.foldl_cons, List.foldl_nil, Option.getD_some]
def Valid (cs : List Nat) (m l r : Nat) : Prop := 1 ≤ cs.length ∧ cs.length ≤ 8 ∧ (∀ c ∈ cs, c ≤ m) ∧ m ≤ l ∧ 1 ≤ r ∧ r ≤ 4294967296 ∧ r ≤ l
theorem getD_le {cs : List Nat} {m i : Nat} (h : ∀ c ∈ cs, c ≤ m) : cs.getD i 0 ≤ m := by
  rw [List.getD_eq_getElem?_getD]
  rcases Nat.lt_or_ge i cs.length with hi | hi
  · rw [List.getElem?_eq_getElem hi]; exact h _ (List.getElem_mem hi)
  · rw [List.getElem?_eq_none hi]; exact Nat.zero_le _

def nonceL (s c : Nat) : List UInt8 := be 4 s ++ be 8 c
theorem nonceL_length (s c : Nat) : (nonceL s c).length = 12 := by simp [nonceL, be_length]
section
variable {P : Program} {B : Nat} {E : Env} {dst : Option Tmp} {ty : TypeId} {pos : String} {after : Array Edge} {guard : Option (Nat × Bool)}
theorem ok_lenU {t e : TypeId} {x : Operand} {f : D} {us : List Value} (m : Nat) (ht : P.underlying t = some (.slice e)) (hx : E.at x = some f) (hf : Le f (vlst us)) (hm : us.length = m) :
    OpOk P B ⟨dst, .call { callee := .builtin .len, args := #[x], argTypes := #[t] }, ty, pos, after, guard⟩ E (.v (.int .i64 (m : Int))) := by
  have := ok_len (P := P) (B := B) (dst := dst) (ty := ty) (pos := pos) (after := after) (guard := guard) ht hx hf
  rwa [List.length_map, hm] at this
theorem ok_indexU {t e : TypeId} {z : Value} {nb : Nat} {x i : Operand} {f : D} {us : List Value} {k : IntKind} {u : Value} (m : Nat) (ht : P.underlying t = some (.slice e)) (hs : InfoIs P e z nb) (hx : E.at x = some f) (hf : Le f (vlst us)) (hi : E.at i = some (.v (.int k (m : Int))))
    (hu : us[m]? = some u) : OpOk P B ⟨dst, .indexAddr t x i, ty, pos, after, guard⟩ E (elem (.v u)) :=
  ok_index ht hs hx hf hi (Int.natCast_nonneg _) (by rw [Int.toNat_natCast, List.getElem?_map, hu]; rfl)
/-- A literal of some fields. -/
def LitS (E : Env) : List (Nat × Value) → List (Nat × Operand) → Prop
  | [], [] => True
  | (i, u) :: us, (j, x) :: ps => i = j ∧ E.at x = some (.v u) ∧ LitS E us ps
  | _, _ => False
theorem LitS.map {ρ : Operand → Value} : ∀ {us : List (Nat × Value)} {ps : List (Nat × Operand)}, LitS E us ps → (∀ x, x ∈ ps.map (·.2) → ∀ v, E.at x = some (.v v) → ρ x = v) → ps.map (fun p => (p.1, ρ p.2)) = us
  | [], [], _, _ => rfl
  | [], _ :: _, h, _ => h.elim
  | _ :: _, [], h, _ => h.elim
  | (i, u) :: us, (j, x) :: ps, ⟨h1, h2, h3⟩, hρ => by
    subst h1
    simp only [List.map_cons, hρ x (by simp) u h2]
    rw [LitS.map h3 fun y hy v hv => hρ y (by simp only [List.map_cons, List.mem_cons]; exact .inr hy) v hv]
theorem ok_litS {t : TypeId} {ps : Array (Nat × Operand)} (us : List (Nat × Value)) (ys : List Value) (hl : LitS E us ps.toList) (hb : P.built t us = some ys.toArray) : OpOk P B ⟨dst, .build t ps, ty, pos, after, guard⟩ E (.v (aggV ys)) :=
  ok_lit us ys (fun _ hρ => hl.map hρ) hb
theorem ok_buildS {t : TypeId} {x : Operand} {ps : Array (Nat × Operand)} {f : D} {rest : List Value} {l : List (Nat × Operand)} (ks : List (Nat × Value)) (hps : ps.toList = (0, x) :: l) (hx : E.at x = some f) (hf : ∀ B w u, f.OfB B w u → ∃ A m c, u = .slice A m c)
    (hl : LitS E ks l) (hb : ∀ A m c, P.built t ((0, .slice A m c) :: ks) = some (Value.slice A m c :: rest : List Value).toArray) : OpOk P B ⟨dst, .build t ps, ty, pos, after, guard⟩ E (hdD f rest) :=
  ok_buildH hps hx hf (fun _ hρ => hl.map hρ) hb
end
theorem fresh_vlist {b : Nat} {e : TypeId} {xs : List Value} {n : Nat} (hn : n = xs.length) (hm : n ≤ maxLen) : Le (fresh b e xs n) (vlist xs n) := fun B w x ⟨g, h1, h2, h3, h4⟩ => by
  subst h1; subst hn
  exact slice_vlist xs rfl (Nat.le_refl _) hm (List.take_length ..) B w h3 h4
section
variable {P : Program} {n B : Nat} {ops : Array Oper} {E : Env} {ty : TypeId} {pos : String} {after : Array Edge}
end
end Go.Proofs.YtffiflfjlemggaaGreatDoor
namespace Go.Proofs.YtffiflfjlemggaaGreatDoor
open Go Go.RowKit
set_option linter.unusedVariables false
set_option maxRecDepth 20000

theorem info81 : InfoIs Tryz.prog 81 (.slice none 0 0) 24 := by unfold InfoIs; kernel_rfl
theorem zero83 : ZeroIs Tryz.prog 83 ([.slice none 0 0] ++ [.int .u64 0] ++ [.int .u64 0] ++ [.int .u64 0]) := by unfold ZeroIs; kernel_rfl
theorem size83 : SizeIs Tryz.prog 83 4 := by unfold SizeIs; kernel_rfl
theorem field83_0 : FieldIs Tryz.prog 83 0 0 1 := by unfold FieldIs; kernel_rfl
theorem field83_1 : FieldIs Tryz.prog 83 1 1 1 := by unfold FieldIs; kernel_rfl
theorem field83_2 : FieldIs Tryz.prog 83 2 2 1 := by unfold FieldIs; kernel_rfl
theorem field83_3 : FieldIs Tryz.prog 83 3 3 1 := by unfold FieldIs; kernel_rfl

theorem buildN (s c : Nat) : Tryz.prog.built 41 [(0, .int .u32 (s : Int)), (1, .int .u64 (c : Int))] = some ([nW s, nQ c] : List Value).toArray := by kernel_rfl
theorem buildA023 (B' : Option Addr) (n c l r : Nat) : Tryz.prog.built 83 [(0, .slice B' n c), (2, qV l), (3, qV r)] = some (Value.slice B' n c :: alR 0 l r : List Value).toArray := by kernel_rfl
theorem flatN : flat Tryz.prog 3 41 = some [.u32, .u64] := by kernel_rfl
theorem neN {s c s' c' : Nat} (h : ¬ (s = s' ∧ c = c')) : (false = true) ↔ [nW s, nQ c] = ([nW s', nQ c'] : List Value) := by
 simp; omega

theorem Put_fn (s c : Nat) (hs : s < 4294967296) (hc : c < 18446744073709551616) : Fn Tryz.prog 20 [.v (aggV ([nW s, nQ c]))] (bytes (nonceL s c) 12) := by
 refine FV Tryz.func20 rfl Tryz.ntmps20 rfl fun w₀ => ?_
 refine GS ?_
 refine TN 0 ?_
 refine RN ?_
 refine ZB 1000001 rfl fun b1 ⟨hBb1, hb1⟩ => ?_
 refine TL ?_
 refine RVN 1 rfl ?_
 refine GTD ?_
 refine RS (ok_field field41_0 (by decide) rfl) ?_
 refine RLV 1000001 Tryz.underlying38 rfl rfl rfl ?_
 refine RS (ok_call ((Put32_fn ((s : Nat) : Int) (by omega) (by omega)).le (d' := bytes (be 4 s) 4) (Le.refl _)) (A1 rfl)) ?_
 refine RS (ok_field field41_1 (by decide) rfl) ?_
 refine RLV 1000001 Tryz.underlying39 rfl rfl rfl ?_
 refine RS (ok_call ((Put64_fn ((c : Nat) : Int) (by omega) (by omega)).le (d' := bytes (be 8 c) 8) (Le.refl _)) (A1 rfl)) ?_
 refine RS (ok_build [bytes (be 4 s) 4, bytes (be 8 c) 8] Tryz.underlying103 info22 rfl (by decide) (by decide) rfl ⟨rfl, rfl, rfl, rfl, trivial⟩ (fun d hd w x h => by simp only [List.mem_cons, List.not_mem_nil, or_false] at hd; rcases hd with rfl | rfl <;> exact list_one h)) ?_
 refine RS ((ok_call (Join_fn [be 4 s, be 8 c] (by simp) (by simp [be_length])) (Args.cons rfl (list_lst2 (le_byt _ 4) (le_byt _ 8)) Args.nil)).le (d' := bytes (nonceL s c) 12) (Le.eq (by simp [be_length]; rfl))) ?_
 refine RVN 1 rfl ?_
 refine A.ret ?_
 exact ER rfl rfl
theorem chk_lo {n : Nat} {k : Int} (h : (n : Int) < k) : chk n k = 6 := by
 unfold chk
 repeat' split
 all_goals omega
theorem chk_hi {n : Nat} {k : Int} (h : k < (n : Int)) : chk n k = 5 := by
 unfold chk
 repeat' split
 all_goals omega
theorem chk_eq {n : Nat} {k : Int} (h : (n : Int) = k) : chk n k = 0 := by
 unfold chk
 repeat' split
 all_goals omega
theorem Get_lo (l : List UInt8) (h : l.length < 4) : Fn Tryz.prog 69 [byt l] (tup [.v (aggV [.int .u32 0, .int .u64 0]), .v (.int .i64 6)]) := by
 refine Fn.of Tryz.func69 rfl (by kernel_rfl) Tryz.ntmps69 (by simp) (fun w => [(0, old w.heap.size (byt l))]) (fun w => (Start.old rfl Start.nil)) fun w₀ => ?_
 refine GS ?_
 refine TN 0 ?_
 refine RN ?_
 refine ZN 1000002 zero41 fun b2 ⟨hBb2, hb2⟩ => ?_
 refine TL ?_
 refine RVN 1 rfl ?_
 refine GT ?_
 refine RM rfl ?_
 refine RS (ok_lenB Tryz.underlying22 rfl LA) ?_
 refine RS (ok_min rfl rfl) ?_; refine RZ (nI (l.length)) (congrArg (Value.int .i64) (by omega)) ?_
 refine RVN 1 rfl ?_
 refine GT ?_
 refine RV 2 rfl ?_
 refine RS ((ok_slice (ds := l.map byteD) 0 (l.length) Tryz.underlying22 info5 rfl (Le.old _ _) (.inr ⟨rfl, rfl⟩) (.inl ⟨_, _, rfl, rfl⟩) (by omega) (by first | (simp; done) | (simp; omega))).le (d' := byt (l.take (l.length))) (Le.eq (by rw [List.drop_zero, ← List.map_take]; rfl))) ?_
 refine RS (ok_call (Get32_fn (l.take (l.length))) (A1 rfl)) ?_
 refine RM rfl ?_
 refine RS (ok_extract rfl rfl) ?_
 refine RS (ok_extract rfl rfl) ?_; refine RZ (.int .i64 6) (congrArg (Value.int .i64) (chk_lo (by first | (simp; done) | (simp; omega)))) ?_
 refine RVN 2 rfl ?_
 refine QS ?_
 refine GT ?_
 refine RV 2 rfl ?_
 refine RZ (.bool true) (by rfl) ?_
 refine RN ?_
 refine A.yes rfl ?_
 refine GS ?_
 refine TF 2 ?_
 refine RS (ok_lit [] ([.int .u32 0] ++ [.int .u64 0]) (fun _ _ => rfl) (by kernel_rfl)) ?_
 refine RVN 1 rfl ?_
 refine ZA 1000002 (size41.of rfl) hBb2 rfl rfl rfl (LW [2, 21] rfl) ?_
 refine TL ?_
 refine RVN 1 rfl ?_
 refine A.ret ?_
 refine End.ret_then ?_
 exact End.cellT (s := 1000002) rfl Tryz.underlying41 rfl (size41.of (rfl)) rfl rfl (Le.refl _) rfl (Le.refl _)
theorem Get_short (l : List UInt8) (h : 4 ≤ l.length) (h2 : l.length < 12) : Fn Tryz.prog 69 [byt l] (tup [.v (aggV [.int .u32 0, .int .u64 0]), .v (.int .i64 6)]) := by
 refine Fn.of Tryz.func69 rfl (by kernel_rfl) Tryz.ntmps69 (by simp) (fun w => [(0, old w.heap.size (byt l))]) (fun w => (Start.old rfl Start.nil)) fun w₀ => ?_
 refine GS ?_
 refine TN 0 ?_
 refine RN ?_
 refine ZN 1000002 zero41 fun b2 ⟨hBb2, hb2⟩ => ?_
 refine TL ?_
 refine RVN 1 rfl ?_
 refine GT ?_
 refine RM rfl ?_
 refine RS (ok_lenB Tryz.underlying22 rfl LA) ?_
 refine RS (ok_min rfl rfl) ?_; refine RZ (nI 4) (congrArg (Value.int .i64) (by omega)) ?_
 refine RVN 1 rfl ?_
 refine GT ?_
 refine RV 2 rfl ?_
 refine RS ((ok_slice (ds := l.map byteD) 0 (4) Tryz.underlying22 info5 rfl (Le.old _ _) (.inr ⟨rfl, rfl⟩) (.inl ⟨_, _, rfl, rfl⟩) (by omega) (by first | (simp; done) | (simp; omega))).le (d' := byt (l.take (4))) (Le.eq (by rw [List.drop_zero, ← List.map_take]; rfl))) ?_
 refine RS (ok_call (Get32_fn (l.take (4))) (A1 rfl)) ?_
 refine RM rfl ?_
 refine RS (ok_extract rfl rfl) ?_
 refine RS (ok_extract rfl rfl) ?_; refine RZ (.int .i64 0) (congrArg (Value.int .i64) (chk_eq (by first | (simp; done) | (simp; omega)))) ?_
 refine RVN 2 rfl ?_
 refine QS ?_
 refine GT ?_
 refine RV 2 rfl ?_
 refine RZ (.bool false) (by rfl) ?_
 refine RN ?_
 refine A.no rfl ?_
 refine QK ?_
 refine GT ?_
 refine RV 2 rfl ?_
 refine RS ((ok_slice (ds := l.map byteD) 4 l.length Tryz.underlying22 info5 rfl (Le.old _ _) (.inl ⟨_, _, rfl, rfl⟩) (.inr ⟨rfl, by simp⟩) (by omega) (by simp)).le (d' := byt (l.drop 4)) (Le.eq (by rw [List.take_of_length_le (by simp), ← List.map_drop]; rfl))) ?_
 refine RS (ok_call (Get64_fn (l.drop 4)) (A1 rfl)) ?_
 refine RM rfl ?_
 refine RS (ok_extract rfl rfl) ?_
 refine RS (ok_extract rfl rfl) ?_; refine RZ (.int .i64 6) (congrArg (Value.int .i64) (chk_lo (by first | (simp; done) | (simp; omega)))) ?_
 refine RVN 2 rfl ?_
 refine A.sub (SV [2, 5, 6, 7, 1000002] rfl) ?_
 refine QS ?_
 refine GT ?_
 refine RV 2 rfl ?_
 refine RZ (.bool true) (by rfl) ?_
 refine RN ?_
 refine A.yes rfl ?_
 refine GS ?_
 refine TF 2 ?_
 refine RS (ok_lit [] ([.int .u32 0] ++ [.int .u64 0]) (fun _ _ => rfl) (by kernel_rfl)) ?_
 refine RVN 1 rfl ?_
 refine ZA 1000002 (size41.of rfl) hBb2 rfl rfl rfl (LW [2, 32] rfl) ?_
 refine TL ?_
 refine RVN 1 rfl ?_
 refine A.ret ?_
 refine End.ret_then ?_
 exact End.cellT (s := 1000002) rfl Tryz.underlying41 rfl (size41.of (rfl)) rfl rfl (Le.refl _) rfl (Le.refl _)
theorem Get_long (l : List UInt8) (h : 12 < l.length) : Fn Tryz.prog 69 [byt l] (tup [.v (aggV [.int .u32 0, .int .u64 0]), .v (.int .i64 5)]) := by
 refine Fn.of Tryz.func69 rfl (by kernel_rfl) Tryz.ntmps69 (by simp) (fun w => [(0, old w.heap.size (byt l))]) (fun w => (Start.old rfl Start.nil)) fun w₀ => ?_
 refine GS ?_
 refine TN 0 ?_
 refine RN ?_
 refine ZN 1000002 zero41 fun b2 ⟨hBb2, hb2⟩ => ?_
 refine TL ?_
 refine RVN 1 rfl ?_
 refine GT ?_
 refine RM rfl ?_
 refine RS (ok_lenB Tryz.underlying22 rfl LA) ?_
 refine RS (ok_min rfl rfl) ?_; refine RZ (nI 4) (congrArg (Value.int .i64) (by omega)) ?_
 refine RVN 1 rfl ?_
 refine GT ?_
 refine RV 2 rfl ?_
 refine RS ((ok_slice (ds := l.map byteD) 0 (4) Tryz.underlying22 info5 rfl (Le.old _ _) (.inr ⟨rfl, rfl⟩) (.inl ⟨_, _, rfl, rfl⟩) (by omega) (by first | (simp; done) | (simp; omega))).le (d' := byt (l.take (4))) (Le.eq (by rw [List.drop_zero, ← List.map_take]; rfl))) ?_
 refine RS (ok_call (Get32_fn (l.take (4))) (A1 rfl)) ?_
 refine RM rfl ?_
 refine RS (ok_extract rfl rfl) ?_
 refine RS (ok_extract rfl rfl) ?_; refine RZ (.int .i64 0) (congrArg (Value.int .i64) (chk_eq (by first | (simp; done) | (simp; omega)))) ?_
 refine RVN 2 rfl ?_
 refine QS ?_
 refine GT ?_
 refine RV 2 rfl ?_
 refine RZ (.bool false) (by rfl) ?_
 refine RN ?_
 refine A.no rfl ?_
 refine QK ?_
 refine GT ?_
 refine RV 2 rfl ?_
 refine RS ((ok_slice (ds := l.map byteD) 4 l.length Tryz.underlying22 info5 rfl (Le.old _ _) (.inl ⟨_, _, rfl, rfl⟩) (.inr ⟨rfl, by simp⟩) (by omega) (by simp)).le (d' := byt (l.drop 4)) (Le.eq (by rw [List.take_of_length_le (by simp), ← List.map_drop]; rfl))) ?_
 refine RS (ok_call (Get64_fn (l.drop 4)) (A1 rfl)) ?_
 refine RM rfl ?_
 refine RS (ok_extract rfl rfl) ?_
 refine RS (ok_extract rfl rfl) ?_; refine RZ (.int .i64 5) (congrArg (Value.int .i64) (chk_hi (by first | (simp; done) | (simp; omega)))) ?_
 refine RVN 2 rfl ?_
 refine A.sub (SV [2, 5, 6, 7, 1000002] rfl) ?_
 refine QS ?_
 refine GT ?_
 refine RV 2 rfl ?_
 refine RZ (.bool true) (by rfl) ?_
 refine RN ?_
 refine A.yes rfl ?_
 refine GS ?_
 refine TF 2 ?_
 refine RS (ok_lit [] ([.int .u32 0] ++ [.int .u64 0]) (fun _ _ => rfl) (by kernel_rfl)) ?_
 refine RVN 1 rfl ?_
 refine ZA 1000002 (size41.of rfl) hBb2 rfl rfl rfl (LW [2, 32] rfl) ?_
 refine TL ?_
 refine RVN 1 rfl ?_
 refine A.ret ?_
 refine End.ret_then ?_
 exact End.cellT (s := 1000002) rfl Tryz.underlying41 rfl (size41.of (rfl)) rfl rfl (Le.refl _) rfl (Le.refl _)
theorem Get_good (l : List UInt8) (h : l.length = 12) : Fn Tryz.prog 69 [byt l] (tup [.v (aggV [.int .u32 (getV (l.take 4) 4), .int .u64 (getV (l.drop 4) 8)]), .v (.int .i64 0)]) := by
 refine Fn.of Tryz.func69 rfl (by kernel_rfl) Tryz.ntmps69 (by simp) (fun w => [(0, old w.heap.size (byt l))]) (fun w => (Start.old rfl Start.nil)) fun w₀ => ?_
 refine GS ?_
 refine TN 0 ?_
 refine RN ?_
 refine ZN 1000002 zero41 fun b2 ⟨hBb2, hb2⟩ => ?_
 refine TL ?_
 refine RVN 1 rfl ?_
 refine GT ?_
 refine RM rfl ?_
 refine RS (ok_lenB Tryz.underlying22 rfl LA) ?_
 refine RS (ok_min rfl rfl) ?_; refine RZ (nI 4) (congrArg (Value.int .i64) (by omega)) ?_
 refine RVN 1 rfl ?_
 refine GT ?_
 refine RV 2 rfl ?_
 refine RS ((ok_slice (ds := l.map byteD) 0 (4) Tryz.underlying22 info5 rfl (Le.old _ _) (.inr ⟨rfl, rfl⟩) (.inl ⟨_, _, rfl, rfl⟩) (by omega) (by first | (simp; done) | (simp; omega))).le (d' := byt (l.take (4))) (Le.eq (by rw [List.drop_zero, ← List.map_take]; rfl))) ?_
 refine RS (ok_call (Get32_fn (l.take (4))) (A1 rfl)) ?_
 refine RM rfl ?_
 refine RS (ok_extract rfl rfl) ?_
 refine RS (ok_extract rfl rfl) ?_; refine RZ (.int .i64 0) (congrArg (Value.int .i64) (chk_eq (by first | (simp; done) | (simp; omega)))) ?_
 refine RVN 2 rfl ?_
 refine QS ?_
 refine GT ?_
 refine RV 2 rfl ?_
 refine RZ (.bool false) (by rfl) ?_
 refine RN ?_
 refine A.no rfl ?_
 refine QK ?_
 refine GT ?_
 refine RV 2 rfl ?_
 refine RS ((ok_slice (ds := l.map byteD) 4 l.length Tryz.underlying22 info5 rfl (Le.old _ _) (.inl ⟨_, _, rfl, rfl⟩) (.inr ⟨rfl, by simp⟩) (by omega) (by simp)).le (d' := byt (l.drop 4)) (Le.eq (by rw [List.take_of_length_le (by simp), ← List.map_drop]; rfl))) ?_
 refine RS (ok_call (Get64_fn (l.drop 4)) (A1 rfl)) ?_
 refine RM rfl ?_
 refine RS (ok_extract rfl rfl) ?_
 refine RS (ok_extract rfl rfl) ?_; refine RZ (.int .i64 0) (congrArg (Value.int .i64) (chk_eq (by first | (simp; done) | (simp; omega)))) ?_
 refine RVN 2 rfl ?_
 refine A.sub (SV [2, 5, 6, 7, 1000002] rfl) ?_
 refine QS ?_
 refine GT ?_
 refine RV 2 rfl ?_
 refine RZ (.bool false) (by rfl) ?_
 refine RN ?_
 refine A.no rfl ?_
 refine QK ?_
 refine GS ?_
 refine TF 3 ?_
 refine RV 2 rfl ?_
 refine RS (ok_litS [(0, .int .u32 (getV (l.take 4) 4)), (1, .int .u64 (getV (l.drop 4) 8))] [.int .u32 (getV (l.take 4) 4), .int .u64 (getV (l.drop 4) 8)] ⟨rfl, rfl, rfl, rfl, trivial⟩ (by kernel_rfl)) ?_
 refine RN ?_
 refine ZA 1000002 (size41.of rfl) hBb2 rfl rfl rfl (LV 2 rfl LN) ?_
 refine TL ?_
 refine RVN 1 rfl ?_
 refine A.ret ?_
 exact End.cellT (s := 1000002) rfl Tryz.underlying41 rfl (size41.of (rfl)) rfl rfl (Le.refl _) rfl (Le.refl _)
/-- What is read of any bytes. -/
def gS (l : List UInt8) : Nat := if l.length = 12 then (getV (l.take 4) 4).toNat else 0
def gC (l : List UInt8) : Nat := if l.length = 12 then (getV (l.drop 4) 8).toNat else 0
def gE (n : Nat) : Int := if n < 12 then 6 else if n = 12 then 0 else 5
theorem getV_nat (l : List UInt8) (k : Nat) : ((getV l k).toNat : Int) = getV l k := by unfold getV; split <;> simp
theorem Get_fn (l : List UInt8) : Fn Tryz.prog 69 [byt l] (tup [.v (aggV [nW (gS l), nQ (gC l)]), .v (.int .i64 (gE l.length))]) := by
 by_cases h4 : l.length < 4
 ·rw [gS, gC, gE, if_neg (by omega), if_neg (by omega), if_pos (by omega)]; exact Get_lo l h4
 by_cases h12 : l.length < 12
 ·rw [gS, gC, gE, if_neg (by omega), if_neg (by omega), if_pos h12]; exact Get_short l (by omega) h12
 by_cases h : l.length = 12
 ·rw [gS, gC, gE, if_pos h, if_pos h, if_neg (by omega), if_pos h]; simp only [nW, nQ, getV_nat]; exact Get_good l h
 ·rw [gS, gC, gE, if_neg h, if_neg h, if_neg (by omega), if_neg h]; exact Get_long l (by omega)
theorem gS_nonce {s c : Nat} (hs : s < 4294967296) : gS (nonceL s c) = s := by
 rw [gS, if_pos (nonceL_length s c), show (nonceL s c).take 4 = be 4 s from by rw [nonceL, List.take_left' (be_length 4 s)], getV, if_pos (be_length 4 s), num_be, Nat.mod_eq_of_lt (by omega), Int.toNat_natCast]
theorem gC_nonce {s c : Nat} (hc : c < 18446744073709551616) : gC (nonceL s c) = c := by
 rw [gC, if_pos (nonceL_length s c), show (nonceL s c).drop 4 = be 8 c from by rw [nonceL, List.drop_left' (be_length 4 s)], getV, if_pos (be_length 8 c), num_be, Nat.mod_eq_of_lt (by omega), Int.toNat_natCast]
theorem allowed_yes (n : Int) (h : 1 ≤ n) (h2 : n ≤ 8) : Fn Tryz.prog 82 [.v (.int .i64 n)] (.v (.bool true)) := by
 refine FV Tryz.func82 rfl Tryz.ntmps82 rfl fun w₀ => ?_
 refine GV rfl ?_
 refine GT ?_
 refine RV 2 rfl ?_
 refine RZ (.bool true) (by simp; omega) ?_
 refine RV 3 rfl ?_
 refine RZ (.bool true) (by simp; omega) ?_
 refine RVN 2 rfl ?_
 refine A.ret ?_
 exact ER rfl rfl
theorem Max_fn (cs : List Nat) (h : 1 ≤ cs.length) (hb : cs.length ≤ 1000) : Fn Tryz.prog 111 [vlst (rowQ cs)] (.v (nQ (mx cs))) := by
 refine Fn.of Tryz.func111 rfl (by kernel_rfl) Tryz.ntmps111 (by simp) (fun w => [(0, old w.heap.size (vlst (rowQ cs)))]) (fun w => (Start.old rfl Start.nil)) fun w₀ => ?_
 refine GV rfl ?_
 refine QS ?_
 refine GT ?_
 refine RM rfl ?_
 refine RS (ok_lenU cs.length Tryz.underlying81 rfl LA (rowQ_length cs)) ?_
 refine RB rfl rfl rfl ?_
 refine RZ (.bool false) (by simp; omega) ?_
 refine RN ?_
 refine A.no rfl ?_
 refine QK ?_
 refine GT ?_
 refine RM rfl ?_
 refine RS (ok_indexU 0 Tryz.underlying81 info39 rfl LA rfl (rowQ_get (by omega))) ?_
 refine RS (ok_load Tryz.underlying39 rfl rfl) ?_; refine RZ (nQ (mx (cs.take 1))) (by rw [mx_succ (by omega)]; simp [mx]) ?_
 refine RVN 1 rfl ?_
 refine QS ?_
 refine GV rfl ?_
 refine A.block ?_
 refine A.loop (ι := Nat) (fun i => 1 ≤ i ∧ i ≤ cs.length) (fun i => [(0, old w₀.heap.size (vlst (rowQ cs))), (3, .v (nQ (mx (cs.take i)))), (4, .v (nI i))]) (fun i => cs.length - i) 1 ?_ ?_ ?_
 ·exact ⟨Nat.le_refl _, h⟩
 ·exact (KC 0 rfl (KC 3 rfl (KE 4 rfl (by rfl) KN)))
 intro i hi'
 refine QS ?_
 refine GT ?_
 refine RV 2 rfl ?_
 refine RS (ok_lenU cs.length Tryz.underlying81 rfl LA (rowQ_length cs)) ?_
 refine RVN 1 rfl ?_
 refine A.cond rfl (fun hc15 => ?_) (fun hc15 => ?_)
 ·have hlt : i < cs.length := by simp at hc15; omega
  refine QK ?_
  refine QSB ?_
  refine GTE ?_
  refine RV 3 rfl ?_
  refine RS (ok_indexU i Tryz.underlying81 info39 rfl LA rfl (rowQ_get hlt)) ?_
  refine RS (ok_load Tryz.underlying39 rfl rfl) ?_
  refine RS (ok_maxI rfl rfl) ?_; refine RZ (nQ (mx (cs.take (i + 1)))) (by rw [mx_succ hlt]; exact congrArg (Value.int .u64) (by omega)) ?_
  refine RVN 1 rfl ?_
  refine End.normal_block ?_
  refine EN ?_
  refine GTE ?_
  refine RV 2 rfl ?_
  refine RZ (nI (i + 1)) (by rw [wrap_i64 (by omega) (by omega)]; exact congrArg (Value.int .i64) (by omega)) ?_
  refine RVN 1 rfl ?_
  refine End.normal_then ?_
  refine End.again (i + 1) ?_ ?_ ?_
  ·exact ⟨by omega, by omega⟩
  ·show _ - _ < _ - _; omega
  ·exact (SV [0, 3, 4] rfl)
 ·have hi2 : i = cs.length := by simp at hc15; omega
  refine A.exit ?_
  refine End.exit_then ?_
  refine End.exit_then ?_
  refine End.exit_here ?_
  refine EN ?_
  refine GV rfl ?_
  refine A.ret ?_
  exact End.ret1 rfl rfl (Le.v (by rw [hi2, List.take_of_length_le (Nat.le_refl _)]))
theorem Check_F (cs : List Nat) (m l r : Nat) (h1 : 1 ≤ cs.length) (h2 : cs.length ≤ 8) (h3 : mx cs ≤ m) (h4 : m ≤ l) (h5 : 1 ≤ r) (h6 : r ≤ min 4294967296 l) : Fn Tryz.prog 83 [hdD (vlst (rowQ cs)) (alR m l r)] (.v (.int .i64 0)) := by
 refine Fn.of Tryz.func83 rfl (by kernel_rfl) Tryz.ntmps83 (by simp) (fun w => [(0, old w.heap.size (hdD (vlst (rowQ cs)) (alR m l r)))]) (fun w => (Start.old rfl Start.nil)) fun w₀ => ?_
 refine A.nameHd (t := 0) (k := 1000200) rfl fun v hv => ?_
 refine GS ?_
 refine TN 0 ?_
 refine RN ?_
 refine ZB 1000001 rfl fun b1 ⟨hBb1, hb1⟩ => ?_
 refine TL ?_
 refine RVN 1 rfl ?_
 refine QSB ?_
 refine GT ?_
 refine RS (ok_field field83_0 (by decide) rfl) ?_
 refine RS (OpOk.valO (ok_loadV (s := 1000001) (by decide) Tryz.underlying81 rfl rfl rfl (rfl)) (k := 1000200) (by decide) rfl) ?_
 refine RS (ok_lenU cs.length Tryz.underlying81 rfl LA (rowQ_length cs)) ?_
 refine RS (ok_call (allowed_yes (cs.length : Int) (by omega) (by omega)) (A1 rfl)) ?_
 refine RS (ok_not rfl) ?_; refine RZ (.bool false) (by rfl) ?_
 refine RVN 1 rfl ?_
 refine A.no rfl ?_
 refine GTD ?_
 refine RS (ok_field field83_0 (by decide) rfl) ?_
 refine RS (OpOk.valO (ok_loadV (s := 1000001) (by decide) Tryz.underlying81 rfl rfl rfl (rfl)) (k := 1000200) (by decide) rfl) ?_
 refine RS (ok_call (Max_fn cs h1 (by omega)) (Args.cons rfl (Le.old _ _) Args.nil)) ?_
 refine RS (ok_field field83_1 (by decide) rfl) ?_
 refine RLV 1000001 Tryz.underlying39 rfl rfl rfl ?_
 refine RB rfl rfl rfl ?_
 refine RZ (.bool false) (by simp; omega) ?_
 refine RM rfl ?_
 refine RQ (ok_field field83_1 (by decide) rfl) ?_
 refine RQ (ok_loadV (s := 1000001) (by decide) Tryz.underlying39 rfl rfl rfl (rfl)) ?_
 refine RQ (ok_field field83_2 (by decide) rfl) ?_
 refine RQ (ok_loadV (s := 1000001) (by decide) Tryz.underlying39 rfl rfl rfl (rfl)) ?_
 refine RQ (ok_bin rfl rfl rfl) ?_
 refine RZ (.bool false) (by simp; omega) ?_
 refine RVN 2 rfl ?_
 refine A.no rfl ?_
 refine GT ?_
 refine RS (ok_field field83_3 (by decide) rfl) ?_
 refine RLV 1000001 Tryz.underlying39 rfl rfl rfl ?_
 refine RB rfl rfl rfl ?_
 refine RZ (.bool false) (by simp; omega) ?_
 refine RM rfl ?_
 refine RQ (ok_field field83_3 (by decide) rfl) ?_
 refine RQ (ok_loadV (s := 1000001) (by decide) Tryz.underlying39 rfl rfl rfl (rfl)) ?_
 refine RQ (ok_field field83_2 (by decide) rfl) ?_
 refine RQ (ok_loadV (s := 1000001) (by decide) Tryz.underlying39 rfl rfl rfl (rfl)) ?_
 refine RQ (ok_minI rfl rfl) ?_; refine RZ (nQ (min 4294967296 l)) (congrArg (Value.int .u64) (by omega)) ?_
 refine RQ (ok_bin rfl rfl rfl) ?_
 refine RZ (.bool false) (by simp; omega) ?_
 refine RVN 2 rfl ?_
 refine A.sub (SV [23, 1000001, 1000200] rfl) ?_
 refine A.no rfl ?_
 refine A.skip ?_
 refine End.normal_block ?_
 refine EN ?_
 refine GV rfl ?_
 refine A.ret ?_
 exact ER rfl rfl
theorem Check_ok (cs : List Nat) (m l r : Nat) (h : Valid cs m l r) : Fn Tryz.prog 83 [hdD (vlst (rowQ cs)) (alR m l r)] (.v (.int .i64 0)) := by
 obtain ⟨h1, h2, h3, h4, h5, h6, h7⟩ := h
 exact Check_F cs m l r h1 h2 (mx_le.2 h3) h4 h5 (by omega)
end Go.Proofs.YtffiflfjlemggaaGreatDoor
namespace Go.Proofs.YtffiflfjlemggaaGreatDoor
open Go Go.RowKit
variable {κ : Cx}

theorem vL {k : Nat} (h : Nat.ble vbase k = true) : vbase ≤ k := Nat.le_of_ble_eq_true h
/-! ### Several blocks are written -/
/-- At most the blocks that gs names (each with its cells' type) have changed of what was there. -/
structure WroteL (gs : List (TypeId × Nat)) (w w' : World) : Prop where
  os : w'.os = w.os
  tape : w'.tape = w.tape
  output : w'.output = w.output
  size : w.heap.size ≤ w'.heap.size
  lt : ∀ p ∈ gs, p.2 < w.heap.size
  cel : ∀ p ∈ gs, ∀ o, w.heap[p.2]? = some o → ∃ cs fr, o = .cells cs p.1 fr
  other : ∀ k, k < w.heap.size → (∀ p ∈ gs, k ≠ p.2) → w'.heap[k]? = w.heap[k]?
theorem WroteL.refl {gs : List (TypeId × Nat)} {w : World} (h : ∀ p ∈ gs, p.2 < w.heap.size) (hc : ∀ p ∈ gs, ∀ o, w.heap[p.2]? = some o → ∃ cs fr, o = .cells cs p.1 fr) : WroteL gs w w :=
  ⟨rfl, rfl, rfl, Nat.le_refl _, h, hc, fun _ _ _ => rfl⟩
/-- A fact that survives a write of each of them survives that of all. -/
theorem WroteL.keep {B : Nat} {d : D} : ∀ {gs : List (TypeId × Nat)}, (∀ p ∈ gs, B ≤ p.2) → (∀ p ∈ gs, Surv B p.1 p.2 d) → ∀ {w w' : World} {x : Value}, WroteL gs w w' → d.Of w x → d.Of w' x
  | [], _, _, w, w', x, h, hx => D.Of.grow hx ⟨h.os, h.tape, h.output, h.size, fun k hk => h.other k hk (fun _ hp => by cases hp)⟩
  | p :: gs, hB, hs, w, w', x, h, hx => by
    have hlt := h.lt p List.mem_cons_self
    have hlt' : p.2 < w'.heap.size := Nat.lt_of_lt_of_le hlt h.size
    obtain ⟨wm, e1, e2, e3, e4, hat⟩ : ∃ wm : World, wm.os = w'.os ∧ wm.tape = w'.tape ∧ wm.output = w'.output ∧ wm.heap.size = w'.heap.size ∧ ∀ k, wm.heap[k]? = if k = p.2 then w.heap[k]? else w'.heap[k]? :=
      ⟨{ w' with heap := w'.heap.setIfInBounds p.2 w.heap[p.2] }, rfl, rfl, rfl, by simp, fun k => by
        show (w'.heap.setIfInBounds p.2 w.heap[p.2])[k]? = _
        split
        · rename_i hk; subst hk; simp [hlt', hlt]
        · rename_i hk; exact Array.getElem?_setIfInBounds_ne (fun e => hk e.symm)⟩
    have h1 : WroteL gs w wm := ⟨e1.trans h.os, e2.trans h.tape, e3.trans h.output, by rw [e4]; exact h.size, fun q hq => h.lt q (List.mem_cons_of_mem _ hq), fun q hq => h.cel q (List.mem_cons_of_mem _ hq), fun k hk hne => by
      rw [hat]
      split
      · rfl
      · rename_i hkp
        exact h.other k hk fun q hq => by
          rcases List.mem_cons.1 hq with rfl | hq
          · exact hkp
          · exact hne q hq⟩
    have h2 := WroteL.keep (fun q hq => hB q (List.mem_cons_of_mem _ hq)) (fun q hq => hs q (List.mem_cons_of_mem _ hq)) h1 hx
    refine hs p List.mem_cons_self wm w' x ⟨hB p List.mem_cons_self, e1.symm, e2.symm, e3.symm, Nat.le_of_eq e4, fun o ho => ?_, fun k hk hne => ?_⟩ h2
    · rw [hat, if_pos rfl] at ho
      exact h.cel p List.mem_cons_self o ho
    · rw [hat, if_neg hne]
theorem WroteL.below {gs : List (TypeId × Nat)} {B : Nat} {w w' : World} (h : WroteL gs w w') (hB : ∀ p ∈ gs, B ≤ p.2) (hw : B ≤ w.heap.size) : Below B w w' :=
  ⟨h.os, h.tape, h.output, h.size, fun k hk => h.other k (by omega) fun p hp => by have := hB p hp; omega⟩
theorem WroteL.trans {gs : List (TypeId × Nat)} {a b c : World} (h : WroteL gs a b) (k : WroteL gs b c) : WroteL gs a c :=
  ⟨k.os.trans h.os, k.tape.trans h.tape, k.output.trans h.output, Nat.le_trans h.size k.size, h.lt, h.cel, fun j hj hne => (k.other j (Nat.lt_of_lt_of_le hj h.size) hne).trans (h.other j hj hne)⟩
/-- Since the world w₁ nothing that was there has changed but the blocks that gs names. -/
def wroteL (gs : List (TypeId × Nat)) (w₁ : World) : D :=
  .p (fun B w _ => w₁.heap.size ≤ B ∧ WroteL gs w₁ w) (fun _ _ _ _ h ⟨h1, h2⟩ => ⟨h1, ⟨h.os.trans h2.os, h.tape.trans h2.tape, h.output.trans h2.output, Nat.le_trans h2.size h.size, h2.lt, h2.cel, fun k hk hne => (h.block k (Nat.lt_of_lt_of_le hk h1)).trans (h2.other k hk hne)⟩⟩)
    (fun _ _ _ _ h ⟨h1, h2⟩ => ⟨Nat.le_trans h1 h, h2⟩)
theorem Surv.wroteL {B T g : Nat} {gs : List (TypeId × Nat)} {w₁ : World} (hg : ∃ p ∈ gs, p.2 = g) : Surv B T g (wroteL gs w₁) := fun _ _ _ k ⟨h1, h2⟩ => by
  obtain ⟨p, hp, rfl⟩ := hg
  exact ⟨Nat.le_trans h1 k.size, ⟨k.os.trans h2.os, k.tape.trans h2.tape, k.output.trans h2.output, Nat.le_trans h2.size k.size, h2.lt, h2.cel, fun j hj hne => (k.other j (Nat.lt_of_lt_of_le hj h1) (hne p hp)).trans (h2.other j hj hne)⟩⟩
/-- What is left of the environment behind it. -/
def LeftL (B : Nat) (gs : List (TypeId × Nat)) (E' E : Env) : Prop := ∀ q ∈ E', E.look q.1 = some q.2 ∧ ∀ p ∈ gs, Surv B p.1 p.2 q.2
theorem LeftL.one {B T g : Nat} {E' E : Env} (h : LeftS B T g E' E) : LeftL B [(T, g)] E' E := fun q hq => ⟨(h q hq).1, fun p hp => by
  rcases List.mem_cons.1 hp with rfl | hp
  · exact (h q hq).2
  · cases hp⟩
theorem LeftL.cons {B T g : Nat} {gs : List (TypeId × Nat)} {E' E : Env} (h : LeftS B T g E' E) (hr : LeftL B gs E' E) : LeftL B ((T, g) :: gs) E' E := fun q hq => ⟨(h q hq).1, fun p hp => by
  rcases List.mem_cons.1 hp with rfl | hp
  · exact (h q hq).2
  · exact (hr q hq).2 p hp⟩
theorem LeftL.st {n B : Nat} {gs : List (TypeId × Nat)} {E E' : Env} {a : Act} {w w' : World} (hl : LeftL B gs E' E) (hB : ∀ p ∈ gs, B ≤ p.2) (h : St κ n B E a w) (k : WroteL gs w w') : St κ n B E' a w' :=
  ⟨Nat.le_trans h.base k.size, h.defers, h.size, fun t d hd => by
    obtain ⟨h1, h2⟩ := hl _ (look_mem hd)
    exact k.keep hB h2 (h.of t d h1)⟩

theorem look_append {E₁ E₂ : Env} {t : Nat} {d : D} (h : (E₁ ++ E₂).look t = some d) : E₁.look t = some d ∨ E₂.look t = some d := by
  induction E₁ with
  | nil => exact .inr h
  | cons p r ih =>
    obtain ⟨s, e⟩ := p
    by_cases hs : s = t
    · subst hs
      rw [List.cons_append, look_here] at h
      exact .inl (by rw [look_here]; exact h)
    · rw [List.cons_append, look_past _ _ hs] at h
      rw [look_past _ _ hs]
      exact ih h

/-- They are there, with cells of the types named. -/
def selfL (gs : List (TypeId × Nat)) : D :=
  .p (fun B w _ => ∀ p ∈ gs, p.2 < B ∧ ∃ cs fr, w.heap[p.2]? = some (.cells cs p.1 fr)) (fun _ _ _ _ g h p hp => ⟨(h p hp).1, by rw [g.block _ (h p hp).1]; exact (h p hp).2⟩) (fun _ _ _ _ g h p hp => ⟨Nat.lt_of_lt_of_le (h p hp).1 g, (h p hp).2⟩)
theorem selfL_self {gs : List (TypeId × Nat)} {w : World} {x : Value} (h : (selfL gs).Of w x) : WroteL gs w w :=
  WroteL.refl (fun p hp => (h p hp).1) fun p hp o ho => by
    obtain ⟨_, cs, fr, h1⟩ := h p hp
    rw [h1] at ho; injection ho with ho; exact ⟨cs, fr, ho.symm⟩

/-! ### Functions that do so -/
/-- A contract at base B: called with the values us where the memory's facts M hold, it returns u i, leaves the facts M' i, and changes of what was there at most what gs names; of i it is told G (over how much there was). -/
structure FnL (P : Program) (f : FuncId) (B : Nat) (gs : List (TypeId × Nat)) (us : List Value) (M : Env) (G : Nat → Nat → Prop) (u : Nat → Value) (M' : Nat → Env) : Prop where
  body : ∃ fn, P.funcs[f]? = some fn ∧ (fn.name == "runtime.NumGoroutine") = false ∧ fn.body.isNone = false
  calls : ∀ w : World, B ≤ w.heap.size → (∀ p ∈ M, p.2.Of w undef) → WroteL gs w w →
    Calls P f us.toArray w fun e w' => ∃ i, G w.heap.size i ∧ e = .returned (u i) ∧ WroteL gs w w' ∧ ∀ p ∈ M' i, p.2.Of w' undef
/-- Facts in one. -/
def packM (M : Env) : D := .p (fun B w _ => ∀ p ∈ M, p.2.OfB B w undef) (fun _ _ _ _ g h p hp => (h p hp).keep g) (fun _ _ _ _ g h p hp => (h p hp).up g)
theorem FnL.packed {P : Program} {f : FuncId} {B : Nat} {gs : List (TypeId × Nat)} {us : List Value} {M : Env} {G : Nat → Nat → Prop} {u : Nat → Value} {M' : Nat → Env} (h : FnL P f B gs us M G u M') (k k' : Nat) : FnL P f B gs us [(k, packM M)] G u (fun i => [(k', packM (M' i))]) :=
  ⟨h.body, fun w hB hM hw => (h.calls w hB (hM _ List.mem_cons_self) hw).mono fun e w' ⟨i, h1, h2, h3, h4⟩ => ⟨i, h1, h2, h3, fun p hp => by
    rcases List.mem_cons.1 hp with rfl | hp
    · exact h4
    · cases hp⟩⟩
theorem FnL.unpacked {P : Program} {f : FuncId} {B : Nat} {gs : List (TypeId × Nat)} {us : List Value} {M : Env} {G : Nat → Nat → Prop} {u : Nat → Value} {M' : Nat → Env} {k k' : Nat} (h : FnL P f B gs us [(k, packM M)] G u (fun i => [(k', packM (M' i))])) : FnL P f B gs us M G u M' :=
  ⟨h.body, fun w hB hM hw => (h.calls w hB (fun p hp => by
    rcases List.mem_cons.1 hp with rfl | hp
    · exact hM
    · cases hp) hw).mono fun e w' ⟨i, h1, h2, h3, h4⟩ => ⟨i, h1, h2, h3, h4 _ List.mem_cons_self⟩⟩
def PL (gs : List (TypeId × Nat)) (w₁ : World) (G : Nat → Nat → Prop) (u : Nat → Value) (M' : Nat → Env) : Ending → World → Prop :=
  fun e w' => ∃ i, G w₁.heap.size i ∧ e = .returned (u i) ∧ WroteL gs w₁ w' ∧ ∀ p ∈ M' i, p.2.Of w' undef
theorem FnL.of {P : Program} {n : Nat} {f : FuncId} {fn : Func} {c : Code} {B : Nat} {gs : List (TypeId × Nat)} {us : List Value} {M : Env} {G : Nat → Nat → Prop} {u : Nat → Value} {M' : Nat → Env} {kw ks : Nat}
    (hf : P.funcs[f]? = some fn) (hb : fn.body = some c) (hname : (fn.name == "runtime.NumGoroutine") = false) (hn : fn.ntmps = n) (hds : us.length ≤ n) (hnv : n ≤ vbase) (hMb : ∀ p ∈ M, vbase ≤ p.1) (hkw : vbase ≤ kw) (hks : vbase ≤ ks) (args : Env) (hargs : ∀ p ∈ args, ∃ v, p.2 = .v v ∧ us[p.1]? = some v)
    (h : ∀ w₀ w₁ : World, w₀.heap.size = B → B ≤ w₁.heap.size → A Cx.top P w₀ n c (args ++ ((kw, wroteL gs w₁) :: (ks, selfL gs) :: M)) (BP P fn (PL gs w₁ G u M'))) : FnL P f B gs us M G u M' := by
  refine ⟨⟨fn, hf, hname, by rw [hb]; rfl⟩, fun w hB hM hgs => ?_⟩
  have hsz := cutW_size (w := w) (g := B) hB
  refine callsIn_FR.1 (callsIn_of_wp_marks (F := FR none) (n := 0) hf hb trivial (h (cutW w B) w hsz hB _ w (cutW_below hB) ⟨by rw [hsz]; exact hB, rfl, ?_, fun t e he => ?_⟩))
  · simp [hn]; omega
  · show e.Of w ((us.toArray ++ Array.replicate (fn.ntmps - us.toArray.size) undef).getD t undef)
    have hund : vbase ≤ t → (us.toArray ++ Array.replicate (fn.ntmps - us.toArray.size) undef).getD t undef = undef := fun ht => by
      rw [Array.getD_eq_getD_getElem?, Array.getElem?_eq_none (by simp [hn]; omega)]; rfl
    rcases List.mem_append.1 (look_mem he) with hm | hm
    · obtain ⟨v, h1, h2⟩ := hargs _ hm
      simp only at h1 h2
      have hj : t < us.length := (List.getElem?_eq_some_iff.1 h2).1
      rw [Array.getD_eq_getD_getElem?, Array.getElem?_append_left (by simpa using hj)]
      subst h1
      simp [h2]; rfl
    · rcases List.mem_cons.1 hm with h1 | hm
      · injection h1 with h1 h2; subst h1; subst h2
        exact ⟨Nat.le_refl _, hgs⟩
      · rcases List.mem_cons.1 hm with h1 | hm
        · injection h1 with h1 h2; subst h1; subst h2
          exact fun p hp => ⟨hgs.lt p hp, by
            have h3 := Array.getElem?_eq_getElem (hgs.lt p hp)
            obtain ⟨cs, fr, h4⟩ := hgs.cel p hp _ h3
            exact ⟨cs, fr, by rw [h3, h4]⟩⟩
        · have h1 := hMb _ hm
          rw [hund h1]
          exact hM _ hm
section
variable {P : Program} {n B : Nat} {ops : Array Oper} {E : Env} {ty : TypeId} {pos : String} {after : Array Edge}
/-- The number of a new block in such a function. -/
def NewL (B : Nat) (E : Env) (b : Nat) : Prop := B ≤ b ∧ (∀ s b' e xs, E.look s = some (blk b' e xs) → b' < b) ∧ ∀ s gs w₁, E.look s = some (wroteL gs w₁) → w₁.heap.size ≤ b
theorem eff_nameL {o : Oper} {d k : Nat} {e : TypeId} {val : Nat → Value} {xs : List Value} (ht : o.dst = some d) (hg : o.guard = none) (hok : ∀ B', OpOk P B' o E (newD B' e val xs)) (hdn : d < n) (hnv : n ≤ vbase) :
    EffG P n B ops o E (NewL B E) (fun b => (d, .v (val b)) :: (k, blk b e xs) :: E) := by
  intro κ a w K Q h hK
  rw [if_pos (by simp [Region.wanted, hg])]
  refine wp_of_out ht ((hok w.heap.size a.eval w (Nat.le_refl _) (h.virt hnv) fun x _ u hu => h.at_ x _ hu).mono ?_)
  rintro x w' ⟨hgr, b, rfl, hb, hlt, hh⟩
  refine hK b _ _ ⟨Nat.le_trans h.base hb, fun s b' e ys hs => Nat.lt_of_lt_of_le (h.of s _ hs).1 hb, fun s gs w₁ hs => Nat.le_trans (h.of s _ hs).2.size hb⟩ (Below.mono hgr h.base) (St.put ?_ hdn rfl)
  exact (h.grow hgr).push (t := k) (d := blk b e xs) ⟨hlt, hh⟩
theorem eff_nameFL {o : Oper} {d k m : Nat} {e : TypeId} {xs : List Value} {c : Nat} (hc : xs.length = c) (ht : o.dst = some d) (hg : o.guard = none) (hok : ∀ B', OpOk P B' o E (fresh B' e xs m)) (hdn : d < n) (hnv : n ≤ vbase) :
    EffG P n B ops o E (NewL B E) (fun b => (d, .v (.slice (some ⟨b, 0, none⟩) m c)) :: (k, blk b e xs) :: E) := hc ▸ eff_nameL ht hg (fun B' => (hok B').le fresh_newD) hdn hnv
theorem subL_M {M : Env} (h : Sub M E) (hb : ∀ p ∈ M, vbase ≤ p.1) : ∀ p ∈ M, ∃ k, vbase ≤ k ∧ E.look k = some p.2 := fun p hp => ⟨p.1, hb p hp, h p hp⟩
theorem vbL_nil : ∀ p ∈ ([] : Env), vbase ≤ p.1 := fun _ h => by cases h
theorem vbL_cons {M : Env} {t : Nat} {d : D} (h : vbase ≤ t) (hr : ∀ p ∈ M, vbase ≤ p.1) : ∀ p ∈ (t, d) :: M, vbase ≤ p.1 := fun p hp => by
  rcases List.mem_cons.1 hp with rfl | hp
  · exact h
  · exact hr p hp
/-- The blocks are known by name. -/
def GsL (B : Nat) (gs : List (TypeId × Nat)) (E : Env) : Prop := ∀ p ∈ gs, B ≤ p.2 ∧ ∃ k xs, E.look k = some (blk p.2 p.1 xs)
theorem gsL_nil : GsL B [] E := fun _ h => by cases h
theorem gsL_cons {gs : List (TypeId × Nat)} {T : TypeId} {g k : Nat} {xs : List Value} (hB : B ≤ g) (hk : E.look k = some (blk g T xs)) (hr : GsL B gs E) : GsL B ((T, g) :: gs) E := fun p hp => by
  rcases List.mem_cons.1 hp with rfl | hp
  · exact ⟨hB, k, xs, hk⟩
  · exact hr p hp
theorem GsL.self {gs : List (TypeId × Nat)} (h : GsL B gs E) {a : Act} {w : World} (hs : St κ n B E a w) : WroteL gs w w :=
  WroteL.refl (fun p hp => by obtain ⟨_, k, xs, h4⟩ := h p hp; exact (hs.of k _ h4).1) fun p hp o ho => by
    obtain ⟨_, k, xs, h4⟩ := h p hp
    have h5 := (hs.of k _ h4).2
    rw [h5] at ho; injection ho with ho; exact ⟨_, _, ho.symm⟩
/-- A call of a function value that holds what us lists; it is called with vs. -/
theorem eff_callL {f : FuncId} {gs : List (TypeId × Nat)} {us vs : List Value} {M : Env} {G : Nat → Nat → Prop} {u : Nat → Value} {M' : Nat → Env} {dst : Nat} {x : Operand} {args : Array Operand} {argTypes : Array TypeId} {E' : Env}
    (hf : FnL P f B gs (vs ++ us) M G u M') (hx : E.at x = some (.v (.func (.func f) #[] us.toArray))) (ha : Args E (vs.map D.v) args.toList) (hM : ∀ p ∈ M, ∃ k, vbase ≤ k ∧ E.look k = some p.2) (hMb : ∀ i, ∀ p ∈ M' i, vbase ≤ p.1)
    (hgB : ∀ p ∈ gs, B ≤ p.2) (hgs : ∀ (κ : Cx) (a : Act) (w : World), St κ n B E a w → WroteL gs w w) (hn : n ≤ vbase) (hdst : dst < n) (hl : LeftL B gs E' E) :
    EffG P n B ops ⟨some dst, .call { callee := .value x, args := args, argTypes := argTypes }, ty, pos, after, none⟩ E (fun i => ∃ m, B ≤ m ∧ (∀ s b' e xs, E.look s = some (blk b' e xs) → b' < m) ∧ (∀ s gs w₁, E.look s = some (wroteL gs w₁) → w₁.heap.size ≤ m) ∧ G m i) (fun i => (dst, .v (u i)) :: (M' i ++ E')) := by
  intro κ a w K Q h hK
  obtain ⟨fn, h1, h2, h3⟩ := hf.body
  have hfun : a.eval x = .func (.func f) #[] us.toArray := h.at_ x _ hx
  have hrun : (execOp a.eval ⟨some dst, .call { callee := .value x, args := args, argTypes := argTypes }, ty, pos, after, none⟩).run P w = .ok (.enter f (args.map a.eval ++ us.toArray)) w := by
    have h2' : ¬ fn.name = "runtime.NumGoroutine" := by simpa using h2
    have h3' : ¬ fn.body = none := by intro h; rw [h] at h3; cases h3
    simp [execOp, resolve, Deferred.ofValue, hfun, invoke, callFunc, h1, h2', h3']
  have hund : ∀ k, vbase ≤ k → a.tmps.getD k undef = undef := fun k hk => by
    rw [Array.getD_eq_getD_getElem?, Array.getElem?_eq_none (by rw [h.size]; omega)]; rfl
  have hargs : args.toList.map a.eval = vs := by
    apply List.ext_getElem?
    intro j
    have hlen : args.toList.length = vs.length := by have := ha.length; simpa using this.symm
    rcases Nat.lt_or_ge j vs.length with hj | hj
    · have hxj : args.toList[j]? = some (args.toList[j]'(by omega)) := List.getElem?_eq_getElem (by omega)
      have he : (vs.map D.v)[j]? = some (.v vs[j]) := by simp [hj]
      obtain ⟨e', h4, h5⟩ := ha.nth he hxj
      have h6 : a.eval (args.toList[j]'(by omega)) = vs[j] := h5.of (h.at_ _ _ h4)
      rw [List.getElem?_map, hxj, Option.map_some, h6, List.getElem?_eq_getElem hj]
    · rw [List.getElem?_eq_none (by rw [List.length_map]; omega), List.getElem?_eq_none hj]
  have hcall := hf.calls w h.base (fun p hp => by
    obtain ⟨k, h4, h5⟩ := hM p hp
    have h6 := h.of k _ h5
    rwa [hund k h4] at h6) (hgs κ a w h)
  have harr : (vs ++ us).toArray = args.map a.eval ++ us.toArray := by
    apply Array.ext'
    rw [← hargs]; simp
  rw [harr] at hcall
  rw [if_pos (by simp [Region.wanted])]
  refine opR (by nofun) ?_
  unfold Oper.wp
  rw [hrun, Oper.upon_enter]
  refine Calls.mono hcall ?_
  rintro e w' ⟨i, hG, rfl, hw, hM'⟩
  have hst := hl.st hgB h hw
  refine hK i _ _ ⟨w.heap.size, h.base, fun s b' e ys hs => (h.of s _ hs).1, fun s gs w₁ hs => (h.of s _ hs).2.size, hG⟩ (hw.below hgB h.base) (St.put ⟨hst.base, hst.defers, hst.size, fun t d hd => ?_⟩ hdst rfl)
  rcases look_append hd with h4 | h4
  · have h5 := hM' _ (look_mem h4)
    have h6 : vbase ≤ t := hMb i _ (look_mem h4)
    rw [hund t h6]; exact h5
  · exact hst.of t d h4
/-- The same where nothing new is told: an effect. -/
theorem eff_callL1 {f : FuncId} {gs : List (TypeId × Nat)} {us vs : List Value} {M : Env} {G : Nat → Nat → Prop} {u : Value} {M' : Env} {dst : Nat} {x : Operand} {args : Array Operand} {argTypes : Array TypeId} {E' : Env}
    (hf : FnL P f B gs (vs ++ us) M G (fun _ => u) (fun _ => M')) (hx : E.at x = some (.v (.func (.func f) #[] us.toArray))) (ha : Args E (vs.map D.v) args.toList) (hM : ∀ p ∈ M, ∃ k, vbase ≤ k ∧ E.look k = some p.2) (hMb : ∀ p ∈ M', vbase ≤ p.1)
    (hgs : GsL B gs E) (hn : n ≤ vbase) (hdst : dst < n) (hl : LeftL B gs E' E) :
    Eff P n B ops ⟨some dst, .call { callee := .value x, args := args, argTypes := argTypes }, ty, pos, after, none⟩ E ((dst, .v u) :: (M' ++ E')) := fun κ a w K Q h hK =>
  eff_callL hf hx ha hM (fun _ => hMb) (fun p hp => (hgs p hp).1) (fun _ _ _ h => hgs.self h) hn hdst hl κ a w K Q h fun _ a' w' _ hw hst => hK a' w' hw hst
/-- The same where a new block is told. -/
theorem eff_callLN {f : FuncId} {gs : List (TypeId × Nat)} {us vs : List Value} {M : Env} {u : Nat → Value} {M' : Nat → Env} {dst : Nat} {x : Operand} {args : Array Operand} {argTypes : Array TypeId} {E' : Env}
    (hf : FnL P f B gs (vs ++ us) M (fun m b => m ≤ b) u M') (hx : E.at x = some (.v (.func (.func f) #[] us.toArray))) (ha : Args E (vs.map D.v) args.toList) (hM : ∀ p ∈ M, ∃ k, vbase ≤ k ∧ E.look k = some p.2) (hMb : ∀ i, ∀ p ∈ M' i, vbase ≤ p.1)
    (hgs : GsL B gs E) (hn : n ≤ vbase) (hdst : dst < n) (hl : LeftL B gs E' E) :
    EffG P n B ops ⟨some dst, .call { callee := .value x, args := args, argTypes := argTypes }, ty, pos, after, none⟩ E (NewL B E) (fun b => (dst, .v (u b)) :: (M' b ++ E')) := fun κ a w K Q h hK =>
  eff_callL hf hx ha hM hMb (fun p hp => (hgs p hp).1) (fun _ _ _ h => hgs.self h) hn hdst hl κ a w K Q h fun b a' w' ⟨_, h1, h2, h3, h4⟩ hw hst => hK b a' w' ⟨Nat.le_trans h1 h4, fun s b' e ys hs => Nat.lt_of_lt_of_le (h2 s b' e ys hs) h4, fun s gs w₁ hs => Nat.le_trans (h3 s gs w₁ hs) h4⟩ hw hst
theorem leftG_nil {gs : List (TypeId × Nat)} : LeftL B gs [] E := fun _ h => by cases h
theorem leftG_v {gs : List (TypeId × Nat)} {t : Nat} {x : Value} {E' : Env} (h : E.look t = some (.v x)) (hr : LeftL B gs E' E) : LeftL B gs ((t, .v x) :: E') E := fun q hq => by
  rcases List.mem_cons.1 hq with rfl | hq
  · exact ⟨h, fun _ _ => Surv.v _⟩
  · exact hr q hq
theorem leftG_w {gs : List (TypeId × Nat)} {t : Nat} {w₁ : World} {E' : Env} (h : E.look t = some (wroteL gs w₁)) (hr : LeftL B gs E' E) : LeftL B gs ((t, wroteL gs w₁) :: E') E := fun q hq => by
  rcases List.mem_cons.1 hq with rfl | hq
  · exact ⟨h, fun p hp => Surv.wroteL ⟨p, hp, rfl⟩⟩
  · exact hr q hq
theorem lookL_nil : ∀ p ∈ ([] : Env), ∃ k, vbase ≤ k ∧ E.look k = some p.2 := fun _ h => by cases h
theorem lookL_cons {M : Env} {t k : Nat} {d : D} (hk : vbase ≤ k) (h : E.look k = some d) (hr : ∀ p ∈ M, ∃ k, vbase ≤ k ∧ E.look k = some p.2) : ∀ p ∈ (t, d) :: M, ∃ k, vbase ≤ k ∧ E.look k = some p.2 := fun p hp => by
  rcases List.mem_cons.1 hp with rfl | hp
  · exact ⟨k, hk, h⟩
  · exact hr p hp
/-- The end of such a function. -/
theorem End.wroteL {w₀ w₁ : World} {fn : Func} {gs : List (TypeId × Nat)} {G : Nat → Nat → Prop} {u : Nat → Value} {M' : Nat → Env} {kw : Nat} {x : Exit} (hex : x = .ret ∨ x = .normal) (hw : E.look kw = some (Go.Proofs.YtffiflfjlemggaaGreatDoor.wroteL gs w₁)) (i : Nat) (hG : G w₁.heap.size i) (hn : n ≤ vbase)
    (hr : ∀ (a : Act) (w : World), St Cx.top n w₀.heap.size E a w → (results fn a.tmps).run P w = .ok (u i) w) (hM : ∀ p ∈ M' i, ∃ k, vbase ≤ k ∧ E.look k = some p.2) : End Cx.top w₀ n E (BP P fn (PL gs w₁ G u M') x) := fun a w _ hs => by
  have key : LeavesInM (FR none) 0 P fn a.tmps (PL gs w₁ G u M') a.defers .returning w := by
    rw [show a.defers = [] from hs.defers]
    refine ⟨u i, hr a w hs, i, hG, rfl, (hs.of kw _ hw).2, fun p hp => ?_⟩
    obtain ⟨k, h2, h3⟩ := hM p hp
    have h4 := hs.of k _ h3
    rwa [show a.tmps.getD k undef = undef from by
      rw [Array.getD_eq_getD_getElem?, Array.getElem?_eq_none (by rw [hs.size]; omega)]; rfl] at h4
  rcases hex with rfl | rfl
  · exact key
  · exact key
/-- It returns nothing. -/
theorem End.wroteL0 {w₀ w₁ : World} {fn : Func} {gs : List (TypeId × Nat)} {G : Nat → Nat → Prop} {M' : Nat → Env} {kw : Nat} {x : Exit} (hex : x = .ret ∨ x = .normal) (hr : fn.results = #[]) (hw : E.look kw = some (Go.Proofs.YtffiflfjlemggaaGreatDoor.wroteL gs w₁)) (i : Nat) (hG : G w₁.heap.size i) (hn : n ≤ vbase)
    (hM : ∀ p ∈ M' i, ∃ k, vbase ≤ k ∧ E.look k = some p.2) : End Cx.top w₀ n E (BP P fn (PL gs w₁ G (fun _ => .tuple #[]) M') x) :=
  End.wroteL hex hw i hG hn (fun a w _ => by simp [results, hr]) hM
/-- It returns one value. -/
theorem End.wroteL1 {w₀ w₁ : World} {fn : Func} {gs : List (TypeId × Nat)} {G : Nat → Nat → Prop} {u : Nat → Value} {M' : Nat → Env} {kw r : Nat} {x : Exit} (hex : x = .ret ∨ x = .normal) (hr : fn.results = #[.tmp r]) (hw : E.look kw = some (Go.Proofs.YtffiflfjlemggaaGreatDoor.wroteL gs w₁)) (i : Nat) (he : E.look r = some (.v (u i))) (hG : G w₁.heap.size i) (hn : n ≤ vbase)
    (hM : ∀ p ∈ M' i, ∃ k, vbase ≤ k ∧ E.look k = some p.2) : End Cx.top w₀ n E (BP P fn (PL gs w₁ G u M') x) :=
  End.wroteL hex hw i hG hn (fun a w hs => by
    have h1 : a.tmps.getD r undef = u i := hs.of r _ he
    simp [results, hr, ← h1]) hM
end

/-! ### More ends -/
section
variable {P : Program} {n : Nat} {w₀ : World} {E : Env}
/-- A slice over a new block, and another value. -/
theorem End.newTT {fn : Func} {r s g kg : Nat} {e : TypeId} {zs xs : List Value} {u v : Value} {val : Nat → Value} (hr : fn.results = #[.tmp r, .tmp s]) (h1 : E.look r = some (.v u)) (h2 : E.look s = some (.v v)) (h4 : E.look kg = some (blk g e zs)) (hg : w₀.heap.size ≤ g) (hv : val g = .tuple #[u, v]) (hz : zs = xs) :
    End Cx.top w₀ n E (BP P fn (PostOf w₀ (newD w₀.heap.size e val xs)) .ret) := fun a w gr hs => by
  subst hz
  have h3 : a.tmps[r]?.getD undef = u := by rw [← Array.getD_eq_getD_getElem?]; exact hs.of r _ h1
  have h6 : a.tmps[s]?.getD undef = v := by rw [← Array.getD_eq_getD_getElem?]; exact hs.of s _ h2
  obtain ⟨hl', hh'⟩ := hs.of kg _ h4
  exact BP.ret hs.defers ⟨.tuple #[u, v], by simp [results, hr, h3, h6], _, rfl, gr, g, hv.symm, hg, hl', hh'⟩
end

/-! ### Slices of bytes as arrays -/
/-- The address of bytes. -/
def arrP (l : List UInt8) : D := .p (fun B w x => ∃ ad, x = .pointer (some ad) ∧ RowIn B w (some ad) (l.map byteV)) (fun _ _ _ _ g ⟨ad, h1, h2⟩ => ⟨ad, h1, h2.keep g⟩) (fun _ _ _ _ g ⟨ad, h1, h2⟩ => ⟨ad, h1, fun j u hu => by
  obtain ⟨a, h3, h4, h5⟩ := h2 j u hu
  exact ⟨a, h3, Nat.lt_of_lt_of_le h4 g, h5⟩⟩)
section
variable {P : Program} {B : Nat} {E : Env} {dst : Option Tmp} {ty : TypeId} {pos : String} {after : Array Edge} {guard : Option (Nat × Bool)}
theorem ok_arrayB {t e : TypeId} {x : Operand} {f : D} (l : List UInt8) (ht : P.underlying t = some (.array l.length e)) (hx : E.at x = some f) (hf : Le f (byt l)) (hl : 0 < l.length) :
    OpOk P B ⟨dst, .sliceToArrayPointer t x, ty, pos, after, guard⟩ E (arrP l) := fun ρ w _ _ hρ => by
  obtain ⟨c, hb⟩ := hf.of (hρ x (by simp [Op.operands]) _ hx)
  obtain ⟨A, hxe, hle, hcm, hrow⟩ := bytes_open (l := l) hb
  cases A with
  | none =>
    cases l with
    | nil => cases hl
    | cons b l => obtain ⟨ad, h, _⟩ := hrow 0 (byteV b) rfl; cases h
  | some ad => exact out_val (x := .pointer (some ad)) (w' := w) (by simp [execOp, hxe, Instr.arrayAt, run_underlying ht]) ⟨Grow.refl w, ad, rfl, hrow⟩
theorem ok_loadB {T : TypeId} {td : TypeDesc} {x : Operand} {l : List UInt8} (ht : P.underlying T = some td) (hp : td.isRow = true) (hsz : SizeIs P T l.length) (hx : E.at x = some (arrP l)) : OpOk P B ⟨dst, .load T x, ty, pos, after, guard⟩ E (.v (aggV (l.map byteV))) := fun ρ w _ _ hρ => by
  obtain ⟨ad, h1, hrow⟩ := hρ x (by simp [Op.operands]) _ hx
  have hl : (loadCells ad (l.map byteV).length).run P w = .ok (l.map byteV).toArray w := run_loadCells_list (P := P) w ad (l.map byteV) fun j v hv => by
    obtain ⟨a, h2, _, h3⟩ := hrow j v hv
    injection h2 with h2; subst h2; exact h3
  have hr : (loadVar T ad).run P w = .ok (.agg (l.map byteV).toArray) w := by
    unfold SizeIs at hsz
    cases hq : P.info? T with
    | none => simp [hq] at hsz
    | some i =>
      have hs : i.size = l.length := by simpa [hq] using hsz
      have hagg : (isAgg T).run P w = .ok true w := by
        unfold isAgg
        rw [Sem.run_bind, run_underlying ht w]
        cases td <;> simp_all
      rw [List.length_map] at hl
      simp [loadVar, Sem.run_bind, hagg, sizeOf, typeInfo, hq, hs, hl]
  exact out_val (w' := w) (by simp [execOp, h1, Instr.loadAt, Instr.sureAddr, hr, aggV]) ⟨Grow.refl w, rfl⟩
end
end Go.Proofs.YtffiflfjlemggaaGreatDoor
namespace Go.Proofs.YtffiflfjlemggaaGreatDoor
open Go Go.RowKit
set_option linter.unusedVariables false
/-- The message: index, nonce, ciphertext. -/
def msgL (i s c : Nat) (d : List UInt8) : List UInt8 := be 4 i ++ (nonceL s c ++ d)
theorem msgL_length {i s c : Nat} {d : List UInt8} (hd : d.length = 32) : (msgL i s c d).length = 48 := by simp [msgL, be_length, nonceL_length, hd]
theorem msg_flat (i s c : Nat) (d : List UInt8) : [be 4 i, nonceL s c, d].flatten = msgL i s c d := by simp [msgL]
/-- Keys: an array of 16 bytes, one of 32 behind it. -/
theorem KM_len (f : Nat → Nat) {mk : List UInt8} (h : mk.length = 32) : (rowV 16 f ++ mk.map byteV).length = 48 := by simp [rowV_length, h]
theorem KM_mac (f : Nat → Nat) {mk : List UInt8} (h : mk.length = 32) : ((rowV 16 f ++ mk.map byteV).drop 16).take 32 = mk.map byteV := by
  rw [List.drop_left' (rowV_length _ _), List.take_of_length_le (by simp [h])]
theorem KM_one (f : Nat → Nat) (mk : List UInt8) : (rowV 16 f ++ mk.map byteV).all (·.oneCell') = true := by
  rw [List.all_append, rowV_one]; simp [byteV, Value.oneCell']
/-! ### Bytes 00 against a key stream -/
end Go.Proofs.YtffiflfjlemggaaGreatDoor
namespace Go.Proofs.YtffiflfjlemggaaGreatDoor
open Go Go.RowKit
theorem kinB {n : Nat} {l : List UInt8} (h : l.length = n) : Kin (fun _ _ => True) (List.replicate n .u8) (l.map byteV) := by
  refine ⟨by simp [h], fun i k hk => ?_⟩
  rw [List.getElem?_replicate] at hk
  split at hk
  · rename_i hi
    injection hk with hk; subst hk
    exact ⟨_, by rw [List.getElem?_map, List.getElem?_eq_getElem (by omega)]; rfl, trivial⟩
  · cases hk
theorem decB (a b : List UInt8) : decide (a = b) = true ↔ a.map byteV = b.map byteV := by
  rw [decide_eq_true_iff]
  exact ⟨fun h => by rw [h], fun h => bytes_inj h⟩
end Go.Proofs.YtffiflfjlemggaaGreatDoor
namespace Go.Proofs.YtffiflfjlemggaaGreatDoor
open Go Go.RowKit
/-- The operation yields v (or stores what is there) and changes nothing. -/
def NopOk (P : Program) (B : Nat) (o : Oper) (E : Env) (v : Value) : Prop := (∀ c, o.op ≠ .defer c) ∧
  ∀ (ρ : Operand → Value) (w : World), B ≤ w.heap.size → (∀ t e, vbase ≤ t → E.look t = some e → e.Of w undef) → (∀ x, x ∈ o.op.operands → ∀ e, E.at x = some e → e.Of w (ρ x)) → ((execOp ρ o).run P w = .ok (.value v) w ∧ o.dst ≠ none) ∨ ((execOp ρ o).run P w = .ok .skip w ∧ o.dst = none)
/-- An environment out of what was known and of what operations have yielded that stand before operation o. -/
inductive FromN (ops : Array Oper) (vals : List Value) (E0 : Env) (o : Oper) : Env → Prop
  | nil : FromN ops vals E0 o []
  | all : FromN ops vals E0 o E0
  | base {t : Nat} {d : D} {E : Env} (h : E0.look t = some d) (hr : FromN ops vals E0 o E) : FromN ops vals E0 o ((t, d) :: E)
  | op {t : Nat} {v : Value} {E : Env} (j : Nat) (he : (o.after.any fun e => Region.binds .any e && e.on == j) = true) (hd : (ops[j]?).bind (·.dst) = some t) (hv : vals[j]? = some v) (hr : FromN ops vals E0 o E) : FromN ops vals E0 o ((t, .v v) :: E)
/-- The same at the region's end. -/
inductive FromE (ops : Array Oper) (vals : List Value) (E0 : Env) : Env → Prop
  | nil : FromE ops vals E0 []
  | all : FromE ops vals E0 E0
  | base {t : Nat} {d : D} {E : Env} (h : E0.look t = some d) (hr : FromE ops vals E0 E) : FromE ops vals E0 ((t, d) :: E)
  | op {t : Nat} {v : Value} {E : Env} (j : Nat) (hd : (ops[j]?).bind (·.dst) = some t) (hv : vals[j]? = some v) (hr : FromE ops vals E0 E) : FromE ops vals E0 ((t, .v v) :: E)
inductive Nops (P : Program) (B : Nat) (ops : Array Oper) (vals : List Value) (E0 : Env) : Nat → List Oper → Prop
  | nil {i : Nat} : Nops P B ops vals E0 i []
  | cons {i : Nat} {o : Oper} {rest : List Oper} {v : Value} (E : Env) (hv : vals[i]? = some v) (hd : o.dst = none ∨ ∃ t, o.dst = some t ∧ (E0.look t = none ∨ E0.look t = some (.v v))) (hf : FromN ops vals E0 o E) (hok : NopOk P B o E v) (hr : Nops P B ops vals E0 (i + 1) rest) : Nops P B ops vals E0 i (o :: rest)
def downsN (ops : Array Oper) : Bool := (List.range ops.size).all fun i => match ops[i]? with
  | none => false
  | some o => o.guard.isNone && o.after.all (fun e => !Region.binds .any e || decide (e.on < i)) && (List.range ops.size).all fun j => match ops[j]? with
    | none => false
    | some q => j == i || o.dst == none || o.dst != q.dst
section
variable {P : Program} {n B : Nat} {ops : Array Oper} {κ : Cx} {Q : Exit → Act → World → Prop} {vals : List Value} {E0 : Env}
theorem Nops.nth {k : Nat} {l : List Oper} (h : Nops P B ops vals E0 k l) : ∀ {i : Nat} {o : Oper}, l[i]? = some o → ∃ E v, vals[k + i]? = some v ∧ (o.dst = none ∨ ∃ t, o.dst = some t ∧ (E0.look t = none ∨ E0.look t = some (.v v))) ∧ FromN ops vals E0 o E ∧ NopOk P B o E v := by
  induction h with
  | nil => intro i o hi; simp at hi
  | @cons k o0 rest v E hv hd hf hok _ ih =>
    intro i o hi
    cases i with
    | zero => simp at hi; subst hi; exact ⟨E, v, hv, hd, hf, hok⟩
    | succ i =>
      obtain ⟨E, v, h1, h2⟩ := ih (i := i) (by simpa using hi)
      exact ⟨E, v, by rw [show k + (i + 1) = k + 1 + i from by omega]; exact h1, h2⟩
structure InvN (κ : Cx) (n B : Nat) (ops : Array Oper) (vals : List Value) (E0 : Env) (listed : Array Bool) (a : Act) (w : World) : Prop where
  st : St κ n B E0 a w
  lsize : listed.size = ops.size
  got : ∀ (i : Nat) (o : Oper) (t : Nat) (v : Value), ops[i]? = some o → listed.getD i false = true → o.dst = some t → vals[i]? = some v → a.tmps.getD t undef = v
theorem downs_get (h : downsN ops = true) {i : Nat} {o : Oper} (hi : ops[i]? = some o) : o.guard = none ∧ (∀ e ∈ o.after, Region.binds .any e = true → e.on < i) ∧ ∀ j q, ops[j]? = some q → j ≠ i → o.dst ≠ none → o.dst ≠ q.dst := by
  have hlt : i < ops.size := (Array.getElem?_eq_some_iff.1 hi).1
  have h1 := List.all_eq_true.1 h i (List.mem_range.2 hlt)
  simp only [hi, Bool.and_eq_true] at h1
  refine ⟨by simpa using h1.1.1, fun e he hb => ?_, fun j q hj hne hnn => ?_⟩
  · have h2 := Array.all_eq_true_iff_forall_mem.1 h1.1.2 e he
    simpa [hb] using h2
  · have h3 := List.all_eq_true.1 h1.2 j (List.mem_range.2 (Array.getElem?_eq_some_iff.1 hj).1)
    simp only [hj, Bool.or_eq_true, beq_iff_eq, bne_iff_ne, ne_eq] at h3
    rcases h3 with (h3 | h3) | h3
    · exact absurd h3 hne
    · exact absurd h3 hnn
    · exact h3
theorem wp_nops (hn0 : n ≤ vbase) (hfit : fits n ops = true) (hd : downsN ops = true) (hn : Nops P B ops vals E0 0 ops.toList) :
    ∀ (fuel : Nat) (listed : Array Bool) (a : Act) (w : World), unlisted ops listed ≤ fuel → InvN κ n B ops vals E0 listed a w → (∀ l a' , InvN κ n B ops vals E0 l a' w → (∀ i, i < ops.size → l.getD i false = true) → Q .normal a' w) → wpAnyIn (FR κ.rd) 0 P .any ops Q fuel listed a w := by
  have hmin : ∀ (listed : Array Bool), listed.size = ops.size → Region.ready .any ops listed = [] → ∀ i, i < ops.size → listed.getD i false = true := by
    intro listed hl hr i
    induction i using Nat.strongRecOn with
    | _ i ih =>
      intro hi
      rcases hb : listed.getD i false with _ | _
      · exfalso
        have hdi := (downs_get hd (Array.getElem?_eq_getElem hi)).2.1
        have : i ∈ Region.ready .any ops listed := by
          rw [mem_ready]
          refine ⟨?_, ops[i], Array.getElem?_eq_getElem hi, fun e he hbd => ih e.on (hdi e he hbd) (Nat.lt_trans (hdi e he hbd) hi)⟩
          have : i < listed.size := by rw [hl]; exact hi
          simp [this] at hb ⊢
          exact hb
        rw [hr] at this
        cases this
      · rfl
  intro fuel
  induction fuel with
  | zero =>
    intro listed a w hc I hQ'
    have hr : Region.ready .any ops listed = [] := by
      rcases hr : Region.ready .any ops listed with _ | ⟨i, l⟩
      · rfl
      · exfalso
        have hi : i ∈ Region.ready .any ops listed := by rw [hr]; exact List.mem_cons_self
        obtain ⟨hu, o, ho, _⟩ := mem_ready.1 hi
        have hpos : 0 < unlisted ops listed := List.countP_pos_iff.2 ⟨i, List.mem_range.2 (Array.getElem?_eq_some_iff.1 ho).1, by simp only [hu]; rfl⟩
        omega
    exact ⟨hr, hQ' listed a I (hmin listed I.lsize hr)⟩
  | succ fuel ih =>
    intro listed a w hc I hQ'
    refine ⟨fun hr => hQ' listed a I (hmin listed I.lsize hr), fun i hi => ?_⟩
    obtain ⟨hu, o, ho, hall⟩ := mem_ready.1 hi
    have hlt : i < ops.size := (Array.getElem?_eq_some_iff.1 ho).1
    obtain ⟨E, v, hv, hdo, hfr, hnd, hok⟩ := hn.nth (i := i) (o := o) (by simpa using ho)
    rw [Nat.zero_add] at hv
    obtain ⟨hg, _, hdis⟩ := downs_get hd ho
    have hst : ∀ {E : Env}, FromN ops vals E0 o E → ∀ t d, E.look t = some d → d.Of w (a.tmps.getD t undef) := fun {E} h => by
      induction h with
      | nil => intro t d hl; cases hl
      | all => exact I.st.of
      | @base s e E h _ ih =>
        intro t d hl
        by_cases hts : s = t
        · subst hts; rw [look_here] at hl; injection hl with hl; subst hl; exact I.st.of _ _ h
        · rw [look_past _ _ hts] at hl; exact ih t d hl
      | @op s v E j he hdj hvj _ ih =>
        intro t d hl
        by_cases hts : s = t
        · subst hts; rw [look_here] at hl; injection hl with hl; subst hl
          obtain ⟨e, he1, he2⟩ := Array.any_eq_true'.1 he
          simp only [Bool.and_eq_true, beq_iff_eq] at he2
          have hl := hall e he1 he2.1
          rw [he2.2] at hl
          cases hq : ops[j]? with
          | none => rw [hq] at hdj; cases hdj
          | some q =>
            rw [hq] at hdj
            exact I.got j q _ _ hq hl hdj hvj
        · rw [look_past _ _ hts] at hl; exact ih t d hl
    have hE : St κ n B E a w := ⟨I.st.base, I.st.defers, I.st.size, hst hfr⟩
    have hres := hok a.eval w I.st.base (hE.virt hn0) fun x _ e he => hE.at_ x _ he
    refine wpOpR_step ho fun K hK => ?_
    rw [if_pos (by simp [Region.wanted, hg])]
    refine opR hnd ?_
    unfold Oper.wp
    have hcl : unlisted ops (listed.setIfInBounds i true) ≤ fuel := by
      have : unlisted ops (listed.setIfInBounds i true) < unlisted ops listed := by
        refine countP_lt (x := i) (fun y hy => ?_) (List.mem_range.2 hlt) (by simp only [hu]; rfl) ?_
        · by_cases hyi : i = y
          · subst hyi
            have : i < listed.size := by rw [I.lsize]; exact hlt
            simp [this] at hy
          · rw [getD_set_ne true hyi] at hy; exact hy
        · have : i < listed.size := by rw [I.lsize]; exact hlt
          simp [this]
      omega
    have hset : ∀ j, (listed.setIfInBounds i true).getD j false = true → j = i ∨ listed.getD j false = true := fun j hj => by
      by_cases hji : i = j
      · exact .inl hji.symm
      · rw [getD_set_ne false hji] at hj; exact .inr hj
    rcases hres with ⟨hrun, hdn⟩ | ⟨hrun, hdn⟩
    · rw [hrun, Oper.upon_value]
      obtain ⟨t, ht, hE0⟩ := hdo.resolve_left hdn
      have htn : t < n := (fits_mem hfit (o := o) (by simpa using Array.mem_of_getElem? ho)).2 t ht
      rw [ht]
      refine hK _ _ (ih _ _ _ hcl ⟨⟨I.st.base, I.st.defers, by simp [Act.put, I.st.size], fun s d hs => ?_⟩, by simp [I.lsize], fun j q s u hj hl hds hvs => ?_⟩ hQ')
      · by_cases hts : t = s
        · subst hts
          rw [getD_put_here _ _ (by rw [I.st.size]; exact htn)]
          rcases hE0 with h | h
          · rw [h] at hs; cases hs
          · rw [h] at hs; injection hs with hs; subst hs; rfl
        · rw [getD_put_past _ _ hts]; exact I.st.of s d hs
      · rcases hset j hl with rfl | hl
        · rw [ho] at hj; injection hj with hj; subst hj
          rw [ht] at hds; injection hds with hds; subst hds
          rw [hv] at hvs; injection hvs with hvs; subst hvs
          rw [getD_put_here _ _ (by rw [I.st.size]; exact htn)]
        · by_cases hji : j = i
          · subst hji
            rw [ho] at hj; injection hj with hj; subst hj
            rw [ht] at hds; injection hds with hds; subst hds
            rw [hv] at hvs; injection hvs with hvs; subst hvs
            rw [getD_put_here _ _ (by rw [I.st.size]; exact htn)]
          · have hne : t ≠ s := fun he => hdis j q hj hji hdn (by rw [ht, hds, he])
            rw [getD_put_past _ _ hne]
            exact I.got j q s u hj hl hds hvs
    · rw [hrun, Oper.upon_skip]
      have hput : a.put o.dst undef = a := by rw [hdn]; rfl
      rw [hput]
      refine hK _ _ (ih _ _ _ hcl ⟨I.st, by simp [I.lsize], fun j q s u hj hl hds hvs => ?_⟩ hQ')
      rcases hset j hl with rfl | hl
      · rw [ho] at hj; injection hj with hj; subst hj
        rw [hdn] at hds; cases hds
      · exact I.got j q s u hj hl hds hvs
theorem A.regsN {w₀ : World} {y : Code} {E1 : Env} {id : Nat} (vals : List Value) (hm : P.follows .mixedOrders = true) (hfit : fits n ops = true) (hd : downsN ops = true) (hn : Nops P w₀.heap.size ops vals E0 0 ops.toList) (hf : FromE ops vals E0 E1) (h : A κ P w₀ n y E1 Q) : A κ P w₀ n (.seq (.region id ops true) y) E0 Q := A.seq fun a w hg hst => by
  have hdr : Below w₀.heap.size w w.drew := (Below.refl _ w).drew
  have hfin : ∀ l a', InvN κ n w₀.heap.size ops vals E0 l a' w.drew → (∀ i, i < ops.size → l.getD i false = true) → Exit.then (y.wpIn (FR κ.rd) 0 P Q) Q .normal a' w.drew := fun l a' I hall => by
    refine h a' w.drew (hg.trans hdr) ⟨I.st.base, I.st.defers, I.st.size, fun t d hl => ?_⟩
    have key : ∀ t d, E1.look t = some d → d.Of w.drew (a'.tmps.getD t undef) := by
      clear hl h
      induction hf with
      | nil => intro t d hl; cases hl
      | all => exact I.st.of
      | @base s e E h _ ih =>
        intro t d hl
        by_cases hts : s = t
        · subst hts; rw [look_here] at hl; injection hl with hl; subst hl; exact I.st.of _ _ h
        · rw [look_past _ _ hts] at hl; exact ih t d hl
      | @op s v E j hdj hvj _ ih =>
        intro t d hl
        by_cases hts : s = t
        · subst hts; rw [look_here] at hl; injection hl with hl; subst hl
          cases hq : ops[j]? with
          | none => rw [hq] at hdj; cases hdj
          | some q =>
            rw [hq] at hdj
            exact I.got j q _ _ hq (hall j (Array.getElem?_eq_some_iff.1 hq).1) hdj hvj
        · rw [look_past _ _ hts] at hl; exact ih t d hl
    exact key t d hl
  refine wpIn_region_any hm (wp_nops (Q := Exit.then (y.wpIn (FR κ.rd) 0 P Q) Q) (fits_base hfit) hfit hd hn _ _ _ _ ?_ ⟨hst.grow (Grow.refl w).drew, by simp, fun i o t v hi hl => ?_⟩ hfin)
  · refine Nat.le_trans List.countP_le_length ?_
    simp
  · simp [(Array.getElem?_eq_some_iff.1 hi).1] at hl
end
/-! ### Such operations -/
section
variable {P : Program} {B : Nat} {E : Env} {d : Tmp} {ty : TypeId} {pos : String} {after : Array Edge} {guard : Option (Nat × Bool)}
theorem nop_move {x : Operand} {v : Value} (hx : E.at x = some (.v v)) : NopOk P B ⟨some d, .move x, ty, pos, after, guard⟩ E v :=
  ⟨by nofun, fun ρ w _ _ hρ => .inl ⟨by simp [execOp, show ρ x = v from hρ x (by simp [Op.operands]) _ hx], by simp⟩⟩
theorem nop_assign {x : Operand} {v : Value} (hx : E.at x = some (.v v)) : NopOk P B ⟨some d, .assign x, ty, pos, after, guard⟩ E v :=
  ⟨by nofun, fun ρ w _ _ hρ => .inl ⟨by simp [execOp, show ρ x = v from hρ x (by simp [Op.operands]) _ hx], by simp⟩⟩
theorem nop_loadA {T : TypeId} {td : TypeDesc} {x : Operand} {b s : Nat} {e : TypeId} {xs : List Value} (hsl : vbase ≤ s) (ht : P.underlying T = some td) (hp : (match td with | .struct _ | .array _ _ => true | _ => false) = true) (hsz : SizeIs P T xs.length)
    (hx : E.at x = some (.v (.pointer (some ⟨b, 0, none⟩)))) (hblk : E.look s = some (blk b e xs)) : NopOk P B ⟨some d, .load T x, ty, pos, after, guard⟩ E (aggV xs) :=
  ⟨by nofun, fun ρ w _ hv hρ => .inl ⟨by
    have h1 : ρ x = _ := hρ x (by simp [Op.operands]) _ hx
    obtain ⟨_, hh⟩ := hv s _ hsl hblk
    simp [execOp, h1, Instr.loadAt, Instr.sureAddr, load_cell ht hp hsz hh], by simp⟩⟩
theorem setRow_same {w : World} {b : Nat} {e : TypeId} {cs : Array Value} {fr : Nat × Nat} (h : w.heap[b]? = some (.cells cs e fr)) : w.setRow b cs = w := by
  have hh : (w.setRow b cs).heap = w.heap := by
    apply Array.ext_getElem?
    intro k
    by_cases hk : b = k
    · subst hk
      simp [World.setRow, Array.getElem?_modify, h]
    · simp [World.setRow, Array.getElem?_modify, hk]
  calc w.setRow b cs = { w with heap := (w.setRow b cs).heap } := rfl
    _ = w := by rw [hh]
theorem nop_storeA {T : TypeId} {p x : Operand} {b s : Nat} {e : TypeId} {ys : List Value} (hsl : vbase ≤ s) (hsz : SizeIs P T ys.length) (hp : E.at p = some (.v (.pointer (some ⟨b, 0, none⟩)))) (hx : E.at x = some (.v (aggV ys))) (h1 : ys.all (·.oneCell') = true)
    (hblk : E.look s = some (blk b e ys)) : NopOk P B ⟨none, .store T p x, ty, pos, after, guard⟩ E (.tuple #[]) :=
  ⟨by nofun, fun ρ w _ hv hρ => .inr ⟨by
    have hp' : ρ p = _ := hρ p (by simp [Op.operands]) _ hp
    have hx' : ρ x = _ := hρ x (by simp [Op.operands]) _ hx
    obtain ⟨_, hh⟩ := hv s _ hsl hblk
    have := run_storeVar_row (P := P) w b e T ys.toArray ys.toArray hh (by simpa [SizeIs] using hsz) (by simp) (by simpa using h1)
    rw [setRow_same hh] at this
    simp [execOp, hp', hx', Instr.storeAt, Instr.sureAddr, aggV, this], rfl⟩⟩
end
end Go.Proofs.YtffiflfjlemggaaGreatDoor
