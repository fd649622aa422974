/-
  OWN WORDS: AES with keys of 128 bits as plain mathematics: states as functions of the place, round keys, the four transformations and their inverses. No program stands here.
-/
import Derived.Test.YthggljahgnjcbaaGf
import Derived.Test.YthggljahgnjcbaaOps
namespace Go.Proofs.Ythggljahgnjcbaa
open Go Go.RowKit
set_option maxRecDepth 100000
set_option linter.unusedVariables false

/-! ### Rows of bytes -/
/-- n bytes as values. -/
def rowV (n : Nat) (f : Nat → Nat) : List Value := (List.range n).map fun i => .int .u8 ((f i : Nat) : Int)
theorem rowV_length (n : Nat) (f : Nat → Nat) : (rowV n f).length = n := by simp [rowV]
theorem rowV_get {n i : Nat} {f : Nat → Nat} (h : i < n) : (rowV n f)[i]? = some (.int .u8 ((f i : Nat) : Int)) := by simp [rowV, h]
theorem rowV_one (n : Nat) (f : Nat → Nat) : (rowV n f).all (·.oneCell') = true := by
  rw [List.all_eq_true]
  intro u hu
  simp only [rowV, List.mem_map] at hu
  obtain ⟨i, _, rfl⟩ := hu
  rfl
theorem rowV_ints (n : Nat) (f : Nat → Nat) : ∀ u ∈ rowV n f, ∃ m, u = .int .u8 m := fun u hu => by
  simp only [rowV, List.mem_map] at hu
  obtain ⟨i, _, rfl⟩ := hu
  exact ⟨_, rfl⟩
theorem rowV_congr {n : Nat} {f g : Nat → Nat} (h : ∀ i < n, f i = g i) : rowV n f = rowV n g :=
  List.map_congr_left fun i hi => by rw [h i (List.mem_range.1 hi)]
theorem rowV_inj {n : Nat} {f g : Nat → Nat} (h : rowV n f = rowV n g) : ∀ i < n, f i = g i := fun i hi => by
  have h1 := rowV_get (f := f) hi
  rw [h, rowV_get hi] at h1
  simp only [Option.some.injEq, Value.int.injEq, true_and] at h1
  omega
theorem rowV_set {n k x : Nat} {f : Nat → Nat} : (rowV n f).set k (.int .u8 ((x : Nat) : Int)) = rowV n fun i => if i = k then x else f i := by
  unfold rowV
  rw [map_set_range]
  apply List.map_congr_left
  intro i _
  by_cases hi : i = k
  · simp only [hi, if_true]
  · simp only [hi, if_false]
theorem rowV_set' {n k x : Nat} {f g : Nat → Nat} (h : ∀ i < n, (if i = k then x else f i) = g i) : (rowV n f).set k (.int .u8 ((x : Nat) : Int)) = rowV n g := by
  rw [rowV_set]; exact rowV_congr h
theorem rowV_zero (n : Nat) : List.replicate n (.int .u8 0) = rowV n fun _ => 0 := by
  apply List.ext_getElem?
  intro j
  simp only [rowV, List.getElem?_map, List.getElem?_replicate]
  by_cases hj : j < n
  · simp [hj]
  · simp [hj]
theorem rowV_part {n o m : Nat} {f g : Nat → Nat} (h : o + m ≤ n) (hg : ∀ i < m, f (o + i) = g i) : ((rowV n f).drop o).take m = rowV m g := by
  apply List.ext_getElem?
  intro j
  rw [List.getElem?_take]
  split
  · rename_i hj
    rw [List.getElem?_drop, rowV_get (by omega), rowV_get hj, hg j hj]
  · rename_i hj
    rw [List.getElem?_eq_none (by rw [rowV_length]; omega)]
theorem rowV_put {n o m : Nat} {f g h : Nat → Nat} (hm : o + m ≤ n) (hh : ∀ i < n, (if o ≤ i ∧ i < o + m then g (i - o) else f i) = h i) : (rowV n f).take o ++ rowV m g ++ (rowV n f).drop (o + m) = rowV n h := by
  apply List.ext_getElem?
  intro j
  rcases Nat.lt_or_ge j n with hj | hj
  · rw [rowV_get hj, ← hh j hj]
    rcases Nat.lt_or_ge j o with h1 | h1
    · rw [List.getElem?_append_left (by simp [rowV_length]; omega), List.getElem?_append_left (by simp [rowV_length]; omega), List.getElem?_take, if_pos h1, rowV_get hj, if_neg (by omega)]
    · rcases Nat.lt_or_ge j (o + m) with h2 | h2
      · rw [List.getElem?_append_left (by simp [rowV_length]; omega), List.getElem?_append_right (by simp [rowV_length]; omega), if_pos ⟨h1, h2⟩]
        simp only [List.length_take, rowV_length]
        rw [Nat.min_eq_left (by omega), rowV_get (by omega)]
      · rw [List.getElem?_append_right (by simp [rowV_length]; omega), if_neg (by omega)]
        simp only [List.length_append, List.length_take, rowV_length]
        rw [Nat.min_eq_left (by omega), List.getElem?_drop, show o + m + (j - (o + m)) = j from by omega, rowV_get hj]
  · rw [List.getElem?_eq_none (by simp [rowV_length]; omega), List.getElem?_eq_none (by rw [rowV_length]; omega)]
/-- The bytes of a list. -/
def byL (l : List UInt8) (i : Nat) : Nat := (l.getD i 0).toNat
theorem byL_lt (l : List UInt8) (i : Nat) : byL l i < 256 := (l.getD i 0).toNat_lt
theorem rowV_byL {l : List UInt8} {n : Nat} (h : l.length = n) : l.map byteV = rowV n (byL l) := by
  apply List.ext_getElem?
  intro j
  rcases Nat.lt_or_ge j n with hj | hj
  · rw [rowV_get hj, List.getElem?_map, List.getElem?_eq_getElem (by omega), Option.map_some]
    simp only [byL, List.getD_eq_getElem?_getD, List.getElem?_eq_getElem (show j < l.length by omega), Option.getD_some]
    rfl
  · rw [List.getElem?_eq_none (by rw [List.length_map]; omega), List.getElem?_eq_none (by rw [rowV_length]; omega)]

/-! ### The transformations -/
abbrev Sta := Nat → Nat
/-- Bytes, at all places. -/
def By (f : Sta) : Prop := ∀ i, f i < 256
/-- The same 16 bytes. -/
def Eq16 (f g : Sta) : Prop := ∀ i < 16, f i = g i
theorem Eq16.refl (f : Sta) : Eq16 f f := fun _ _ => rfl
theorem Eq16.symm {f g : Sta} (h : Eq16 f g) : Eq16 g f := fun i hi => (h i hi).symm
theorem Eq16.trans {f g h : Sta} (a : Eq16 f g) (b : Eq16 g h) : Eq16 f h := fun i hi => (a i hi).trans (b i hi)
def addS (f k : Sta) : Sta := fun i => f i ^^^ k i
def subS (f : Sta) : Sta := fun i => sub8 (f i)
def backS (f : Sta) : Sta := fun i => back8 (f i)
def rotS (f : Sta) : Sta := fun i => f (4 * ((i / 4 + i % 4) % 4) + i % 4)
def rotbS (f : Sta) : Sta := fun i => f (4 * ((i / 4 + (4 - i % 4)) % 4) + i % 4)
/-- A byte of a column, behind. -/
def col (a : Nat → Nat) (r : Nat) : Nat := gm 2 (a (r % 4) ^^^ a ((r + 1) % 4)) ^^^ a ((r + 1) % 4) ^^^ a ((r + 2) % 4) ^^^ a ((r + 3) % 4)
def mixS (f : Sta) : Sta := fun i => col (fun r => f (4 * (i / 4) + r)) (i % 4)
def mixbS (f : Sta) : Sta := mixS (mixS (mixS f))
theorem xor_lt (a b : Nat) (ha : a < 256) (hb : b < 256) : a ^^^ b < 256 := Nat.xor_lt_two_pow (n := 8) ha hb
theorem addS_by {f k : Sta} (hf : By f) (hk : By k) : By (addS f k) := fun i => xor_lt _ _ (hf i) (hk i)
theorem subS_by (f : Sta) : By (subS f) := fun _ => sub8_lt _
theorem backS_by (f : Sta) : By (backS f) := fun _ => back8_lt _
theorem rotS_by {f : Sta} (h : By f) : By (rotS f) := fun _ => h _
theorem rotbS_by {f : Sta} (h : By f) : By (rotbS f) := fun _ => h _
theorem col_lt {a : Nat → Nat} (h : ∀ r, a r < 256) (r : Nat) : col a r < 256 := xor_lt _ _ (xor_lt _ _ (xor_lt _ _ (gm_lt _ (by decide)) (h _)) (h _)) (h _)
theorem mixS_by {f : Sta} (h : By f) : By (mixS f) := fun _ => col_lt (fun _ => h _) _
theorem mixbS_by {f : Sta} (h : By f) : By (mixbS f) := mixS_by (mixS_by (mixS_by h))
theorem addS_eq {f g k : Sta} (h : Eq16 f g) : Eq16 (addS f k) (addS g k) := fun i hi => by simp only [addS, h i hi]
theorem subS_eq {f g : Sta} (h : Eq16 f g) : Eq16 (subS f) (subS g) := fun i hi => by simp only [subS, h i hi]
theorem backS_eq {f g : Sta} (h : Eq16 f g) : Eq16 (backS f) (backS g) := fun i hi => by simp only [backS, h i hi]
theorem rotS_eq {f g : Sta} (h : Eq16 f g) : Eq16 (rotS f) (rotS g) := fun i _ => h _ (by omega)
theorem rotbS_eq {f g : Sta} (h : Eq16 f g) : Eq16 (rotbS f) (rotbS g) := fun i _ => h _ (by omega)
theorem col_eq {a b : Nat → Nat} (h : ∀ r < 4, a r = b r) (r : Nat) : col a r = col b r := by
  simp only [col, h _ (show r % 4 < 4 by omega), h _ (show (r + 1) % 4 < 4 by omega), h _ (show (r + 2) % 4 < 4 by omega), h _ (show (r + 3) % 4 < 4 by omega)]
theorem mixS_eq {f g : Sta} (h : Eq16 f g) : Eq16 (mixS f) (mixS g) := fun i hi => col_eq (fun r hr => h _ (by omega)) _
theorem mixbS_eq {f g : Sta} (h : Eq16 f g) : Eq16 (mixbS f) (mixbS g) := mixS_eq (mixS_eq (mixS_eq h))
theorem add_add (f k : Sta) : addS (addS f k) k = f := funext fun i => by show f i ^^^ k i ^^^ k i = f i; rw [Nat.xor_assoc, Nat.xor_self, Nat.xor_zero]
theorem back_subS {f : Sta} (h : By f) : backS (subS f) = f := funext fun i => back_sub (h i)
theorem sub_backS {f : Sta} (h : By f) : subS (backS f) = f := funext fun i => sub_back (h i)
theorem rotb_rot (f : Sta) : Eq16 (rotbS (rotS f)) f := fun i hi => by
  show f _ = f i
  congr 1; omega
theorem rot_rotb (f : Sta) : Eq16 (rotS (rotbS f)) f := fun i hi => by
  show f _ = f i
  congr 1; omega
theorem xor_lcomm (a b c : Nat) : a ^^^ (b ^^^ c) = b ^^^ (a ^^^ c) := by rw [← Nat.xor_assoc, Nat.xor_comm a b, Nat.xor_assoc]
theorem xor_cancel (a b : Nat) : a ^^^ (a ^^^ b) = b := by rw [← Nat.xor_assoc, Nat.xor_self, Nat.zero_xor]
theorem xs2 (x y z w X Y Z W : Nat) : (X ^^^ Y ^^^ y ^^^ z ^^^ w) ^^^ (Y ^^^ Z ^^^ z ^^^ w ^^^ x) = (X ^^^ Z) ^^^ (x ^^^ y) := by
  apply Nat.eq_of_testBit_eq
  intro i
  simp only [Nat.testBit_xor]
  generalize x.testBit i = p0
  generalize y.testBit i = p1
  generalize z.testBit i = p2
  generalize w.testBit i = p3
  generalize X.testBit i = p4
  generalize Y.testBit i = p5
  generalize Z.testBit i = p6
  revert p0 p1 p2 p3 p4 p5 p6
  decide
theorem xs3 (A x y z w X Y Z W : Nat) : A ^^^ (Y ^^^ Z ^^^ z ^^^ w ^^^ x) ^^^ (Z ^^^ W ^^^ w ^^^ x ^^^ y) ^^^ (W ^^^ X ^^^ x ^^^ y ^^^ z) = A ^^^ (X ^^^ Y) ^^^ x := by
  apply Nat.eq_of_testBit_eq
  intro i
  simp only [Nat.testBit_xor]
  generalize x.testBit i = p0
  generalize y.testBit i = p1
  generalize z.testBit i = p2
  generalize w.testBit i = p3
  generalize X.testBit i = p4
  generalize Y.testBit i = p5
  generalize Z.testBit i = p6
  generalize W.testBit i = p7
  generalize A.testBit i = p8
  revert p0 p1 p2 p3 p4 p5 p6 p7 p8
  decide
theorem col2 (a : Nat → Nat) : ∀ r < 4, col (col a) r = gm 2 (gm 2 (a r ^^^ a ((r + 2) % 4))) ^^^ a r := by
  have hl := gm_addR 2
  have hc : ∀ b : Nat → Nat, ∀ r, col b r = gm 2 (b (r % 4)) ^^^ gm 2 (b ((r + 1) % 4)) ^^^ b ((r + 1) % 4) ^^^ b ((r + 2) % 4) ^^^ b ((r + 3) % 4) := fun b r => by simp only [col, hl _ _]
  have go : ∀ x y z w : Nat, gm 2 ((gm 2 x ^^^ gm 2 y ^^^ y ^^^ z ^^^ w) ^^^ (gm 2 y ^^^ gm 2 z ^^^ z ^^^ w ^^^ x)) ^^^ (gm 2 y ^^^ gm 2 z ^^^ z ^^^ w ^^^ x) ^^^ (gm 2 z ^^^ gm 2 w ^^^ w ^^^ x ^^^ y) ^^^ (gm 2 w ^^^ gm 2 x ^^^ x ^^^ y ^^^ z) = gm 2 (gm 2 (x ^^^ z)) ^^^ x := fun x y z w => by
    rw [xs2 x y z w _ _ _ 0, xs3, hl _ _, hl (gm 2 x) (gm 2 z), hl x z, hl x y, hl (gm 2 x) (gm 2 z), Nat.xor_assoc, Nat.xor_assoc, ← Nat.xor_assoc (gm 2 x ^^^ gm 2 y), Nat.xor_self, Nat.zero_xor]
  intro r hr
  obtain rfl | rfl | rfl | rfl : r = 0 ∨ r = 1 ∨ r = 2 ∨ r = 3 := by omega
  · show gm 2 (col a 0 ^^^ col a 1) ^^^ col a 1 ^^^ col a 2 ^^^ col a 3 = _
    rw [hc, hc, hc, hc]; exact go (a 0) (a 1) (a 2) (a 3)
  · show gm 2 (col a 1 ^^^ col a 2) ^^^ col a 2 ^^^ col a 3 ^^^ col a 0 = _
    rw [hc, hc, hc, hc]; exact go (a 1) (a 2) (a 3) (a 0)
  · show gm 2 (col a 2 ^^^ col a 3) ^^^ col a 3 ^^^ col a 0 ^^^ col a 1 = _
    rw [hc, hc, hc, hc]; exact go (a 2) (a 3) (a 0) (a 1)
  · show gm 2 (col a 3 ^^^ col a 0) ^^^ col a 0 ^^^ col a 1 ^^^ col a 2 = _
    rw [hc, hc, hc, hc]; exact go (a 3) (a 0) (a 1) (a 2)
theorem col4 (a : Nat → Nat) (r : Nat) (hr : r < 4) : col (col (col (col a))) r = a r := by
  have hl := gm_addR 2
  rw [col2 (col (col a)) r hr, col2 a r hr, col2 a ((r + 2) % 4) (by omega), show ((r + 2) % 4 + 2) % 4 = r from by omega]
  simp only [hl _ _, Nat.xor_comm, xor_lcomm, Nat.xor_self, Nat.xor_zero]
theorem mixS_col (f : Sta) (c r : Nat) (hr : r < 4) : mixS f (4 * c + r) = col (fun r => f (4 * c + r)) r := by
  show col (fun q => f (4 * ((4 * c + r) / 4) + q)) ((4 * c + r) % 4) = _
  rw [show (4 * c + r) / 4 = c from by omega, show (4 * c + r) % 4 = r from by omega]
theorem mix4 (f : Sta) : Eq16 (mixS (mixbS f)) f := fun i hi => by
  have h1 : ∀ (g : Sta) (c : Nat), ∀ r < 4, (fun r => mixS g (4 * c + r)) r = col (fun r => g (4 * c + r)) r := fun g c r hr => mixS_col g c r hr
  show col (fun r => mixS (mixS (mixS f)) (4 * (i / 4) + r)) (i % 4) = f i
  rw [col_eq (h1 _ _)]
  have e1 : ∀ r, col (fun r => mixS (mixS f) (4 * (i / 4) + r)) r = col (col (col (fun r => f (4 * (i / 4) + r)))) r := fun r => by
    rw [col_eq (h1 _ _)]
    exact col_eq (fun q _ => col_eq (h1 _ _) q) r
  rw [col_eq (fun q _ => e1 q), col4 _ _ (by omega)]
  show f _ = f i
  congr 1; omega
theorem mixb_mix (f : Sta) : Eq16 (mixbS (mixS f)) f := mix4 f

/-! ### The cipher -/
/-- A round key of a schedule, whose bytes stand side by side. -/
def keyS (s : Nat → Nat) (k : Nat) : Sta := fun i => s (16 * k + i)
def encR (s : Nat → Nat) (f : Sta) : Nat → Sta
  | 0 => addS f (keyS s 0)
  | r + 1 => addS (mixS (rotS (subS (encR s f r)))) (keyS s (r + 1))
def enc (s : Nat → Nat) (f : Sta) : Sta := addS (rotS (subS (encR s f 9))) (keyS s 10)
def decR (s : Nat → Nat) (f : Sta) : Nat → Sta
  | 0 => backS (rotbS (addS f (keyS s 10)))
  | r + 1 => backS (rotbS (mixbS (addS (decR s f r) (keyS s (9 - r)))))
def dec (s : Nat → Nat) (f : Sta) : Sta := addS (decR s f 9) (keyS s 0)
theorem decR_by {s : Nat → Nat} {f : Sta} : ∀ r, By (decR s f r)
  | 0 => backS_by _
  | _ + 1 => backS_by _
section
variable {s : Nat → Nat} {f g : Sta} (hs : ∀ i, s i < 256)
include hs
theorem keyS_by (k : Nat) : By (keyS s k) := fun _ => hs _
theorem encR_by (hf : By f) : ∀ r, By (encR s f r)
  | 0 => addS_by hf (keyS_by hs 0)
  | r + 1 => addS_by (mixS_by (rotS_by (subS_by _))) (keyS_by hs _)
theorem enc_by : By (enc s f) := addS_by (rotS_by (subS_by _)) (keyS_by hs _)
theorem dec_by : By (dec s f) := addS_by (decR_by _) (keyS_by hs _)
theorem dec_step (hf : By f) : ∀ r, r ≤ 9 → Eq16 (decR s (enc s f) r) (encR s f (9 - r))
  | 0, _ => by
    show Eq16 (backS (rotbS (addS (addS (rotS (subS (encR s f 9))) (keyS s 10)) (keyS s 10)))) _
    rw [add_add]
    exact (backS_eq (rotb_rot _)).trans (by rw [back_subS (encR_by hs hf 9)]; exact Eq16.refl _)
  | r + 1, hr => by
    have ih := dec_step hf r (by omega)
    rw [show 9 - r = 9 - (r + 1) + 1 from by omega] at ih
    show Eq16 (backS (rotbS (mixbS (addS (decR s (enc s f) r) (keyS s (9 - r)))))) _
    refine (backS_eq (rotbS_eq (mixbS_eq (addS_eq ih)))).trans ?_
    show Eq16 (backS (rotbS (mixbS (addS (addS (mixS (rotS (subS (encR s f (9 - (r + 1)))))) (keyS s (9 - (r + 1) + 1))) (keyS s (9 - r)))))) _
    rw [show 9 - (r + 1) + 1 = 9 - r from by omega, add_add]
    refine (backS_eq ((rotbS_eq (mixb_mix _)).trans (rotb_rot _))).trans ?_
    rw [back_subS (encR_by hs hf _)]; exact Eq16.refl _
theorem dec_enc (hf : By f) : Eq16 (dec s (enc s f)) f := by
  refine (addS_eq (dec_step hs hf 9 (Nat.le_refl _))).trans ?_
  show Eq16 (addS (addS f (keyS s 0)) (keyS s 0)) f
  rw [add_add]; exact Eq16.refl _
theorem enc_step (hf : By f) : ∀ r, r ≤ 9 → Eq16 (encR s (dec s f) r) (decR s f (9 - r))
  | 0, _ => by
    show Eq16 (addS (addS (decR s f 9) (keyS s 0)) (keyS s 0)) _
    rw [add_add]; exact Eq16.refl _
  | r + 1, hr => by
    have ih := enc_step hf r (by omega)
    rw [show 9 - r = 9 - (r + 1) + 1 from by omega] at ih
    show Eq16 (addS (mixS (rotS (subS (encR s (dec s f) r)))) (keyS s (r + 1))) _
    refine (addS_eq (mixS_eq (rotS_eq (subS_eq ih)))).trans ?_
    show Eq16 (addS (mixS (rotS (subS (backS (rotbS (mixbS (addS (decR s f (9 - (r + 1))) (keyS s (9 - (9 - (r + 1))))))))))) (keyS s (r + 1))) _
    rw [sub_backS (rotbS_by (mixbS_by (addS_by (decR_by _) (keyS_by hs _)))), show 9 - (9 - (r + 1)) = r + 1 from by omega]
    refine (addS_eq ((mixS_eq (rot_rotb _)).trans (mix4 _))).trans ?_
    rw [add_add]; exact Eq16.refl _
theorem enc_dec (hf : By f) : Eq16 (enc s (dec s f)) f := by
  refine (addS_eq (rotS_eq (subS_eq (enc_step hs hf 9 (Nat.le_refl _))))).trans ?_
  show Eq16 (addS (rotS (subS (backS (rotbS (addS f (keyS s 10)))))) (keyS s 10)) f
  rw [sub_backS (rotbS_by (addS_by hf (keyS_by hs _)))]
  refine (addS_eq (rot_rotb _)).trans ?_
  rw [add_add]; exact Eq16.refl _
end
theorem encR_eq {s t : Nat → Nat} {f g : Sta} (hs : ∀ i < 176, s i = t i) (h : Eq16 f g) : ∀ r, r ≤ 9 → Eq16 (encR s f r) (encR t g r)
  | 0, _ => fun i hi => by show f i ^^^ s (16 * 0 + i) = g i ^^^ t (16 * 0 + i); rw [h i hi, hs _ (by omega)]
  | r + 1, hr => fun i hi => by
    have ih := mixS_eq (rotS_eq (subS_eq (encR_eq hs h r (by omega)))) i hi
    show _ ^^^ s (16 * (r + 1) + i) = _ ^^^ t (16 * (r + 1) + i)
    rw [ih, hs _ (by omega)]
theorem enc_eq {s t : Nat → Nat} {f g : Sta} (hs : ∀ i < 176, s i = t i) (h : Eq16 f g) : Eq16 (enc s f) (enc t g) := fun i hi => by
  have ih := rotS_eq (subS_eq (encR_eq hs h 9 (Nat.le_refl _))) i hi
  show _ ^^^ s (16 * 10 + i) = _ ^^^ t (16 * 10 + i)
  rw [ih, hs _ (by omega)]

/-! ### The round keys -/
/-- The word that the first column of the next round key takes in. -/
def wordS (k : Sta) (p r : Nat) : Nat := sub8 (k (12 + (r + 1) % 4)) ^^^ (if r = 0 then p else 0)
/-- The sum of c columns of the key, and of the word. -/
def accS (k : Sta) (p r : Nat) : Nat → Nat
  | 0 => wordS k p r
  | c + 1 => k (4 * c + r) ^^^ accS k p r c
def nextS (k : Sta) (p : Nat) : Sta := fun i => accS k p (i % 4) (i / 4 + 1)
/-- The round keys of a key. -/
def roundK (k : Sta) : Nat → Sta
  | 0 => k
  | n + 1 => nextS (roundK k n) (gpow 2 n)
def expand (k : Sta) : Nat → Nat := fun j => roundK k (j / 16) (j % 16)
theorem accS_lt {k : Sta} {p : Nat} (hk : By k) (hp : p < 256) (r : Nat) : ∀ c, accS k p r c < 256
  | 0 => by
    show sub8 _ ^^^ _ < 256
    refine xor_lt _ _ (sub8_lt _) ?_
    split
    · exact hp
    · decide
  | c + 1 => xor_lt _ _ (hk _) (accS_lt hk hp r c)
theorem roundK_by {k : Sta} (hk : By k) : ∀ n, By (roundK k n)
  | 0 => hk
  | n + 1 => fun _ => accS_lt (roundK_by hk n) (gpow_lt n) _ _
theorem expand_lt {k : Sta} (hk : By k) (j : Nat) : expand k j < 256 := roundK_by hk _ _
theorem keyS_expand (k : Sta) (r : Nat) : Eq16 (keyS (expand k) r) (roundK k r) := fun i hi => by
  show roundK k ((16 * r + i) / 16) ((16 * r + i) % 16) = _
  rw [show (16 * r + i) / 16 = r from by omega, show (16 * r + i) % 16 = i from by omega]
theorem accS_eq {k g : Sta} (h : Eq16 k g) (p : Nat) {r : Nat} (hr : r < 4) : ∀ c, c ≤ 4 → accS k p r c = accS g p r c
  | 0, _ => by simp only [accS, wordS, h _ (show 12 + (r + 1) % 4 < 16 by omega)]
  | c + 1, hc => by simp only [accS, h _ (show 4 * c + r < 16 by omega), accS_eq h p hr c (by omega)]
theorem nextS_eq {k g : Sta} (h : Eq16 k g) (p : Nat) : Eq16 (nextS k p) (nextS g p) := fun i hi => accS_eq h p (by omega) _ (by omega)
theorem roundK_eq {k g : Sta} (h : Eq16 k g) : ∀ n, Eq16 (roundK k n) (roundK g n)
  | 0 => h
  | n + 1 => nextS_eq (roundK_eq h n) _

/-! ### The definition's rows and words -/
theorem v8 {a b : Nat} (h : a = b) : Value.int .u8 ((a : Nat) : Int) = .int .u8 ((b : Nat) : Int) := by rw [h]
theorem gm2_all : (List.range 256).all (fun a => gm 2 a == if 127 < a then (2 * a % 256) ^^^ 27 else 2 * a % 256) = true := by kernel_rfl
theorem gm2_hi {a : Nat} (ha : a < 256) (h : 127 < a) : (2 * a % 256) ^^^ 27 = gm 2 a := by
  have h1 := eq_of_beq (all256 gm2_all ha)
  rw [h1, if_pos h]
theorem gm2_lo {a : Nat} (ha : a < 256) (h : ¬ 127 < a) : 2 * a % 256 = gm 2 a := by
  have h1 := eq_of_beq (all256 gm2_all ha)
  rw [h1, if_neg h]
/-- The words as far as they are made. -/
def wst (k : Sta) (n : Nat) : Nat → Nat := fun j => if j < n then expand k j else 0
theorem wst_zero (k : Sta) : List.replicate 176 (.int .u8 0) = rowV 176 (wst k 0) := by
  rw [rowV_zero]; exact rowV_congr fun i _ => by simp [wst]
theorem wst_set {k : Sta} {n o x : Nat} (ho : o = n) (hx : x = expand k n) : (rowV 176 (wst k n)).set o (.int .u8 ((x : Nat) : Int)) = rowV 176 (wst k (n + 1)) := by
  subst ho; subst hx
  refine rowV_set' fun i _ => ?_
  unfold wst
  by_cases h : i = o
  · subst h; rw [if_pos rfl, if_pos (by omega)]
  · rw [if_neg h]
    by_cases h1 : i < o
    · rw [if_pos h1, if_pos (by omega)]
    · rw [if_neg h1, if_neg (by omega)]
theorem wst_full (k : Sta) : rowV 176 (wst k 176) = rowV 176 (expand k) := rowV_congr fun i hi => by simp only [wst, if_pos hi]
theorem wst_get {k : Sta} {n j i : Nat} (h : j < n) (hi : j = i) : wst k n j = expand k i := by subst hi; exact if_pos h
theorem expand_key (k : Sta) {j : Nat} (h : j < 16) : expand k j = k j := by
  show roundK k (j / 16) (j % 16) = k j
  rw [show j / 16 = 0 from by omega, show j % 16 = j from by omega]; rfl
/-- The word that the definition takes in for the word i. -/
def tqS (k : Sta) (i : Nat) : Nat → Nat := fun q => if i % 4 = 0 then wordS (roundK k (i / 4 - 1)) (gpow 2 (i / 4 - 1)) q else expand k (4 * (i - 1) + q)
theorem tqS_lt {k : Sta} (hk : By k) (i q : Nat) : tqS k i q < 256 := by
  unfold tqS
  split
  · exact accS_lt (roundK_by hk _) (gpow_lt _) q 0
  · exact expand_lt hk _
theorem expand_step (k : Sta) {i q : Nat} (hi : 4 ≤ i) (hq : q < 4) : expand k (4 * (i - 4) + q) ^^^ tqS k i q = expand k (4 * i + q) := by
  obtain ⟨n, hn⟩ : ∃ n, i / 4 = n + 1 := ⟨i / 4 - 1, by omega⟩
  have e1 : expand k (4 * i + q) = accS (roundK k n) (gpow 2 n) q (i % 4 + 1) := by
    show roundK k ((4 * i + q) / 16) ((4 * i + q) % 16) = _
    rw [show (4 * i + q) / 16 = n + 1 from by omega, show (4 * i + q) % 16 = 4 * (i % 4) + q from by omega]
    show accS (roundK k n) (gpow 2 n) ((4 * (i % 4) + q) % 4) ((4 * (i % 4) + q) / 4 + 1) = _
    rw [show (4 * (i % 4) + q) % 4 = q from by omega, show (4 * (i % 4) + q) / 4 = i % 4 from by omega]
  have e2 : expand k (4 * (i - 4) + q) = roundK k n (4 * (i % 4) + q) := by
    show roundK k ((4 * (i - 4) + q) / 16) ((4 * (i - 4) + q) % 16) = _
    rw [show (4 * (i - 4) + q) / 16 = n from by omega, show (4 * (i - 4) + q) % 16 = 4 * (i % 4) + q from by omega]
  have e3 : tqS k i q = accS (roundK k n) (gpow 2 n) q (i % 4) := by
    unfold tqS
    by_cases h : i % 4 = 0
    · rw [if_pos h, h, show i / 4 - 1 = n from by omega]; rfl
    · rw [if_neg h]
      show roundK k ((4 * (i - 1) + q) / 16) ((4 * (i - 1) + q) % 16) = _
      rw [show (4 * (i - 1) + q) / 16 = n + 1 from by omega, show (4 * (i - 1) + q) % 16 = 4 * (i % 4 - 1) + q from by omega]
      show accS (roundK k n) (gpow 2 n) ((4 * (i % 4 - 1) + q) % 4) ((4 * (i % 4 - 1) + q) / 4 + 1) = _
      rw [show (4 * (i % 4 - 1) + q) % 4 = q from by omega, show (4 * (i % 4 - 1) + q) / 4 + 1 = i % 4 from by omega]
  rw [e1, e2, e3]; rfl
theorem word_row (k : Sta) (p : Nat) : [.int .u8 ((sub8 (k 13) ^^^ p : Nat) : Int), .int .u8 ((sub8 (k 14) : Nat) : Int), .int .u8 ((sub8 (k 15) : Nat) : Int), .int .u8 ((sub8 (k 12) : Nat) : Int)] = rowV 4 (wordS k p) := by
  simp [rowV, wordS, List.range_succ]
theorem tq_row (k : Sta) {i : Nat} (h0 : i % 4 = 0) (h4 : 4 ≤ i) : [.int .u8 ((sub8 (expand k (4 * (i - 1) + 1)) ^^^ gpow 2 ((i - 1) / 4) : Nat) : Int), .int .u8 ((sub8 (expand k (4 * (i - 1) + 2)) : Nat) : Int), .int .u8 ((sub8 (expand k (4 * (i - 1) + 3)) : Nat) : Int), .int .u8 ((sub8 (expand k (4 * (i - 1) + 0)) : Nat) : Int)] = rowV 4 (tqS k i) := by
  have e : ∀ q < 4, expand k (4 * (i - 1) + q) = roundK k (i / 4 - 1) (12 + q) := fun q hq => by
    show roundK k ((4 * (i - 1) + q) / 16) ((4 * (i - 1) + q) % 16) = _
    rw [show (4 * (i - 1) + q) / 16 = i / 4 - 1 from by omega, show (4 * (i - 1) + q) % 16 = 12 + q from by omega]
  rw [e 0 (by decide), e 1 (by decide), e 2 (by decide), e 3 (by decide), word_row, show (i - 1) / 4 = i / 4 - 1 from by omega]
  exact rowV_congr fun q _ => by simp only [tqS, if_pos h0]
theorem tq_skip (k : Sta) {i : Nat} (h0 : ¬ i % 4 = 0) : rowV 4 (fun q => expand k (4 * (i - 1) + q)) = rowV 4 (tqS k i) := rowV_congr fun q _ => by simp only [tqS, if_neg h0]

/-- A state as the definition's matrix, row by row. -/
def aesT (f : Sta) : Sta := fun x => f (4 * (x % 4) + x / 4)
def aesG (f : Sta) : Sta := rotS (subS f)
/-- The state behind q rounds. -/
def rst (s : Nat → Nat) (f : Sta) (q : Nat) : Sta := if q < 10 then encR s f q else enc s f
theorem rst_by {s : Nat → Nat} {f : Sta} (hs : ∀ i, s i < 256) (hf : By f) (q : Nat) : By (rst s f q) := by
  unfold rst; split
  · exact encR_by hs hf q
  · exact enc_by hs
theorem aesG_by (f : Sta) : By (aesG f) := rotS_by (subS_by f)
def aesM0 (s : Nat → Nat) (f : Sta) (i : Nat) : Sta := fun x => if 4 * (x % 4) + x / 4 < i then addS f (keyS s 0) (4 * (x % 4) + x / 4) else 0
theorem aesM0_zero (s : Nat → Nat) (f : Sta) : List.replicate 16 (.int .u8 0) = rowV 16 (aesM0 s f 0) := by
  rw [rowV_zero]; exact rowV_congr fun i _ => by simp [aesM0]
theorem aesM0_set {s : Nat → Nat} {f : Sta} {i o x : Nat} (hi : i < 16) (ho : o = 4 * (i % 4) + i / 4) (hx : x = addS f (keyS s 0) i) : (rowV 16 (aesM0 s f i)).set o (.int .u8 ((x : Nat) : Int)) = rowV 16 (aesM0 s f (i + 1)) := by
  subst ho; subst hx
  refine rowV_set' fun y hy => ?_
  unfold aesM0
  by_cases h : y = 4 * (i % 4) + i / 4
  · rw [if_pos h, if_pos (by omega), show 4 * (y % 4) + y / 4 = i from by omega]
  · rw [if_neg h]
    by_cases h1 : 4 * (y % 4) + y / 4 < i
    · rw [if_pos h1, if_pos (by omega)]
    · rw [if_neg h1, if_neg (by omega)]
theorem aesM0_full (s : Nat → Nat) (f : Sta) : rowV 16 (aesM0 s f 16) = rowV 16 (aesT (rst s f 0)) := rowV_congr fun x hx => by
  simp only [aesM0, if_pos (show 4 * (x % 4) + x / 4 < 16 by omega)]; rfl
def aesN1 (f : Sta) (z : Nat) : Sta := fun x => if x < z then aesT (aesG f) x else 0
theorem aesN1_zero (f : Sta) : List.replicate 16 (.int .u8 0) = rowV 16 (aesN1 f 0) := by
  rw [rowV_zero]; exact rowV_congr fun i _ => by simp [aesN1]
theorem aesN1_set {f : Sta} {r c o x : Nat} (hr : r < 4) (hc : c < 4) (ho : o = 4 * r + c) (hx : x = sub8 (f (4 * ((c + r) % 4) + r))) : (rowV 16 (aesN1 f (4 * r + c))).set o (.int .u8 ((x : Nat) : Int)) = rowV 16 (aesN1 f (4 * r + c + 1)) := by
  subst ho; subst hx
  refine rowV_set' fun y hy => ?_
  unfold aesN1
  by_cases h : y = 4 * r + c
  · rw [if_pos h, if_pos (by omega)]
    show _ = sub8 (f (4 * (((4 * (y % 4) + y / 4) / 4 + (4 * (y % 4) + y / 4) % 4) % 4) + (4 * (y % 4) + y / 4) % 4))
    have e1 : y % 4 = c := by omega
    have e2 : y / 4 = r := by omega
    rw [e1, e2, show (4 * c + r) / 4 = c from by omega, show (4 * c + r) % 4 = r from by omega]
  · rw [if_neg h]
    by_cases h1 : y < 4 * r + c
    · rw [if_pos h1, if_pos (by omega)]
    · rw [if_neg h1, if_neg (by omega)]
def aesN2 (f : Sta) (q c : Nat) : Sta := fun x => if x % 4 < c ∧ q < 9 then aesT (mixS (aesG f)) x else aesT (aesG f) x
theorem aesN1_full (f : Sta) (q : Nat) : rowV 16 (aesN1 f 16) = rowV 16 (aesN2 f q 0) := rowV_congr fun x hx => by
  simp only [aesN1, if_pos hx, aesN2, Nat.not_lt_zero, false_and, if_false]
theorem aesN2_get {f : Sta} {q c x r : Nat} (hc : c < 4) (hr : r < 4) (hx : x = 4 * r + c) : aesN2 f q c x = aesG f (4 * c + r) := by
  unfold aesN2
  rw [if_neg (by omega)]
  show aesG f _ = _
  congr 1; omega
theorem aesN2_four {f : Sta} {q c o0 o1 o2 o3 x0 x1 x2 x3 : Nat} (hq : q < 9) (hc : c < 4) (h0 : o0 = c) (h1 : o1 = 4 + c) (h2 : o2 = 8 + c) (h3 : o3 = 12 + c)
    (e0 : x0 = mixS (aesG f) (4 * c + 0)) (e1 : x1 = mixS (aesG f) (4 * c + 1)) (e2 : x2 = mixS (aesG f) (4 * c + 2)) (e3 : x3 = mixS (aesG f) (4 * c + 3)) :
    ((((rowV 16 (aesN2 f q c)).set o0 (.int .u8 ((x0 : Nat) : Int))).set o1 (.int .u8 ((x1 : Nat) : Int))).set o2 (.int .u8 ((x2 : Nat) : Int))).set o3 (.int .u8 ((x3 : Nat) : Int)) = rowV 16 (aesN2 f q (c + 1)) := by
  subst h0; subst h1; subst h2; subst h3; subst e0; subst e1; subst e2; subst e3
  rw [rowV_set, rowV_set, rowV_set, rowV_set]
  refine rowV_congr fun x hx => ?_
  have key : ∀ r, x = 4 * r + o0 → aesN2 f q (o0 + 1) x = mixS (aesG f) (4 * o0 + r) := fun r hr => by
    unfold aesN2
    rw [if_pos ⟨by omega, hq⟩]
    show mixS (aesG f) _ = _
    congr 1; omega
  by_cases g3 : x = 12 + o0
  · rw [if_pos g3, key 3 (by omega)]
  · rw [if_neg g3]
    by_cases g2 : x = 8 + o0
    · rw [if_pos g2, key 2 (by omega)]
    · rw [if_neg g2]
      by_cases g1 : x = 4 + o0
      · rw [if_pos g1, key 1 (by omega)]
      · rw [if_neg g1]
        by_cases g0 : x = o0
        · rw [if_pos g0, key 0 (by omega)]
        · rw [if_neg g0]
          unfold aesN2
          by_cases hh : x % 4 < o0
          · rw [if_pos ⟨hh, hq⟩, if_pos ⟨by omega, hq⟩]
          · rw [if_neg (by omega), if_neg (by omega)]
theorem aesN2_skip (f : Sta) {q : Nat} (c : Nat) (hq : ¬ q < 9) : rowV 16 (aesN2 f q c) = rowV 16 (aesN2 f q (c + 1)) := rowV_congr fun x _ => by
  unfold aesN2
  rw [if_neg (fun h => hq h.2), if_neg (fun h => hq h.2)]
/-- A byte behind the columns' step of a round. -/
def aesV (f : Sta) (q : Nat) : Sta := if q < 9 then mixS (aesG f) else aesG f
theorem aesV_by (f : Sta) (q : Nat) : By (aesV f q) := by
  unfold aesV; split
  · exact mixS_by (aesG_by f)
  · exact aesG_by f
theorem aesN2_val {f : Sta} {q c x r : Nat} (hc : c < 4) (hr : r < 4) (hx : x = 4 * r + c) : aesN2 f q (c + 1) x = aesV f q (4 * c + r) := by
  unfold aesN2 aesV
  have e : 4 * (x % 4) + x / 4 = 4 * c + r := by omega
  by_cases hq : q < 9
  · rw [if_pos ⟨by omega, hq⟩, if_pos hq]; show mixS (aesG f) _ = _; rw [e]
  · rw [if_neg (fun h => hq h.2), if_neg hq]; show aesG f _ = _; rw [e]
theorem rst_step (s : Nat → Nat) (f : Sta) {q : Nat} (hq : q < 10) (i : Nat) : aesV (rst s f q) q i ^^^ keyS s (q + 1) i = rst s f (q + 1) i := by
  unfold rst aesV
  rw [if_pos hq]
  by_cases h9 : q < 9
  · rw [if_pos h9, if_pos (by omega)]; rfl
  · obtain rfl : q = 9 := by omega
    rw [if_neg (by decide), if_neg (by decide)]; rfl
def aesM2 (f g : Sta) (c r : Nat) : Sta := fun x => if x % 4 < c ∨ (x % 4 = c ∧ x / 4 < r) then aesT g x else aesT f x
theorem aesM2_zero (f g : Sta) : rowV 16 (aesT f) = rowV 16 (aesM2 f g 0 0) := rowV_congr fun x _ => by simp [aesM2]
theorem aesM2_next (f g : Sta) (c : Nat) : rowV 16 (aesM2 f g c 4) = rowV 16 (aesM2 f g (c + 1) 0) := rowV_congr fun x hx => by
  unfold aesM2
  by_cases h : x % 4 < c + 1
  · rw [if_pos (by omega), if_pos (by omega)]
  · rw [if_neg (by omega), if_neg (by omega)]
theorem aesM2_full (f g : Sta) : rowV 16 (aesM2 f g 4 0) = rowV 16 (aesT g) := rowV_congr fun x hx => by
  unfold aesM2
  rw [if_pos (by omega)]
theorem aesM2_set {f g : Sta} {c r o x : Nat} (hr : r < 4) (hc : c < 4) (ho : o = 4 * r + c) (hx : x = g (4 * c + r)) : (rowV 16 (aesM2 f g c r)).set o (.int .u8 ((x : Nat) : Int)) = rowV 16 (aesM2 f g c (r + 1)) := by
  subst ho; subst hx
  refine rowV_set' fun y hy => ?_
  unfold aesM2
  by_cases h : y = 4 * r + c
  · rw [if_pos h, if_pos (by omega)]
    show g _ = g _
    congr 1; omega
  · rw [if_neg h]
    by_cases h1 : y % 4 < c ∨ (y % 4 = c ∧ y / 4 < r)
    · rw [if_pos h1, if_pos (by omega)]
    · rw [if_neg h1, if_neg (by omega)]
/-- A row that is filled from its head. -/
def cutF (f : Nat → Nat) (i : Nat) : Nat → Nat := fun j => if j < i then f j else 0
theorem cutF_zero (n : Nat) (f : Nat → Nat) : List.replicate n (.int .u8 0) = rowV n (cutF f 0) := by
  rw [rowV_zero]; exact rowV_congr fun i _ => by simp [cutF]
theorem cutF_set {n : Nat} {f : Nat → Nat} {i o x : Nat} (ho : o = i) (hx : x = f i) : (rowV n (cutF f i)).set o (.int .u8 ((x : Nat) : Int)) = rowV n (cutF f (i + 1)) := by
  subst ho; subst hx
  refine rowV_set' fun y hy => ?_
  unfold cutF
  by_cases h : y = o
  · subst h; rw [if_pos rfl, if_pos (by omega)]
  · rw [if_neg h]
    by_cases h1 : y < o
    · rw [if_pos h1, if_pos (by omega)]
    · rw [if_neg h1, if_neg (by omega)]
theorem cutF_full (n : Nat) (f : Nat → Nat) : rowV n (cutF f n) = rowV n f := rowV_congr fun i hi => by simp only [cutF, if_pos hi]
/-- A row that is rewritten from its head. -/
def mid (f g : Nat → Nat) (i : Nat) : Nat → Nat := fun j => if j < i then g j else f j
theorem mid_zero (n : Nat) (f g : Nat → Nat) : rowV n f = rowV n (mid f g 0) := rowV_congr fun i _ => by simp [mid]
theorem mid_set {n : Nat} {f g : Nat → Nat} {i o x : Nat} (ho : o = i) (hx : x = g i) : (rowV n (mid f g i)).set o (.int .u8 ((x : Nat) : Int)) = rowV n (mid f g (i + 1)) := by
  subst ho; subst hx
  refine rowV_set' fun y hy => ?_
  unfold mid
  by_cases h : y = o
  · subst h; rw [if_pos rfl, if_pos (by omega)]
  · rw [if_neg h]
    by_cases h1 : y < o
    · rw [if_pos h1, if_pos (by omega)]
    · rw [if_neg h1, if_neg (by omega)]
theorem mid_full (n : Nat) (f g : Nat → Nat) : rowV n (mid f g n) = rowV n g := rowV_congr fun i hi => by simp only [mid, if_pos hi]
theorem mid_at (f g : Nat → Nat) (i : Nat) : mid f g i i = f i := if_neg (Nat.lt_irrefl i)
theorem mix0 (a : Sta) (c : Nat) : gm 2 (a (4 * c + 0)) ^^^ gm 2 (a (4 * c + 1)) ^^^ a (4 * c + 1) ^^^ a (4 * c + 2) ^^^ a (4 * c + 3) = mixS a (4 * c + 0) := by
  rw [mixS_col a c 0 (by decide)]
  simp only [col, Nat.reduceMod, Nat.reduceAdd, gm_addR 2 _ _]
theorem mix1 (a : Sta) (c : Nat) : a (4 * c + 0) ^^^ gm 2 (a (4 * c + 1)) ^^^ gm 2 (a (4 * c + 2)) ^^^ a (4 * c + 2) ^^^ a (4 * c + 3) = mixS a (4 * c + 1) := by
  rw [mixS_col a c 1 (by decide)]
  simp only [col, Nat.reduceMod, Nat.reduceAdd, gm_addR 2 _ _]
  simp only [Nat.xor_assoc, Nat.xor_comm, xor_lcomm]
theorem mix2 (a : Sta) (c : Nat) : a (4 * c + 0) ^^^ a (4 * c + 1) ^^^ gm 2 (a (4 * c + 2)) ^^^ gm 2 (a (4 * c + 3)) ^^^ a (4 * c + 3) = mixS a (4 * c + 2) := by
  rw [mixS_col a c 2 (by decide)]
  simp only [col, Nat.reduceMod, Nat.reduceAdd, gm_addR 2 _ _]
  simp only [Nat.xor_assoc, Nat.xor_comm, xor_lcomm]
theorem mix3 (a : Sta) (c : Nat) : gm 2 (a (4 * c + 0)) ^^^ a (4 * c + 0) ^^^ a (4 * c + 1) ^^^ a (4 * c + 2) ^^^ gm 2 (a (4 * c + 3)) = mixS a (4 * c + 3) := by
  rw [mixS_col a c 3 (by decide)]
  simp only [col, Nat.reduceMod, Nat.reduceAdd, gm_addR 2 _ _]
  simp only [Nat.xor_assoc, Nat.xor_comm, xor_lcomm]

/-! ### The program's rows on their way -/
theorem mixS_at (f : Sta) (c : Nat) {r : Nat} (hr : r < 4) : gm 2 (f (4 * c + (r + 0) % 4) ^^^ f (4 * c + (r + 1) % 4)) ^^^ f (4 * c + (r + 1) % 4) ^^^ f (4 * c + (r + 2) % 4) ^^^ f (4 * c + (r + 3) % 4) = mixS f (4 * c + r) := by
  rw [mixS_col f c r hr]; rfl
def rotbM (f : Sta) (z : Nat) : Sta := fun x => if 4 * ((x / 4 + (4 - x % 4)) % 4) + x % 4 < z then rotbS f x else f x
theorem rotbM_zero (f : Sta) : rowV 16 f = rowV 16 (rotbM f 0) := rowV_congr fun i _ => by simp [rotbM]
theorem rotbM_full (f : Sta) : rowV 16 (rotbM f 16) = rowV 16 (rotbS f) := rowV_congr fun i hi => by simp only [rotbM, if_pos (show 4 * ((i / 4 + (4 - i % 4)) % 4) + i % 4 < 16 by omega)]
theorem rotbM_set {f : Sta} {c r : Nat} (hc : c < 4) (hr : r < 4) : (rowV 16 (rotbM f (4 * c + r))).set (4 * ((c + r) % 4) + r) (.int .u8 ((f (4 * c + r) : Nat) : Int)) = rowV 16 (rotbM f (4 * c + r + 1)) := by
  refine rowV_set' fun y hy => ?_
  unfold rotbM
  have e0 : (4 * ((c + r) % 4) + r) % 4 = r := by omega
  have e1 : (4 * ((c + r) % 4) + r) / 4 = (c + r) % 4 := by omega
  have e2 : ((c + r) % 4 + (4 - r)) % 4 = c := by omega
  by_cases h : y = 4 * ((c + r) % 4) + r
  · subst h
    rw [if_pos rfl, e0, e1, e2, if_pos (by omega)]
    show _ = f _
    rw [e0, e1, e2]
  · rw [if_neg h]
    by_cases h1 : 4 * ((y / 4 + (4 - y % 4)) % 4) + y % 4 < 4 * c + r
    · rw [if_pos h1, if_pos (by omega)]
    · rw [if_neg h1, if_neg fun h2 => h ?_]
      have h3 : 4 * ((y / 4 + (4 - y % 4)) % 4) + y % 4 = 4 * c + r := by omega
      have h4 : y % 4 = r := by omega
      have h5 : (y / 4 + (4 - y % 4)) % 4 = c := by omega
      rw [h4] at h5
      omega
theorem nextS_at (k : Sta) (p : Nat) {c r : Nat} (hr : r < 4) : nextS k p (4 * c + r) = accS k p r (c + 1) := by
  show accS k p ((4 * c + r) % 4) ((4 * c + r) / 4 + 1) = _
  rw [show (4 * c + r) % 4 = r from by omega, show (4 * c + r) / 4 = c from by omega]
theorem nextS_col (k : Sta) (p : Nat) {c r : Nat} (hr : r < 4) : k (4 * c + r) ^^^ accS k p r c = nextS k p (4 * c + r) := (nextS_at k p hr).symm
theorem expand_at (k : Sta) {q i : Nat} (hq : q < 10) (hi : i < 16) : cutF (expand k) (16 * (q + 1)) (0 + q * 16 + i) = roundK k q i := by
  unfold cutF
  rw [if_pos (by omega)]
  show roundK k ((0 + q * 16 + i) / 16) ((0 + q * 16 + i) % 16) = _
  rw [show (0 + q * 16 + i) / 16 = q from by omega, show (0 + q * 16 + i) % 16 = i from by omega]
theorem expand_start (k : Sta) : rowV 176 (fun j => if j < 16 then k j else 0) = rowV 176 (cutF (expand k) (16 * (0 + 1))) := rowV_congr fun j _ => by
  unfold cutF
  by_cases h : j < 16
  · rw [if_pos h, if_pos h, expand_key k h]
  · rw [if_neg h, if_neg h]
theorem expand_put (k : Sta) {q : Nat} (hq : q < 10) : (rowV 176 (cutF (expand k) (16 * (q + 1)))).take (0 + (q + 1) * 16) ++ rowV 16 (nextS (roundK k q) (gpow 2 q)) ++ (rowV 176 (cutF (expand k) (16 * (q + 1)))).drop (0 + (q + 1) * 16 + (rowV 16 (nextS (roundK k q) (gpow 2 q))).length) = rowV 176 (cutF (expand k) (16 * (q + 1 + 1))) := by
  rw [rowV_length]
  refine rowV_put (by omega) fun i hi => ?_
  unfold cutF
  by_cases h : 0 + (q + 1) * 16 ≤ i ∧ i < 0 + (q + 1) * 16 + 16
  · rw [if_pos h, if_pos (by omega)]
    show roundK k (q + 1) _ = roundK k (i / 16) (i % 16)
    rw [show i / 16 = q + 1 from by omega, show i - (0 + (q + 1) * 16) = i % 16 from by omega]
  · rw [if_neg h]
    by_cases h1 : i < 16 * (q + 1)
    · rw [if_pos h1, if_pos (by omega)]
    · rw [if_neg h1, if_neg (by omega)]

/-! ### Examples: the kernel goes through them round by round -/
def lst16 (l : List Nat) : Sta := fun i => l.getD i 0
def same16 (f : Sta) (l : List Nat) : Bool := (List.range 16).all fun i => f i == l.getD i 0
theorem same16_eq {f : Sta} {l : List Nat} (h : same16 f l = true) : Eq16 f (lst16 l) := fun i hi => eq_of_beq (List.all_eq_true.1 h i (List.mem_range.2 hi))
def chainK : List (List Nat) → Nat → Bool
  | l :: m :: r, n => same16 (nextS (lst16 l) (gpow 2 n)) m && chainK (m :: r) (n + 1)
  | _, _ => true
theorem chainK_at {k : Sta} : ∀ (r : List (List Nat)) (l : List Nat) (n : Nat), Eq16 (roundK k n) (lst16 l) → chainK (l :: r) n = true → ∀ j m, (l :: r)[j]? = some m → Eq16 (roundK k (n + j)) (lst16 m)
  | _, l, n, h, _, 0, m, hm => by
    simp only [List.getElem?_cons_zero, Option.some.injEq] at hm
    subst hm; exact h
  | [], l, n, _, _, j + 1, m, hm => by simp at hm
  | p :: r, l, n, h, hc, j + 1, m, hm => by
    simp only [chainK, Bool.and_eq_true] at hc
    have h1 : Eq16 (roundK k (n + 1)) (lst16 p) := (nextS_eq h _).trans (same16_eq hc.1)
    rw [show n + (j + 1) = n + 1 + j from by omega]
    exact chainK_at r p (n + 1) h1 hc.2 j m (by simpa using hm)
/-- All round keys of a key: their lists. -/
theorem keys_of {k : Sta} (L : List (List Nat)) {l : List Nat} {r : List (List Nat)} (hL : L = l :: r) (h : Eq16 k (lst16 l)) (hc : chainK L 0 = true) {j : Nat} {m : List Nat} (hm : L[j]? = some m) : Eq16 (keyS (expand k) j) (lst16 m) := by
  subst hL
  have h1 := chainK_at (k := k) r l 0 h hc j m hm
  rw [Nat.zero_add] at h1
  exact (keyS_expand k j).trans h1
/-- The states behind the rounds, told with the lists of the round keys. -/
def chainE : List (List Nat) → List (List Nat) → Bool
  | a :: b :: r, k :: ks => same16 (addS (mixS (aesG (lst16 a))) (lst16 k)) b && chainE (b :: r) ks
  | _, _ => true
theorem chainE_at {s : Nat → Nat} {f : Sta} : ∀ (r ks : List (List Nat)) (a : List Nat) (n : Nat), Eq16 (encR s f n) (lst16 a) → (∀ j m, ks[j]? = some m → Eq16 (keyS s (n + 1 + j)) (lst16 m)) → r.length ≤ ks.length → chainE (a :: r) ks = true →
    ∀ j m, (a :: r)[j]? = some m → Eq16 (encR s f (n + j)) (lst16 m)
  | _, _, a, n, h, _, _, _, 0, m, hm => by
    simp only [List.getElem?_cons_zero, Option.some.injEq] at hm
    subst hm; exact h
  | [], _, a, n, _, _, _, _, j + 1, m, hm => by simp at hm
  | b :: r, [], a, n, _, _, hl, _, j + 1, m, hm => by simp at hl
  | b :: r, k :: ks, a, n, h, hk, hl, hc, j + 1, m, hm => by
    simp only [chainE, Bool.and_eq_true] at hc
    have hk0 := hk 0 k rfl
    have h1 : Eq16 (encR s f (n + 1)) (lst16 b) := fun i hi => by
      have e1 := mixS_eq (rotS_eq (subS_eq h)) i hi
      have e2 := same16_eq hc.1 i hi
      show mixS (rotS (subS (encR s f n))) i ^^^ keyS s (n + 1) i = _
      rw [e1, hk0 i hi]; exact e2
    rw [show n + (j + 1) = n + 1 + j from by omega]
    refine chainE_at r ks b (n + 1) h1 (fun j m hm => ?_) (by simpa using hl) hc.2 j m (by simpa using hm)
    rw [show n + 1 + 1 + j = n + 1 + (j + 1) from by omega]
    exact hk (j + 1) m (by simpa using hm)
theorem enc_of {s : Nat → Nat} {f : Sta} (S K : List (List Nat)) {fl k0 k9 s0 s9 out : List Nat} {sr ks : List (List Nat)} (hf : Eq16 f (lst16 fl)) (hS : S = s0 :: sr) (hK : K = k0 :: ks) (hk : ∀ j m, K[j]? = some m → Eq16 (keyS s j) (lst16 m)) (hl : sr.length ≤ ks.length)
    (h0 : same16 (addS (lst16 fl) (lst16 k0)) s0 = true) (hc : chainE S ks = true) (h9 : S[9]? = some s9) (hk9 : K[10]? = some k9) (ho : same16 (addS (aesG (lst16 s9)) (lst16 k9)) out = true) : Eq16 (enc s f) (lst16 out) := by
  subst hS; subst hK
  have e0 : Eq16 (encR s f 0) (lst16 s0) := fun i hi => by
    show f i ^^^ keyS s 0 i = _
    rw [hf i hi, hk 0 k0 rfl i hi]; exact same16_eq h0 i hi
  have e9 := chainE_at sr ks s0 0 e0 (fun j m hm => by rw [show 0 + 1 + j = j + 1 from by omega]; exact hk (j + 1) m (by simpa using hm)) hl hc 9 s9 h9
  exact fun i hi => by
    have e1 := rotS_eq (subS_eq e9) i hi
    show rotS (subS (encR s f 9)) i ^^^ keyS s 10 i = _
    have hk10 := hk 10 k9 hk9 i hi
    rw [hk10]
    rw [show rotS (subS (encR s f 9)) i = rotS (subS (lst16 s9)) i from e1]
    exact same16_eq ho i hi
theorem row_lst {f : Sta} {l : List Nat} (h : Eq16 f (lst16 l)) : rowV 16 f = rowV 16 (lst16 l) := rowV_congr h
end Go.Proofs.Ythggljahgnjcbaa
