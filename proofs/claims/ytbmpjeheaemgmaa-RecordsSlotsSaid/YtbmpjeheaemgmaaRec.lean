/-
  OWN WORDS: records, entries, cells as plain mathematics: their values, their bytes, which are valid. Nothing of one program stands here.
-/
import Derived.Test.YtbmpjeheaemgmaaCut
import Derived.Test.YtbmpjeheaemgmaaSealE
namespace Go.Proofs.Ytbmpjeheaemgmaa
open Go Go.RowKit
set_option linter.unusedVariables false
def zD : List UInt8 := List.replicate 32 0
def recV (x : UInt8) (s c : Nat) (t : List UInt8) : List Value := byteV x :: .int .u32 ((s : Nat) : Int) :: .int .u64 ((c : Nat) : Int) :: t.map byteV
def entV (x : UInt8) (t : List UInt8) : List Value := byteV x :: t.map byteV
def celV (t : List UInt8) (e m : Nat) : List Value := t.map byteV ++ [.int .u64 ((e : Nat) : Int), .int .u64 ((m : Nat) : Int)]
def recL (x : UInt8) (s c : Nat) (t : List UInt8) : List UInt8 := x :: (nonceL s c ++ t)
def entL (x : UInt8) (t : List UInt8) : List UInt8 := x :: t
def celL (t : List UInt8) (e m : Nat) : List UInt8 := t ++ (be 8 e ++ be 8 m)
def BadR (x : UInt8) (s c : Nat) (t : List UInt8) : Prop := 2 < x.toNat ∨ (x.toNat = 0 ∧ ¬ (s = 0 ∧ c = 0 ∧ t = zD))
def BadE (x : UInt8) (t : List UInt8) : Prop := 2 < x.toNat ∨ (x.toNat = 0 ∧ ¬ t = zD)
instance {x : UInt8} {s c : Nat} {t : List UInt8} : Decidable (BadR x s c t) := by unfold BadR; infer_instance
instance {x : UInt8} {t : List UInt8} : Decidable (BadE x t) := by unfold BadE; infer_instance
/-- The errors of sizes. -/
def szE (a n : Nat) : Int := if a < n then 6 else if n < a then 5 else 0
theorem szE_ne {a n : Nat} (h : a ≠ n) : szE a n ≠ 0 := by unfold szE; repeat' split
                                                           all_goals omega
theorem szE_eq {a n : Nat} (h : a = n) : szE a n = 0 := by unfold szE; rw [if_neg (by omega), if_neg (by omega)]
theorem szE_lo {a n : Nat} (h : a < n) : szE a n = 6 := by unfold szE; rw [if_pos h]
theorem szE_hi {a n : Nat} (h : n < a) : szE a n = 5 := by unfold szE; rw [if_neg (by omega), if_pos h]
def ckS (n : Nat) (z : Bool) : Int := if 2 < n ∨ (n = 0 ∧ z = false) then 1 else 0
def ckR (x : UInt8) (s c : Nat) (t : List UInt8) : Int := if BadR x s c t then 1 else 0
def ckE (x : UInt8) (t : List UInt8) : Int := if BadE x t then 1 else 0
theorem ckS_rec (x : UInt8) (s c : Nat) (t : List UInt8) : ckS x.toNat (decide (x.toNat = 0 ∧ s = 0 ∧ c = 0 ∧ t = zD)) = ckR x s c t := by
  unfold ckS ckR BadR
  by_cases h : x.toNat = 0 <;> by_cases h2 : s = 0 ∧ c = 0 ∧ t = zD <;> simp [h, h2]
theorem ckS_ent (x : UInt8) (t : List UInt8) : ckS x.toNat (decide (x.toNat = 0 ∧ t = zD)) = ckE x t := by
  unfold ckS ckE BadE
  by_cases h : x.toNat = 0 <;> by_cases h2 : t = zD <;> simp [h, h2]
theorem ckR_bad {x : UInt8} {s c : Nat} {t : List UInt8} (h : BadR x s c t) : ckR x s c t = 1 := if_pos h
theorem ckR_ok {x : UInt8} {s c : Nat} {t : List UInt8} (h : ¬ BadR x s c t) : ckR x s c t = 0 := if_neg h
theorem ckE_bad {x : UInt8} {t : List UInt8} (h : BadE x t) : ckE x t = 1 := if_pos h
theorem ckE_ok {x : UInt8} {t : List UInt8} (h : ¬ BadE x t) : ckE x t = 0 := if_neg h
theorem byteV_inj {a b : UInt8} (h : byteV a = byteV b) : a = b := by
  have := bytes_inj (a := [a]) (b := [b]) (by rw [List.map_cons, List.map_cons, h])
  simpa using this
theorem byteV_zero {x : UInt8} : byteV x = byteV 0 ↔ x.toNat = 0 := by
  refine ⟨fun h => by rw [byteV_inj h]; rfl, fun h => ?_⟩
  rw [show x = 0 from UInt8.toNat_inj.1 h]
theorem dec_rec (x : UInt8) (s c : Nat) (t : List UInt8) : decide (x.toNat = 0 ∧ s = 0 ∧ c = 0 ∧ t = zD) = true ↔ recV x s c t = recV 0 0 0 zD := by
  rw [decide_eq_true_iff]
  refine ⟨fun ⟨h1, h2, h3, h4⟩ => by rw [h2, h3, h4, recV, recV, byteV_zero.2 h1], fun h => ?_⟩
  unfold recV at h
  injection h with h1 h
  injection h with h2 h
  injection h with h3 h
  injection h2 with _ h2
  injection h3 with _ h3
  exact ⟨byteV_zero.1 h1, by omega, by omega, bytes_inj h⟩
theorem dec_ent (x : UInt8) (t : List UInt8) : decide (x.toNat = 0 ∧ t = zD) = true ↔ entV x t = entV 0 zD := by
  rw [decide_eq_true_iff]
  refine ⟨fun ⟨h1, h4⟩ => by rw [h4, entV, entV, byteV_zero.2 h1], fun h => ?_⟩
  unfold entV at h
  injection h with h1 h
  exact ⟨byteV_zero.1 h1, bytes_inj h⟩
theorem kinRec (x : UInt8) (s c : Nat) {t : List UInt8} (h : t.length = 32) : Kin (fun _ _ => True) (.u8 :: .u32 :: .u64 :: List.replicate 32 .u8) (recV x s c t) := kin_cons (kin_cons (kin_cons (kinB h)))
theorem kinEnt (x : UInt8) {t : List UInt8} (h : t.length = 32) : Kin (fun _ _ => True) (.u8 :: List.replicate 32 .u8) (entV x t) := kin_cons (kinB h)
theorem kinCel {t : List UInt8} (h : t.length = 32) (e m : Nat) : Kin (fun _ _ => True) (List.replicate 32 .u8 ++ [.u64, .u64]) (celV t e m) := Kin.join (kinB h) (kin_cons (kin_cons kin_nil))
theorem rec_len (x : UInt8) (s c : Nat) {t : List UInt8} (h : t.length = 32) : (recV x s c t).length = 35 := by simp [recV, h]
theorem ent_len (x : UInt8) {t : List UInt8} (h : t.length = 32) : (entV x t).length = 33 := by simp [entV, h]
theorem cel_len {t : List UInt8} (h : t.length = 32) (e m : Nat) : (celV t e m).length = 34 := by simp [celV, h]
theorem recL_len (x : UInt8) (s c : Nat) {t : List UInt8} (h : t.length = 32) : (recL x s c t).length = 45 := by simp [recL, h, nonceL_length]
theorem entL_len (x : UInt8) {t : List UInt8} (h : t.length = 32) : (entL x t).length = 33 := by simp [entL, h]
theorem celL_len {t : List UInt8} (h : t.length = 32) (e m : Nat) : (celL t e m).length = 48 := by simp [celL, h, be_length]
theorem all_byte (l : List UInt8) : (l.map byteV).all (·.oneCell') = true := by simp [List.all_eq_true, byteV, Value.oneCell']
theorem rec_one (x : UInt8) (s c : Nat) (t : List UInt8) : (recV x s c t).all (·.oneCell') = true := by simp only [recV, List.all_cons, all_byte]; rfl
theorem ent_one (x : UInt8) (t : List UInt8) : (entV x t).all (·.oneCell') = true := by simp only [entV, List.all_cons, all_byte]; rfl
theorem cel_one (t : List UInt8) (e m : Nat) : (celV t e m).all (·.oneCell') = true := by simp only [celV, List.all_append, all_byte]; rfl
theorem rec_tag {x : UInt8} {s c : Nat} {t : List UInt8} (h : t.length = 32) : ((recV x s c t).drop 3).take 32 = t.map byteV := List.take_of_length_le (by rw [List.length_drop, rec_len x s c h]; decide)
theorem ent_tag {x : UInt8} {t : List UInt8} (h : t.length = 32) : ((entV x t).drop 1).take 32 = t.map byteV := List.take_of_length_le (by rw [List.length_drop, ent_len x h]; decide)
theorem cel_root {t : List UInt8} (h : t.length = 32) (e m : Nat) : ((celV t e m).drop 0).take 32 = t.map byteV := List.take_left' (by simp [h])
theorem cel_e {t : List UInt8} (h : t.length = 32) (e m : Nat) : (celV t e m)[32]? = some (.int .u64 ((e : Nat) : Int)) := by
  rw [celV, List.getElem?_append_right (by simp [h])]; simp [h]
theorem cel_m {t : List UInt8} (h : t.length = 32) (e m : Nat) : (celV t e m)[33]? = some (.int .u64 ((m : Nat) : Int)) := by
  rw [celV, List.getElem?_append_right (by simp [h])]; simp [h]
theorem rec_set3 (x : UInt8) (s c : Nat) {t t' : List UInt8} (h : t.length = 32) (h' : t'.length = 32) : (recV x s c t').take 3 ++ t.map byteV ++ (recV x s c t').drop (3 + (t.map byteV).length) = recV x s c t := by
  rw [List.length_map, h, List.drop_eq_nil_of_le (by rw [rec_len x s c h']; decide), List.append_nil]; rfl
theorem ent_set1 (x : UInt8) {t t' : List UInt8} (h : t.length = 32) (h' : t'.length = 32) : (entV x t').take 1 ++ t.map byteV ++ (entV x t').drop (1 + (t.map byteV).length) = entV x t := by
  rw [List.length_map, h, List.drop_eq_nil_of_le (by rw [ent_len x h']; decide), List.append_nil]; rfl
theorem cel_set0 {t t' : List UInt8} (e m : Nat) (h : t.length = 32) (h' : t'.length = 32) : (celV t' e m).take 0 ++ t.map byteV ++ (celV t' e m).drop (0 + (t.map byteV).length) = celV t e m := by
  rw [List.length_map, h, List.take_zero, List.nil_append, Nat.zero_add, celV, List.drop_left' (by simp [h'])]; rfl
theorem cel_set32 {t : List UInt8} (e e' m : Nat) (h : t.length = 32) : (celV t e m).set 32 (.int .u64 ((e' : Nat) : Int)) = celV t e' m := by
  rw [celV, List.set_append_right _ _ (by simp [h])]; simp [h, celV]
theorem cel_set33 {t : List UInt8} (e m m' : Nat) (h : t.length = 32) : (celV t e m).set 33 (.int .u64 ((m' : Nat) : Int)) = celV t e m' := by
  rw [celV, List.set_append_right _ _ (by simp [h])]; simp [h, celV]
/-! ### The first byte, and all others together -/
def pX (l : List UInt8) : UInt8 := l.getD 0 0
def sumL (l : List UInt8) : Nat := (l.map UInt8.toNat).sum
def rest (l : List UInt8) : Nat := sumL (l.drop 1)
def BadL (l : List UInt8) : Prop := 2 < (pX l).toNat ∨ ((pX l).toNat = 0 ∧ 0 < rest l)
theorem sumL_zero {l : List UInt8} : sumL l = 0 ↔ l = List.replicate l.length 0 := by
  induction l with
  | nil => exact ⟨fun _ => rfl, fun _ => rfl⟩
  | cons a l ih =>
    simp only [sumL, List.map_cons, List.sum_cons, List.length_cons, List.replicate_succ, List.cons.injEq] at ih ⊢
    rw [← ih, ← UInt8.toNat_inj]
    exact ⟨fun h => ⟨by simp; omega, by omega⟩, fun ⟨h1, h2⟩ => by simp at h1; omega⟩
theorem sumL_append (a b : List UInt8) : sumL (a ++ b) = sumL a + sumL b := by simp [sumL]
theorem sumL_take {l : List UInt8} {i : Nat} (h : i < l.length) : sumL (l.take (i + 1)) = sumL (l.take i) + (l.getD i 0).toNat := by
  rw [List.take_add_one, List.getElem?_eq_getElem h, sumL_append, List.getD_eq_getElem?_getD, List.getElem?_eq_getElem h]
  simp [sumL]
theorem sumL_le (l : List UInt8) : sumL l ≤ 255 * l.length := by
  induction l with
  | nil => simp [sumL]
  | cons a l ih =>
    have := a.toNat_lt
    simp only [sumL, List.map_cons, List.sum_cons, List.length_cons] at ih ⊢
    omega
/-- What is summed up behind the first byte, as far as i. -/
def restT (l : List UInt8) (i : Nat) : Nat := sumL ((l.take i).drop 1)
theorem restT_succ {l : List UInt8} {i : Nat} (h1 : 1 ≤ i) (h : i < l.length) : restT l (i + 1) = restT l i + (l.getD i 0).toNat := by
  unfold restT
  rw [List.drop_take, List.drop_take, show i + 1 - 1 = (i - 1) + 1 from by omega, sumL_take (by simp; omega)]
  congr 2
  rw [List.getD_eq_getElem?_getD, List.getD_eq_getElem?_getD, List.getElem?_drop, show 1 + (i - 1) = i from by omega]
theorem restT_end {l : List UInt8} {i : Nat} (h : l.length ≤ i) : restT l i = rest l := by rw [restT, rest, List.take_of_length_le h]
theorem restT_le (l : List UInt8) (i : Nat) : restT l i ≤ 255 * l.length := Nat.le_trans (sumL_le _) (Nat.mul_le_mul_left _ (by simp; omega))
theorem restT_one (l : List UInt8) : restT l 1 = 0 := by
  unfold restT
  rw [List.drop_eq_nil_of_le (by simp; omega)]; rfl
theorem rest_byteD {l : List UInt8} {i : Nat} (h : i < l.length) : (l.map byteD)[i]? = some (byteD (l.getD i 0)) := by
  rw [List.getElem?_map, List.getElem?_eq_getElem h, List.getD_eq_getElem?_getD, List.getElem?_eq_getElem h]; rfl
theorem pX_drop {l : List UInt8} (h : 0 < l.length) : l = pX l :: l.drop 1 := by
  cases l with
  | nil => simp at h
  | cons a l => rfl
/-- What the law asks of an error. -/
def wantE (size : Int) (odd : Bool) : Int := if size ≠ 0 then size else if odd = true then 1 else 0
theorem byteV_nat (k : Nat) (h : k < 256) : Value.int .u8 ((k : Nat) : Int) = byteV (UInt8.ofNat k) := by
  rw [byteV, UInt8.toNat_ofNat', Nat.mod_eq_of_lt h]
end Go.Proofs.Ytbmpjeheaemgmaa
