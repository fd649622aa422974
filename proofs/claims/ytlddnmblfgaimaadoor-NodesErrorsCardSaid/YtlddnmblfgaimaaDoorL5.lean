/-
  OWN TEXTS of this seat, put together, part 5: C13b, C13c, LaidN, C12d, C13d.
-/
import Derived.Test.YtlddnmblfgaimaaDoorL1
import Derived.Test.YtlddnmblfgaimaaDoorL4
import Derived.Test.YtlddnmblfgaimaaDoorL3
import Derived.Test.YtlddnmblfgaimaaDoorTie
import Derived.Test.YtlddnmblfgaimaaDoorL2
import Derived.ProofKit
import Derived.LaidMore
import Derived.Stop.Joined
namespace Go.Proofs.YtlddnmblfgaimaaDoor
open Go Go.RowKit
set_option linter.unusedVariables false
set_option maxRecDepth 20000
set_option linter.unusedSimpArgs false
/-! Parts of bytes. -/
def prt (k : Nat) (l : List UInt8) (i : Nat) : List UInt8 := (l.drop (k * i)).take k
theorem prt_len {k : Nat} {l : List UInt8} {i : Nat} (h : l.length = 4 * k) (hi : i < 4) : (prt k l i).length = k := by
 have := Nat.mul_le_mul_left k (Nat.succ_le_of_lt hi)
 rw [Nat.mul_succ] at this
 unfold prt
 rw [List.length_take, List.length_drop]; omega
theorem prt_byt (k : Nat) (l : List UInt8) (i : Nat) : lst (((l.map byteD).take (k * (i + 1))).drop (k * i)) = byt (prt k l i) := by
 unfold byt prt
 rw [List.map_take, List.map_drop, List.drop_take, show k * (i + 1) - k * i = k from by rw [Nat.mul_succ]; omega]
theorem prt_flat {α : Type} {v : α → List UInt8} {k : Nat} {L : List α} (hL : L.length = 4) (h : ∀ a ∈ L, (v a).length = k) {i : Nat} (hi : i < 4) (z : α) : prt k (L.flatMap v) i = v (L.getD i z) := by
 unfold prt
 rw [Nat.mul_comm]
 exact flat_getD h (by omega) z
def RecT.of (l : List UInt8) : RecT := ⟨pX l, gS (pN l), gC (pN l), pT l⟩
def EntT.of (l : List UInt8) : EntT := ⟨pX l, pD l⟩
theorem RecT.of_fit {l : List UInt8} (h : l.length = 45) : (RecT.of l).Fit := ⟨pT_len h, gS_lt _, gC_lt _⟩
theorem EntT.of_fit {l : List UInt8} (h : l.length = 33) : (EntT.of l).Fit := ⟨pD_len h⟩
theorem RecT.l_of {r : RecT} (h : r.Fit) : RecT.of r.l = r := by
 obtain ⟨h1, h2, h3, h4⟩ := rec_front (x := r.x) h.t h.s h.c
 unfold RecT.of RecT.l
 rw [h1, h2, h3, h4]
theorem EntT.l_of {r : EntT} (h : r.Fit) : EntT.of r.l = r := by
 obtain ⟨h1, h2⟩ := ent_front (x := r.x) h.t
 unfold EntT.of EntT.l
 rw [h1, h2]
def RecT.any (l : List UInt8) : RecT := if (RecT.of l).ck = 0 then RecT.of l else RecT.zero
def EntT.any (l : List UInt8) : EntT := if (EntT.of l).ck = 0 then EntT.of l else EntT.zero
theorem RecT.any_ok {l : List UInt8} (h : (RecT.of l).ck = 0) : RecT.any l = RecT.of l := if_pos h
theorem EntT.any_ok {l : List UInt8} (h : (EntT.of l).ck = 0) : EntT.any l = EntT.of l := if_pos h
theorem RecT.any_fit {l : List UInt8} (h : l.length = 45) : (RecT.any l).Fit := by unfold RecT.any; split; exact RecT.of_fit h; exact RecT.zero_fit
theorem EntT.any_fit {l : List UInt8} (h : l.length = 33) : (EntT.any l).Fit := by unfold EntT.any; split; exact EntT.of_fit h; exact EntT.zero_fit
theorem pg_store {α β : Type} {v : α → List β} {k : Nat} {z : α} {f : Nat → α} (hz : (v z).length = k) (hf : ∀ i, i < 4 → (v (f i)).length = k) {i : Nat} (hi : i < 4) :
  ((pg z f i).flatMap v).take (0 + i * k) ++ v (f i) ++ ((pg z f i).flatMap v).drop (0 + i * k + (v (f i)).length) = (pg z f (i + 1)).flatMap v := by
 rw [Nat.zero_add, hf i hi, flat_set (fun a ha => (pg_mem ha).elim (fun e => e ▸ hz) fun ⟨j, hj, _, e⟩ => e ▸ hf j hj) (by rw [pg_length]; exact hi) (hf i hi), pg_set z f hi]
theorem pg_lens {α β : Type} {v : α → List β} {k : Nat} {z : α} {f : Nat → α} (hz : (v z).length = k) (hf : ∀ i, i < 4 → (v (f i)).length = k) (i : Nat) : ((pg z f i).flatMap v).length = 4 * k := by
 rw [flat_length (fun a ha => (pg_mem ha).elim (fun e => e ▸ hz) fun ⟨j, hj, _, e⟩ => e ▸ hf j hj), pg_length]
/-! The node of bytes. -/
def szN (l : List UInt8) : Int := if l.length = 0 then 6 else if 5 < (pX l).toNat then 1 else if l.length < NodT.sz (pX l).toNat then 6 else if NodT.sz (pX l).toNat < l.length then 5 else 0
def jN (l : List UInt8) : Nat := (getV ((l.drop 1).take 4) 4).toNat
abbrev rN (l : List UInt8) (i : Nat) : RecT := RecT.of (prt 45 (l.drop 5) i)
abbrev eN (l : List UInt8) (i : Nat) : EntT := EntT.of (prt 33 (l.drop 5) i)
def gtN (l : List UInt8) : NodT := if (pX l).toNat = 0 then ⟨pX l, jN l, pg RecT.zero (rN l) 4, zerosE⟩ else ⟨pX l, jN l, zerosR, pg EntT.zero (eN l) 4⟩
def geN (l : List UInt8) : Int := if szN l ≠ 0 then szN l else if (pX l).toNat = 0 then fst4 fun i => (rN l i).ck else fst4 fun i => (eN l i).ck
theorem jN_lt (l : List UInt8) : jN l < 4294967296 := by
 unfold jN getV
 split
 ·rename_i h; have := num_lt ((l.drop 1).take 4); rw [h] at this; omega
 ·decide
theorem szN_ok {l : List UInt8} (h : szN l = 0) : 0 < l.length ∧ (pX l).toNat ≤ 5 ∧ l.length = NodT.sz (pX l).toNat := by
 unfold szN at h
 split at h
 ·cases h
 ·split at h
  ·cases h
  ·split at h
   ·cases h
   ·split at h
    ·cases h
    ·omega
theorem lenR {l : List UInt8} (h : szN l = 0) (h0 : (pX l).toNat = 0) : l.length = 185 ∧ (l.drop 5).length = 4 * 45 := by
 have h1 := (szN_ok h).2.2
 rw [h0] at h1
 refine ⟨h1, ?_⟩
 rw [List.length_drop, h1]; rfl
theorem lenE {l : List UInt8} (h : szN l = 0) (h0 : ¬ (pX l).toNat = 0) : l.length = 137 ∧ (l.drop 5).length = 4 * 33 := by
 have h1 := (szN_ok h).2.2
 unfold NodT.sz at h1
 rw [if_neg h0] at h1
 refine ⟨h1, ?_⟩
 rw [List.length_drop, h1]
theorem gtN_R {l : List UInt8} (h0 : (pX l).toNat = 0) : gtN l = ⟨pX l, jN l, pg RecT.zero (rN l) 4, zerosE⟩ := if_pos h0
theorem gtN_E {l : List UInt8} (h0 : ¬ (pX l).toNat = 0) : gtN l = ⟨pX l, jN l, zerosR, pg EntT.zero (eN l) 4⟩ := if_neg h0
theorem geN_sz {l : List UInt8} (h : szN l ≠ 0) : geN l = szN l := if_pos h
theorem geN_R {l : List UInt8} (h : szN l = 0) (h0 : (pX l).toNat = 0) : geN l = fst4 fun i => (rN l i).ck := by unfold geN; rw [if_neg (by simp [h]), if_pos h0]
theorem geN_E {l : List UInt8} (h : szN l = 0) (h0 : ¬ (pX l).toNat = 0) : geN l = fst4 fun i => (eN l i).ck := by unfold geN; rw [if_neg (by simp [h]), if_neg h0]
theorem zr_get {i : Nat} : (zerosR.getD i RecT.zero) = RecT.zero := by
 unfold zerosR
 rw [List.getD_eq_getElem?_getD, List.getElem?_replicate]; split <;> rfl
theorem ze_get {i : Nat} : (zerosE.getD i EntT.zero) = EntT.zero := by
 unfold zerosE
 rw [List.getD_eq_getElem?_getD, List.getElem?_replicate]; split <;> rfl
theorem gtN_fit {l : List UInt8} (h : szN l = 0) : (gtN l).Fit := by
 by_cases h0 : (pX l).toNat = 0
 ·rw [gtN_R h0]
  exact ⟨jN_lt l, pg_length _ _ _, rfl, fun a ha => (pg_mem ha).elim (fun e => e ▸ RecT.zero_fit) fun ⟨j, hj, _, e⟩ => e ▸ RecT.of_fit (prt_len (lenR h h0).2 hj), NodT.ze_fit⟩
 ·rw [gtN_E h0]
  exact ⟨jN_lt l, rfl, pg_length _ _ _, NodT.zr_fit, fun a ha => (pg_mem ha).elim (fun e => e ▸ EntT.zero_fit) fun ⟨j, hj, _, e⟩ => e ▸ EntT.of_fit (prt_len (lenE h h0).2 hj)⟩
/-! A node out of its own bytes. -/
theorem bl_x (x : NodT) : pX x.bl = x.l := rfl
theorem bl_j {x : NodT} (hx : x.Fit) : jN x.bl = x.j := by
 unfold jN NodT.bl
 rw [List.drop_one, List.tail_cons, List.take_left' (be_length 4 x.j), getV, if_pos (be_length 4 x.j), num_be, Nat.mod_eq_of_lt (by have := hx.j; omega), Int.toNat_natCast]
theorem bl_drop (x : NodT) : x.bl.drop 5 = if x.l.toNat = 0 then x.R.flatMap RecT.l else x.E.flatMap EntT.l := by
 unfold NodT.bl
 rw [show 5 = 4 + 1 from rfl, List.drop_succ_cons, List.drop_left' (be_length 4 x.j)]
theorem bl_sz {x : NodT} (hx : x.Fit) (hl : x.l.toNat ≤ 5) : szN x.bl = 0 := by
 have h1 := hx.bl_length
 have h2 := sz_le x.l.toNat
 unfold szN
 rw [bl_x, if_neg (by omega), if_neg (by omega), if_neg (by omega), if_neg (by omega)]
theorem rest_zero {α : Type} {L : List α} {z : α} {Z : α → Prop} (hz : ∀ a, Z a → a = z) (hL : L.length = 4) (h : ∀ i, i < 4 → Z (L.getD i z)) : L = List.replicate 4 z :=
 ext4 hL (by simp) z fun i hi => by rw [hz _ (h i hi), List.getD_eq_getElem?_getD, List.getElem?_replicate, if_pos hi]; rfl
theorem bl_back {x : NodT} (hx : x.Fit) (hk : x.ck = 0) : gtN x.bl = x ∧ geN x.bl = 0 := by
 obtain ⟨h5, hR, hE⟩ := NodT.ck_ok hk
 have hs := bl_sz hx h5
 by_cases h0 : x.l.toNat = 0
 ·have hd := bl_drop x
  rw [if_pos h0] at hd
  have hp : ∀ i, i < 4 → rN x.bl i = x.r i := fun i hi => by
   unfold rN
   rw [hd, prt_flat hx.lr (RecT.lensL hx.fr) hi RecT.zero]; exact RecT.l_of (hx.r i)
  refine ⟨?_, ?_⟩
  ·rw [gtN_R (l := x.bl) h0, bl_x, bl_j hx]
   have h1 : pg RecT.zero (rN x.bl) 4 = x.R := ext4 (pg_length _ _ _) hx.lr RecT.zero fun i hi => by rw [pg_getD _ _ _ hi, if_pos hi, hp i hi]; rfl
   have h2 : zerosE = x.E := (rest_zero (fun _ h => EntT.z_iff.1 h) hx.le (hR h0).1).symm
   rw [h1, h2]
  ·rw [geN_R hs h0]
   exact fst4_no fun i hi => by rw [hp i hi]; exact RecT.ck_zero.2 ((hR h0).2 i hi)
 ·have hd := bl_drop x
  rw [if_neg h0] at hd
  have hp : ∀ i, i < 4 → eN x.bl i = x.e i := fun i hi => by
   unfold eN
   rw [hd, prt_flat hx.le (EntT.lensL hx.fe) hi EntT.zero]; exact EntT.l_of (hx.e i)
  refine ⟨?_, ?_⟩
  ·rw [gtN_E (l := x.bl) h0, bl_x, bl_j hx]
   have h1 : pg EntT.zero (eN x.bl) 4 = x.E := ext4 (pg_length _ _ _) hx.le EntT.zero fun i hi => by rw [pg_getD _ _ _ hi, if_pos hi, hp i hi]; rfl
   have h2 : zerosR = x.R := (rest_zero (fun _ h => RecT.z_iff.1 h) hx.lr (hE h0).1).symm
   rw [h1, h2]
  ·rw [geN_E hs h0]
   exact fst4_no fun i hi => by rw [hp i hi]; exact EntT.ck_zero.2 ((hE h0).2 i hi)
/-! Whether a node fits. -/
open Classical in
noncomputable def ftN (n : Int) (x : NodT) : Int := if ¬ (1 ≤ n ∧ n ≤ 4096) then 1 else if x.ck ≠ 0 then x.ck else if ¬ IsP n.toNat x.l.toNat x.j then 17 else if ∀ i, pts n.toNat x.l.toNat x.j ≤ i → i < 4 → (x.r i).Z ∧ (x.e i).Z then 0 else 17
theorem ft_bad {n : Int} {x : NodT} (h : ¬ (1 ≤ n ∧ n ≤ 4096)) : ftN n x = 1 := if_pos h
theorem ft_ck {n : Nat} {x : NodT} (h1 : 1 ≤ n) (h2 : n ≤ 4096) (h : x.ck ≠ 0) : ftN n x = x.ck := by unfold ftN; rw [if_neg (by omega), if_pos h]
theorem ft_no {n : Nat} {x : NodT} (h1 : 1 ≤ n) (h2 : n ≤ 4096) (h : x.ck = 0) (hp : ¬ IsP n x.l.toNat x.j) : ftN n x = 17 := by unfold ftN; rw [if_neg (by omega), if_neg (by simp [h]), Int.toNat_natCast, if_pos hp]
theorem ft_ok {n : Nat} {x : NodT} (h1 : 1 ≤ n) (h2 : n ≤ 4096) (h : x.ck = 0) (hp : IsP n x.l.toNat x.j) (hz : ∀ i, pts n x.l.toNat x.j ≤ i → i < 4 → (x.r i).Z ∧ (x.e i).Z) : ftN n x = 0 := by unfold ftN; rw [if_neg (by omega), if_neg (by simp [h]), Int.toNat_natCast, if_neg (fun h => h hp), if_pos hz]
theorem ft_part {n : Nat} {x : NodT} (h1 : 1 ≤ n) (h2 : n ≤ 4096) (h : x.ck = 0) (hp : IsP n x.l.toNat x.j) (hz : ¬ ∀ i, pts n x.l.toNat x.j ≤ i → i < 4 → (x.r i).Z ∧ (x.e i).Z) : ftN n x = 17 := by unfold ftN; rw [if_neg (by omega), if_neg (by simp [h]), Int.toNat_natCast, if_neg (fun h => h hp), if_neg hz]
theorem NodT.Fit.rec_drop {x : NodT} (h : x.Fit) {m : Nat} (hm : m ≤ 4) : (x.v.drop (if 4 = m then 0 + 2 else 0 + 2 + m * 35)).take ((x.R.drop m).length * 35) = (x.R.drop m).flatMap RecT.v := by
 by_cases h4 : 4 = m
 ·subst h4
  rw [show x.R.drop 4 = [] from List.drop_eq_nil_of_le (by rw [h.lr]; exact Nat.le_refl _)]
  rw [List.length_nil, Nat.zero_mul, List.take_zero, List.flatMap_nil]
 ·rw [if_neg h4, Nat.zero_add, ← List.drop_drop]
  show List.take _ (List.drop (m * 35) (recsV x.R ++ entsV x.E)) = _
  rw [List.drop_append_of_le_length (by rw [h.lenR]; omega), recsV, flat_drop (RecT.lens h.fr), List.take_left' (flat_length (fun a ha => (h.fr a (List.mem_of_mem_drop ha)).len))]
theorem NodT.Fit.ent_drop {x : NodT} (h : x.Fit) {m : Nat} (hm : m ≤ 4) : (x.v.drop (if 4 = m then 0 + 142 else 0 + 142 + m * 33)).take ((x.E.drop m).length * 33) = (x.E.drop m).flatMap EntT.v := by
 by_cases h4 : 4 = m
 ·subst h4
  rw [show x.E.drop 4 = [] from List.drop_eq_nil_of_le (by rw [h.le]; exact Nat.le_refl _)]
  rw [List.length_nil, Nat.zero_mul, List.take_zero, List.flatMap_nil]
 ·rw [if_neg h4, Nat.zero_add, ← List.drop_drop]
  show List.take _ (List.drop (m * 33) (List.drop 140 (recsV x.R ++ entsV x.E))) = _
  rw [List.drop_left' h.lenR, entsV, flat_drop (EntT.lens h.fe), List.take_of_length_le (Nat.le_of_eq (flat_length (fun a ha => (h.fe a (List.mem_of_mem_drop ha)).len)))]
theorem drop_getD {α : Type} (L : List α) (m i : Nat) (z : α) : (L.drop m).getD i z = L.getD (m + i) z := by rw [List.getD_eq_getElem?_getD, List.getD_eq_getElem?_getD, List.getElem?_drop]
/-! Parts that are replaced. -/
noncomputable def cpN (x : NodT) (n : Int) (has : Bool) : Int := if ¬ (0 ≤ n ∧ n < 4) then 1 else if x.ck ≠ 0 then x.ck else if has = false then 1 else 0
noncomputable def wrE (x : NodT) (n : Int) (r : RecT) : Int := if cpN x n (decide (x.l.toNat = 0)) ≠ 0 then cpN x n (decide (x.l.toNat = 0)) else r.ck
noncomputable def weE (x : NodT) (n : Int) (r : EntT) : Int := if cpN x n (!(decide (x.l.toNat = 0))) ≠ 0 then cpN x n (!(decide (x.l.toNat = 0))) else r.ck
noncomputable def wrX (x : NodT) (n : Int) (r : RecT) : NodT := if wrE x n r = 0 then { x with R := x.R.set n.toNat r } else NodT.emp 0 0
noncomputable def weX (x : NodT) (n : Int) (r : EntT) : NodT := if weE x n r = 0 then { x with E := x.E.set n.toNat r } else NodT.emp 0 0
theorem cp_ok {x : NodT} {n : Int} {b : Bool} (h : cpN x n b = 0) : 0 ≤ n ∧ n < 4 ∧ x.ck = 0 ∧ b = true := by
 unfold cpN at h
 split at h
 ·cases h
 ·split at h
  ·rename_i h1; exact absurd h h1
  ·split at h
   ·cases h
   ·refine ⟨by omega, by omega, by simp_all, by simp_all⟩
/-! How many are used. -/
def usN (x : NodT) : Nat := cnt (fun i => if x.l.toNat = 0 then decide ((x.r i).x.toNat ≠ 0) else decide ((x.e i).x.toNat ≠ 0)) 4
theorem cnt_ext {p q : Nat → Bool} : ∀ {n : Nat}, (∀ i, i < n → p i = q i) → cnt p n = cnt q n
 | 0, _ => rfl
 | n + 1, h => by rw [cnt, cnt, cnt_ext (fun i hi => h i (by omega)), h n (by omega)]
theorem buildX0 (a : UInt8) : Tryd.prog.built 41 [(0, byteV a)] = some (NodT.emp a 0).v.toArray := by kernel_rfl
theorem buildX (a : UInt8) (j : Nat) : Tryd.prog.built 41 [(0, byteV a), (1, .int .u32 (j : Int))] = some (NodT.emp a j).v.toArray := by kernel_rfl

theorem sub_byt (l : List UInt8) (a b : Nat) : lst (((l.map byteD).take b).drop a) = byt ((l.drop a).take (b - a)) := by
 unfold byt
 rw [List.map_take, List.map_drop, List.drop_take]
theorem end_byt (l : List UInt8) (a : Nat) : lst (((l.map byteD).take l.length).drop a) = byt (l.drop a) := by
 unfold byt
 rw [List.take_of_length_le (by rw [List.length_map]; exact Nat.le_refl _), List.map_drop]
abbrev tabN : Env := (1900000, tab 0 sizV) :: tabs
theorem tabN_v : ∀ p ∈ tabN, vbase ≤ p.1 := fun p hp => (List.mem_cons.1 hp).elim (fun h => by subst h; decide) (tabs_v p)
theorem tabN_hi {w : World} (h : ∀ p ∈ tabN, p.2.Of w undef) : 2 < w.heap.size := tabs_hi fun p hp => h p (List.mem_cons_of_mem _ hp)
theorem px_get {l : List UInt8} (h : ¬ l.length = 0) : (l.map byteD)[0]? = some (byteD (pX l)) := by cases l with | nil => exact absurd rfl h | cons a l => rfl
theorem nSize_fn (l : List UInt8)  : FnM Tryd.prog 48 tabS [byt l] (.v (.int .i64 (szN l))) := by
 refine FnM.of Tryd.func48 rfl (by kernel_rfl) Tryd.ntmps48 (by simp) (by decide) (fun w => [(0, old w.heap.size (byt l)), (1900000, tab 0 (sizV))]) (fun w => (StartM.old rfl (StartM.m (by simp [tabS]) (by decide) StartM.nil))) fun w₀ hM => ?_
 have htab := tabS_hi hM
 refine GS ?_
 refine TL ?_
 refine RA rfl ?_
 refine RN ?_
 refine A.seq ?_
 refine A.block ?_
 refine GS ?_
 refine TL ?_
 refine RM rfl ?_
 refine RS (ok_lenB Tryd.underlying44 rfl LA) ?_
 refine RB rfl rfl rfl ?_
 refine RA rfl ?_
 refine RN ?_
 refine A.cond rfl (fun hc3 => ?_) (fun hc3 => ?_)
 ·have h0 : l.length = 0 := by simp at hc3; simp [hc3]
  refine GS ?_
  refine TL ?_
  refine RA rfl ?_
  refine RN ?_
  refine A.ret ?_
  refine End.ret_block ?_
  refine End.ret_then ?_
  exact End.ret1 rfl rfl (Le.v (congrArg (Value.int .i64) (by unfold szN; first | rw [if_pos h0] | rw [if_neg h0, if_pos h5] | rw [if_neg h0, if_neg h5, if_pos h6] | rw [if_neg h0, if_neg h5, if_neg h6, if_pos h7] | rw [if_neg h0, if_neg h5, if_neg h6, if_neg h7])))
 ·have h0 : ¬ l.length = 0 := by simp at hc3; simp [hc3]
  refine GS ?_
  refine TL ?_
  refine RM rfl ?_
  refine RS (ok_index (d := byteD (pX l)) Tryd.underlying44 info5 rfl LA rfl (by decide) (px_get h0)) ?_
  refine RS (ok_load Tryd.underlying5 rfl rfl) ?_
  refine RB rfl rfl rfl ?_
  refine RA rfl ?_
  refine RN ?_
  refine A.cond rfl (fun hc7 => ?_) (fun hc7 => ?_)
  ·have h5 : 5 < (pX l).toNat := by simp at hc7; omega
   refine GS ?_
   refine TL ?_
   refine RA rfl ?_
   refine RN ?_
   refine A.ret ?_
   refine End.ret_block ?_
   refine End.ret_then ?_
   exact End.ret1 rfl rfl (Le.v (congrArg (Value.int .i64) (by unfold szN; first | rw [if_pos h0] | rw [if_neg h0, if_pos h5] | rw [if_neg h0, if_neg h5, if_pos h6] | rw [if_neg h0, if_neg h5, if_neg h6, if_pos h7] | rw [if_neg h0, if_neg h5, if_neg h6, if_neg h7])))
  ·have h5 : ¬ 5 < (pX l).toNat := by simp at hc7; omega
   refine GS ?_
   refine TL ?_
   refine RM rfl ?_
   refine RS (ok_lenB Tryd.underlying44 rfl LA) ?_
   refine RM rfl ?_
   refine RS (ok_index (d := byteD (pX l)) Tryd.underlying44 info5 rfl LA rfl (by decide) (px_get h0)) ?_
   refine RS (ok_load Tryd.underlying5 rfl rfl) ?_
   refine RS (ok_index0 (pX l).toNat Tryd.underlying75 info3 rfl rfl rfl (by omega)) ?_
   refine RS (ok_loadVT (s := 1900000) (by decide) Tryd.underlying3 rfl rfl rfl (siz_get (by omega))) ?_
   refine RB rfl rfl rfl ?_
   refine RA rfl ?_
   refine RN ?_
   refine A.cond rfl (fun hc12 => ?_) (fun hc12 => ?_)
   ·have h6 : l.length < NodT.sz (pX l).toNat := by simp at hc12; omega
    refine GS ?_
    refine TL ?_
    refine RA rfl ?_
    refine RN ?_
    refine A.ret ?_
    refine End.ret_block ?_
    refine End.ret_then ?_
    exact End.ret1 rfl rfl (Le.v (congrArg (Value.int .i64) (by unfold szN; first | rw [if_pos h0] | rw [if_neg h0, if_pos h5] | rw [if_neg h0, if_neg h5, if_pos h6] | rw [if_neg h0, if_neg h5, if_neg h6, if_pos h7] | rw [if_neg h0, if_neg h5, if_neg h6, if_neg h7])))
   ·have h6 : ¬ l.length < NodT.sz (pX l).toNat := by simp at hc12; omega
    refine GS ?_
    refine TL ?_
    refine RM rfl ?_
    refine RS (ok_lenB Tryd.underlying44 rfl LA) ?_
    refine RM rfl ?_
    refine RS (ok_index (d := byteD (pX l)) Tryd.underlying44 info5 rfl LA rfl (by decide) (px_get h0)) ?_
    refine RS (ok_load Tryd.underlying5 rfl rfl) ?_
    refine RS (ok_index0 (pX l).toNat Tryd.underlying75 info3 rfl rfl rfl (by omega)) ?_
    refine RS (ok_loadVT (s := 1900000) (by decide) Tryd.underlying3 rfl rfl rfl (siz_get (by omega))) ?_
    refine RB rfl rfl rfl ?_
    refine RA rfl ?_
    refine RN ?_
    refine A.sub (KC 21 rfl (KC 1900000 rfl KN)) ?_
    refine A.cond rfl (fun hc21 => ?_) (fun hc21 => ?_)
    ·have h7 : NodT.sz (pX l).toNat < l.length := by simp at hc21; omega
     refine GS ?_
     refine TL ?_
     refine RA rfl ?_
     refine RN ?_
     refine A.ret ?_
     refine End.ret_block ?_
     refine End.ret_then ?_
     exact End.ret1 rfl rfl (Le.v (congrArg (Value.int .i64) (by unfold szN; first | rw [if_pos h0] | rw [if_neg h0, if_pos h5] | rw [if_neg h0, if_neg h5, if_pos h6] | rw [if_neg h0, if_neg h5, if_neg h6, if_pos h7] | rw [if_neg h0, if_neg h5, if_neg h6, if_neg h7])))
    ·have h7 : ¬ NodT.sz (pX l).toNat < l.length := by simp at hc21; omega
     refine A.skip ?_
     refine End.normal_block ?_
     refine EN ?_
     refine GS ?_
     refine TL ?_
     refine RA rfl ?_
     refine RN ?_
     refine A.ret ?_
     exact End.ret1 rfl rfl (Le.v (congrArg (Value.int .i64) (by unfold szN; first | rw [if_pos h0] | rw [if_neg h0, if_pos h5] | rw [if_neg h0, if_neg h5, if_pos h6] | rw [if_neg h0, if_neg h5, if_neg h6, if_pos h7] | rw [if_neg h0, if_neg h5, if_neg h6, if_neg h7])))
theorem GetRecord_any (l : List UInt8) (h : l.length = 45) : Fn Tryd.prog 51 [byt l] (.v (.tuple #[aggV (RecT.any l).v, .int .i64 (RecT.of l).ck])) := by
 by_cases hk : (RecT.of l).ck = 0
 ·rw [RecT.any_ok hk, hk]; exact GetRecord_ok l h (RecT.ck_zero.1 hk)
 ·rw [show RecT.any l = RecT.zero from if_neg hk, (RecT.of l).ck_one.resolve_left hk]; exact GetRecord_bad l h (RecT.ck_bad hk)
theorem nytR {f : Nat → Int} {i : Nat} (hF : fst4 f ≠ 0) (hG : i < 4 ∧ ∀ j, j < i → f j = 0) (hk : f i = 0) : i + 1 < 4 ∧ ∀ j, j < i + 1 → f j = 0 := by
 have h1 : ∀ j, j < i + 1 → f j = 0 := fun j hj => (Nat.lt_or_ge j i).elim (hG.2 j) fun h => by rw [show j = i from by omega]; exact hk
 refine ⟨?_, h1⟩
 rcases Nat.lt_or_ge (i + 1) 4 with h | h
 ·exact h
 ·exact absurd (fst4_no fun k hk => h1 k (by omega)) hF
theorem getPartsR_bad (l : List UInt8) (h : l.length = 4 * 45) (hF : (fst4 fun i => (RecT.of (prt 45 l i)).ck) ≠ 0) : Fn Tryd.prog 50 [byt l, .v (.func (.func 51) #[] #[])] (.v (.tuple #[aggV (recsV zerosR), .int .i64 (fst4 fun i => (RecT.of (prt 45 l i)).ck)])) := by
 refine Fn.of Tryd.func50 rfl (by kernel_rfl) Tryd.ntmps50 (by simp) (fun w => [(0, old w.heap.size (byt l)), (1, .v (.func (.func 51) #[] #[]))]) (fun w => (Start.old rfl (Start.v rfl Start.nil))) fun w₀ => ?_
 refine GS ?_
 refine TN 0 ?_
 refine RN ?_
 refine ⟨_, _, eff_alloc (n := 40) (d := 4) (k := 1000004) zero36 (by decide), fun b4 hb4 => ?_⟩
 have hBb4 := hb4.1
 refine TL ?_
 refine RA rfl ?_
 refine RN ?_
 refine GS ?_
 refine TN 0 ?_
 refine RN ?_
 refine ⟨_, _, eff_alloc (n := 40) (d := 6) (k := 1000006) zero36 (by decide), fun b6 hb6 => ?_⟩
 have hBb6 := hb6.1
 have hlt_b4_b6 : b4 < b6 := hb6.2 1000004 _ _ _ rfl
 refine TL ?_
 refine RN ?_
 refine GS ?_
 refine TL ?_
 refine RM rfl ?_
 refine RS (ok_lenB Tryd.underlying44 rfl LA) ?_
 refine RS (ok_div rfl rfl (by decide)) ?_; refine RZ (nI (45)) (by rw [h, tdiv_lit _ (by decide)]; rfl) ?_
 refine RA rfl ?_
 refine RN ?_
 refine A.seq ?_
 refine GS ?_
 refine TL ?_
 refine RM rfl ?_
 refine RN ?_
 refine A.block ?_
 refine A.loop (ι := Nat) (fun i => i < 4 ∧ ∀ j, j < i → (RecT.of (prt 45 l j)).ck = 0) (fun i => [(0, old w₀.heap.size (byt l)), (1, .v (.func (.func 51) #[] #[])), (4, .v (ptr b4)), (6, .v (ptr b6)), (7, .v (nI (45))), (14, .v (nI (i))), (1000004, blk b4 36 (recsV zerosR)), (1000006, blk b6 36 (recsV (pg RecT.zero (fun i => RecT.of (prt 45 l i)) i)))]) (fun i => 4 - i) 0 ?_ ?_ ?_
 ·exact ⟨by decide, fun j h => absurd h (Nat.not_lt_zero _)⟩
 ·exact (KC 0 rfl (KC 1 rfl (KC 4 rfl (KC 6 rfl (KC 7 rfl (KE 14 rfl (by rfl) (KC 1000004 rfl (KE 1000006 rfl (by rfl) KN))))))))
 intro i hG
 have hi := hG.1
 refine GS ?_
 refine TL ?_
 refine RBS rfl rfl rfl (.bool true) (by have := hG.1; simp; omega) ?_
 refine RN ?_
 refine A.seq ?_
 refine A.yes rfl ?_
 refine A.skip ?_
 refine EN ?_
 refine A.seq ?_
 refine A.block ?_
 refine GS ?_
 refine TL ?_
 refine RM rfl ?_
 refine RA rfl ?_
 refine RN ?_
 refine GS ?_
 refine TN 14 ?_
 refine RM rfl ?_
 refine RM rfl ?_
 refine RM rfl ?_
 refine RM rfl ?_
 refine RBS rfl rfl rfl (nI (45 * i)) (wrap_eq (by omega) (by omega)) ?_
 refine RM rfl ?_
 refine RM rfl ?_
 refine RBS rfl rfl rfl (nI (i + 1)) (wrap_eq (by omega) (by omega)) ?_
 refine RBS rfl rfl rfl (nI (45 * (i + 1))) (wrap_eq (by omega) (by omega)) ?_
 refine RS (ok_sliceO (45 * i) (45 * (i + 1)) Tryd.underlying44 info5 rfl (Le.refl _) (.inl ⟨_, _, rfl, rfl⟩) (.inl ⟨_, _, rfl, rfl⟩) (by omega) (by rw [List.length_map, h]; omega)) ?_
 refine RS (ok_callV0 (GetRecord_any (prt 45 l i) (prt_len h hi)) rfl (Args.cons rfl ((Le.old _ _).trans (Le.eq (prt_byt 45 l i))) Args.nil)) ?_
 refine RM rfl ?_
 refine RS (ok_extractV rfl rfl) ?_
 refine RS (ok_extractV rfl rfl) ?_
 refine RN ?_
 refine ⟨_, _, eff_alloc (n := 40) (d := 9) (k := 1000009) zero35 (by decide), fun b9 hb9 => ?_⟩
 have hBb9 := hb9.1
 refine TF 15 ?_
 refine RN ?_
 refine ⟨_, eff_storeA (n := 40) (s := 1000009) (size35.of ((RecT.any_fit (prt_len h hi)).len)) rfl rfl (by first | exact NodT.one _ | exact RecT.one _ | exact EntT.one _ | exact RecT.all1 _ | exact EntT.all1 _ | exact all_byte _ | exact all_bytes _) hBb9 rfl (by first | rfl | (rw [(RecT.any_fit (prt_len h hi)).len]; rfl)) (LO 0 rfl (LV 1 rfl (LV 4 rfl (LV 6 rfl (LV 7 rfl (LV 8 rfl (LV 9 rfl (LV 14 rfl (LV 30 rfl (LT 1000004 rfl (LT 1000006 rfl LN))))))))))), ?_⟩
 refine TL ?_
 refine RA rfl ?_
 refine RN ?_
 refine A.seq ?_
 refine GS ?_
 refine TL ?_
 refine RM rfl ?_
 refine RB rfl rfl rfl ?_
 refine RN ?_
 refine A.cond rfl (fun hc32 => ?_) (fun hc32 => ?_)
 ·have hk : (RecT.of (prt 45 l i)).ck ≠ 0 := by simpa using hc32
  refine GS ?_
  refine TF 2 ?_
  refine RS (ok_lit [] (recsV zerosR) (fun _ _ => rfl) (by kernel_rfl)) ?_
  refine RM rfl ?_; refine RZ (.int .i64 (fst4 fun i => (RecT.of (prt 45 l i)).ck)) (congrArg (Value.int .i64) (fst4_at (f := fun i => (RecT.of (prt 45 l i)).ck) hi hG.2 hk)) ?_
  refine RN ?_
  refine ⟨_, eff_storeA (n := 40) (s := 1000004) (size36.of (rfl)) rfl rfl (RecT.all1 _) hBb4 rfl (rfl) (LV 4 rfl (LV 34 rfl (LB 1000006 rfl (LT 1000009 rfl LN)))), ?_⟩
  refine TL ?_
  refine RA rfl ?_
  refine RN ?_
  refine A.sub (KC 4 rfl (KC 5 rfl (KC 1000004 rfl (KC 1000006 rfl (KC 1000009 rfl KN))))) ?_
  refine A.ret ?_
  refine End.ret_then ?_
  refine End.ret_block ?_
  refine End.ret_then ?_
  refine End.ret_then ?_
  refine End.ret_block ?_
  refine End.ret_then ?_
  exact End.cellV (s := 1000004) rfl Tryd.underlying36 rfl (size36.of rfl) rfl rfl rfl
 ·have hk : (RecT.of (prt 45 l i)).ck = 0 := by simpa using hc32
  refine A.skip ?_
  refine EN ?_
  refine GE ?_
  refine TF 3 ?_
  refine RM rfl ?_
  refine RS (ok_loadA (s := 1000009) (by decide) Tryd.underlying35 rfl (size35.of ((RecT.any_fit (prt_len h hi)).len)) rfl rfl) ?_; refine RZ (aggV (RecT.of (prt 45 l i)).v) (by rw [RecT.any_ok hk]) ?_
  refine RS (ok_indexN _ Tryd.underlying36 size35 rfl rfl (rfl) (by omega)) ?_
  refine RN ?_
  refine ⟨_, eff_storeP (n := 40) (s := 1000006) (size35.of ((RecT.of_fit (prt_len h hi)).len)) rfl rfl (RecT.one _) hBb6 rfl (by rw [(RecT.of_fit (prt_len h hi)).len, pg_lens RecT.zero_fit.len (fun i hi => (RecT.of_fit (prt_len h hi)).len)]; omega) (LO 0 rfl (LV 1 rfl (LV 4 rfl (LV 6 rfl (LV 7 rfl (LV 14 rfl (LB 1000004 rfl (LT 1000009 rfl LN)))))))), ?_⟩
  refine TL ?_
  refine RN ?_
  refine End.sub (KC 0 rfl (KC 1 rfl (KC 4 rfl (KC 6 rfl (KC 7 rfl (KC 14 rfl (KC 1000004 rfl (KE 1000006 rfl (show _ = blk b6 36 _ from congrArg _ (pg_store RecT.zero_fit.len (fun i hi => (RecT.of_fit (prt_len h hi)).len) hi)) (KC 1000009 rfl KN))))))))) ?_
  refine End.normal_block ?_
  refine EN ?_
  refine GE ?_
  refine TL ?_
  refine RBS rfl rfl rfl (nI (i + 1)) (wrap_eq (by omega) (by omega)) ?_
  refine RM rfl ?_
  refine RN ?_
  refine End.normal_then ?_
  refine End.again (i + 1) ?_ ?_ ?_
  ·exact nytR (f := fun i => (RecT.of (prt 45 l i)).ck) hF hG hk
  ·show _ - _ < _ - _; omega
  ·exact (KC 0 rfl (KC 1 rfl (KC 4 rfl (KC 6 rfl (KC 7 rfl (KC 14 rfl (KC 1000004 rfl (KC 1000006 rfl KN))))))))
theorem GetEntry_any (l : List UInt8) (h : l.length = 33) : Fn Tryd.prog 53 [byt l] (.v (.tuple #[aggV (EntT.any l).v, .int .i64 (EntT.of l).ck])) := by
 by_cases hk : (EntT.of l).ck = 0
 ·rw [EntT.any_ok hk, hk]; exact GetEntry_ok l h (EntT.ck_zero.1 hk)
 ·rw [show EntT.any l = EntT.zero from if_neg hk, (EntT.of l).ck_one.resolve_left hk]; exact GetEntry_bad l h (EntT.ck_bad hk)
theorem nytE {f : Nat → Int} {i : Nat} (hF : fst4 f ≠ 0) (hG : i < 4 ∧ ∀ j, j < i → f j = 0) (hk : f i = 0) : i + 1 < 4 ∧ ∀ j, j < i + 1 → f j = 0 := by
 have h1 : ∀ j, j < i + 1 → f j = 0 := fun j hj => (Nat.lt_or_ge j i).elim (hG.2 j) fun h => by rw [show j = i from by omega]; exact hk
 refine ⟨?_, h1⟩
 rcases Nat.lt_or_ge (i + 1) 4 with h | h
 ·exact h
 ·exact absurd (fst4_no fun k hk => h1 k (by omega)) hF
theorem getPartsE_bad (l : List UInt8) (h : l.length = 4 * 33) (hF : (fst4 fun i => (EntT.of (prt 33 l i)).ck) ≠ 0) : Fn Tryd.prog 52 [byt l, .v (.func (.func 53) #[] #[])] (.v (.tuple #[aggV (entsV zerosE), .int .i64 (fst4 fun i => (EntT.of (prt 33 l i)).ck)])) := by
 refine Fn.of Tryd.func52 rfl (by kernel_rfl) Tryd.ntmps52 (by simp) (fun w => [(0, old w.heap.size (byt l)), (1, .v (.func (.func 53) #[] #[]))]) (fun w => (Start.old rfl (Start.v rfl Start.nil))) fun w₀ => ?_
 refine GS ?_
 refine TN 0 ?_
 refine RN ?_
 refine ⟨_, _, eff_alloc (n := 40) (d := 4) (k := 1000004) zero39 (by decide), fun b4 hb4 => ?_⟩
 have hBb4 := hb4.1
 refine TL ?_
 refine RA rfl ?_
 refine RN ?_
 refine GS ?_
 refine TN 0 ?_
 refine RN ?_
 refine ⟨_, _, eff_alloc (n := 40) (d := 6) (k := 1000006) zero39 (by decide), fun b6 hb6 => ?_⟩
 have hBb6 := hb6.1
 have hlt_b4_b6 : b4 < b6 := hb6.2 1000004 _ _ _ rfl
 refine TL ?_
 refine RN ?_
 refine GS ?_
 refine TL ?_
 refine RM rfl ?_
 refine RS (ok_lenB Tryd.underlying44 rfl LA) ?_
 refine RS (ok_div rfl rfl (by decide)) ?_; refine RZ (nI (33)) (by rw [h, tdiv_lit _ (by decide)]; rfl) ?_
 refine RA rfl ?_
 refine RN ?_
 refine A.seq ?_
 refine GS ?_
 refine TL ?_
 refine RM rfl ?_
 refine RN ?_
 refine A.block ?_
 refine A.loop (ι := Nat) (fun i => i < 4 ∧ ∀ j, j < i → (EntT.of (prt 33 l j)).ck = 0) (fun i => [(0, old w₀.heap.size (byt l)), (1, .v (.func (.func 53) #[] #[])), (4, .v (ptr b4)), (6, .v (ptr b6)), (7, .v (nI (33))), (14, .v (nI (i))), (1000004, blk b4 39 (entsV zerosE)), (1000006, blk b6 39 (entsV (pg EntT.zero (fun i => EntT.of (prt 33 l i)) i)))]) (fun i => 4 - i) 0 ?_ ?_ ?_
 ·exact ⟨by decide, fun j h => absurd h (Nat.not_lt_zero _)⟩
 ·exact (KC 0 rfl (KC 1 rfl (KC 4 rfl (KC 6 rfl (KC 7 rfl (KE 14 rfl (by rfl) (KC 1000004 rfl (KE 1000006 rfl (by rfl) KN))))))))
 intro i hG
 have hi := hG.1
 refine GS ?_
 refine TL ?_
 refine RBS rfl rfl rfl (.bool true) (by have := hG.1; simp; omega) ?_
 refine RN ?_
 refine A.seq ?_
 refine A.yes rfl ?_
 refine A.skip ?_
 refine EN ?_
 refine A.seq ?_
 refine A.block ?_
 refine GS ?_
 refine TL ?_
 refine RM rfl ?_
 refine RA rfl ?_
 refine RN ?_
 refine GS ?_
 refine TN 14 ?_
 refine RM rfl ?_
 refine RM rfl ?_
 refine RM rfl ?_
 refine RM rfl ?_
 refine RBS rfl rfl rfl (nI (33 * i)) (wrap_eq (by omega) (by omega)) ?_
 refine RM rfl ?_
 refine RM rfl ?_
 refine RBS rfl rfl rfl (nI (i + 1)) (wrap_eq (by omega) (by omega)) ?_
 refine RBS rfl rfl rfl (nI (33 * (i + 1))) (wrap_eq (by omega) (by omega)) ?_
 refine RS (ok_sliceO (33 * i) (33 * (i + 1)) Tryd.underlying44 info5 rfl (Le.refl _) (.inl ⟨_, _, rfl, rfl⟩) (.inl ⟨_, _, rfl, rfl⟩) (by omega) (by rw [List.length_map, h]; omega)) ?_
 refine RS (ok_callV0 (GetEntry_any (prt 33 l i) (prt_len h hi)) rfl (Args.cons rfl ((Le.old _ _).trans (Le.eq (prt_byt 33 l i))) Args.nil)) ?_
 refine RM rfl ?_
 refine RS (ok_extractV rfl rfl) ?_
 refine RS (ok_extractV rfl rfl) ?_
 refine RN ?_
 refine ⟨_, _, eff_alloc (n := 40) (d := 9) (k := 1000009) zero38 (by decide), fun b9 hb9 => ?_⟩
 have hBb9 := hb9.1
 refine TF 15 ?_
 refine RN ?_
 refine ⟨_, eff_storeA (n := 40) (s := 1000009) (size38.of ((EntT.any_fit (prt_len h hi)).len)) rfl rfl (by first | exact NodT.one _ | exact RecT.one _ | exact EntT.one _ | exact RecT.all1 _ | exact EntT.all1 _ | exact all_byte _ | exact all_bytes _) hBb9 rfl (by first | rfl | (rw [(EntT.any_fit (prt_len h hi)).len]; rfl)) (LO 0 rfl (LV 1 rfl (LV 4 rfl (LV 6 rfl (LV 7 rfl (LV 8 rfl (LV 9 rfl (LV 14 rfl (LV 30 rfl (LT 1000004 rfl (LT 1000006 rfl LN))))))))))), ?_⟩
 refine TL ?_
 refine RA rfl ?_
 refine RN ?_
 refine A.seq ?_
 refine GS ?_
 refine TL ?_
 refine RM rfl ?_
 refine RB rfl rfl rfl ?_
 refine RN ?_
 refine A.cond rfl (fun hc32 => ?_) (fun hc32 => ?_)
 ·have hk : (EntT.of (prt 33 l i)).ck ≠ 0 := by simpa using hc32
  refine GS ?_
  refine TF 2 ?_
  refine RS (ok_lit [] (entsV zerosE) (fun _ _ => rfl) (by kernel_rfl)) ?_
  refine RM rfl ?_; refine RZ (.int .i64 (fst4 fun i => (EntT.of (prt 33 l i)).ck)) (congrArg (Value.int .i64) (fst4_at (f := fun i => (EntT.of (prt 33 l i)).ck) hi hG.2 hk)) ?_
  refine RN ?_
  refine ⟨_, eff_storeA (n := 40) (s := 1000004) (size39.of (rfl)) rfl rfl (EntT.all1 _) hBb4 rfl (rfl) (LV 4 rfl (LV 34 rfl (LB 1000006 rfl (LT 1000009 rfl LN)))), ?_⟩
  refine TL ?_
  refine RA rfl ?_
  refine RN ?_
  refine A.sub (KC 4 rfl (KC 5 rfl (KC 1000004 rfl (KC 1000006 rfl (KC 1000009 rfl KN))))) ?_
  refine A.ret ?_
  refine End.ret_then ?_
  refine End.ret_block ?_
  refine End.ret_then ?_
  refine End.ret_then ?_
  refine End.ret_block ?_
  refine End.ret_then ?_
  exact End.cellV (s := 1000004) rfl Tryd.underlying39 rfl (size39.of rfl) rfl rfl rfl
 ·have hk : (EntT.of (prt 33 l i)).ck = 0 := by simpa using hc32
  refine A.skip ?_
  refine EN ?_
  refine GE ?_
  refine TF 3 ?_
  refine RM rfl ?_
  refine RS (ok_loadA (s := 1000009) (by decide) Tryd.underlying38 rfl (size38.of ((EntT.any_fit (prt_len h hi)).len)) rfl rfl) ?_; refine RZ (aggV (EntT.of (prt 33 l i)).v) (by rw [EntT.any_ok hk]) ?_
  refine RS (ok_indexN _ Tryd.underlying39 size38 rfl rfl (rfl) (by omega)) ?_
  refine RN ?_
  refine ⟨_, eff_storeP (n := 40) (s := 1000006) (size38.of ((EntT.of_fit (prt_len h hi)).len)) rfl rfl (EntT.one _) hBb6 rfl (by rw [(EntT.of_fit (prt_len h hi)).len, pg_lens EntT.zero_fit.len (fun i hi => (EntT.of_fit (prt_len h hi)).len)]; omega) (LO 0 rfl (LV 1 rfl (LV 4 rfl (LV 6 rfl (LV 7 rfl (LV 14 rfl (LB 1000004 rfl (LT 1000009 rfl LN)))))))), ?_⟩
  refine TL ?_
  refine RN ?_
  refine End.sub (KC 0 rfl (KC 1 rfl (KC 4 rfl (KC 6 rfl (KC 7 rfl (KC 14 rfl (KC 1000004 rfl (KE 1000006 rfl (show _ = blk b6 39 _ from congrArg _ (pg_store EntT.zero_fit.len (fun i hi => (EntT.of_fit (prt_len h hi)).len) hi)) (KC 1000009 rfl KN))))))))) ?_
  refine End.normal_block ?_
  refine EN ?_
  refine GE ?_
  refine TL ?_
  refine RBS rfl rfl rfl (nI (i + 1)) (wrap_eq (by omega) (by omega)) ?_
  refine RM rfl ?_
  refine RN ?_
  refine End.normal_then ?_
  refine End.again (i + 1) ?_ ?_ ?_
  ·exact nytE (f := fun i => (EntT.of (prt 33 l i)).ck) hF hG hk
  ·show _ - _ < _ - _; omega
  ·exact (KC 0 rfl (KC 1 rfl (KC 4 rfl (KC 6 rfl (KC 7 rfl (KC 14 rfl (KC 1000004 rfl (KC 1000006 rfl KN))))))))
theorem nGet_sz (l : List UInt8) (h : szN l ≠ 0) : FnM Tryd.prog 14 tabS [byt l] (.v (.tuple #[aggV (NodT.emp 0 0).v, .int .i64 (szN l)])) := by
 refine FnM.of Tryd.func14 rfl (by kernel_rfl) Tryd.ntmps14 (by simp) (by decide) (fun w => [(0, old w.heap.size (byt l)), (1900000, tab 0 (sizV))]) (fun w => (StartM.old rfl (StartM.m (by simp [tabS]) (by decide) StartM.nil))) fun w₀ hM => ?_
 have htab := tabS_hi hM
 refine GS ?_
 refine TN 0 ?_
 refine RN ?_
 refine ⟨_, _, eff_alloc (n := 45) (d := 2) (k := 1000002) zero41 (by decide), fun b2 hb2 => ?_⟩
 have hBb2 := hb2.1
 refine TL ?_
 refine RA rfl ?_
 refine RN ?_
 refine A.seq ?_
 refine GS ?_
 refine TL ?_
 refine RM rfl ?_
 refine RS (ok_callM (nSize_fn l) (Sub.cons rfl KN) tabS_v (Args.cons rfl (Le.old _ _) Args.nil)) ?_
 refine RA rfl ?_
 refine RN ?_
 refine GS ?_
 refine TL ?_
 refine RM rfl ?_
 refine RBS rfl rfl rfl (.bool true) (by first | rfl | (simp; done) | (simp; omega) | (simp [*]; done) | (simp [*]; omega)) ?_
 refine RN ?_
 refine A.yes rfl ?_
 refine GS ?_
 refine TF 2 ?_
 refine RS (ok_lit [] (NodT.v (NodT.emp 0 0)) (fun _ _ => rfl) (by kernel_rfl)) ?_
 refine RM rfl ?_
 refine RN ?_
 refine ⟨_, eff_storeA (n := 45) (s := 1000002) (size41.of (rfl)) rfl rfl (by first | exact NodT.one _ | exact RecT.one _ | exact EntT.one _ | exact RecT.all1 _ | exact EntT.all1 _ | exact all_byte _ | exact all_bytes _) hBb2 rfl (by first | rfl | (rw [rfl]; rfl)) (LV 2 rfl (LV 12 rfl (LeftS.cons (t := 1900000) rfl (Surv.tab (by omega)) LN))), ?_⟩
 refine TL ?_
 refine RA rfl ?_
 refine RN ?_
 refine A.ret ?_
 refine End.ret_then ?_
 exact End.cellV (s := 1000002) rfl Tryd.underlying41 rfl (size41.of (rfl)) rfl rfl rfl
set_option maxHeartbeats 2000000 in
theorem nGet_R0 (l : List UInt8) (h : szN l = 0) (h0' : (pX l).toNat = 0) (hF : (fst4 fun i => (rN l i).ck) ≠ 0) : FnM Tryd.prog 14 tabS [byt l] (.v (.tuple #[aggV (NodT.emp 0 0).v, .int .i64 (fst4 fun i => (rN l i).ck)])) := by
 obtain ⟨h1, h2⟩ := lenR h h0'
 have h0 : ¬ l.length = 0 := by omega
 have hxf : NodT.Fit (⟨pX l, jN l, pg RecT.zero (rN l) 4, zerosE⟩ : NodT) := by have := gtN_fit h; rwa [gtN_R h0'] at this
 refine FnM.of Tryd.func14 rfl (by kernel_rfl) Tryd.ntmps14 (by simp) (by decide) (fun w => [(0, old w.heap.size (byt l)), (1900000, tab 0 (sizV))]) (fun w => (StartM.old rfl (StartM.m (by simp [tabS]) (by decide) StartM.nil))) fun w₀ hM => ?_
 have htab := tabS_hi hM
 refine GS ?_
 refine TN 0 ?_
 refine RN ?_
 refine ⟨_, _, eff_alloc (n := 45) (d := 2) (k := 1000002) zero41 (by decide), fun b2 hb2 => ?_⟩
 have hBb2 := hb2.1
 refine TL ?_
 refine RA rfl ?_
 refine RN ?_
 refine A.seq ?_
 refine GS ?_
 refine TL ?_
 refine RM rfl ?_
 refine RS (ok_callM (nSize_fn l) (Sub.cons rfl KN) tabS_v (Args.cons rfl (Le.old _ _) Args.nil)) ?_; refine RZ (.int .i64 0) (by rw [h]) ?_
 refine RA rfl ?_
 refine RN ?_
 refine GS ?_
 refine TL ?_
 refine RM rfl ?_
 refine RBS rfl rfl rfl (.bool false) (by first | rfl | (simp; done) | (simp; omega) | (simp [*]; done) | (simp [*]; omega)) ?_
 refine RN ?_
 refine A.no rfl ?_
 refine A.skip ?_
 refine EN ?_
 refine GS ?_
 refine TN 4 ?_
 refine RM rfl ?_
 refine RS (ok_index (d := byteD (pX l)) Tryd.underlying44 info5 rfl LA rfl (by decide) (px_get h0)) ?_
 refine RS (ok_load Tryd.underlying5 rfl rfl) ?_
 refine RS (ok_litS [(0, byteV (pX l))] (NodT.emp (pX l) 0).v ⟨rfl, rfl, trivial⟩ (buildX0 _)) ?_
 refine RN ?_
 refine ⟨_, _, eff_alloc (n := 45) (d := 5) (k := 1000005) zero41 (by decide), fun b5 hb5 => ?_⟩
 have hBb5 := hb5.1
 have hlt_b2_b5 : b2 < b5 := hb5.2 1000002 _ _ _ rfl
 refine TF 5 ?_
 refine RN ?_
 refine ⟨_, eff_storeA (n := 45) (s := 1000005) (size41.of (rfl)) rfl rfl (by first | exact NodT.one _ | exact RecT.one _ | exact EntT.one _ | exact RecT.all1 _ | exact EntT.all1 _ | exact all_byte _ | exact all_bytes _) hBb5 rfl (by first | rfl | (rw [rfl]; rfl)) (LO 0 rfl (LV 2 rfl (LV 5 rfl (LB 1000002 rfl (LeftS.cons (t := 1900000) rfl (Surv.tab (by omega)) LN))))), ?_⟩
 refine TL ?_
 refine RN ?_
 refine GS ?_
 refine TF 7 ?_
 refine RM rfl ?_
 refine RS (ok_sliceO 1 5 Tryd.underlying44 info5 rfl (Le.refl _) (.inl ⟨_, _, rfl, rfl⟩) (.inl ⟨_, _, rfl, rfl⟩) (by decide) (by rw [List.length_map]; omega)) ?_
 refine RS (ok_call (Get32_fn ((l.drop 1).take 4)) (Args.cons rfl ((Le.old _ _).trans (Le.eq (sub_byt l 1 5))) Args.nil)) ?_
 refine RM rfl ?_
 refine RS (ok_extract rfl rfl) ?_; refine RZ (.int .u32 (jN l : Int)) (congrArg (Value.int .u32) (getV_nat _ 4).symm) ?_
 refine RS (ok_extract rfl rfl) ?_
 refine RS (ok_field field41_1 (by decide) rfl) ?_
 refine RN ?_
 refine ⟨_, eff_storeS (n := 45) (s := 1000005) info28 rfl rfl rfl hBb5 rfl (by rw [(NodT.emp_fit (pX l) (by decide)).len]; decide) (LO 0 rfl (LV 2 rfl (LV 5 rfl (LB 1000002 rfl (LeftS.cons (t := 1900000) rfl (Surv.tab (by omega)) LN))))), ?_⟩
 refine TL ?_
 refine RN ?_
 refine A.sub (KC 0 rfl (KC 2 rfl (KC 5 rfl (KC 1000002 rfl (KE 1000005 rfl (show _ = blk b5 41 (NodT.emp (pX l) (jN l)).v from rfl) (KC 1900000 rfl KN)))))) ?_
 refine GS ?_
 refine TL ?_
 refine RA rfl ?_
 refine RN ?_
 refine A.seq ?_
 refine GS ?_
 refine TL ?_
 refine RS (ok_loadA (s := 1000005) (by decide) Tryd.underlying41 rfl (size41.of ((NodT.emp_fit (pX l) (jN_lt l)).len)) rfl rfl) ?_
 refine RS (ok_call (isGroup_y (NodT.emp (pX l) (jN l)) (NodT.emp_fit _ (jN_lt l)) h0') (A1 rfl)) ?_
 refine RN ?_
 refine A.yes rfl ?_
 refine GE ?_
 refine TF 7 ?_
 refine RM rfl ?_
 refine RS (ok_sliceO 5 l.length Tryd.underlying44 info5 rfl (Le.refl _) (.inl ⟨_, _, rfl, rfl⟩) (.inr ⟨rfl, by rw [List.length_map]⟩) (by omega) (by rw [List.length_map]; exact Nat.le_refl _)) ?_
 refine RS (ok_call (getPartsR_bad (l.drop 5) h2 hF) (Args.cons rfl ((Le.old _ _).trans (Le.eq (end_byt l 5))) (A1 rfl))) ?_
 refine RM rfl ?_
 refine RS (ok_extractV rfl rfl) ?_
 refine RS (ok_extractV rfl rfl) ?_
 refine RS (ok_field field41_2 (by decide) rfl) ?_
 refine RN ?_
 refine ⟨_, eff_storeP (n := 45) (s := 1000005) (size36.of (rfl)) rfl rfl (RecT.all1 _) hBb5 rfl (by rw [(NodT.emp_fit (pX l) (jN_lt l)).len]; decide) (LV 2 rfl (LV 5 rfl (LV 31 rfl (LB 1000002 rfl (LeftS.cons (t := 1900000) rfl (Surv.tab (by omega)) LN))))), ?_⟩
 refine TL ?_
 refine RA rfl ?_
 refine RN ?_
 refine EN ?_
 refine A.seq ?_
 refine GS ?_
 refine TL ?_
 refine RM rfl ?_
 refine RBS rfl rfl rfl (.bool true) (by first | rfl | (simp; done) | (simp; omega) | (simp [*]; done) | (simp [*]; omega)) ?_
 refine RN ?_
 refine A.yes rfl ?_
 refine GS ?_
 refine TF 2 ?_
 refine RS (ok_lit [] (NodT.v (NodT.emp 0 0)) (fun _ _ => rfl) (by kernel_rfl)) ?_
 refine RM rfl ?_
 refine RN ?_
 refine ⟨_, eff_storeA (n := 45) (s := 1000002) (size41.of (rfl)) rfl rfl (by first | exact NodT.one _ | exact RecT.one _ | exact EntT.one _ | exact RecT.all1 _ | exact EntT.all1 _ | exact all_byte _ | exact all_bytes _) hBb2 rfl (by first | rfl | (rw [rfl]; rfl)) (LV 2 rfl (LV 43 rfl (LB 1000005 rfl (LeftS.cons (t := 1900000) rfl (Surv.tab (by omega)) LN)))), ?_⟩
 refine TL ?_
 refine RA rfl ?_
 refine RN ?_
 refine A.ret ?_
 refine End.ret_then ?_
 exact End.cellV (s := 1000002) rfl Tryd.underlying41 rfl (size41.of (rfl)) rfl rfl rfl
set_option maxHeartbeats 2000000 in
theorem nGet_E0 (l : List UInt8) (h : szN l = 0) (h0' : ¬ (pX l).toNat = 0) (hF : (fst4 fun i => (eN l i).ck) ≠ 0) : FnM Tryd.prog 14 tabS [byt l] (.v (.tuple #[aggV (NodT.emp 0 0).v, .int .i64 (fst4 fun i => (eN l i).ck)])) := by
 obtain ⟨h1, h2⟩ := lenE h h0'
 have h0 : ¬ l.length = 0 := by omega
 have hxf : NodT.Fit (⟨pX l, jN l, zerosR, pg EntT.zero (eN l) 4⟩ : NodT) := by have := gtN_fit h; rwa [gtN_E h0'] at this
 refine FnM.of Tryd.func14 rfl (by kernel_rfl) Tryd.ntmps14 (by simp) (by decide) (fun w => [(0, old w.heap.size (byt l)), (1900000, tab 0 (sizV))]) (fun w => (StartM.old rfl (StartM.m (by simp [tabS]) (by decide) StartM.nil))) fun w₀ hM => ?_
 have htab := tabS_hi hM
 refine GS ?_
 refine TN 0 ?_
 refine RN ?_
 refine ⟨_, _, eff_alloc (n := 45) (d := 2) (k := 1000002) zero41 (by decide), fun b2 hb2 => ?_⟩
 have hBb2 := hb2.1
 refine TL ?_
 refine RA rfl ?_
 refine RN ?_
 refine A.seq ?_
 refine GS ?_
 refine TL ?_
 refine RM rfl ?_
 refine RS (ok_callM (nSize_fn l) (Sub.cons rfl KN) tabS_v (Args.cons rfl (Le.old _ _) Args.nil)) ?_; refine RZ (.int .i64 0) (by rw [h]) ?_
 refine RA rfl ?_
 refine RN ?_
 refine GS ?_
 refine TL ?_
 refine RM rfl ?_
 refine RBS rfl rfl rfl (.bool false) (by first | rfl | (simp; done) | (simp; omega) | (simp [*]; done) | (simp [*]; omega)) ?_
 refine RN ?_
 refine A.no rfl ?_
 refine A.skip ?_
 refine EN ?_
 refine GS ?_
 refine TN 4 ?_
 refine RM rfl ?_
 refine RS (ok_index (d := byteD (pX l)) Tryd.underlying44 info5 rfl LA rfl (by decide) (px_get h0)) ?_
 refine RS (ok_load Tryd.underlying5 rfl rfl) ?_
 refine RS (ok_litS [(0, byteV (pX l))] (NodT.emp (pX l) 0).v ⟨rfl, rfl, trivial⟩ (buildX0 _)) ?_
 refine RN ?_
 refine ⟨_, _, eff_alloc (n := 45) (d := 5) (k := 1000005) zero41 (by decide), fun b5 hb5 => ?_⟩
 have hBb5 := hb5.1
 have hlt_b2_b5 : b2 < b5 := hb5.2 1000002 _ _ _ rfl
 refine TF 5 ?_
 refine RN ?_
 refine ⟨_, eff_storeA (n := 45) (s := 1000005) (size41.of (rfl)) rfl rfl (by first | exact NodT.one _ | exact RecT.one _ | exact EntT.one _ | exact RecT.all1 _ | exact EntT.all1 _ | exact all_byte _ | exact all_bytes _) hBb5 rfl (by first | rfl | (rw [rfl]; rfl)) (LO 0 rfl (LV 2 rfl (LV 5 rfl (LB 1000002 rfl (LeftS.cons (t := 1900000) rfl (Surv.tab (by omega)) LN))))), ?_⟩
 refine TL ?_
 refine RN ?_
 refine GS ?_
 refine TF 7 ?_
 refine RM rfl ?_
 refine RS (ok_sliceO 1 5 Tryd.underlying44 info5 rfl (Le.refl _) (.inl ⟨_, _, rfl, rfl⟩) (.inl ⟨_, _, rfl, rfl⟩) (by decide) (by rw [List.length_map]; omega)) ?_
 refine RS (ok_call (Get32_fn ((l.drop 1).take 4)) (Args.cons rfl ((Le.old _ _).trans (Le.eq (sub_byt l 1 5))) Args.nil)) ?_
 refine RM rfl ?_
 refine RS (ok_extract rfl rfl) ?_; refine RZ (.int .u32 (jN l : Int)) (congrArg (Value.int .u32) (getV_nat _ 4).symm) ?_
 refine RS (ok_extract rfl rfl) ?_
 refine RS (ok_field field41_1 (by decide) rfl) ?_
 refine RN ?_
 refine ⟨_, eff_storeS (n := 45) (s := 1000005) info28 rfl rfl rfl hBb5 rfl (by rw [(NodT.emp_fit (pX l) (by decide)).len]; decide) (LO 0 rfl (LV 2 rfl (LV 5 rfl (LB 1000002 rfl (LeftS.cons (t := 1900000) rfl (Surv.tab (by omega)) LN))))), ?_⟩
 refine TL ?_
 refine RN ?_
 refine A.sub (KC 0 rfl (KC 2 rfl (KC 5 rfl (KC 1000002 rfl (KE 1000005 rfl (show _ = blk b5 41 (NodT.emp (pX l) (jN l)).v from rfl) (KC 1900000 rfl KN)))))) ?_
 refine GS ?_
 refine TL ?_
 refine RA rfl ?_
 refine RN ?_
 refine A.seq ?_
 refine GS ?_
 refine TL ?_
 refine RS (ok_loadA (s := 1000005) (by decide) Tryd.underlying41 rfl (size41.of ((NodT.emp_fit (pX l) (jN_lt l)).len)) rfl rfl) ?_
 refine RS (ok_call (isGroup_n (NodT.emp (pX l) (jN l)) (NodT.emp_fit _ (jN_lt l)) h0') (A1 rfl)) ?_
 refine RN ?_
 refine A.no rfl ?_
 refine GE ?_
 refine TF 7 ?_
 refine RM rfl ?_
 refine RS (ok_sliceO 5 l.length Tryd.underlying44 info5 rfl (Le.refl _) (.inl ⟨_, _, rfl, rfl⟩) (.inr ⟨rfl, by rw [List.length_map]⟩) (by omega) (by rw [List.length_map]; exact Nat.le_refl _)) ?_
 refine RS (ok_call (getPartsE_bad (l.drop 5) h2 hF) (Args.cons rfl ((Le.old _ _).trans (Le.eq (end_byt l 5))) (A1 rfl))) ?_
 refine RM rfl ?_
 refine RS (ok_extractV rfl rfl) ?_
 refine RS (ok_extractV rfl rfl) ?_
 refine RS (ok_field field41_3 (by decide) rfl) ?_
 refine RN ?_
 refine ⟨_, eff_storeP (n := 45) (s := 1000005) (size39.of (rfl)) rfl rfl (EntT.all1 _) hBb5 rfl (by rw [(NodT.emp_fit (pX l) (jN_lt l)).len]; decide) (LV 2 rfl (LV 5 rfl (LV 38 rfl (LB 1000002 rfl (LeftS.cons (t := 1900000) rfl (Surv.tab (by omega)) LN))))), ?_⟩
 refine TL ?_
 refine RA rfl ?_
 refine RN ?_
 refine EN ?_
 refine A.seq ?_
 refine GS ?_
 refine TL ?_
 refine RM rfl ?_
 refine RBS rfl rfl rfl (.bool true) (by first | rfl | (simp; done) | (simp; omega) | (simp [*]; done) | (simp [*]; omega)) ?_
 refine RN ?_
 refine A.yes rfl ?_
 refine GS ?_
 refine TF 2 ?_
 refine RS (ok_lit [] (NodT.v (NodT.emp 0 0)) (fun _ _ => rfl) (by kernel_rfl)) ?_
 refine RM rfl ?_
 refine RN ?_
 refine ⟨_, eff_storeA (n := 45) (s := 1000002) (size41.of (rfl)) rfl rfl (by first | exact NodT.one _ | exact RecT.one _ | exact EntT.one _ | exact RecT.all1 _ | exact EntT.all1 _ | exact all_byte _ | exact all_bytes _) hBb2 rfl (by first | rfl | (rw [rfl]; rfl)) (LV 2 rfl (LV 43 rfl (LB 1000005 rfl (LeftS.cons (t := 1900000) rfl (Surv.tab (by omega)) LN)))), ?_⟩
 refine TL ?_
 refine RA rfl ?_
 refine RN ?_
 refine A.ret ?_
 refine End.ret_then ?_
 exact End.cellV (s := 1000002) rfl Tryd.underlying41 rfl (size41.of (rfl)) rfl rfl rfl
theorem nGet_bad (l : List UInt8) (h : geN l ≠ 0) : FnM Tryd.prog 14 tabS [byt l] (.v (.tuple #[aggV (NodT.emp 0 0).v, .int .i64 (geN l)])) := by
 by_cases hs : szN l = 0
 ·by_cases h0 : (pX l).toNat = 0
  ·rw [geN_R hs h0] at h ⊢; exact nGet_R0 l hs h0 h
  ·rw [geN_E hs h0] at h ⊢; exact nGet_E0 l hs h0 h
 ·rw [geN_sz hs]; exact nGet_sz l hs
end Go.Proofs.YtlddnmblfgaimaaDoor
namespace Go.Proofs.YtlddnmblfgaimaaDoor
open Go Go.RowKit
set_option linter.unusedVariables false
set_option maxRecDepth 20000
set_option linter.unusedSimpArgs false

theorem used_eq (a : UInt8) : Value.bool (((a.toNat : Nat) : Int) != 0) = .bool (decide (a.toNat ≠ 0)) := by
 congr 1
 rw [Bool.eq_iff_iff, bne_iff_ne, decide_eq_true_iff]
 omega
theorem nDigest_ok (x : NodT) (hx : x.Fit) (hk : x.ck = 0) : FnM Tryd.prog 18 tabN [.v (aggV x.v)] (.v (.tuple #[aggV ((sha x.bl).map byteV), .int .i64 0])) := by
 refine FnM.of Tryd.func18 rfl (by kernel_rfl) Tryd.ntmps18 (by simp) (by decide) (fun w => [(0, .v (aggV x.v)), (1900000, tab 0 (sizV)), (1900001, tab 1 (H8.list.map u32V)), (1900002, tab 2 (K64.map u32V))]) (fun w => (StartM.v rfl (StartM.m (by simp [tabN]) (by decide) (StartM.m (by simp [tabN]) (by decide) (StartM.m (by simp [tabN]) (by decide) StartM.nil))))) fun w₀ hM => ?_
 have htab := tabN_hi hM
 refine GS ?_
 refine TN 0 ?_
 refine RN ?_
 refine ⟨_, _, eff_box (n := 18) (d := 1) (k := 1000001) rfl (by decide), fun b1 hb1 => ?_⟩
 have hBb1 := hb1.1
 refine TN 1 ?_
 refine RN ?_
 refine ⟨_, _, eff_alloc (n := 18) (d := 2) (k := 1000002) zero33 (by decide), fun b2 hb2 => ?_⟩
 have hBb2 := hb2.1
 refine TL ?_
 refine RA rfl ?_
 refine RN ?_
 refine GS ?_
 refine TL ?_
 refine RS (ok_loadA (s := 1000001) (by decide) Tryd.underlying41 rfl (size41.of (hx.len)) rfl rfl) ?_
 refine RS (ok_callM (nPut_ok x hx hk) (Sub.cons rfl KN) tabS_v (A1 rfl)) ?_
 refine RM rfl ?_
 refine RS (ok_extract rfl rfl) ?_
 refine RS (ok_extract rfl rfl) ?_
 refine RA rfl ?_
 refine RA rfl ?_
 refine RN ?_
 refine A.seq ?_
 refine GS ?_
 refine TL ?_
 refine RM rfl ?_
 refine RBS rfl rfl rfl (.bool false) (by first | rfl | (simp; done) | (simp; omega) | (simp [*]; done) | (simp [*]; omega)) ?_
 refine RN ?_
 refine A.no rfl ?_
 refine A.skip ?_
 refine EN ?_
 refine GS ?_
 refine TF 3 ?_
 refine RM rfl ?_
 refine RS (ok_build [bytes x.bl (NodT.sz x.l.toNat)] Tryd.underlying139 info44 rfl (by decide) (by decide) rfl ⟨rfl, rfl, trivial⟩ (fun d hd w x h => by simp only [List.mem_cons, List.not_mem_nil, or_false] at hd; subst hd; exact list_one h)) ?_
 refine RS (ok_callM (Of_fn [x.bl] x.bl (by simp) (Nat.le_of_ble_eq_true rfl) (by rw [hx.bl_length]; have := sz_le x.l.toNat; omega)) (Sub.cons rfl (Sub.cons rfl KN)) tabs_v (Args.cons rfl (list_lst1 (le_byt _ _)) Args.nil)) ?_
 refine RN ?_
 refine ⟨_, eff_storeA (n := 18) (s := 1000002) (size33.of (by rw [List.length_map, sha_length])) rfl rfl (all_bytes _) hBb2 rfl (by rw [List.length_map, sha_length]; rfl) (LV 2 rfl (LT 1000001 rfl (LeftS.cons (t := 1900000) rfl (Surv.tab (by omega)) (LeftS.cons (t := 1900001) rfl (Surv.tab (by omega)) (LeftS.cons (t := 1900002) rfl (Surv.tab (by omega)) LN))))), ?_⟩
 refine TL ?_
 refine RA rfl ?_
 refine RN ?_
 refine A.ret ?_
 exact End.cellV (s := 1000002) rfl Tryd.underlying33 rfl (size33.of (by rw [List.length_map, sha_length])) rfl rfl rfl
theorem nDigest_bad (x : NodT) (hx : x.Fit) (hk : x.ck ≠ 0) : FnM Tryd.prog 18 tabN [.v (aggV x.v)] (.v (.tuple #[aggV (zD.map byteV), .int .i64 x.ck])) := by
 refine FnM.of Tryd.func18 rfl (by kernel_rfl) Tryd.ntmps18 (by simp) (by decide) (fun w => [(0, .v (aggV x.v)), (1900000, tab 0 (sizV)), (1900001, tab 1 (H8.list.map u32V)), (1900002, tab 2 (K64.map u32V))]) (fun w => (StartM.v rfl (StartM.m (by simp [tabN]) (by decide) (StartM.m (by simp [tabN]) (by decide) (StartM.m (by simp [tabN]) (by decide) StartM.nil))))) fun w₀ hM => ?_
 have htab := tabN_hi hM
 refine GS ?_
 refine TN 0 ?_
 refine RN ?_
 refine ⟨_, _, eff_box (n := 18) (d := 1) (k := 1000001) rfl (by decide), fun b1 hb1 => ?_⟩
 have hBb1 := hb1.1
 refine TN 1 ?_
 refine RN ?_
 refine ⟨_, _, eff_alloc (n := 18) (d := 2) (k := 1000002) zero33 (by decide), fun b2 hb2 => ?_⟩
 have hBb2 := hb2.1
 refine TL ?_
 refine RA rfl ?_
 refine RN ?_
 refine GS ?_
 refine TL ?_
 refine RS (ok_loadA (s := 1000001) (by decide) Tryd.underlying41 rfl (size41.of (hx.len)) rfl rfl) ?_
 refine RS (ok_callM ((nPut_bad x hx hk).m) KN (fun _ h => by cases h) (A1 rfl)) ?_
 refine RM rfl ?_
 refine RS (ok_extractV rfl rfl) ?_
 refine RS (ok_extractV rfl rfl) ?_
 refine RA rfl ?_
 refine RA rfl ?_
 refine RN ?_
 refine A.seq ?_
 refine GS ?_
 refine TL ?_
 refine RM rfl ?_
 refine RBS rfl rfl rfl (.bool true) (by first | rfl | (simp; done) | (simp; omega) | (simp [*]; done) | (simp [*]; omega)) ?_
 refine RN ?_
 refine A.yes rfl ?_
 refine GS ?_
 refine TF 2 ?_
 refine RS (ok_litP [] Tryd.underlying33 info5 zero33 (by decide) trivial rfl) ?_; refine RZ (aggV (zD.map byteV)) (by rfl) ?_
 refine RM rfl ?_
 refine RN ?_
 refine ⟨_, eff_storeA (n := 18) (s := 1000002) (size33.of (rfl)) rfl rfl (rfl) hBb2 rfl (rfl) (LV 2 rfl (LV 14 rfl (LT 1000001 rfl (LeftS.cons (t := 1900000) rfl (Surv.tab (by omega)) (LeftS.cons (t := 1900001) rfl (Surv.tab (by omega)) (LeftS.cons (t := 1900002) rfl (Surv.tab (by omega)) LN)))))), ?_⟩
 refine TL ?_
 refine RA rfl ?_
 refine RN ?_
 refine A.ret ?_
 refine End.ret_then ?_
 exact End.cellV (s := 1000002) rfl Tryd.underlying33 rfl (size33.of rfl) rfl rfl rfl
theorem nFits_bad (m : Int) (hm : ¬ (1 ≤ m ∧ m ≤ 4096)) (x : NodT) (hx : x.Fit)  : Fn Tryd.prog 13 [.v (.int .i64 (m)), .v (aggV x.v)] (.v (.int .i64 (1))) := by
 refine Fn.of Tryd.func13 rfl (by kernel_rfl) Tryd.ntmps13 (by simp) (fun w => [(0, .v (.int .i64 (m))), (1, .v (aggV x.v))]) (fun w => (Start.v rfl (Start.v rfl Start.nil))) fun w₀ => ?_
 refine GS ?_
 refine TN 0 ?_
 refine RN ?_
 refine ⟨_, _, eff_box (n := 46) (d := 3) (k := 1000003) rfl (by decide), fun b3 hb3 => ?_⟩
 have hBb3 := hb3.1
 refine TL ?_
 refine RA rfl ?_
 refine RN ?_
 refine A.seq ?_
 refine GS ?_
 refine TL ?_
 refine RM rfl ?_
 refine RS (ok_call (Check_bad m hm) (A1 rfl)) ?_
 refine RA rfl ?_
 refine RN ?_
 refine GS ?_
 refine TL ?_
 refine RM rfl ?_
 refine RBS rfl rfl rfl (.bool true) (by first | rfl | (simp; done) | (simp; omega) | (simp [*]; done) | (simp [*]; omega)) ?_
 refine RN ?_
 refine A.yes rfl ?_
 refine GS ?_
 refine TL ?_
 refine RM rfl ?_
 refine RA rfl ?_
 refine RN ?_
 refine A.ret ?_
 refine End.ret_then ?_
 exact End.ret1 rfl rfl (by first | exact Le.refl _ | exact Le.old _ _)
theorem nFits_ck (n : Nat) (h1 : 1 ≤ n) (h2 : n ≤ 4096) (x : NodT) (hx : x.Fit) (hk : x.ck ≠ 0) : Fn Tryd.prog 13 [.v (nI (n)), .v (aggV x.v)] (.v (.int .i64 (x.ck))) := by
 refine Fn.of Tryd.func13 rfl (by kernel_rfl) Tryd.ntmps13 (by simp) (fun w => [(0, .v (nI (n))), (1, .v (aggV x.v))]) (fun w => (Start.v rfl (Start.v rfl Start.nil))) fun w₀ => ?_
 refine GS ?_
 refine TN 0 ?_
 refine RN ?_
 refine ⟨_, _, eff_box (n := 46) (d := 3) (k := 1000003) rfl (by decide), fun b3 hb3 => ?_⟩
 have hBb3 := hb3.1
 refine TL ?_
 refine RA rfl ?_
 refine RN ?_
 refine A.seq ?_
 refine GS ?_
 refine TL ?_
 refine RM rfl ?_
 refine RS (ok_call (Check_ok n h1 h2) (A1 rfl)) ?_
 refine RA rfl ?_
 refine RN ?_
 refine GS ?_
 refine TL ?_
 refine RM rfl ?_
 refine RBS rfl rfl rfl (.bool false) (by first | rfl | (simp; done) | (simp; omega) | (simp [*]; done) | (simp [*]; omega)) ?_
 refine RN ?_
 refine A.no rfl ?_
 refine A.skip ?_
 refine EN ?_
 refine A.seq ?_
 refine GS ?_
 refine TL ?_
 refine RS (ok_loadA (s := 1000003) (by decide) Tryd.underlying41 rfl (size41.of (hx.len)) rfl rfl) ?_
 refine RS (ok_call (nCheck_fn x hx) (A1 rfl)) ?_
 refine RA rfl ?_
 refine RN ?_
 refine GS ?_
 refine TL ?_
 refine RM rfl ?_
 refine RBS rfl rfl rfl (.bool true) (by simp [hk]) ?_
 refine RN ?_
 refine A.yes rfl ?_
 refine GS ?_
 refine TL ?_
 refine RM rfl ?_
 refine RA rfl ?_
 refine RN ?_
 refine A.ret ?_
 refine End.ret_then ?_
 exact End.ret1 rfl rfl (by first | exact Le.refl _ | exact Le.old _ _)
theorem nFits_no (n : Nat) (h1 : 1 ≤ n) (h2 : n ≤ 4096) (x : NodT) (hx : x.Fit) (hk : x.ck = 0) (hp : ¬ IsP n x.l.toNat x.j) : Fn Tryd.prog 13 [.v (nI (n)), .v (aggV x.v)] (.v (.int .i64 (17))) := by
 refine Fn.of Tryd.func13 rfl (by kernel_rfl) Tryd.ntmps13 (by simp) (fun w => [(0, .v (nI (n))), (1, .v (aggV x.v))]) (fun w => (Start.v rfl (Start.v rfl Start.nil))) fun w₀ => ?_
 refine GS ?_
 refine TN 0 ?_
 refine RN ?_
 refine ⟨_, _, eff_box (n := 46) (d := 3) (k := 1000003) rfl (by decide), fun b3 hb3 => ?_⟩
 have hBb3 := hb3.1
 refine TL ?_
 refine RA rfl ?_
 refine RN ?_
 refine A.seq ?_
 refine GS ?_
 refine TL ?_
 refine RM rfl ?_
 refine RS (ok_call (Check_ok n h1 h2) (A1 rfl)) ?_
 refine RA rfl ?_
 refine RN ?_
 refine GS ?_
 refine TL ?_
 refine RM rfl ?_
 refine RBS rfl rfl rfl (.bool false) (by first | rfl | (simp; done) | (simp; omega) | (simp [*]; done) | (simp [*]; omega)) ?_
 refine RN ?_
 refine A.no rfl ?_
 refine A.skip ?_
 refine EN ?_
 refine A.seq ?_
 refine GS ?_
 refine TL ?_
 refine RS (ok_loadA (s := 1000003) (by decide) Tryd.underlying41 rfl (size41.of (hx.len)) rfl rfl) ?_
 refine RS (ok_call (nCheck_fn x hx) (A1 rfl)) ?_
 refine RA rfl ?_
 refine RN ?_
 refine GS ?_
 refine TL ?_
 refine RM rfl ?_
 refine RBS rfl rfl rfl (.bool false) (by simp [hk]) ?_
 refine RN ?_
 refine A.no rfl ?_
 refine A.skip ?_
 refine EN ?_
 refine GS ?_
 refine TL ?_
 refine RM rfl ?_
 refine RS (ok_field field41_0 (by decide) rfl) ?_
 refine RS (ok_loadV (s := 1000003) (by decide) Tryd.underlying5 rfl rfl rfl (rfl)) ?_
 refine RS (ok_conv Tryd.underlying5 Tryd.underlying3 rfl) ?_; refine RZ (nI (x.l.toNat)) (wrap_eq rfl (by have := x.l.toNat_lt; omega)) ?_
 refine RS (ok_field field41_1 (by decide) rfl) ?_
 refine RS (ok_loadV (s := 1000003) (by decide) Tryd.underlying28 rfl rfl rfl (rfl)) ?_
 refine RS (ok_conv Tryd.underlying28 Tryd.underlying3 rfl) ?_; refine RZ (nI (x.j)) (wrap_eq rfl (by have := hx.j; omega)) ?_
 refine RS (ok_call (Parts_no n h1 h2 x.l.toNat x.j hp) (A3 rfl rfl rfl)) ?_
 refine RM rfl ?_
 refine RS (ok_extractV rfl rfl) ?_
 refine RS (ok_extractV rfl rfl) ?_
 refine RA rfl ?_
 refine RA rfl ?_
 refine RN ?_
 refine A.sub (KC 3 rfl (KC 7 rfl (KC 8 rfl (KC 1000003 rfl KN)))) ?_
 refine A.seq ?_
 refine GS ?_
 refine TL ?_
 refine RM rfl ?_
 refine RBS rfl rfl rfl (.bool true) (by rfl) ?_
 refine RM rfl ?_
 refine RK ?_
 refine RK ?_
 refine RK ?_
 refine RK ?_
 refine RK ?_
 refine RP rfl rfl ?_
 refine RM rfl ?_
 refine RK ?_
 refine RK ?_
 refine RK ?_
 refine RK ?_
 refine RK ?_
 refine RP rfl rfl ?_
 refine RN ?_
 refine A.yes rfl ?_
 refine GS ?_
 refine TL ?_
 refine RA rfl ?_
 refine RN ?_
 refine A.ret ?_
 refine End.ret_then ?_
 exact End.ret1 rfl rfl (by first | exact Le.refl _ | exact Le.old _ _)
theorem nFits_r (n : Nat) (h1 : 1 ≤ n) (h2 : n ≤ 4096) (x : NodT) (hx : x.Fit) (hk : x.ck = 0) (hl : x.l.toNat ≤ hg n) (hj : x.j < un n (x.l.toNat + 1)) (hz : ¬ ∀ i, i < 4 - pts n x.l.toNat x.j → ((x.R.drop (pts n x.l.toNat x.j)).getD i RecT.zero).Z) : Fn Tryd.prog 13 [.v (nI (n)), .v (aggV x.v)] (.v (.int .i64 (17))) := by
 have hp := pts_pos hj
 refine Fn.of Tryd.func13 rfl (by kernel_rfl) Tryd.ntmps13 (by simp) (fun w => [(0, .v (nI (n))), (1, .v (aggV x.v))]) (fun w => (Start.v rfl (Start.v rfl Start.nil))) fun w₀ => ?_
 refine GS ?_
 refine TN 0 ?_
 refine RN ?_
 refine ⟨_, _, eff_box (n := 46) (d := 3) (k := 1000003) rfl (by decide), fun b3 hb3 => ?_⟩
 have hBb3 := hb3.1
 refine TL ?_
 refine RA rfl ?_
 refine RN ?_
 refine A.seq ?_
 refine GS ?_
 refine TL ?_
 refine RM rfl ?_
 refine RS (ok_call (Check_ok n h1 h2) (A1 rfl)) ?_
 refine RA rfl ?_
 refine RN ?_
 refine GS ?_
 refine TL ?_
 refine RM rfl ?_
 refine RBS rfl rfl rfl (.bool false) (by first | rfl | (simp; done) | (simp; omega) | (simp [*]; done) | (simp [*]; omega)) ?_
 refine RN ?_
 refine A.no rfl ?_
 refine A.skip ?_
 refine EN ?_
 refine A.seq ?_
 refine GS ?_
 refine TL ?_
 refine RS (ok_loadA (s := 1000003) (by decide) Tryd.underlying41 rfl (size41.of (hx.len)) rfl rfl) ?_
 refine RS (ok_call (nCheck_fn x hx) (A1 rfl)) ?_
 refine RA rfl ?_
 refine RN ?_
 refine GS ?_
 refine TL ?_
 refine RM rfl ?_
 refine RBS rfl rfl rfl (.bool false) (by simp [hk]) ?_
 refine RN ?_
 refine A.no rfl ?_
 refine A.skip ?_
 refine EN ?_
 refine GS ?_
 refine TL ?_
 refine RM rfl ?_
 refine RS (ok_field field41_0 (by decide) rfl) ?_
 refine RS (ok_loadV (s := 1000003) (by decide) Tryd.underlying5 rfl rfl rfl (rfl)) ?_
 refine RS (ok_conv Tryd.underlying5 Tryd.underlying3 rfl) ?_; refine RZ (nI (x.l.toNat)) (wrap_eq rfl (by have := x.l.toNat_lt; omega)) ?_
 refine RS (ok_field field41_1 (by decide) rfl) ?_
 refine RS (ok_loadV (s := 1000003) (by decide) Tryd.underlying28 rfl rfl rfl (rfl)) ?_
 refine RS (ok_conv Tryd.underlying28 Tryd.underlying3 rfl) ?_; refine RZ (nI (x.j)) (wrap_eq rfl (by have := hx.j; omega)) ?_
 refine RS (ok_call (Parts_ok n h1 h2 x.l.toNat x.j hl hj) (A3 rfl rfl rfl)) ?_
 refine RM rfl ?_
 refine RS (ok_extractV rfl rfl) ?_
 refine RS (ok_extractV rfl rfl) ?_
 refine RA rfl ?_
 refine RA rfl ?_
 refine RN ?_
 refine A.sub (KC 3 rfl (KC 7 rfl (KC 8 rfl (KC 1000003 rfl KN)))) ?_
 refine A.seq ?_
 refine GS ?_
 refine TL ?_
 refine RM rfl ?_
 refine RBS rfl rfl rfl (.bool false) (by rfl) ?_
 refine RM rfl ?_
 refine RQ (ok_field field41_2 (by decide) rfl) ?_
 refine RQ (ok_move rfl) ?_
 refine RQ (ok_sliceN (pts n x.l.toNat x.j) 4 Tryd.underlying36 size35 rfl (.inl ⟨_, _, rfl, rfl⟩) (.inr ⟨rfl, rfl, rfl⟩) (.inr ⟨rfl, rfl⟩) hp.2.1 (Nat.le_refl _) (Nat.le_refl _)) ?_
 refine RQ (ok_callK 1000003 (allZeroR_fn b3 41 (if 4 = pts n x.l.toNat x.j then 0 + 2 else 0 + 2 + pts n x.l.toNat x.j * 35) (4 - pts n x.l.toNat x.j) (4 - pts n x.l.toNat x.j) x.v (x.R.drop (pts n x.l.toNat x.j)) (by rw [List.length_drop, hx.lr]) (by omega) (fun a ha => hx.fr a (List.mem_of_mem_drop ha)) (hx.rec_drop hp.2.1) (by rw [hx.len]; have := hp.1; split <;> omega)) (by decide) rfl (A1 rfl)) ?_; refine RZ (.bool false) (congrArg Value.bool (decide_eq_false hz)) ?_
 refine RQ (ok_not rfl) ?_
 refine RP rfl rfl ?_
 refine RM rfl ?_
 refine RK ?_
 refine RK ?_
 refine RK ?_
 refine RK ?_
 refine RK ?_
 refine RP rfl rfl ?_
 refine RN ?_
 refine A.yes rfl ?_
 refine GS ?_
 refine TL ?_
 refine RA rfl ?_
 refine RN ?_
 refine A.ret ?_
 refine End.ret_then ?_
 exact End.ret1 rfl rfl (by first | exact Le.refl _ | exact Le.old _ _)
theorem nFits_e (n : Nat) (h1 : 1 ≤ n) (h2 : n ≤ 4096) (x : NodT) (hx : x.Fit) (hk : x.ck = 0) (hl : x.l.toNat ≤ hg n) (hj : x.j < un n (x.l.toNat + 1)) (hz : ∀ i, i < 4 - pts n x.l.toNat x.j → ((x.R.drop (pts n x.l.toNat x.j)).getD i RecT.zero).Z) (hzE : ¬ ∀ i, i < 4 - pts n x.l.toNat x.j → ((x.E.drop (pts n x.l.toNat x.j)).getD i EntT.zero).Z) : Fn Tryd.prog 13 [.v (nI (n)), .v (aggV x.v)] (.v (.int .i64 (17))) := by
 have hp := pts_pos hj
 refine Fn.of Tryd.func13 rfl (by kernel_rfl) Tryd.ntmps13 (by simp) (fun w => [(0, .v (nI (n))), (1, .v (aggV x.v))]) (fun w => (Start.v rfl (Start.v rfl Start.nil))) fun w₀ => ?_
 refine GS ?_
 refine TN 0 ?_
 refine RN ?_
 refine ⟨_, _, eff_box (n := 46) (d := 3) (k := 1000003) rfl (by decide), fun b3 hb3 => ?_⟩
 have hBb3 := hb3.1
 refine TL ?_
 refine RA rfl ?_
 refine RN ?_
 refine A.seq ?_
 refine GS ?_
 refine TL ?_
 refine RM rfl ?_
 refine RS (ok_call (Check_ok n h1 h2) (A1 rfl)) ?_
 refine RA rfl ?_
 refine RN ?_
 refine GS ?_
 refine TL ?_
 refine RM rfl ?_
 refine RBS rfl rfl rfl (.bool false) (by first | rfl | (simp; done) | (simp; omega) | (simp [*]; done) | (simp [*]; omega)) ?_
 refine RN ?_
 refine A.no rfl ?_
 refine A.skip ?_
 refine EN ?_
 refine A.seq ?_
 refine GS ?_
 refine TL ?_
 refine RS (ok_loadA (s := 1000003) (by decide) Tryd.underlying41 rfl (size41.of (hx.len)) rfl rfl) ?_
 refine RS (ok_call (nCheck_fn x hx) (A1 rfl)) ?_
 refine RA rfl ?_
 refine RN ?_
 refine GS ?_
 refine TL ?_
 refine RM rfl ?_
 refine RBS rfl rfl rfl (.bool false) (by simp [hk]) ?_
 refine RN ?_
 refine A.no rfl ?_
 refine A.skip ?_
 refine EN ?_
 refine GS ?_
 refine TL ?_
 refine RM rfl ?_
 refine RS (ok_field field41_0 (by decide) rfl) ?_
 refine RS (ok_loadV (s := 1000003) (by decide) Tryd.underlying5 rfl rfl rfl (rfl)) ?_
 refine RS (ok_conv Tryd.underlying5 Tryd.underlying3 rfl) ?_; refine RZ (nI (x.l.toNat)) (wrap_eq rfl (by have := x.l.toNat_lt; omega)) ?_
 refine RS (ok_field field41_1 (by decide) rfl) ?_
 refine RS (ok_loadV (s := 1000003) (by decide) Tryd.underlying28 rfl rfl rfl (rfl)) ?_
 refine RS (ok_conv Tryd.underlying28 Tryd.underlying3 rfl) ?_; refine RZ (nI (x.j)) (wrap_eq rfl (by have := hx.j; omega)) ?_
 refine RS (ok_call (Parts_ok n h1 h2 x.l.toNat x.j hl hj) (A3 rfl rfl rfl)) ?_
 refine RM rfl ?_
 refine RS (ok_extractV rfl rfl) ?_
 refine RS (ok_extractV rfl rfl) ?_
 refine RA rfl ?_
 refine RA rfl ?_
 refine RN ?_
 refine A.sub (KC 3 rfl (KC 7 rfl (KC 8 rfl (KC 1000003 rfl KN)))) ?_
 refine A.seq ?_
 refine GS ?_
 refine TL ?_
 refine RM rfl ?_
 refine RBS rfl rfl rfl (.bool false) (by rfl) ?_
 refine RM rfl ?_
 refine RQ (ok_field field41_2 (by decide) rfl) ?_
 refine RQ (ok_move rfl) ?_
 refine RQ (ok_sliceN (pts n x.l.toNat x.j) 4 Tryd.underlying36 size35 rfl (.inl ⟨_, _, rfl, rfl⟩) (.inr ⟨rfl, rfl, rfl⟩) (.inr ⟨rfl, rfl⟩) hp.2.1 (Nat.le_refl _) (Nat.le_refl _)) ?_
 refine RQ (ok_callK 1000003 (allZeroR_fn b3 41 (if 4 = pts n x.l.toNat x.j then 0 + 2 else 0 + 2 + pts n x.l.toNat x.j * 35) (4 - pts n x.l.toNat x.j) (4 - pts n x.l.toNat x.j) x.v (x.R.drop (pts n x.l.toNat x.j)) (by rw [List.length_drop, hx.lr]) (by omega) (fun a ha => hx.fr a (List.mem_of_mem_drop ha)) (hx.rec_drop hp.2.1) (by rw [hx.len]; have := hp.1; split <;> omega)) (by decide) rfl (A1 rfl)) ?_; refine RZ (.bool true) (congrArg Value.bool (decide_eq_true hz)) ?_
 refine RQ (ok_not rfl) ?_
 refine RP rfl rfl ?_
 refine RM rfl ?_
 refine RQ (ok_field field41_3 (by decide) rfl) ?_
 refine RQ (ok_move rfl) ?_
 refine RQ (ok_sliceN (pts n x.l.toNat x.j) 4 Tryd.underlying39 size38 rfl (.inl ⟨_, _, rfl, rfl⟩) (.inr ⟨rfl, rfl, rfl⟩) (.inr ⟨rfl, rfl⟩) hp.2.1 (Nat.le_refl _) (Nat.le_refl _)) ?_
 refine RQ (ok_callK 1000003 (allZeroE_fn b3 41 (if 4 = pts n x.l.toNat x.j then 0 + 142 else 0 + 142 + pts n x.l.toNat x.j * 33) (4 - pts n x.l.toNat x.j) (4 - pts n x.l.toNat x.j) x.v (x.E.drop (pts n x.l.toNat x.j)) (by rw [List.length_drop, hx.le]) (by omega) (fun a ha => hx.fe a (List.mem_of_mem_drop ha)) (hx.ent_drop hp.2.1) (by rw [hx.len]; have := hp.1; split <;> omega)) (by decide) rfl (A1 rfl)) ?_; refine RZ (.bool false) (congrArg Value.bool (decide_eq_false hzE)) ?_
 refine RQ (ok_not rfl) ?_
 refine RP rfl rfl ?_
 refine RN ?_
 refine A.yes rfl ?_
 refine GS ?_
 refine TL ?_
 refine RA rfl ?_
 refine RN ?_
 refine A.ret ?_
 refine End.ret_then ?_
 exact End.ret1 rfl rfl (by first | exact Le.refl _ | exact Le.old _ _)
theorem nFits_ok (n : Nat) (h1 : 1 ≤ n) (h2 : n ≤ 4096) (x : NodT) (hx : x.Fit) (hk : x.ck = 0) (hl : x.l.toNat ≤ hg n) (hj : x.j < un n (x.l.toNat + 1)) (hz : ∀ i, i < 4 - pts n x.l.toNat x.j → ((x.R.drop (pts n x.l.toNat x.j)).getD i RecT.zero).Z) (hzE : ∀ i, i < 4 - pts n x.l.toNat x.j → ((x.E.drop (pts n x.l.toNat x.j)).getD i EntT.zero).Z) : Fn Tryd.prog 13 [.v (nI (n)), .v (aggV x.v)] (.v (.int .i64 (0))) := by
 have hp := pts_pos hj
 refine Fn.of Tryd.func13 rfl (by kernel_rfl) Tryd.ntmps13 (by simp) (fun w => [(0, .v (nI (n))), (1, .v (aggV x.v))]) (fun w => (Start.v rfl (Start.v rfl Start.nil))) fun w₀ => ?_
 refine GS ?_
 refine TN 0 ?_
 refine RN ?_
 refine ⟨_, _, eff_box (n := 46) (d := 3) (k := 1000003) rfl (by decide), fun b3 hb3 => ?_⟩
 have hBb3 := hb3.1
 refine TL ?_
 refine RA rfl ?_
 refine RN ?_
 refine A.seq ?_
 refine GS ?_
 refine TL ?_
 refine RM rfl ?_
 refine RS (ok_call (Check_ok n h1 h2) (A1 rfl)) ?_
 refine RA rfl ?_
 refine RN ?_
 refine GS ?_
 refine TL ?_
 refine RM rfl ?_
 refine RBS rfl rfl rfl (.bool false) (by first | rfl | (simp; done) | (simp; omega) | (simp [*]; done) | (simp [*]; omega)) ?_
 refine RN ?_
 refine A.no rfl ?_
 refine A.skip ?_
 refine EN ?_
 refine A.seq ?_
 refine GS ?_
 refine TL ?_
 refine RS (ok_loadA (s := 1000003) (by decide) Tryd.underlying41 rfl (size41.of (hx.len)) rfl rfl) ?_
 refine RS (ok_call (nCheck_fn x hx) (A1 rfl)) ?_
 refine RA rfl ?_
 refine RN ?_
 refine GS ?_
 refine TL ?_
 refine RM rfl ?_
 refine RBS rfl rfl rfl (.bool false) (by simp [hk]) ?_
 refine RN ?_
 refine A.no rfl ?_
 refine A.skip ?_
 refine EN ?_
 refine GS ?_
 refine TL ?_
 refine RM rfl ?_
 refine RS (ok_field field41_0 (by decide) rfl) ?_
 refine RS (ok_loadV (s := 1000003) (by decide) Tryd.underlying5 rfl rfl rfl (rfl)) ?_
 refine RS (ok_conv Tryd.underlying5 Tryd.underlying3 rfl) ?_; refine RZ (nI (x.l.toNat)) (wrap_eq rfl (by have := x.l.toNat_lt; omega)) ?_
 refine RS (ok_field field41_1 (by decide) rfl) ?_
 refine RS (ok_loadV (s := 1000003) (by decide) Tryd.underlying28 rfl rfl rfl (rfl)) ?_
 refine RS (ok_conv Tryd.underlying28 Tryd.underlying3 rfl) ?_; refine RZ (nI (x.j)) (wrap_eq rfl (by have := hx.j; omega)) ?_
 refine RS (ok_call (Parts_ok n h1 h2 x.l.toNat x.j hl hj) (A3 rfl rfl rfl)) ?_
 refine RM rfl ?_
 refine RS (ok_extractV rfl rfl) ?_
 refine RS (ok_extractV rfl rfl) ?_
 refine RA rfl ?_
 refine RA rfl ?_
 refine RN ?_
 refine A.sub (KC 3 rfl (KC 7 rfl (KC 8 rfl (KC 1000003 rfl KN)))) ?_
 refine A.seq ?_
 refine GS ?_
 refine TL ?_
 refine RM rfl ?_
 refine RBS rfl rfl rfl (.bool false) (by rfl) ?_
 refine RM rfl ?_
 refine RQ (ok_field field41_2 (by decide) rfl) ?_
 refine RQ (ok_move rfl) ?_
 refine RQ (ok_sliceN (pts n x.l.toNat x.j) 4 Tryd.underlying36 size35 rfl (.inl ⟨_, _, rfl, rfl⟩) (.inr ⟨rfl, rfl, rfl⟩) (.inr ⟨rfl, rfl⟩) hp.2.1 (Nat.le_refl _) (Nat.le_refl _)) ?_
 refine RQ (ok_callK 1000003 (allZeroR_fn b3 41 (if 4 = pts n x.l.toNat x.j then 0 + 2 else 0 + 2 + pts n x.l.toNat x.j * 35) (4 - pts n x.l.toNat x.j) (4 - pts n x.l.toNat x.j) x.v (x.R.drop (pts n x.l.toNat x.j)) (by rw [List.length_drop, hx.lr]) (by omega) (fun a ha => hx.fr a (List.mem_of_mem_drop ha)) (hx.rec_drop hp.2.1) (by rw [hx.len]; have := hp.1; split <;> omega)) (by decide) rfl (A1 rfl)) ?_; refine RZ (.bool true) (congrArg Value.bool (decide_eq_true hz)) ?_
 refine RQ (ok_not rfl) ?_
 refine RP rfl rfl ?_
 refine RM rfl ?_
 refine RQ (ok_field field41_3 (by decide) rfl) ?_
 refine RQ (ok_move rfl) ?_
 refine RQ (ok_sliceN (pts n x.l.toNat x.j) 4 Tryd.underlying39 size38 rfl (.inl ⟨_, _, rfl, rfl⟩) (.inr ⟨rfl, rfl, rfl⟩) (.inr ⟨rfl, rfl⟩) hp.2.1 (Nat.le_refl _) (Nat.le_refl _)) ?_
 refine RQ (ok_callK 1000003 (allZeroE_fn b3 41 (if 4 = pts n x.l.toNat x.j then 0 + 142 else 0 + 142 + pts n x.l.toNat x.j * 33) (4 - pts n x.l.toNat x.j) (4 - pts n x.l.toNat x.j) x.v (x.E.drop (pts n x.l.toNat x.j)) (by rw [List.length_drop, hx.le]) (by omega) (fun a ha => hx.fe a (List.mem_of_mem_drop ha)) (hx.ent_drop hp.2.1) (by rw [hx.len]; have := hp.1; split <;> omega)) (by decide) rfl (A1 rfl)) ?_; refine RZ (.bool true) (congrArg Value.bool (decide_eq_true hzE)) ?_
 refine RQ (ok_not rfl) ?_
 refine RP rfl rfl ?_
 refine RN ?_
 refine A.no rfl ?_
 refine A.skip ?_
 refine EN ?_
 refine GS ?_
 refine TL ?_
 refine RA rfl ?_
 refine RN ?_
 refine A.ret ?_
 exact End.ret1 rfl rfl (by first | exact Le.refl _ | exact Le.old _ _)
theorem nFits_fn (n : Int) (x : NodT) (hx : x.Fit) : Fn Tryd.prog 13 [.v (.int .i64 (n)), .v (aggV x.v)] (.v (.int .i64 (ftN n x))) := by
 by_cases hn : 1 ≤ n ∧ n ≤ 4096
 ·obtain ⟨m, rfl⟩ : ∃ m : Nat, n = (m : Int) := ⟨n.toNat, by omega⟩
  have h1 : 1 ≤ m := by omega
  have h2 : m ≤ 4096 := by omega
  by_cases hk : x.ck = 0
  ·by_cases hp : IsP m x.l.toNat x.j
   ·obtain ⟨hl, hj⟩ := isP_nat.1 hp
    have hb := pts_pos hj
    by_cases hzR : ∀ i, i < 4 - pts m x.l.toNat x.j → ((x.R.drop (pts m x.l.toNat x.j)).getD i RecT.zero).Z
    ·by_cases hzE : ∀ i, i < 4 - pts m x.l.toNat x.j → ((x.E.drop (pts m x.l.toNat x.j)).getD i EntT.zero).Z
     ·rw [ft_ok h1 h2 hk hp fun i ha hb' => ⟨by have := hzR (i - pts m x.l.toNat x.j) (by omega); rwa [drop_getD, Nat.add_sub_cancel' ha] at this, by have := hzE (i - pts m x.l.toNat x.j) (by omega); rwa [drop_getD, Nat.add_sub_cancel' ha] at this⟩]
      exact nFits_ok m h1 h2 x hx hk hl hj hzR hzE
     ·rw [ft_part h1 h2 hk hp fun h => hzE fun i hi => by rw [drop_getD]; exact (h _ (by omega) (by omega)).2]
      exact nFits_e m h1 h2 x hx hk hl hj hzR hzE
    ·rw [ft_part h1 h2 hk hp fun h => hzR fun i hi => by rw [drop_getD]; exact (h _ (by omega) (by omega)).1]
     exact nFits_r m h1 h2 x hx hk hl hj hzR
   ·rw [ft_no h1 h2 hk hp]; exact nFits_no m h1 h2 x hx hk hp
  ·rw [ft_ck h1 h2 hk]; exact nFits_ck m h1 h2 x hx hk
 ·rw [ft_bad hn]; exact nFits_bad n hn x hx
theorem nEmpty_fn (a : UInt8) (j : Nat) (hj : j < 4294967296) : Fn Tryd.prog 22 [.v (byteV a), .v (.int .u32 (j : Int))] (.v (aggV (NodT.emp a j).v)) := by
 refine Fn.of Tryd.func22 rfl (by kernel_rfl) Tryd.ntmps22 (by simp) (fun w => [(0, .v (byteV a)), (1, .v (.int .u32 (j : Int)))]) (fun w => (Start.v rfl (Start.v rfl Start.nil))) fun w₀ => ?_
 refine GS ?_
 refine TN 0 ?_
 refine RN ?_
 refine ⟨_, _, eff_alloc (n := 8) (d := 4) (k := 1000004) zero41 (by decide), fun b4 hb4 => ?_⟩
 have hBb4 := hb4.1
 refine TL ?_
 refine RN ?_
 refine GS ?_
 refine TF 3 ?_
 refine RM rfl ?_
 refine RM rfl ?_
 refine RS (ok_litS [(0, byteV a), (1, .int .u32 (j : Int))] (NodT.emp a j).v ⟨rfl, rfl, rfl, rfl, trivial⟩ (buildX _ _)) ?_
 refine RN ?_
 refine ⟨_, eff_storeA (n := 8) (s := 1000004) (size41.of ((NodT.emp_fit a hj).len)) rfl rfl (by first | exact NodT.one _ | exact RecT.one _ | exact EntT.one _ | exact RecT.all1 _ | exact EntT.all1 _ | exact all_byte _ | exact all_bytes _) hBb4 rfl (by first | rfl | (rw [(NodT.emp_fit a hj).len]; rfl)) (LV 4 rfl LN), ?_⟩
 refine TL ?_
 refine RN ?_
 refine A.ret ?_
 exact End.cell1 (s := 1000004) rfl Tryd.underlying41 rfl (size41.of ((NodT.emp_fit a hj).len)) rfl rfl (Le.refl _)
theorem cp_lo (x : NodT) (hx : x.Fit) (n : Int) (b : Bool) (h : n < 0) : Fn Tryd.prog 63 [.v (aggV x.v), .v (.int .i64 (n)), .v (.bool b)] (.v (.int .i64 (1))) := by
 refine Fn.of Tryd.func63 rfl (by kernel_rfl) Tryd.ntmps63 (by simp) (fun w => [(0, .v (aggV x.v)), (1, .v (.int .i64 (n))), (2, .v (.bool b))]) (fun w => (Start.v rfl (Start.v rfl (Start.v rfl Start.nil)))) fun w₀ => ?_
 refine GS ?_
 refine TN 0 ?_
 refine RN ?_
 refine ⟨_, _, eff_box (n := 21) (d := 3) (k := 1000003) rfl (by decide), fun b3 hb3 => ?_⟩
 have hBb3 := hb3.1
 refine TL ?_
 refine RA rfl ?_
 refine RN ?_
 refine A.seq ?_
 refine GS ?_
 refine TL ?_
 refine RM rfl ?_
 refine RBS rfl rfl rfl (.bool true) (by first | rfl | (simp; done) | (simp; omega) | (simp [*]; done) | (simp [*]; omega)) ?_
 refine RM rfl ?_
 refine RK ?_
 refine RK ?_
 refine RP rfl rfl ?_
 refine RN ?_
 refine A.yes rfl ?_
 refine GS ?_
 refine TL ?_
 refine RA rfl ?_
 refine RN ?_
 refine A.ret ?_
 refine End.ret_then ?_
 exact End.ret1 rfl rfl (by first | exact Le.refl _ | exact Le.old _ _)
theorem cp_hi (x : NodT) (hx : x.Fit) (n : Int) (b : Bool) (h : 3 < n) : Fn Tryd.prog 63 [.v (aggV x.v), .v (.int .i64 (n)), .v (.bool b)] (.v (.int .i64 (1))) := by
 refine Fn.of Tryd.func63 rfl (by kernel_rfl) Tryd.ntmps63 (by simp) (fun w => [(0, .v (aggV x.v)), (1, .v (.int .i64 (n))), (2, .v (.bool b))]) (fun w => (Start.v rfl (Start.v rfl (Start.v rfl Start.nil)))) fun w₀ => ?_
 refine GS ?_
 refine TN 0 ?_
 refine RN ?_
 refine ⟨_, _, eff_box (n := 21) (d := 3) (k := 1000003) rfl (by decide), fun b3 hb3 => ?_⟩
 have hBb3 := hb3.1
 refine TL ?_
 refine RA rfl ?_
 refine RN ?_
 refine A.seq ?_
 refine GS ?_
 refine TL ?_
 refine RM rfl ?_
 refine RBS rfl rfl rfl (.bool false) (by first | rfl | (simp; done) | (simp; omega) | (simp [*]; done) | (simp [*]; omega)) ?_
 refine RM rfl ?_
 refine RQ (ok_move rfl) ?_
 refine RQ (ok_bin rfl rfl rfl) ?_; refine RZ (.bool true) (by first | rfl | (simp; done) | (simp; omega) | (simp [*]; done) | (simp [*]; omega)) ?_
 refine RP rfl rfl ?_
 refine RN ?_
 refine A.yes rfl ?_
 refine GS ?_
 refine TL ?_
 refine RA rfl ?_
 refine RN ?_
 refine A.ret ?_
 refine End.ret_then ?_
 exact End.ret1 rfl rfl (by first | exact Le.refl _ | exact Le.old _ _)
theorem cp_ck (x : NodT) (hx : x.Fit) (n : Int) (b : Bool) (h0 : 0 ≤ n) (h4 : n < 4) (hk : x.ck ≠ 0) : Fn Tryd.prog 63 [.v (aggV x.v), .v (.int .i64 (n)), .v (.bool b)] (.v (.int .i64 (x.ck))) := by
 refine Fn.of Tryd.func63 rfl (by kernel_rfl) Tryd.ntmps63 (by simp) (fun w => [(0, .v (aggV x.v)), (1, .v (.int .i64 (n))), (2, .v (.bool b))]) (fun w => (Start.v rfl (Start.v rfl (Start.v rfl Start.nil)))) fun w₀ => ?_
 refine GS ?_
 refine TN 0 ?_
 refine RN ?_
 refine ⟨_, _, eff_box (n := 21) (d := 3) (k := 1000003) rfl (by decide), fun b3 hb3 => ?_⟩
 have hBb3 := hb3.1
 refine TL ?_
 refine RA rfl ?_
 refine RN ?_
 refine A.seq ?_
 refine GS ?_
 refine TL ?_
 refine RM rfl ?_
 refine RBS rfl rfl rfl (.bool false) (by first | rfl | (simp; done) | (simp; omega) | (simp [*]; done) | (simp [*]; omega)) ?_
 refine RM rfl ?_
 refine RQ (ok_move rfl) ?_
 refine RQ (ok_bin rfl rfl rfl) ?_; refine RZ (.bool false) (by first | rfl | (simp; done) | (simp; omega) | (simp [*]; done) | (simp [*]; omega)) ?_
 refine RP rfl rfl ?_
 refine RN ?_
 refine A.no rfl ?_
 refine A.skip ?_
 refine EN ?_
 refine A.seq ?_
 refine GS ?_
 refine TL ?_
 refine RS (ok_loadA (s := 1000003) (by decide) Tryd.underlying41 rfl (size41.of (hx.len)) rfl rfl) ?_
 refine RS (ok_call (nCheck_fn x hx) (A1 rfl)) ?_
 refine RA rfl ?_
 refine RN ?_
 refine GS ?_
 refine TL ?_
 refine RM rfl ?_
 refine RBS rfl rfl rfl (.bool true) (by simp [hk]) ?_
 refine RN ?_
 refine A.yes rfl ?_
 refine GS ?_
 refine TL ?_
 refine RM rfl ?_
 refine RA rfl ?_
 refine RN ?_
 refine A.ret ?_
 refine End.ret_then ?_
 exact End.ret1 rfl rfl (by first | exact Le.refl _ | exact Le.old _ _)
theorem cp_false (x : NodT) (hx : x.Fit) (n : Int) (h0 : 0 ≤ n) (h4 : n < 4) (hk : x.ck = 0) : Fn Tryd.prog 63 [.v (aggV x.v), .v (.int .i64 (n)), .v (.bool false)] (.v (.int .i64 (1))) := by
 refine Fn.of Tryd.func63 rfl (by kernel_rfl) Tryd.ntmps63 (by simp) (fun w => [(0, .v (aggV x.v)), (1, .v (.int .i64 (n))), (2, .v (.bool false))]) (fun w => (Start.v rfl (Start.v rfl (Start.v rfl Start.nil)))) fun w₀ => ?_
 refine GS ?_
 refine TN 0 ?_
 refine RN ?_
 refine ⟨_, _, eff_box (n := 21) (d := 3) (k := 1000003) rfl (by decide), fun b3 hb3 => ?_⟩
 have hBb3 := hb3.1
 refine TL ?_
 refine RA rfl ?_
 refine RN ?_
 refine A.seq ?_
 refine GS ?_
 refine TL ?_
 refine RM rfl ?_
 refine RBS rfl rfl rfl (.bool false) (by first | rfl | (simp; done) | (simp; omega) | (simp [*]; done) | (simp [*]; omega)) ?_
 refine RM rfl ?_
 refine RQ (ok_move rfl) ?_
 refine RQ (ok_bin rfl rfl rfl) ?_; refine RZ (.bool false) (by first | rfl | (simp; done) | (simp; omega) | (simp [*]; done) | (simp [*]; omega)) ?_
 refine RP rfl rfl ?_
 refine RN ?_
 refine A.no rfl ?_
 refine A.skip ?_
 refine EN ?_
 refine A.seq ?_
 refine GS ?_
 refine TL ?_
 refine RS (ok_loadA (s := 1000003) (by decide) Tryd.underlying41 rfl (size41.of (hx.len)) rfl rfl) ?_
 refine RS (ok_call (nCheck_fn x hx) (A1 rfl)) ?_
 refine RA rfl ?_
 refine RN ?_
 refine GS ?_
 refine TL ?_
 refine RM rfl ?_
 refine RBS rfl rfl rfl (.bool false) (by simp [hk]) ?_
 refine RN ?_
 refine A.no rfl ?_
 refine A.skip ?_
 refine EN ?_
 refine A.seq ?_
 refine GS ?_
 refine TL ?_
 refine RM rfl ?_
 refine RS (ok_not rfl) ?_
 refine RN ?_
 refine A.yes rfl ?_
 refine GS ?_
 refine TL ?_
 refine RA rfl ?_
 refine RN ?_
 refine A.ret ?_
 refine End.ret_then ?_
 exact End.ret1 rfl rfl (by first | exact Le.refl _ | exact Le.old _ _)
theorem cp_true (x : NodT) (hx : x.Fit) (n : Int) (h0 : 0 ≤ n) (h4 : n < 4) (hk : x.ck = 0) : Fn Tryd.prog 63 [.v (aggV x.v), .v (.int .i64 (n)), .v (.bool true)] (.v (.int .i64 (0))) := by
 refine Fn.of Tryd.func63 rfl (by kernel_rfl) Tryd.ntmps63 (by simp) (fun w => [(0, .v (aggV x.v)), (1, .v (.int .i64 (n))), (2, .v (.bool true))]) (fun w => (Start.v rfl (Start.v rfl (Start.v rfl Start.nil)))) fun w₀ => ?_
 refine GS ?_
 refine TN 0 ?_
 refine RN ?_
 refine ⟨_, _, eff_box (n := 21) (d := 3) (k := 1000003) rfl (by decide), fun b3 hb3 => ?_⟩
 have hBb3 := hb3.1
 refine TL ?_
 refine RA rfl ?_
 refine RN ?_
 refine A.seq ?_
 refine GS ?_
 refine TL ?_
 refine RM rfl ?_
 refine RBS rfl rfl rfl (.bool false) (by first | rfl | (simp; done) | (simp; omega) | (simp [*]; done) | (simp [*]; omega)) ?_
 refine RM rfl ?_
 refine RQ (ok_move rfl) ?_
 refine RQ (ok_bin rfl rfl rfl) ?_; refine RZ (.bool false) (by first | rfl | (simp; done) | (simp; omega) | (simp [*]; done) | (simp [*]; omega)) ?_
 refine RP rfl rfl ?_
 refine RN ?_
 refine A.no rfl ?_
 refine A.skip ?_
 refine EN ?_
 refine A.seq ?_
 refine GS ?_
 refine TL ?_
 refine RS (ok_loadA (s := 1000003) (by decide) Tryd.underlying41 rfl (size41.of (hx.len)) rfl rfl) ?_
 refine RS (ok_call (nCheck_fn x hx) (A1 rfl)) ?_
 refine RA rfl ?_
 refine RN ?_
 refine GS ?_
 refine TL ?_
 refine RM rfl ?_
 refine RBS rfl rfl rfl (.bool false) (by simp [hk]) ?_
 refine RN ?_
 refine A.no rfl ?_
 refine A.skip ?_
 refine EN ?_
 refine A.seq ?_
 refine GS ?_
 refine TL ?_
 refine RM rfl ?_
 refine RS (ok_not rfl) ?_
 refine RN ?_
 refine A.no rfl ?_
 refine A.skip ?_
 refine EN ?_
 refine GS ?_
 refine TL ?_
 refine RA rfl ?_
 refine RN ?_
 refine A.ret ?_
 exact End.ret1 rfl rfl (by first | exact Le.refl _ | exact Le.old _ _)
theorem checkPlace_fn (x : NodT) (hx : x.Fit) (n : Int) (b : Bool) : Fn Tryd.prog 63 [.v (aggV x.v), .v (.int .i64 (n)), .v (.bool b)] (.v (.int .i64 (cpN x n b))) := by
 unfold cpN
 by_cases h0 : 0 ≤ n
 ·by_cases h4 : n < 4
  ·rw [if_neg (by omega)]
   by_cases hk : x.ck = 0
   ·rw [if_neg (by simp [hk])]
    cases b with
    | false => rw [if_pos rfl]; exact cp_false x hx n h0 h4 hk
    | true => rw [if_neg (by decide)]; exact cp_true x hx n h0 h4 hk
   ·rw [if_pos hk]; exact cp_ck x hx n b h0 h4 hk
  ·rw [if_pos (by omega)]; exact cp_hi x hx n b (by omega)
 ·rw [if_pos (by omega)]; exact cp_lo x hx n b (by omega)
theorem isGroup_fn (x : NodT) (hx : x.Fit) : Fn Tryd.prog 33 [.v (aggV x.v)] (.v (.bool (decide (x.l.toNat = 0)))) := by
 by_cases h : x.l.toNat = 0
 ·rw [decide_eq_true h]; exact isGroup_y x hx h
 ·rw [decide_eq_false h]; exact isGroup_n x hx h
theorem WithRecord_p (x : NodT) (hx : x.Fit) (n : Int) (r : RecT) (hr : r.Fit) (h : cpN x n (decide (x.l.toNat = 0)) ≠ 0) : Fn Tryd.prog 23 [.v (aggV x.v), .v (.int .i64 (n)), .v (aggV r.v)] (.v (.tuple #[aggV (NodT.emp 0 0).v, .int .i64 (cpN x n (decide (x.l.toNat = 0)))])) := by
 refine Fn.of Tryd.func23 rfl (by kernel_rfl) Tryd.ntmps23 (by simp) (fun w => [(0, .v (aggV x.v)), (1, .v (.int .i64 (n))), (2, .v (aggV r.v))]) (fun w => (Start.v rfl (Start.v rfl (Start.v rfl Start.nil)))) fun w₀ => ?_
 refine GS ?_
 refine TN 0 ?_
 refine RN ?_
 refine ⟨_, _, eff_box (n := 30) (d := 3) (k := 1000003) rfl (by decide), fun b3 hb3 => ?_⟩
 have hBb3 := hb3.1
 refine TN 1 ?_
 refine RN ?_
 refine ⟨_, _, eff_box (n := 30) (d := 5) (k := 1000005) rfl (by decide), fun b5 hb5 => ?_⟩
 have hBb5 := hb5.1
 refine TN 2 ?_
 refine RN ?_
 refine ⟨_, _, eff_alloc (n := 30) (d := 6) (k := 1000006) zero41 (by decide), fun b6 hb6 => ?_⟩
 have hBb6 := hb6.1
 have hlt_b3_b6 : b3 < b6 := hb6.2 1000003 _ _ _ rfl
 refine TL ?_
 refine RA rfl ?_
 refine RN ?_
 refine A.seq ?_
 refine GD ?_
 refine TL ?_
 refine RS (ok_loadA (s := 1000003) (by decide) Tryd.underlying41 rfl (size41.of (hx.len)) rfl rfl) ?_
 refine RM rfl ?_
 refine RS (ok_loadA (s := 1000003) (by decide) Tryd.underlying41 rfl (size41.of (hx.len)) rfl rfl) ?_
 refine RS (ok_call (isGroup_fn x hx) (A1 rfl)) ?_
 refine RS (ok_call (checkPlace_fn x hx n (decide (x.l.toNat = 0))) (A3 rfl rfl rfl)) ?_
 refine RA rfl ?_
 refine RN ?_
 refine GS ?_
 refine TL ?_
 refine RM rfl ?_
 refine RBS rfl rfl rfl (.bool true) (by simp [h]) ?_
 refine RN ?_
 refine A.yes rfl ?_
 refine GS ?_
 refine TF 2 ?_
 refine RS (ok_lit [] (NodT.v (NodT.emp 0 0)) (fun _ _ => rfl) (by kernel_rfl)) ?_
 refine RM rfl ?_
 refine RN ?_
 refine ⟨_, eff_storeA (n := 30) (s := 1000006) (size41.of (rfl)) rfl rfl (by first | exact NodT.one _ | exact RecT.one _ | exact EntT.one _ | exact RecT.all1 _ | exact EntT.all1 _ | exact all_byte _ | exact all_bytes _) hBb6 rfl (by first | rfl | (rw [rfl]; rfl)) (LV 6 rfl (LV 18 rfl (LB 1000003 rfl (LT 1000005 rfl LN)))), ?_⟩
 refine TL ?_
 refine RA rfl ?_
 refine RN ?_
 refine A.ret ?_
 refine End.ret_then ?_
 exact End.cellV (s := 1000006) rfl Tryd.underlying41 rfl (size41.of (rfl)) rfl rfl rfl
theorem WithRecord_c (x : NodT) (hx : x.Fit) (n : Int) (r : RecT) (hr : r.Fit) (h : cpN x n (decide (x.l.toNat = 0)) = 0) (hb : r.ck ≠ 0) : Fn Tryd.prog 23 [.v (aggV x.v), .v (.int .i64 (n)), .v (aggV r.v)] (.v (.tuple #[aggV (NodT.emp 0 0).v, .int .i64 r.ck])) := by
 refine Fn.of Tryd.func23 rfl (by kernel_rfl) Tryd.ntmps23 (by simp) (fun w => [(0, .v (aggV x.v)), (1, .v (.int .i64 (n))), (2, .v (aggV r.v))]) (fun w => (Start.v rfl (Start.v rfl (Start.v rfl Start.nil)))) fun w₀ => ?_
 refine GS ?_
 refine TN 0 ?_
 refine RN ?_
 refine ⟨_, _, eff_box (n := 30) (d := 3) (k := 1000003) rfl (by decide), fun b3 hb3 => ?_⟩
 have hBb3 := hb3.1
 refine TN 1 ?_
 refine RN ?_
 refine ⟨_, _, eff_box (n := 30) (d := 5) (k := 1000005) rfl (by decide), fun b5 hb5 => ?_⟩
 have hBb5 := hb5.1
 refine TN 2 ?_
 refine RN ?_
 refine ⟨_, _, eff_alloc (n := 30) (d := 6) (k := 1000006) zero41 (by decide), fun b6 hb6 => ?_⟩
 have hBb6 := hb6.1
 have hlt_b3_b6 : b3 < b6 := hb6.2 1000003 _ _ _ rfl
 refine TL ?_
 refine RA rfl ?_
 refine RN ?_
 refine A.seq ?_
 refine GD ?_
 refine TL ?_
 refine RS (ok_loadA (s := 1000003) (by decide) Tryd.underlying41 rfl (size41.of (hx.len)) rfl rfl) ?_
 refine RM rfl ?_
 refine RS (ok_loadA (s := 1000003) (by decide) Tryd.underlying41 rfl (size41.of (hx.len)) rfl rfl) ?_
 refine RS (ok_call (isGroup_fn x hx) (A1 rfl)) ?_
 refine RS (ok_call (checkPlace_fn x hx n (decide (x.l.toNat = 0))) (A3 rfl rfl rfl)) ?_
 refine RA rfl ?_
 refine RN ?_
 refine GS ?_
 refine TL ?_
 refine RM rfl ?_
 refine RBS rfl rfl rfl (.bool false) (by simp [h]) ?_
 refine RN ?_
 refine A.no rfl ?_
 refine A.skip ?_
 refine EN ?_
 refine A.seq ?_
 refine GS ?_
 refine TL ?_
 refine RS (ok_loadA (s := 1000005) (by decide) Tryd.underlying35 rfl (size35.of (hr.len)) rfl rfl) ?_
 refine RS (ok_call (CheckR_fn r.x r.s r.c r.t hr.t) (A1 rfl)) ?_; refine RZ (.int .i64 r.ck) (rfl) ?_
 refine RA rfl ?_
 refine RN ?_
 refine GS ?_
 refine TL ?_
 refine RM rfl ?_
 refine RBS rfl rfl rfl (.bool true) (by simp [hb]) ?_
 refine RN ?_
 refine A.yes rfl ?_
 refine GS ?_
 refine TF 2 ?_
 refine RS (ok_lit [] (NodT.v (NodT.emp 0 0)) (fun _ _ => rfl) (by kernel_rfl)) ?_
 refine RM rfl ?_
 refine RN ?_
 refine ⟨_, eff_storeA (n := 30) (s := 1000006) (size41.of (rfl)) rfl rfl (by first | exact NodT.one _ | exact RecT.one _ | exact EntT.one _ | exact RecT.all1 _ | exact EntT.all1 _ | exact all_byte _ | exact all_bytes _) hBb6 rfl (by first | rfl | (rw [rfl]; rfl)) (LV 6 rfl (LV 24 rfl (LB 1000003 rfl (LT 1000005 rfl LN)))), ?_⟩
 refine TL ?_
 refine RA rfl ?_
 refine RN ?_
 refine A.ret ?_
 refine End.ret_then ?_
 exact End.cellV (s := 1000006) rfl Tryd.underlying41 rfl (size41.of (rfl)) rfl rfl rfl
theorem WithRecord_ok (x : NodT) (hx : x.Fit) (n : Int) (r : RecT) (hr : r.Fit) (h : cpN x n (decide (x.l.toNat = 0)) = 0) (hb : r.ck = 0) (h0 : 0 ≤ n) (h4 : n < 4) : Fn Tryd.prog 23 [.v (aggV x.v), .v (.int .i64 (n)), .v (aggV r.v)] (.v (.tuple #[aggV ({ x with R := x.R.set n.toNat r } : NodT).v, .int .i64 0])) := by
 refine Fn.of Tryd.func23 rfl (by kernel_rfl) Tryd.ntmps23 (by simp) (fun w => [(0, .v (aggV x.v)), (1, .v (.int .i64 (n))), (2, .v (aggV r.v))]) (fun w => (Start.v rfl (Start.v rfl (Start.v rfl Start.nil)))) fun w₀ => ?_
 refine GS ?_
 refine TN 0 ?_
 refine RN ?_
 refine ⟨_, _, eff_box (n := 30) (d := 3) (k := 1000003) rfl (by decide), fun b3 hb3 => ?_⟩
 have hBb3 := hb3.1
 refine TN 1 ?_
 refine RN ?_
 refine ⟨_, _, eff_box (n := 30) (d := 5) (k := 1000005) rfl (by decide), fun b5 hb5 => ?_⟩
 have hBb5 := hb5.1
 refine TN 2 ?_
 refine RN ?_
 refine ⟨_, _, eff_alloc (n := 30) (d := 6) (k := 1000006) zero41 (by decide), fun b6 hb6 => ?_⟩
 have hBb6 := hb6.1
 have hlt_b3_b6 : b3 < b6 := hb6.2 1000003 _ _ _ rfl
 refine TL ?_
 refine RA rfl ?_
 refine RN ?_
 refine A.seq ?_
 refine GD ?_
 refine TL ?_
 refine RS (ok_loadA (s := 1000003) (by decide) Tryd.underlying41 rfl (size41.of (hx.len)) rfl rfl) ?_
 refine RM rfl ?_
 refine RS (ok_loadA (s := 1000003) (by decide) Tryd.underlying41 rfl (size41.of (hx.len)) rfl rfl) ?_
 refine RS (ok_call (isGroup_fn x hx) (A1 rfl)) ?_
 refine RS (ok_call (checkPlace_fn x hx n (decide (x.l.toNat = 0))) (A3 rfl rfl rfl)) ?_
 refine RA rfl ?_
 refine RN ?_
 refine GS ?_
 refine TL ?_
 refine RM rfl ?_
 refine RBS rfl rfl rfl (.bool false) (by simp [h]) ?_
 refine RN ?_
 refine A.no rfl ?_
 refine A.skip ?_
 refine EN ?_
 refine A.seq ?_
 refine GS ?_
 refine TL ?_
 refine RS (ok_loadA (s := 1000005) (by decide) Tryd.underlying35 rfl (size35.of (hr.len)) rfl rfl) ?_
 refine RS (ok_call (CheckR_fn r.x r.s r.c r.t hr.t) (A1 rfl)) ?_; refine RZ (.int .i64 r.ck) (rfl) ?_
 refine RA rfl ?_
 refine RN ?_
 refine GS ?_
 refine TL ?_
 refine RM rfl ?_
 refine RBS rfl rfl rfl (.bool false) (by simp [hb]) ?_
 refine RN ?_
 refine A.no rfl ?_
 refine A.skip ?_
 refine EN ?_
 refine GS ?_
 refine TF 4 ?_
 refine RM rfl ?_
 refine RS (ok_loadA (s := 1000005) (by decide) Tryd.underlying35 rfl (size35.of (hr.len)) rfl rfl) ?_
 refine RS (ok_field field41_2 (by decide) rfl) ?_
 refine RS (ok_indexN (n.toNat) Tryd.underlying36 size35 rfl rfl (by omega) (by omega)) ?_
 refine RN ?_
 refine ⟨_, eff_storeP (n := 30) (s := 1000003) (size35.of (hr.len)) rfl rfl (RecT.one _) hBb3 rfl (by rw [hx.len, hr.len]; omega) (LV 3 rfl (LV 6 rfl (LT 1000005 rfl (LB 1000006 rfl LN)))), ?_⟩
 refine TL ?_
 refine RN ?_
 refine A.sub (KC 3 rfl (KC 6 rfl (KE 1000003 rfl (show _ = blk b3 41 ({ x with R := x.R.set n.toNat r } : NodT).v from congrArg _ (hx.set_rec (by omega) hr)) (KC 1000005 rfl (KC 1000006 rfl KN))))) ?_
 refine GS ?_
 refine TF 1 ?_
 refine RS (ok_loadA (s := 1000003) (by decide) Tryd.underlying41 rfl (size41.of ((hx.setR n.toNat hr).len)) rfl rfl) ?_
 refine RN ?_
 refine ⟨_, eff_storeA (n := 30) (s := 1000006) (size41.of ((hx.setR n.toNat hr).len)) rfl rfl (NodT.one _) hBb6 rfl (by rw [(hx.setR n.toNat hr).len]; rfl) (LV 6 rfl (LB 1000003 rfl (LT 1000005 rfl LN))), ?_⟩
 refine TL ?_
 refine RA rfl ?_
 refine RN ?_
 refine A.ret ?_
 exact End.cellV (s := 1000006) rfl Tryd.underlying41 rfl (size41.of ((hx.setR n.toNat hr).len)) rfl rfl rfl
theorem WithRecord_fn (x : NodT) (hx : x.Fit) (n : Int) (r : RecT) (hr : r.Fit) : Fn Tryd.prog 23 [.v (aggV x.v), .v (.int .i64 (n)), .v (aggV r.v)] (.v (.tuple #[aggV (wrX x n r).v, .int .i64 (wrE x n r)])) := by
 by_cases h : cpN x n (decide (x.l.toNat = 0)) = 0
 ·have hE : wrE x n r = r.ck := by unfold wrE; rw [if_neg (by simp [h])]
  obtain ⟨h0, h4, _, _⟩ := cp_ok h
  by_cases hb : r.ck = 0
  ·rw [show wrX x n r = ({ x with R := x.R.set n.toNat r } : NodT) from if_pos (hE.trans hb), hE, hb]; exact WithRecord_ok x hx n r hr h hb h0 h4
  ·rw [show wrX x n r = NodT.emp 0 0 from if_neg (by rw [hE]; exact hb), hE]; exact WithRecord_c x hx n r hr h hb
 ·have hE : wrE x n r = cpN x n (decide (x.l.toNat = 0)) := by unfold wrE; rw [if_pos h]
  rw [show wrX x n r = NodT.emp 0 0 from if_neg (by rw [hE]; exact h), hE]; exact WithRecord_p x hx n r hr h
theorem WithEntry_p (x : NodT) (hx : x.Fit) (n : Int) (r : EntT) (hr : r.Fit) (h : cpN x n (!(decide (x.l.toNat = 0))) ≠ 0) : Fn Tryd.prog 24 [.v (aggV x.v), .v (.int .i64 (n)), .v (aggV r.v)] (.v (.tuple #[aggV (NodT.emp 0 0).v, .int .i64 (cpN x n (!(decide (x.l.toNat = 0))))])) := by
 refine Fn.of Tryd.func24 rfl (by kernel_rfl) Tryd.ntmps24 (by simp) (fun w => [(0, .v (aggV x.v)), (1, .v (.int .i64 (n))), (2, .v (aggV r.v))]) (fun w => (Start.v rfl (Start.v rfl (Start.v rfl Start.nil)))) fun w₀ => ?_
 refine GS ?_
 refine TN 0 ?_
 refine RN ?_
 refine ⟨_, _, eff_box (n := 31) (d := 3) (k := 1000003) rfl (by decide), fun b3 hb3 => ?_⟩
 have hBb3 := hb3.1
 refine TN 1 ?_
 refine RN ?_
 refine ⟨_, _, eff_box (n := 31) (d := 5) (k := 1000005) rfl (by decide), fun b5 hb5 => ?_⟩
 have hBb5 := hb5.1
 refine TN 2 ?_
 refine RN ?_
 refine ⟨_, _, eff_alloc (n := 31) (d := 6) (k := 1000006) zero41 (by decide), fun b6 hb6 => ?_⟩
 have hBb6 := hb6.1
 have hlt_b3_b6 : b3 < b6 := hb6.2 1000003 _ _ _ rfl
 refine TL ?_
 refine RA rfl ?_
 refine RN ?_
 refine A.seq ?_
 refine GD ?_
 refine TL ?_
 refine RS (ok_loadA (s := 1000003) (by decide) Tryd.underlying41 rfl (size41.of (hx.len)) rfl rfl) ?_
 refine RM rfl ?_
 refine RS (ok_loadA (s := 1000003) (by decide) Tryd.underlying41 rfl (size41.of (hx.len)) rfl rfl) ?_
 refine RS (ok_call (isGroup_fn x hx) (A1 rfl)) ?_
 refine RS (ok_not rfl) ?_
 refine RS (ok_call (checkPlace_fn x hx n (!(decide (x.l.toNat = 0)))) (A3 rfl rfl rfl)) ?_
 refine RA rfl ?_
 refine RN ?_
 refine GS ?_
 refine TL ?_
 refine RM rfl ?_
 refine RBS rfl rfl rfl (.bool true) (by simp [h]) ?_
 refine RN ?_
 refine A.yes rfl ?_
 refine GS ?_
 refine TF 2 ?_
 refine RS (ok_lit [] (NodT.v (NodT.emp 0 0)) (fun _ _ => rfl) (by kernel_rfl)) ?_
 refine RM rfl ?_
 refine RN ?_
 refine ⟨_, eff_storeA (n := 31) (s := 1000006) (size41.of (rfl)) rfl rfl (by first | exact NodT.one _ | exact RecT.one _ | exact EntT.one _ | exact RecT.all1 _ | exact EntT.all1 _ | exact all_byte _ | exact all_bytes _) hBb6 rfl (by first | rfl | (rw [rfl]; rfl)) (LV 6 rfl (LV 19 rfl (LB 1000003 rfl (LT 1000005 rfl LN)))), ?_⟩
 refine TL ?_
 refine RA rfl ?_
 refine RN ?_
 refine A.ret ?_
 refine End.ret_then ?_
 exact End.cellV (s := 1000006) rfl Tryd.underlying41 rfl (size41.of (rfl)) rfl rfl rfl
theorem WithEntry_c (x : NodT) (hx : x.Fit) (n : Int) (r : EntT) (hr : r.Fit) (h : cpN x n (!(decide (x.l.toNat = 0))) = 0) (hb : r.ck ≠ 0) : Fn Tryd.prog 24 [.v (aggV x.v), .v (.int .i64 (n)), .v (aggV r.v)] (.v (.tuple #[aggV (NodT.emp 0 0).v, .int .i64 r.ck])) := by
 refine Fn.of Tryd.func24 rfl (by kernel_rfl) Tryd.ntmps24 (by simp) (fun w => [(0, .v (aggV x.v)), (1, .v (.int .i64 (n))), (2, .v (aggV r.v))]) (fun w => (Start.v rfl (Start.v rfl (Start.v rfl Start.nil)))) fun w₀ => ?_
 refine GS ?_
 refine TN 0 ?_
 refine RN ?_
 refine ⟨_, _, eff_box (n := 31) (d := 3) (k := 1000003) rfl (by decide), fun b3 hb3 => ?_⟩
 have hBb3 := hb3.1
 refine TN 1 ?_
 refine RN ?_
 refine ⟨_, _, eff_box (n := 31) (d := 5) (k := 1000005) rfl (by decide), fun b5 hb5 => ?_⟩
 have hBb5 := hb5.1
 refine TN 2 ?_
 refine RN ?_
 refine ⟨_, _, eff_alloc (n := 31) (d := 6) (k := 1000006) zero41 (by decide), fun b6 hb6 => ?_⟩
 have hBb6 := hb6.1
 have hlt_b3_b6 : b3 < b6 := hb6.2 1000003 _ _ _ rfl
 refine TL ?_
 refine RA rfl ?_
 refine RN ?_
 refine A.seq ?_
 refine GD ?_
 refine TL ?_
 refine RS (ok_loadA (s := 1000003) (by decide) Tryd.underlying41 rfl (size41.of (hx.len)) rfl rfl) ?_
 refine RM rfl ?_
 refine RS (ok_loadA (s := 1000003) (by decide) Tryd.underlying41 rfl (size41.of (hx.len)) rfl rfl) ?_
 refine RS (ok_call (isGroup_fn x hx) (A1 rfl)) ?_
 refine RS (ok_not rfl) ?_
 refine RS (ok_call (checkPlace_fn x hx n (!(decide (x.l.toNat = 0)))) (A3 rfl rfl rfl)) ?_
 refine RA rfl ?_
 refine RN ?_
 refine GS ?_
 refine TL ?_
 refine RM rfl ?_
 refine RBS rfl rfl rfl (.bool false) (by simp [h]) ?_
 refine RN ?_
 refine A.no rfl ?_
 refine A.skip ?_
 refine EN ?_
 refine A.seq ?_
 refine GS ?_
 refine TL ?_
 refine RS (ok_loadA (s := 1000005) (by decide) Tryd.underlying38 rfl (size38.of (hr.len)) rfl rfl) ?_
 refine RS (ok_call (CheckE_fn r.x r.t hr.t) (A1 rfl)) ?_; refine RZ (.int .i64 r.ck) (rfl) ?_
 refine RA rfl ?_
 refine RN ?_
 refine GS ?_
 refine TL ?_
 refine RM rfl ?_
 refine RBS rfl rfl rfl (.bool true) (by simp [hb]) ?_
 refine RN ?_
 refine A.yes rfl ?_
 refine GS ?_
 refine TF 2 ?_
 refine RS (ok_lit [] (NodT.v (NodT.emp 0 0)) (fun _ _ => rfl) (by kernel_rfl)) ?_
 refine RM rfl ?_
 refine RN ?_
 refine ⟨_, eff_storeA (n := 31) (s := 1000006) (size41.of (rfl)) rfl rfl (by first | exact NodT.one _ | exact RecT.one _ | exact EntT.one _ | exact RecT.all1 _ | exact EntT.all1 _ | exact all_byte _ | exact all_bytes _) hBb6 rfl (by first | rfl | (rw [rfl]; rfl)) (LV 6 rfl (LV 25 rfl (LB 1000003 rfl (LT 1000005 rfl LN)))), ?_⟩
 refine TL ?_
 refine RA rfl ?_
 refine RN ?_
 refine A.ret ?_
 refine End.ret_then ?_
 exact End.cellV (s := 1000006) rfl Tryd.underlying41 rfl (size41.of (rfl)) rfl rfl rfl
theorem WithEntry_ok (x : NodT) (hx : x.Fit) (n : Int) (r : EntT) (hr : r.Fit) (h : cpN x n (!(decide (x.l.toNat = 0))) = 0) (hb : r.ck = 0) (h0 : 0 ≤ n) (h4 : n < 4) : Fn Tryd.prog 24 [.v (aggV x.v), .v (.int .i64 (n)), .v (aggV r.v)] (.v (.tuple #[aggV ({ x with E := x.E.set n.toNat r } : NodT).v, .int .i64 0])) := by
 refine Fn.of Tryd.func24 rfl (by kernel_rfl) Tryd.ntmps24 (by simp) (fun w => [(0, .v (aggV x.v)), (1, .v (.int .i64 (n))), (2, .v (aggV r.v))]) (fun w => (Start.v rfl (Start.v rfl (Start.v rfl Start.nil)))) fun w₀ => ?_
 refine GS ?_
 refine TN 0 ?_
 refine RN ?_
 refine ⟨_, _, eff_box (n := 31) (d := 3) (k := 1000003) rfl (by decide), fun b3 hb3 => ?_⟩
 have hBb3 := hb3.1
 refine TN 1 ?_
 refine RN ?_
 refine ⟨_, _, eff_box (n := 31) (d := 5) (k := 1000005) rfl (by decide), fun b5 hb5 => ?_⟩
 have hBb5 := hb5.1
 refine TN 2 ?_
 refine RN ?_
 refine ⟨_, _, eff_alloc (n := 31) (d := 6) (k := 1000006) zero41 (by decide), fun b6 hb6 => ?_⟩
 have hBb6 := hb6.1
 have hlt_b3_b6 : b3 < b6 := hb6.2 1000003 _ _ _ rfl
 refine TL ?_
 refine RA rfl ?_
 refine RN ?_
 refine A.seq ?_
 refine GD ?_
 refine TL ?_
 refine RS (ok_loadA (s := 1000003) (by decide) Tryd.underlying41 rfl (size41.of (hx.len)) rfl rfl) ?_
 refine RM rfl ?_
 refine RS (ok_loadA (s := 1000003) (by decide) Tryd.underlying41 rfl (size41.of (hx.len)) rfl rfl) ?_
 refine RS (ok_call (isGroup_fn x hx) (A1 rfl)) ?_
 refine RS (ok_not rfl) ?_
 refine RS (ok_call (checkPlace_fn x hx n (!(decide (x.l.toNat = 0)))) (A3 rfl rfl rfl)) ?_
 refine RA rfl ?_
 refine RN ?_
 refine GS ?_
 refine TL ?_
 refine RM rfl ?_
 refine RBS rfl rfl rfl (.bool false) (by simp [h]) ?_
 refine RN ?_
 refine A.no rfl ?_
 refine A.skip ?_
 refine EN ?_
 refine A.seq ?_
 refine GS ?_
 refine TL ?_
 refine RS (ok_loadA (s := 1000005) (by decide) Tryd.underlying38 rfl (size38.of (hr.len)) rfl rfl) ?_
 refine RS (ok_call (CheckE_fn r.x r.t hr.t) (A1 rfl)) ?_; refine RZ (.int .i64 r.ck) (rfl) ?_
 refine RA rfl ?_
 refine RN ?_
 refine GS ?_
 refine TL ?_
 refine RM rfl ?_
 refine RBS rfl rfl rfl (.bool false) (by simp [hb]) ?_
 refine RN ?_
 refine A.no rfl ?_
 refine A.skip ?_
 refine EN ?_
 refine GS ?_
 refine TF 4 ?_
 refine RM rfl ?_
 refine RS (ok_loadA (s := 1000005) (by decide) Tryd.underlying38 rfl (size38.of (hr.len)) rfl rfl) ?_
 refine RS (ok_field field41_3 (by decide) rfl) ?_
 refine RS (ok_indexN (n.toNat) Tryd.underlying39 size38 rfl rfl (by omega) (by omega)) ?_
 refine RN ?_
 refine ⟨_, eff_storeP (n := 31) (s := 1000003) (size38.of (hr.len)) rfl rfl (EntT.one _) hBb3 rfl (by rw [hx.len, hr.len]; omega) (LV 3 rfl (LV 6 rfl (LT 1000005 rfl (LB 1000006 rfl LN)))), ?_⟩
 refine TL ?_
 refine RN ?_
 refine A.sub (KC 3 rfl (KC 6 rfl (KE 1000003 rfl (show _ = blk b3 41 ({ x with E := x.E.set n.toNat r } : NodT).v from congrArg _ (hx.set_ent (by omega) hr)) (KC 1000005 rfl (KC 1000006 rfl KN))))) ?_
 refine GS ?_
 refine TF 1 ?_
 refine RS (ok_loadA (s := 1000003) (by decide) Tryd.underlying41 rfl (size41.of ((hx.setE n.toNat hr).len)) rfl rfl) ?_
 refine RN ?_
 refine ⟨_, eff_storeA (n := 31) (s := 1000006) (size41.of ((hx.setE n.toNat hr).len)) rfl rfl (NodT.one _) hBb6 rfl (by rw [(hx.setE n.toNat hr).len]; rfl) (LV 6 rfl (LB 1000003 rfl (LT 1000005 rfl LN))), ?_⟩
 refine TL ?_
 refine RA rfl ?_
 refine RN ?_
 refine A.ret ?_
 exact End.cellV (s := 1000006) rfl Tryd.underlying41 rfl (size41.of ((hx.setE n.toNat hr).len)) rfl rfl rfl
theorem WithEntry_fn (x : NodT) (hx : x.Fit) (n : Int) (r : EntT) (hr : r.Fit) : Fn Tryd.prog 24 [.v (aggV x.v), .v (.int .i64 (n)), .v (aggV r.v)] (.v (.tuple #[aggV (weX x n r).v, .int .i64 (weE x n r)])) := by
 by_cases h : cpN x n (!(decide (x.l.toNat = 0))) = 0
 ·have hE : weE x n r = r.ck := by unfold weE; rw [if_neg (by simp [h])]
  obtain ⟨h0, h4, _, _⟩ := cp_ok h
  by_cases hb : r.ck = 0
  ·rw [show weX x n r = ({ x with E := x.E.set n.toNat r } : NodT) from if_pos (hE.trans hb), hE, hb]; exact WithEntry_ok x hx n r hr h hb h0 h4
  ·rw [show weX x n r = NodT.emp 0 0 from if_neg (by rw [hE]; exact hb), hE]; exact WithEntry_c x hx n r hr h hb
 ·have hE : weE x n r = cpN x n (!(decide (x.l.toNat = 0))) := by unfold weE; rw [if_pos h]
  rw [show weX x n r = NodT.emp 0 0 from if_neg (by rw [hE]; exact h), hE]; exact WithEntry_p x hx n r hr h
theorem usedR_fn (r : RecT) : Fn Tryd.prog 60 [.v (aggV r.v)] (.v (.bool (decide (r.x.toNat ≠ 0)))) := by
 refine Fn.of Tryd.func60 rfl (by kernel_rfl) Tryd.ntmps60 (by simp) (fun w => [(0, .v (aggV r.v))]) (fun w => (Start.v rfl Start.nil)) fun w₀ => ?_
 refine GS ?_
 refine TN 0 ?_
 refine RN ?_
 refine ⟨_, _, eff_box (n := 6) (d := 1) (k := 1000001) rfl (by decide), fun b1 hb1 => ?_⟩
 have hBb1 := hb1.1
 refine TL ?_
 refine RA rfl ?_
 refine RN ?_
 refine GS ?_
 refine TL ?_
 refine RS (ok_field field35_0 (by decide) rfl) ?_
 refine RS (ok_loadV (s := 1000001) (by decide) Tryd.underlying5 rfl rfl rfl (rfl)) ?_
 refine RBS rfl rfl rfl (.bool (decide (r.x.toNat ≠ 0))) (used_eq _) ?_
 refine RA rfl ?_
 refine RN ?_
 refine A.ret ?_
 exact End.ret1 rfl rfl (by first | exact Le.refl _ | exact Le.old _ _)
theorem countR_fn (L : List RecT) (hL : L.length = 4) (hf : ∀ r ∈ L, r.Fit) : Fn Tryd.prog 59 [.v (aggV (recsV L)), .v (.func (.func 60) #[] #[])] (.v (nI (cnt (fun i => decide ((L.getD i RecT.zero).x.toNat ≠ 0)) 4))) := by
 refine Fn.of Tryd.func59 rfl (by kernel_rfl) Tryd.ntmps59 (by simp) (fun w => [(0, .v (aggV (recsV L))), (1, .v (.func (.func 60) #[] #[]))]) (fun w => (Start.v rfl (Start.v rfl Start.nil))) fun w₀ => ?_
 refine GS ?_
 refine TN 0 ?_
 refine RN ?_
 refine ⟨_, _, eff_box (n := 19) (d := 2) (k := 1000002) rfl (by decide), fun b2 hb2 => ?_⟩
 have hBb2 := hb2.1
 refine TL ?_
 refine RA rfl ?_
 refine RN ?_
 refine GS ?_
 refine TL ?_
 refine RA rfl ?_
 refine RN ?_
 refine A.seq ?_
 refine GS ?_
 refine TL ?_
 refine RS (ok_loadA (s := 1000002) (by decide) Tryd.underlying36 rfl (size36.of (by rw [flat_length (RecT.lens hf), hL])) rfl rfl) ?_
 refine RM rfl ?_
 refine RN ?_
 refine A.block ?_
 refine A.loop (ι := Nat) (fun i => i ≤ 4) (fun i => [(1, .v (.func (.func 60) #[] #[])), (5, .v (nI (cnt (fun i => decide ((L.getD i RecT.zero).x.toNat ≠ 0)) i))), (8, .v (aggV (recsV L))), (9, .v (nI (i)))]) (fun i => 4 - i) 0 ?_ ?_ ?_
 ·exact Nat.zero_le _
 ·exact (KC 1 rfl (KE 5 rfl (by rfl) (KC 8 rfl (KE 9 rfl (by rfl) KN))))
 intro i hG
 refine GS ?_
 refine TL ?_
 refine RB rfl rfl rfl ?_
 refine RN ?_
 refine A.seq ?_
 refine A.cond rfl (fun hc10 => ?_) (fun hc10 => ?_)
 ·have hi : i < 4 := by simp at hc10; omega
  refine A.skip ?_
  refine EN ?_
  refine A.seq ?_
  refine A.block ?_
  refine GS ?_
  refine TN 1 ?_
  refine RS (ok_indexAgg i Tryd.underlying36 Tryd.underlying35 rfl size35 rfl rfl rfl hi (flat_getD (RecT.lens hf) (by omega) RecT.zero)) ?_
  refine RN ?_
  refine ⟨_, _, eff_alloc (n := 19) (d := 7) (k := 1000007) zero35 (by decide), fun b7 hb7 => ?_⟩
  have hBb7 := hb7.1
  refine TF 2 ?_
  refine RN ?_
  refine ⟨_, eff_storeA (n := 19) (s := 1000007) (size35.of ((hf (L.getD i RecT.zero) (getD_mem4 hL hi _)).len)) rfl rfl (by first | exact NodT.one _ | exact RecT.one _ | exact EntT.one _ | exact RecT.all1 _ | exact EntT.all1 _ | exact all_byte _ | exact all_bytes _) hBb7 rfl (by first | rfl | (rw [(hf (L.getD i RecT.zero) (getD_mem4 hL hi _)).len]; rfl)) (LV 1 rfl (LV 5 rfl (LV 7 rfl (LV 8 rfl (LV 9 rfl LN))))), ?_⟩
  refine TL ?_
  refine RN ?_
  refine GS ?_
  refine TL ?_
  refine RM rfl ?_
  refine RS (ok_loadA (s := 1000007) (by decide) Tryd.underlying35 rfl (size35.of ((hf (L.getD i RecT.zero) (getD_mem4 hL hi _)).len)) rfl rfl) ?_
  refine RS (ok_callV0 (usedR_fn (L.getD i RecT.zero)) rfl (A1 rfl)) ?_
  refine RN ?_
  refine A.cond rfl (fun hc14 => ?_) (fun hc14 => ?_)
  ·have hy : (fun i => decide ((L.getD i RecT.zero).x.toNat ≠ 0)) i = true := hc14
   refine GE ?_
   refine TL ?_
   refine RM rfl ?_
   refine RBS rfl rfl rfl (nI (cnt (fun i => decide ((L.getD i RecT.zero).x.toNat ≠ 0)) (i + 1))) (wrap_eq (by rw [cnt_y (p := (fun i => decide ((L.getD i RecT.zero).x.toNat ≠ 0))) hy]; omega) (by have := cnt_le (fun i => decide ((L.getD i RecT.zero).x.toNat ≠ 0)) (i + 1); omega)) ?_
   refine RA rfl ?_
   refine RN ?_
   refine End.normal_block ?_
   refine EN ?_
   refine GE ?_
   refine TL ?_
   refine RBS rfl rfl rfl (nI (i + 1)) (wrap_eq (by omega) (by omega)) ?_
   refine RM rfl ?_
   refine RN ?_
   refine End.normal_then ?_
   refine End.again (i + 1) ?_ ?_ ?_
   ·show _ ≤ _; omega
   ·show _ - _ < _ - _; omega
   ·exact (KC 1 rfl (KE 5 rfl (by first | rfl | rw [cnt_n (p := (fun i => decide ((L.getD i RecT.zero).x.toNat ≠ 0))) hy]) (KC 8 rfl (KC 9 rfl KN))))
  ·have hy : (fun i => decide ((L.getD i RecT.zero).x.toNat ≠ 0)) i = false := hc14
   refine A.skip ?_
   refine End.normal_block ?_
   refine EN ?_
   refine GE ?_
   refine TL ?_
   refine RBS rfl rfl rfl (nI (i + 1)) (wrap_eq (by omega) (by omega)) ?_
   refine RM rfl ?_
   refine RN ?_
   refine End.normal_then ?_
   refine End.again (i + 1) ?_ ?_ ?_
   ·show _ ≤ _; omega
   ·show _ - _ < _ - _; omega
   ·exact (KC 1 rfl (KE 5 rfl (by first | rfl | rw [cnt_n (p := (fun i => decide ((L.getD i RecT.zero).x.toNat ≠ 0))) hy]) (KC 8 rfl (KC 9 rfl KN))))
 ·have hi2 : i = 4 := by simp at hc10; omega
  refine A.exit ?_
  refine End.exit_then ?_
  refine End.exit_then ?_
  refine End.exit_here ?_
  refine EN ?_
  refine GS ?_
  refine TL ?_
  refine RM rfl ?_; refine RZ (nI (cnt (fun i => decide ((L.getD i RecT.zero).x.toNat ≠ 0)) 4)) (by rw [hi2]) ?_
  refine RA rfl ?_
  refine RN ?_
  refine A.ret ?_
  exact End.ret1 rfl rfl (by first | exact Le.refl _ | exact Le.old _ _)
theorem usedE_fn (r : EntT) : Fn Tryd.prog 62 [.v (aggV r.v)] (.v (.bool (decide (r.x.toNat ≠ 0)))) := by
 refine Fn.of Tryd.func62 rfl (by kernel_rfl) Tryd.ntmps62 (by simp) (fun w => [(0, .v (aggV r.v))]) (fun w => (Start.v rfl Start.nil)) fun w₀ => ?_
 refine GS ?_
 refine TN 0 ?_
 refine RN ?_
 refine ⟨_, _, eff_box (n := 6) (d := 1) (k := 1000001) rfl (by decide), fun b1 hb1 => ?_⟩
 have hBb1 := hb1.1
 refine TL ?_
 refine RA rfl ?_
 refine RN ?_
 refine GS ?_
 refine TL ?_
 refine RS (ok_field field38_0 (by decide) rfl) ?_
 refine RS (ok_loadV (s := 1000001) (by decide) Tryd.underlying5 rfl rfl rfl (rfl)) ?_
 refine RBS rfl rfl rfl (.bool (decide (r.x.toNat ≠ 0))) (used_eq _) ?_
 refine RA rfl ?_
 refine RN ?_
 refine A.ret ?_
 exact End.ret1 rfl rfl (by first | exact Le.refl _ | exact Le.old _ _)
theorem countE_fn (L : List EntT) (hL : L.length = 4) (hf : ∀ r ∈ L, r.Fit) : Fn Tryd.prog 61 [.v (aggV (entsV L)), .v (.func (.func 62) #[] #[])] (.v (nI (cnt (fun i => decide ((L.getD i EntT.zero).x.toNat ≠ 0)) 4))) := by
 refine Fn.of Tryd.func61 rfl (by kernel_rfl) Tryd.ntmps61 (by simp) (fun w => [(0, .v (aggV (entsV L))), (1, .v (.func (.func 62) #[] #[]))]) (fun w => (Start.v rfl (Start.v rfl Start.nil))) fun w₀ => ?_
 refine GS ?_
 refine TN 0 ?_
 refine RN ?_
 refine ⟨_, _, eff_box (n := 19) (d := 2) (k := 1000002) rfl (by decide), fun b2 hb2 => ?_⟩
 have hBb2 := hb2.1
 refine TL ?_
 refine RA rfl ?_
 refine RN ?_
 refine GS ?_
 refine TL ?_
 refine RA rfl ?_
 refine RN ?_
 refine A.seq ?_
 refine GS ?_
 refine TL ?_
 refine RS (ok_loadA (s := 1000002) (by decide) Tryd.underlying39 rfl (size39.of (by rw [flat_length (EntT.lens hf), hL])) rfl rfl) ?_
 refine RM rfl ?_
 refine RN ?_
 refine A.block ?_
 refine A.loop (ι := Nat) (fun i => i ≤ 4) (fun i => [(1, .v (.func (.func 62) #[] #[])), (5, .v (nI (cnt (fun i => decide ((L.getD i EntT.zero).x.toNat ≠ 0)) i))), (8, .v (aggV (entsV L))), (9, .v (nI (i)))]) (fun i => 4 - i) 0 ?_ ?_ ?_
 ·exact Nat.zero_le _
 ·exact (KC 1 rfl (KE 5 rfl (by rfl) (KC 8 rfl (KE 9 rfl (by rfl) KN))))
 intro i hG
 refine GS ?_
 refine TL ?_
 refine RB rfl rfl rfl ?_
 refine RN ?_
 refine A.seq ?_
 refine A.cond rfl (fun hc10 => ?_) (fun hc10 => ?_)
 ·have hi : i < 4 := by simp at hc10; omega
  refine A.skip ?_
  refine EN ?_
  refine A.seq ?_
  refine A.block ?_
  refine GS ?_
  refine TN 1 ?_
  refine RS (ok_indexAgg i Tryd.underlying39 Tryd.underlying38 rfl size38 rfl rfl rfl hi (flat_getD (EntT.lens hf) (by omega) EntT.zero)) ?_
  refine RN ?_
  refine ⟨_, _, eff_alloc (n := 19) (d := 7) (k := 1000007) zero38 (by decide), fun b7 hb7 => ?_⟩
  have hBb7 := hb7.1
  refine TF 2 ?_
  refine RN ?_
  refine ⟨_, eff_storeA (n := 19) (s := 1000007) (size38.of ((hf (L.getD i EntT.zero) (getD_mem4 hL hi _)).len)) rfl rfl (by first | exact NodT.one _ | exact RecT.one _ | exact EntT.one _ | exact RecT.all1 _ | exact EntT.all1 _ | exact all_byte _ | exact all_bytes _) hBb7 rfl (by first | rfl | (rw [(hf (L.getD i EntT.zero) (getD_mem4 hL hi _)).len]; rfl)) (LV 1 rfl (LV 5 rfl (LV 7 rfl (LV 8 rfl (LV 9 rfl LN))))), ?_⟩
  refine TL ?_
  refine RN ?_
  refine GS ?_
  refine TL ?_
  refine RM rfl ?_
  refine RS (ok_loadA (s := 1000007) (by decide) Tryd.underlying38 rfl (size38.of ((hf (L.getD i EntT.zero) (getD_mem4 hL hi _)).len)) rfl rfl) ?_
  refine RS (ok_callV0 (usedE_fn (L.getD i EntT.zero)) rfl (A1 rfl)) ?_
  refine RN ?_
  refine A.cond rfl (fun hc14 => ?_) (fun hc14 => ?_)
  ·have hy : (fun i => decide ((L.getD i EntT.zero).x.toNat ≠ 0)) i = true := hc14
   refine GE ?_
   refine TL ?_
   refine RM rfl ?_
   refine RBS rfl rfl rfl (nI (cnt (fun i => decide ((L.getD i EntT.zero).x.toNat ≠ 0)) (i + 1))) (wrap_eq (by rw [cnt_y (p := (fun i => decide ((L.getD i EntT.zero).x.toNat ≠ 0))) hy]; omega) (by have := cnt_le (fun i => decide ((L.getD i EntT.zero).x.toNat ≠ 0)) (i + 1); omega)) ?_
   refine RA rfl ?_
   refine RN ?_
   refine End.normal_block ?_
   refine EN ?_
   refine GE ?_
   refine TL ?_
   refine RBS rfl rfl rfl (nI (i + 1)) (wrap_eq (by omega) (by omega)) ?_
   refine RM rfl ?_
   refine RN ?_
   refine End.normal_then ?_
   refine End.again (i + 1) ?_ ?_ ?_
   ·show _ ≤ _; omega
   ·show _ - _ < _ - _; omega
   ·exact (KC 1 rfl (KE 5 rfl (by first | rfl | rw [cnt_n (p := (fun i => decide ((L.getD i EntT.zero).x.toNat ≠ 0))) hy]) (KC 8 rfl (KC 9 rfl KN))))
  ·have hy : (fun i => decide ((L.getD i EntT.zero).x.toNat ≠ 0)) i = false := hc14
   refine A.skip ?_
   refine End.normal_block ?_
   refine EN ?_
   refine GE ?_
   refine TL ?_
   refine RBS rfl rfl rfl (nI (i + 1)) (wrap_eq (by omega) (by omega)) ?_
   refine RM rfl ?_
   refine RN ?_
   refine End.normal_then ?_
   refine End.again (i + 1) ?_ ?_ ?_
   ·show _ ≤ _; omega
   ·show _ - _ < _ - _; omega
   ·exact (KC 1 rfl (KE 5 rfl (by first | rfl | rw [cnt_n (p := (fun i => decide ((L.getD i EntT.zero).x.toNat ≠ 0))) hy]) (KC 8 rfl (KC 9 rfl KN))))
 ·have hi2 : i = 4 := by simp at hc10; omega
  refine A.exit ?_
  refine End.exit_then ?_
  refine End.exit_then ?_
  refine End.exit_here ?_
  refine EN ?_
  refine GS ?_
  refine TL ?_
  refine RM rfl ?_; refine RZ (nI (cnt (fun i => decide ((L.getD i EntT.zero).x.toNat ≠ 0)) 4)) (by rw [hi2]) ?_
  refine RA rfl ?_
  refine RN ?_
  refine A.ret ?_
  exact End.ret1 rfl rfl (by first | exact Le.refl _ | exact Le.old _ _)
theorem nUsed_R (x : NodT) (hx : x.Fit) (h : x.l.toNat = 0) : Fn Tryd.prog 21 [.v (aggV x.v)] (.v (nI (usN x))) := by
 refine Fn.of Tryd.func21 rfl (by kernel_rfl) Tryd.ntmps21 (by simp) (fun w => [(0, .v (aggV x.v))]) (fun w => (Start.v rfl Start.nil)) fun w₀ => ?_
 refine GS ?_
 refine TN 0 ?_
 refine RN ?_
 refine ⟨_, _, eff_box (n := 11) (d := 1) (k := 1000001) rfl (by decide), fun b1 hb1 => ?_⟩
 have hBb1 := hb1.1
 refine TL ?_
 refine RA rfl ?_
 refine RN ?_
 refine A.seq ?_
 refine GS ?_
 refine TL ?_
 refine RS (ok_loadA (s := 1000001) (by decide) Tryd.underlying41 rfl (size41.of (hx.len)) rfl rfl) ?_
 refine RS (ok_call (isGroup_y x hx h) (A1 rfl)) ?_
 refine RN ?_
 refine A.yes rfl ?_
 refine GS ?_
 refine TL ?_
 refine RS (ok_field field41_2 (by decide) rfl) ?_
 refine RS (ok_loadP (s := 1000001) (by decide) Tryd.underlying36 rfl size36 rfl rfl (by rw [hx.len]; decide) (hx.getR)) ?_
 refine RS (ok_call (countR_fn x.R hx.lr hx.fr) (A2 rfl rfl)) ?_; refine RZ (nI (usN x)) (congrArg nI (cnt_ext fun i _ => (if_pos h).symm)) ?_
 refine RA rfl ?_
 refine RN ?_
 refine A.ret ?_
 refine End.ret_then ?_
 exact End.ret1 rfl rfl (by first | exact Le.refl _ | exact Le.old _ _)
theorem nUsed_E (x : NodT) (hx : x.Fit) (h : ¬ x.l.toNat = 0) : Fn Tryd.prog 21 [.v (aggV x.v)] (.v (nI (usN x))) := by
 refine Fn.of Tryd.func21 rfl (by kernel_rfl) Tryd.ntmps21 (by simp) (fun w => [(0, .v (aggV x.v))]) (fun w => (Start.v rfl Start.nil)) fun w₀ => ?_
 refine GS ?_
 refine TN 0 ?_
 refine RN ?_
 refine ⟨_, _, eff_box (n := 11) (d := 1) (k := 1000001) rfl (by decide), fun b1 hb1 => ?_⟩
 have hBb1 := hb1.1
 refine TL ?_
 refine RA rfl ?_
 refine RN ?_
 refine A.seq ?_
 refine GS ?_
 refine TL ?_
 refine RS (ok_loadA (s := 1000001) (by decide) Tryd.underlying41 rfl (size41.of (hx.len)) rfl rfl) ?_
 refine RS (ok_call (isGroup_n x hx h) (A1 rfl)) ?_
 refine RN ?_
 refine A.no rfl ?_
 refine A.skip ?_
 refine EN ?_
 refine GS ?_
 refine TL ?_
 refine RS (ok_field field41_3 (by decide) rfl) ?_
 refine RS (ok_loadP (s := 1000001) (by decide) Tryd.underlying39 rfl size39 rfl rfl (by rw [hx.len]; decide) (hx.getE)) ?_
 refine RS (ok_call (countE_fn x.E hx.le hx.fe) (A2 rfl rfl)) ?_; refine RZ (nI (usN x)) (congrArg nI (cnt_ext fun i _ => (if_neg h).symm)) ?_
 refine RA rfl ?_
 refine RN ?_
 refine A.ret ?_
 exact End.ret1 rfl rfl (by first | exact Le.refl _ | exact Le.old _ _)
theorem nUsed_fn (x : NodT) (hx : x.Fit) : Fn Tryd.prog 21 [.v (aggV x.v)] (.v (nI (usN x))) := by
 by_cases h : x.l.toNat = 0
 ·exact nUsed_R x hx h
 ·exact nUsed_E x hx h
end Go.Proofs.YtlddnmblfgaimaaDoor
namespace Go.Proofs.YtlddnmblfgaimaaDoor
open Go Go.RowKit Go.ChangeShapes Go.WideShapes Go.ChangeAt
theorem own' : ownKnob Tryd.prog.godebug = none := by kernel_rfl
theorem laidOut' : laidOutB Tryd.prog = true := by kernel_rfl
abbrev LAID : List (String × DataW Unit) := [("caisson/digests.constants", Rows.laid_caisson_digests_constants), ("caisson/digests.initial", Rows.laid_caisson_digests_initial), ("caisson/nodes.sizes", Rows.laid_caisson_nodes_sizes)]
theorem door_met (os : Os) (args : Array Value) : laidMetH Tryd.prog LAID ((World.doorLaid Tryd.prog 400 os).forCall (fun _ _ => 0) ⟨#[], args, []⟩).memory :=
  laidMetH_of_parts3 (fuel := 8) (laidMet_of_run' 8 (by kernel_rfl) (by kernel_rfl)) (by kernel_rfl) (by kernel_rfl)
theorem tabs_of_laid {W : World} (h : laidMetH Tryd.prog LAID W) : ∀ p ∈ tabN, p.2.Of W undef := by
  rw [MakeChecks.laidMetH_plain _ _ _ (by kernel_rfl)] at h
  obtain ⟨ps, hl, _, hr⟩ := h
  have hr' := fun b off hp => (hr b off hp).1
  intro p hp
  simp only [tabN, tabs, List.mem_cons, List.not_mem_nil, or_false] at hp
  rcases hp with rfl | rfl | rfl
  · have := tab_of_laid hl hr' (nm := "caisson/nodes.sizes") (d := Rows.laid_caisson_nodes_sizes) (by simp [LAID]) (g := 0) (by kernel_rfl) (T := 75) (by kernel_rfl) Tryd.underlying75 Tryd.underlying3 (by kernel_rfl) (by kernel_rfl) (by decide) (ns := [185, 137, 137, 137, 137, 137]) (by kernel_rfl)
    exact this
  · have := tab_of_laid hl hr' (nm := "caisson/digests.initial") (d := Rows.laid_caisson_digests_initial) (by simp [LAID]) (g := 1) (by kernel_rfl) (T := 140) (by kernel_rfl) Tryd.underlying140 Tryd.underlying28 (by kernel_rfl) (by kernel_rfl) (by decide) (ns := (H8.list).map fun x => (x.toNat : Int)) (by kernel_rfl)
    rw [List.map_map] at this
    exact this
  · have := tab_of_laid hl hr' (nm := "caisson/digests.constants") (d := Rows.laid_caisson_digests_constants) (by simp [LAID]) (g := 2) (by kernel_rfl) (T := 148) (by kernel_rfl) Tryd.underlying148 Tryd.underlying28 (by kernel_rfl) (by kernel_rfl) (by decide) (ns := (K64).map fun x => (x.toNat : Int)) (by kernel_rfl)
    rw [List.map_map] at this
    exact this
end Go.Proofs.YtlddnmblfgaimaaDoor
namespace Go.Proofs.YtlddnmblfgaimaaDoor
open Go Go.RowKit
set_option linter.unusedVariables false
set_option maxRecDepth 20000
/-- The number of blocks that a law is about. -/
def nn (k : Nat) : Nat := 1 + k % 4096
theorem nn1 (k : Nat) : 1 ≤ nn k := Nat.le_add_right _ _
theorem nn2 (k : Nat) : nn k ≤ 4096 := by unfold nn; omega
theorem un_one {n h : Nat} (hh : h ≤ hg n) (h0 : un n (h + 1) = 1) : h = hg n := by
 rcases Nat.lt_or_ge h (hg n) with h1 | h1
 ·have := un_big (n := n) (k := h + 1) (by omega) (by omega)
  omega
 ·omega
theorem NOf_fn (k : Nat) (hk : k < 65536) : Fn Tryd.prog 27 [.v (aggV [.int .u16 (k : Int)])] (.v (nI (nn k))) := by
 refine Fn.of Tryd.func27 rfl (by kernel_rfl) Tryd.ntmps27 (by simp) (fun w => [(0, .v (aggV [.int .u16 (k : Int)]))]) (fun w => (Start.v rfl Start.nil)) fun w₀ => ?_
 refine GS ?_
 refine TN 0 ?_
 refine RN ?_
 refine ⟨_, _, eff_box (n := 8) (d := 1) (k := 1000001) rfl (by decide), fun b1 hb1 => ?_⟩
 have hBb1 := hb1.1
 refine TL ?_
 refine RA rfl ?_
 refine RN ?_
 refine GS ?_
 refine TL ?_
 refine RS (ok_field field24_0 (by decide) rfl) ?_
 refine RS (ok_loadV (s := 1000001) (by decide) Tryd.underlying22 rfl rfl rfl (rfl)) ?_
 refine RS (ok_conv Tryd.underlying22 Tryd.underlying3 rfl) ?_; refine RZ (nI (k)) (wrap_eq (by omega) (by omega)) ?_
 refine RS (ok_rem rfl rfl (by decide)) ?_; refine RZ (nI (k % 4096)) (by rw [tmod_lit _ (by decide)]; rfl) ?_
 refine RBS rfl rfl rfl (nI (nn k)) (wrap_eq (by unfold nn; omega) (by have := nn2 k; omega)) ?_
 refine RA rfl ?_
 refine RN ?_
 refine A.ret ?_
 exact End.ret1 rfl rfl (by first | exact Le.refl _ | exact Le.old _ _)
theorem rCount_fn (n : Nat) (h1 : 1 ≤ n) (h2 : n ≤ 4096) (l : Nat) (hl : l ≤ hg n) : Fn Tryd.prog 25 [.v (nI (n)), .v (nI (l))] (.v (nI (un n (l + 1)))) := by
 have hh := hg_le n
 refine Fn.of Tryd.func25 rfl (by kernel_rfl) Tryd.ntmps25 (by simp) (fun w => [(0, .v (nI (n))), (1, .v (nI (l)))]) (fun w => (Start.v rfl (Start.v rfl Start.nil))) fun w₀ => ?_
 refine GS ?_
 refine TL ?_
 refine RA rfl ?_
 refine RN ?_
 refine GS ?_
 refine TL ?_
 refine RM rfl ?_
 refine RA rfl ?_
 refine RN ?_
 refine A.seq ?_
 refine GS ?_
 refine TL ?_
 refine RA rfl ?_
 refine RN ?_
 refine A.block ?_
 refine A.loop (ι := Nat) (fun i => i ≤ l + 1) (fun i => [(0, .v (nI (n))), (1, .v (nI (l))), (5, .v (nI (un n i))), (6, .v (nI (i)))]) (fun i => l + 1 - i) 0 ?_ ?_ ?_
 ·exact Nat.zero_le _
 ·exact (KC 0 rfl (KC 1 rfl (KC 5 rfl (KC 6 rfl KN))))
 intro i hi
 have hu0 := un_le h1 (i)
 have hv0 := un_pos h1 (i)
 have hu1 := un_le h1 (i + 1)
 have hv1 := un_pos h1 (i + 1)
 refine A.seq ?_
 refine GS ?_
 refine TL ?_
 refine RM rfl ?_
 refine RM rfl ?_
 refine RB rfl rfl rfl ?_
 refine RN ?_
 refine A.cond rfl (fun hc10 => ?_) (fun hc10 => ?_)
 ·have hlt : i ≤ l := by simp at hc10; omega
  refine A.skip ?_
  refine EN ?_
  refine A.seq ?_
  refine A.block ?_
  refine A.seq ?_
  by_cases hi0 : 0 < i
  ·refine GS ?_
   refine TL ?_
   refine RM rfl ?_
   refine RBS rfl rfl rfl (.bool true) (by first | rfl | (simp; done) | (simp; omega) | (simp [*]; done) | (simp [*]; omega)) ?_
   refine RM rfl ?_
   refine RQ (ok_move rfl) ?_
   refine RQ (ok_bin rfl rfl rfl) ?_; refine RZ (.bool false) (by have := un_big (n := n) (k := i) (by omega) (by omega); simp; omega) ?_
   refine RP rfl rfl ?_
   refine RN ?_
   refine A.no rfl ?_
   refine A.skip ?_
   refine EN ?_
   refine GE ?_
   refine TL ?_
   refine RM rfl ?_
   refine RBS rfl rfl rfl (nI (un n i + 3)) (wrap_eq (by omega) (by omega)) ?_
   refine RS (ok_div rfl rfl (by decide)) ?_; refine RZ (nI (un n (i + 1))) (by rw [tdiv_lit _ (by decide)]; exact wrap_eq rfl (by omega)) ?_
   refine RA rfl ?_
   refine RN ?_
   refine End.normal_block ?_
   refine EN ?_
   refine GE ?_
   refine TL ?_
   refine RM rfl ?_
   refine RBS rfl rfl rfl (nI (i + 1)) (wrap_eq (by omega) (by omega)) ?_
   refine RA rfl ?_
   refine RN ?_
   refine End.normal_then ?_
   refine End.again (i + 1) ?_ ?_ ?_
   ·show _ ≤ _; omega
   ·show _ - _ < _ - _; omega
   ·exact (KC 0 rfl (KC 1 rfl (KC 5 rfl (KC 6 rfl KN))))
  ·refine GS ?_
   refine TL ?_
   refine RM rfl ?_
   refine RBS rfl rfl rfl (.bool false) (by first | rfl | (simp; done) | (simp; omega) | (simp [*]; done) | (simp [*]; omega)) ?_
   refine RM rfl ?_
   refine RK ?_
   refine RK ?_
   refine RP rfl rfl ?_
   refine RN ?_
   refine A.no rfl ?_
   refine A.skip ?_
   refine EN ?_
   refine GE ?_
   refine TL ?_
   refine RM rfl ?_
   refine RBS rfl rfl rfl (nI (un n i + 3)) (wrap_eq (by omega) (by omega)) ?_
   refine RS (ok_div rfl rfl (by decide)) ?_; refine RZ (nI (un n (i + 1))) (by rw [tdiv_lit _ (by decide)]; exact wrap_eq rfl (by omega)) ?_
   refine RA rfl ?_
   refine RN ?_
   refine End.normal_block ?_
   refine EN ?_
   refine GE ?_
   refine TL ?_
   refine RM rfl ?_
   refine RBS rfl rfl rfl (nI (i + 1)) (wrap_eq (by omega) (by omega)) ?_
   refine RA rfl ?_
   refine RN ?_
   refine End.normal_then ?_
   refine End.again (i + 1) ?_ ?_ ?_
   ·show _ ≤ _; omega
   ·show _ - _ < _ - _; omega
   ·exact (KC 0 rfl (KC 1 rfl (KC 5 rfl (KC 6 rfl KN))))
 ·have hie : i = l + 1 := by simp at hc10; omega
  refine A.exit ?_
  refine End.exit_then ?_
  refine End.exit_then ?_
  refine End.exit_here ?_
  refine EN ?_
  refine GS ?_
  refine TL ?_
  refine RM rfl ?_; refine RZ (nI (un n (l + 1))) (by rw [hie]) ?_
  refine RA rfl ?_
  refine RN ?_
  refine A.ret ?_
  exact End.ret1 rfl rfl (by first | exact Le.refl _ | exact Le.old _ _)
theorem rHeight_fn (n : Nat) (h1 : 1 ≤ n) (h2 : n ≤ 4096)  : Fn Tryd.prog 28 [.v (nI (n))] (.v (nI (hg n))) := by
 have hh := hg_le n
 refine Fn.of Tryd.func28 rfl (by kernel_rfl) Tryd.ntmps28 (by simp) (fun w => [(0, .v (nI (n)))]) (fun w => (Start.v rfl Start.nil)) fun w₀ => ?_
 refine GS ?_
 refine TL ?_
 refine RA rfl ?_
 refine RN ?_
 refine GS ?_
 refine TL ?_
 refine RA rfl ?_
 refine RN ?_
 refine A.seq ?_
 refine A.block ?_
 refine A.loop (ι := Nat) (fun h => h ≤ hg n) (fun h => [(0, .v (nI (n))), (3, .v (nI (h)))]) (fun h => hg n - h) 0 ?_ ?_ ?_
 ·exact Nat.zero_le _
 ·exact (KC 0 rfl (KC 3 rfl KN))
 intro h hle
 refine A.seq ?_
 refine GS ?_
 refine TL ?_
 refine RM rfl ?_
 refine RM rfl ?_
 refine RS (ok_call (rCount_fn n h1 h2 h hle) (A2 rfl rfl)) ?_
 refine RB rfl rfl rfl ?_
 refine RN ?_
 refine A.cond rfl (fun hc7 => ?_) (fun hc7 => ?_)
 ·have hlt : h < hg n := by
   have h3 := un_root h1 h2
   have h4 : un n (h + 1) ≠ 1 := by simp at hc7; omega
   rcases Nat.lt_or_ge h (hg n) with h5 | h5
   ·exact h5
   ·obtain rfl : h = hg n := by omega
    exact absurd h3 h4
  refine A.skip ?_
  refine EN ?_
  refine A.block ?_
  refine GE ?_
  refine TL ?_
  refine RM rfl ?_
  refine RBS rfl rfl rfl (nI (h + 1)) (wrap_eq (by omega) (by omega)) ?_
  refine RA rfl ?_
  refine RN ?_
  refine End.normal_block ?_
  refine End.normal_then ?_
  refine End.again (h + 1) ?_ ?_ ?_
  ·show _ ≤ _; omega
  ·show _ - _ < _ - _; omega
  ·exact (KC 0 rfl (KC 3 rfl KN))
 ·have hie : h = hg n := un_one hle (by simp at hc7; omega)
  refine A.exit ?_
  refine End.exit_then ?_
  refine End.exit_then ?_
  refine End.exit_here ?_
  refine EN ?_
  refine GS ?_
  refine TL ?_
  refine RM rfl ?_; refine RZ (nI (hg n)) (by rw [hie]) ?_
  refine RA rfl ?_
  refine RN ?_
  refine A.ret ?_
  exact End.ret1 rfl rfl (by first | exact Le.refl _ | exact Le.old _ _)
theorem rIs_y (n : Nat) (h1 : 1 ≤ n) (h2 : n ≤ 4096) (l j : Nat) (hl : l ≤ hg n) (hj : j < un n (l + 1))  : Fn Tryd.prog 58 [.v (nI (n)), .v (nI (l)), .v (nI (j))] (.v (.bool true)) := by
 have hh := hg_le n
 refine Fn.of Tryd.func58 rfl (by kernel_rfl) Tryd.ntmps58 (by simp) (fun w => [(0, .v (nI (n))), (1, .v (nI (l))), (2, .v (nI (j)))]) (fun w => (Start.v rfl (Start.v rfl (Start.v rfl Start.nil)))) fun w₀ => ?_
 refine GS ?_
 refine TL ?_
 refine RA rfl ?_
 refine RN ?_
 refine GS ?_
 refine TL ?_
 refine RM rfl ?_
 refine RBS rfl rfl rfl (.bool true) (by first | rfl | (simp; done) | (simp; omega) | (simp [*]; done) | (simp [*]; omega)) ?_
 refine RM rfl ?_
 refine RQ (ok_move rfl) ?_
 refine RQ (ok_move rfl) ?_
 refine RQ (ok_call (rHeight_fn n h1 h2) (A1 rfl)) ?_
 refine RQ (ok_bin rfl rfl rfl) ?_; refine RZ (.bool true) (by first | rfl | (simp; done) | (simp; omega) | (simp [*]; done) | (simp [*]; omega)) ?_
 refine RP rfl rfl ?_
 refine RM rfl ?_
 refine RQ (ok_move rfl) ?_
 refine RQ (ok_bin rfl rfl rfl) ?_; refine RZ (.bool true) (by first | rfl | (simp; done) | (simp; omega) | (simp [*]; done) | (simp [*]; omega)) ?_
 refine RP rfl rfl ?_
 refine RM rfl ?_
 refine RQ (ok_move rfl) ?_
 refine RQ (ok_move rfl) ?_
 refine RQ (ok_move rfl) ?_
 refine RQ (ok_call (rCount_fn n h1 h2 l hl) (A2 rfl rfl)) ?_
 refine RQ (ok_bin rfl rfl rfl) ?_; refine RZ (.bool true) (by first | rfl | (simp; done) | (simp; omega) | (simp [*]; done) | (simp [*]; omega)) ?_
 refine RP rfl rfl ?_
 refine RA rfl ?_
 refine RN ?_
 refine A.ret ?_
 exact End.ret1 rfl rfl (by first | exact Le.refl _ | exact Le.old _ _)
theorem rIs_1 (n : Nat) (h1 : 1 ≤ n) (h2 : n ≤ 4096) (l j : Int) (h : ¬ 0 ≤ l) : Fn Tryd.prog 58 [.v (nI (n)), .v (.int .i64 (l)), .v (.int .i64 (j))] (.v (.bool false)) := by
 refine Fn.of Tryd.func58 rfl (by kernel_rfl) Tryd.ntmps58 (by simp) (fun w => [(0, .v (nI (n))), (1, .v (.int .i64 (l))), (2, .v (.int .i64 (j)))]) (fun w => (Start.v rfl (Start.v rfl (Start.v rfl Start.nil)))) fun w₀ => ?_
 refine GS ?_
 refine TL ?_
 refine RA rfl ?_
 refine RN ?_
 refine GS ?_
 refine TL ?_
 refine RM rfl ?_
 refine RBS rfl rfl rfl (.bool false) (by first | rfl | (simp; done) | (simp; omega) | (simp [*]; done) | (simp [*]; omega)) ?_
 refine RM rfl ?_
 refine RK ?_
 refine RK ?_
 refine RK ?_
 refine RK ?_
 refine RP rfl rfl ?_
 refine RM rfl ?_
 refine RK ?_
 refine RK ?_
 refine RP rfl rfl ?_
 refine RM rfl ?_
 refine RK ?_
 refine RK ?_
 refine RK ?_
 refine RK ?_
 refine RK ?_
 refine RP rfl rfl ?_
 refine RA rfl ?_
 refine RN ?_
 refine A.ret ?_
 exact End.ret1 rfl rfl (by first | exact Le.refl _ | exact Le.old _ _)
theorem rIs_2 (n : Nat) (h1 : 1 ≤ n) (h2 : n ≤ 4096) (l j : Int) (h : 0 ≤ l) (h' : ¬ l ≤ hg n) : Fn Tryd.prog 58 [.v (nI (n)), .v (.int .i64 (l)), .v (.int .i64 (j))] (.v (.bool false)) := by
 refine Fn.of Tryd.func58 rfl (by kernel_rfl) Tryd.ntmps58 (by simp) (fun w => [(0, .v (nI (n))), (1, .v (.int .i64 (l))), (2, .v (.int .i64 (j)))]) (fun w => (Start.v rfl (Start.v rfl (Start.v rfl Start.nil)))) fun w₀ => ?_
 refine GS ?_
 refine TL ?_
 refine RA rfl ?_
 refine RN ?_
 refine GS ?_
 refine TL ?_
 refine RM rfl ?_
 refine RBS rfl rfl rfl (.bool true) (by first | rfl | (simp; done) | (simp; omega) | (simp [*]; done) | (simp [*]; omega)) ?_
 refine RM rfl ?_
 refine RQ (ok_move rfl) ?_
 refine RQ (ok_move rfl) ?_
 refine RQ (ok_call (rHeight_fn n h1 h2) (A1 rfl)) ?_
 refine RQ (ok_bin rfl rfl rfl) ?_; refine RZ (.bool false) (by first | rfl | (simp; done) | (simp; omega) | (simp [*]; done) | (simp [*]; omega)) ?_
 refine RP rfl rfl ?_
 refine RM rfl ?_
 refine RK ?_
 refine RK ?_
 refine RP rfl rfl ?_
 refine RM rfl ?_
 refine RK ?_
 refine RK ?_
 refine RK ?_
 refine RK ?_
 refine RK ?_
 refine RP rfl rfl ?_
 refine RA rfl ?_
 refine RN ?_
 refine A.ret ?_
 exact End.ret1 rfl rfl (by first | exact Le.refl _ | exact Le.old _ _)
theorem rIs_3 (n : Nat) (h1 : 1 ≤ n) (h2 : n ≤ 4096) (l : Nat) (j : Int) (hl : l ≤ hg n) (h : ¬ 0 ≤ j) : Fn Tryd.prog 58 [.v (nI (n)), .v (nI (l)), .v (.int .i64 (j))] (.v (.bool false)) := by
 refine Fn.of Tryd.func58 rfl (by kernel_rfl) Tryd.ntmps58 (by simp) (fun w => [(0, .v (nI (n))), (1, .v (nI (l))), (2, .v (.int .i64 (j)))]) (fun w => (Start.v rfl (Start.v rfl (Start.v rfl Start.nil)))) fun w₀ => ?_
 refine GS ?_
 refine TL ?_
 refine RA rfl ?_
 refine RN ?_
 refine GS ?_
 refine TL ?_
 refine RM rfl ?_
 refine RBS rfl rfl rfl (.bool true) (by first | rfl | (simp; done) | (simp; omega) | (simp [*]; done) | (simp [*]; omega)) ?_
 refine RM rfl ?_
 refine RQ (ok_move rfl) ?_
 refine RQ (ok_move rfl) ?_
 refine RQ (ok_call (rHeight_fn n h1 h2) (A1 rfl)) ?_
 refine RQ (ok_bin rfl rfl rfl) ?_; refine RZ (.bool true) (by first | rfl | (simp; done) | (simp; omega) | (simp [*]; done) | (simp [*]; omega)) ?_
 refine RP rfl rfl ?_
 refine RM rfl ?_
 refine RQ (ok_move rfl) ?_
 refine RQ (ok_bin rfl rfl rfl) ?_; refine RZ (.bool false) (by first | rfl | (simp; done) | (simp; omega) | (simp [*]; done) | (simp [*]; omega)) ?_
 refine RP rfl rfl ?_
 refine RM rfl ?_
 refine RK ?_
 refine RK ?_
 refine RK ?_
 refine RK ?_
 refine RK ?_
 refine RP rfl rfl ?_
 refine RA rfl ?_
 refine RN ?_
 refine A.ret ?_
 exact End.ret1 rfl rfl (by first | exact Le.refl _ | exact Le.old _ _)
theorem rIs_4 (n : Nat) (h1 : 1 ≤ n) (h2 : n ≤ 4096) (l j : Nat) (hl : l ≤ hg n) (h : ¬ j < un n (l + 1)) : Fn Tryd.prog 58 [.v (nI (n)), .v (nI (l)), .v (nI (j))] (.v (.bool false)) := by
 refine Fn.of Tryd.func58 rfl (by kernel_rfl) Tryd.ntmps58 (by simp) (fun w => [(0, .v (nI (n))), (1, .v (nI (l))), (2, .v (nI (j)))]) (fun w => (Start.v rfl (Start.v rfl (Start.v rfl Start.nil)))) fun w₀ => ?_
 refine GS ?_
 refine TL ?_
 refine RA rfl ?_
 refine RN ?_
 refine GS ?_
 refine TL ?_
 refine RM rfl ?_
 refine RBS rfl rfl rfl (.bool true) (by first | rfl | (simp; done) | (simp; omega) | (simp [*]; done) | (simp [*]; omega)) ?_
 refine RM rfl ?_
 refine RQ (ok_move rfl) ?_
 refine RQ (ok_move rfl) ?_
 refine RQ (ok_call (rHeight_fn n h1 h2) (A1 rfl)) ?_
 refine RQ (ok_bin rfl rfl rfl) ?_; refine RZ (.bool true) (by first | rfl | (simp; done) | (simp; omega) | (simp [*]; done) | (simp [*]; omega)) ?_
 refine RP rfl rfl ?_
 refine RM rfl ?_
 refine RQ (ok_move rfl) ?_
 refine RQ (ok_bin rfl rfl rfl) ?_; refine RZ (.bool true) (by first | rfl | (simp; done) | (simp; omega) | (simp [*]; done) | (simp [*]; omega)) ?_
 refine RP rfl rfl ?_
 refine RM rfl ?_
 refine RQ (ok_move rfl) ?_
 refine RQ (ok_move rfl) ?_
 refine RQ (ok_move rfl) ?_
 refine RQ (ok_call (rCount_fn n h1 h2 l hl) (A2 rfl rfl)) ?_
 refine RQ (ok_bin rfl rfl rfl) ?_; refine RZ (.bool false) (by first | rfl | (simp; done) | (simp; omega) | (simp [*]; done) | (simp [*]; omega)) ?_
 refine RP rfl rfl ?_
 refine RA rfl ?_
 refine RN ?_
 refine A.ret ?_
 exact End.ret1 rfl rfl (by first | exact Le.refl _ | exact Le.old _ _)
theorem rIs_n (n : Nat) (h1 : 1 ≤ n) (h2 : n ≤ 4096) (l j : Int) (h : ¬ IsP n l j) : Fn Tryd.prog 58 [.v (nI (n)), .v (.int .i64 (l)), .v (.int .i64 (j))] (.v (.bool false)) := by
 by_cases hl : 0 ≤ l
 ·by_cases hl' : l ≤ hg n
  ·obtain ⟨a, rfl⟩ : ∃ a : Nat, l = (a : Int) := ⟨l.toNat, by omega⟩
   by_cases hj : 0 ≤ j
   ·obtain ⟨b, rfl⟩ : ∃ b : Nat, j = (b : Int) := ⟨j.toNat, by omega⟩
    exact rIs_4 n h1 h2 a b (by omega) fun hb => h ⟨a, b, rfl, rfl, by omega, hb⟩
   ·exact rIs_3 n h1 h2 a j (by omega) hj
  ·exact rIs_2 n h1 h2 l j hl hl'
 ·exact rIs_1 n h1 h2 l j hl
theorem rParts_fn (n : Nat) (h1 : 1 ≤ n) (h2 : n ≤ 4096) (l j : Nat) (hl : l ≤ hg n) (hj : j < un n (l + 1))  : Fn Tryd.prog 29 [.v (nI (n)), .v (nI (l)), .v (nI (j))] (.v (nI (pts n l j))) := by
 have hu0 := un_le h1 (l)
 have hv0 := un_pos h1 (l)
 have hu1 := un_le h1 (l + 1)
 have hv1 := un_pos h1 (l + 1)
 have hh := hg_le n
 have hp := pts_pos hj
 refine Fn.of Tryd.func29 rfl (by kernel_rfl) Tryd.ntmps29 (by simp) (fun w => [(0, .v (nI (n))), (1, .v (nI (l))), (2, .v (nI (j)))]) (fun w => (Start.v rfl (Start.v rfl (Start.v rfl Start.nil)))) fun w₀ => ?_
 refine GS ?_
 refine TL ?_
 refine RA rfl ?_
 refine RN ?_
 refine GS ?_
 refine TL ?_
 refine RM rfl ?_
 refine RA rfl ?_
 refine RN ?_
 refine A.seq ?_
 refine GS ?_
 refine TL ?_
 refine RM rfl ?_
 refine RB rfl rfl rfl ?_
 refine RN ?_
 refine A.cond rfl (fun hc12 => ?_) (fun hc12 => ?_)
 ·have hl0 : 0 < l := by simp at hc12; omega
  refine GE ?_
  refine TL ?_
  refine RM rfl ?_
  refine RM rfl ?_
  refine RBS rfl rfl rfl (nI (l - 1)) (wrap_eq (by omega) (by omega)) ?_
  refine RS (ok_call (rCount_fn n h1 h2 (l - 1) (by omega)) (A2 rfl rfl)) ?_; refine RZ (nI (un n l)) (by rw [show l - 1 + 1 = l from by omega]) ?_
  refine RA rfl ?_
  refine RN ?_
  refine EN ?_
  refine GS ?_
  refine TL ?_
  refine RA rfl ?_
  refine RN ?_
  refine A.seq ?_
  refine GS ?_
  refine TL ?_
  refine RA rfl ?_
  refine RN ?_
  refine A.block ?_
  refine A.loop (ι := Nat) (fun i => i ≤ 4) (fun i => [(2, .v (nI (j))), (7, .v (nI (un n l))), (8, .v (nI (min (un n l - 4 * j) (i)))), (9, .v (nI (i)))]) (fun i => 4 - i) 0 ?_ ?_ ?_
  ·exact Nat.zero_le _
  ·exact (KC 2 rfl (KE 7 rfl (by first | rfl | (rw [hl0]; rfl)) (KE 8 rfl (congrArg (fun z : Int => D.v (.int .i64 z)) (show (0 : Int) = _ by omega)) (KC 9 rfl KN))))
  intro i hi
  refine A.seq ?_
  refine GS ?_
  refine TL ?_
  refine RM rfl ?_
  refine RB rfl rfl rfl ?_
  refine RN ?_
  refine A.cond rfl (fun hc18 => ?_) (fun hc18 => ?_)
  ·have hlt : i < 4 := by simp at hc18; omega
   refine A.skip ?_
   refine EN ?_
   refine A.seq ?_
   refine A.block ?_
   refine GS ?_
   refine TL ?_
   refine RM rfl ?_
   refine RBS rfl rfl rfl (nI (4 * j)) (wrap_eq (by omega) (by omega)) ?_
   refine RM rfl ?_
   refine RBS rfl rfl rfl (nI (4 * j + i)) (wrap_eq (by omega) (by omega)) ?_
   refine RM rfl ?_
   refine RB rfl rfl rfl ?_
   refine RN ?_
   refine A.cond rfl (fun hc26 => ?_) (fun hc26 => ?_)
   ·have hin : 4 * j + i < un n l := by simp at hc26; omega
    refine GE ?_
    refine TL ?_
    refine RM rfl ?_
    refine RBS rfl rfl rfl (nI (min (un n l - 4 * j) (i + 1))) (wrap_eq (by omega) (by omega)) ?_
    refine RA rfl ?_
    refine RN ?_
    refine End.normal_block ?_
    refine EN ?_
    refine GE ?_
    refine TL ?_
    refine RM rfl ?_
    refine RBS rfl rfl rfl (nI (i + 1)) (wrap_eq (by omega) (by omega)) ?_
    refine RA rfl ?_
    refine RN ?_
    refine End.normal_then ?_
    refine End.again (i + 1) ?_ ?_ ?_
    ·show _ ≤ _; omega
    ·show _ - _ < _ - _; omega
    ·exact (KC 2 rfl (KC 7 rfl (KE 8 rfl (by first | rfl | exact congrArg (fun z : Int => D.v (.int .i64 z)) (by omega)) (KC 9 rfl KN))))
   ·have hin : ¬ 4 * j + i < un n l := by simp at hc26; omega
    refine A.skip ?_
    refine End.normal_block ?_
    refine EN ?_
    refine GE ?_
    refine TL ?_
    refine RM rfl ?_
    refine RBS rfl rfl rfl (nI (i + 1)) (wrap_eq (by omega) (by omega)) ?_
    refine RA rfl ?_
    refine RN ?_
    refine End.normal_then ?_
    refine End.again (i + 1) ?_ ?_ ?_
    ·show _ ≤ _; omega
    ·show _ - _ < _ - _; omega
    ·exact (KC 2 rfl (KC 7 rfl (KE 8 rfl (by first | rfl | exact congrArg (fun z : Int => D.v (.int .i64 z)) (by omega)) (KC 9 rfl KN))))
  ·have hie : i = 4 := by simp at hc18; omega
   refine A.exit ?_
   refine End.exit_then ?_
   refine End.exit_then ?_
   refine End.exit_here ?_
   refine EN ?_
   refine GS ?_
   refine TL ?_
   refine RM rfl ?_; refine RZ (nI (pts n l j)) (congrArg (Value.int .i64) (by unfold pts; omega)) ?_
   refine RA rfl ?_
   refine RN ?_
   refine A.ret ?_
   exact End.ret1 rfl rfl (by first | exact Le.refl _ | exact Le.old _ _)
 ·have hl0 : l = 0 := by simp at hc12; omega
  refine A.skip ?_
  refine EN ?_
  refine GS ?_
  refine TL ?_
  refine RA rfl ?_
  refine RN ?_
  refine A.seq ?_
  refine GS ?_
  refine TL ?_
  refine RA rfl ?_
  refine RN ?_
  refine A.block ?_
  refine A.loop (ι := Nat) (fun i => i ≤ 4) (fun i => [(2, .v (nI (j))), (7, .v (nI (un n l))), (8, .v (nI (min (un n l - 4 * j) (i)))), (9, .v (nI (i)))]) (fun i => 4 - i) 0 ?_ ?_ ?_
  ·exact Nat.zero_le _
  ·exact (KC 2 rfl (KE 7 rfl (by first | rfl | (rw [hl0]; rfl)) (KE 8 rfl (congrArg (fun z : Int => D.v (.int .i64 z)) (show (0 : Int) = _ by omega)) (KC 9 rfl KN))))
  intro i hi
  refine A.seq ?_
  refine GS ?_
  refine TL ?_
  refine RM rfl ?_
  refine RB rfl rfl rfl ?_
  refine RN ?_
  refine A.cond rfl (fun hc18 => ?_) (fun hc18 => ?_)
  ·have hlt : i < 4 := by simp at hc18; omega
   refine A.skip ?_
   refine EN ?_
   refine A.seq ?_
   refine A.block ?_
   refine GS ?_
   refine TL ?_
   refine RM rfl ?_
   refine RBS rfl rfl rfl (nI (4 * j)) (wrap_eq (by omega) (by omega)) ?_
   refine RM rfl ?_
   refine RBS rfl rfl rfl (nI (4 * j + i)) (wrap_eq (by omega) (by omega)) ?_
   refine RM rfl ?_
   refine RB rfl rfl rfl ?_
   refine RN ?_
   refine A.cond rfl (fun hc26 => ?_) (fun hc26 => ?_)
   ·have hin : 4 * j + i < un n l := by simp at hc26; omega
    refine GE ?_
    refine TL ?_
    refine RM rfl ?_
    refine RBS rfl rfl rfl (nI (min (un n l - 4 * j) (i + 1))) (wrap_eq (by omega) (by omega)) ?_
    refine RA rfl ?_
    refine RN ?_
    refine End.normal_block ?_
    refine EN ?_
    refine GE ?_
    refine TL ?_
    refine RM rfl ?_
    refine RBS rfl rfl rfl (nI (i + 1)) (wrap_eq (by omega) (by omega)) ?_
    refine RA rfl ?_
    refine RN ?_
    refine End.normal_then ?_
    refine End.again (i + 1) ?_ ?_ ?_
    ·show _ ≤ _; omega
    ·show _ - _ < _ - _; omega
    ·exact (KC 2 rfl (KC 7 rfl (KE 8 rfl (by first | rfl | exact congrArg (fun z : Int => D.v (.int .i64 z)) (by omega)) (KC 9 rfl KN))))
   ·have hin : ¬ 4 * j + i < un n l := by simp at hc26; omega
    refine A.skip ?_
    refine End.normal_block ?_
    refine EN ?_
    refine GE ?_
    refine TL ?_
    refine RM rfl ?_
    refine RBS rfl rfl rfl (nI (i + 1)) (wrap_eq (by omega) (by omega)) ?_
    refine RA rfl ?_
    refine RN ?_
    refine End.normal_then ?_
    refine End.again (i + 1) ?_ ?_ ?_
    ·show _ ≤ _; omega
    ·show _ - _ < _ - _; omega
    ·exact (KC 2 rfl (KC 7 rfl (KE 8 rfl (by first | rfl | exact congrArg (fun z : Int => D.v (.int .i64 z)) (by omega)) (KC 9 rfl KN))))
  ·have hie : i = 4 := by simp at hc18; omega
   refine A.exit ?_
   refine End.exit_then ?_
   refine End.exit_then ?_
   refine End.exit_here ?_
   refine EN ?_
   refine GS ?_
   refine TL ?_
   refine RM rfl ?_; refine RZ (nI (pts n l j)) (congrArg (Value.int .i64) (by unfold pts; omega)) ?_
   refine RA rfl ?_
   refine RN ?_
   refine A.ret ?_
   exact End.ret1 rfl rfl (by first | exact Le.refl _ | exact Le.old _ _)
end Go.Proofs.YtlddnmblfgaimaaDoor
namespace Go.Proofs.YtlddnmblfgaimaaDoor
open Go Go.RowKit
set_option linter.unusedVariables false
set_option maxRecDepth 20000
set_option linter.unusedSimpArgs false
theorem be4 (v : Nat) : be 4 v = [UInt8.ofNat (v / 16777216), UInt8.ofNat (v / 65536), UInt8.ofNat (v / 256), UInt8.ofNat v] := by simp [be, List.range, List.range.loop]
theorem z_upto {Z : Nat → Prop} {i : Nat} (hG : i ≤ 4 ∧ ∀ j, j < i → Z j) (hi : i < 4) (hz : Z i) : i + 1 ≤ 4 ∧ ∀ j, j < i + 1 → Z j := ⟨by omega, fun j hj => (Nat.lt_or_ge j i).elim (hG.2 j) fun h => by rw [show j = i from by omega]; exact hz⟩

theorem add_u8 (s : UInt8) (n : Nat) : Value.int .u8 (IntKind.u8.wrap (((s.toNat : Nat) : Int) + (((UInt8.ofNat n).toNat : Nat) : Int))) = byteV (UInt8.ofNat (s.toNat + n)) := by
 rw [← Int.natCast_add, wrap_u8_nat, byteV]
 congr 3
 apply UInt8.toNat_inj.1
 rw [UInt8.toNat_ofNat', UInt8.toNat_ofNat', UInt8.toNat_ofNat', Nat.add_mod_mod]
theorem size27 : SizeIs Tryd.prog 27 11 := by unfold SizeIs; kernel_rfl
theorem field27_0 : FieldIs Tryd.prog 27 0 0 1 := by unfold FieldIs; kernel_rfl
theorem field27_1 : FieldIs Tryd.prog 27 1 1 1 := by unfold FieldIs; kernel_rfl
theorem field27_2 : FieldIs Tryd.prog 27 2 2 1 := by unfold FieldIs; kernel_rfl
theorem field27_3 : FieldIs Tryd.prog 27 3 3 4 := by unfold FieldIs; kernel_rfl
theorem field27_4 : FieldIs Tryd.prog 27 4 7 4 := by unfold FieldIs; kernel_rfl
section
variable {P : Program} {n : Nat} {w₀ : World} {E : Env}
/-- A value, and a variable of several cells. -/
theorem End.TcellX {fn : Func} {r s b r' : Nat} {T e' : TypeId} {td : TypeDesc} {ys : List Value} {v' : Value} (hr : fn.results = #[.tmp r', .cell r T]) (h5 : E.look r' = some (.v v')) (ht : P.underlying T = some td) (hp : (match td with | .struct _ | .array _ _ => true | _ => false) = true) (hsz : SizeIs P T ys.length)
  (h1 : E.look r = some (.v (.pointer (some ⟨b, 0, none⟩)))) (h2 : E.look s = some (blk b e' ys)) : End Cx.top w₀ n E (BP P fn (PostOf w₀ (.v (.tuple #[v', aggV ys]))) .ret) := fun a w gr hs => by
 have h3 : a.tmps[r]?.getD undef = .pointer (some ⟨b, 0, none⟩) := by rw [← Array.getD_eq_getD_getElem?]; exact hs.of r _ h1
 have h6 : a.tmps[r']?.getD undef = v' := by rw [← Array.getD_eq_getD_getElem?]; exact hs.of r' _ h5
 obtain ⟨_, hh⟩ := hs.of s _ h2
 exact BP.ret hs.defers ⟨.tuple #[v', aggV ys], by simp [results, hr, h3, h6, asAddr, load_cell ht hp hsz hh], _, rfl, gr, rfl⟩
end
theorem rCheck_hi (x : NodT) (hx : x.Fit) (h5 : 5 < x.l.toNat) : Fn Tryd.prog 16 [.v (aggV x.v)] (.v (.int .i64 (1))) := by
 refine Fn.of Tryd.func16 rfl (by kernel_rfl) Tryd.ntmps16 (by simp) (fun w => [(0, .v (aggV x.v))]) (fun w => (Start.v rfl Start.nil)) fun w₀ => ?_
 refine GS ?_
 refine TN 0 ?_
 refine RN ?_
 refine ⟨_, _, eff_box (n := 57) (d := 1) (k := 1000001) rfl (by decide), fun b1 hb1 => ?_⟩
 have hBb1 := hb1.1
 refine TL ?_
 refine RA rfl ?_
 refine RN ?_
 refine A.seq ?_
 refine GS ?_
 refine TL ?_
 refine RS (ok_field field41_0 (by decide) rfl) ?_
 refine RS (ok_loadV (s := 1000001) (by decide) Tryd.underlying5 rfl rfl rfl (rfl)) ?_
 refine RBS rfl rfl rfl (.bool true) (by first | rfl | (simp; done) | (simp; omega) | (simp [*]; done) | (simp [*]; omega)) ?_
 refine RN ?_
 refine A.yes rfl ?_
 refine GS ?_
 refine TL ?_
 refine RA rfl ?_
 refine RN ?_
 refine A.ret ?_
 refine End.ret_then ?_
 exact End.ret1 rfl rfl (by first | exact Le.refl _ | exact Le.old _ _)
set_option maxHeartbeats 2000000 in
theorem rCheck_R (x : NodT) (hx : x.Fit) (h0 : x.l.toNat = 0) : Fn Tryd.prog 16 [.v (aggV x.v)] (.v (.int .i64 (x.ck))) := by
 refine Fn.of Tryd.func16 rfl (by kernel_rfl) Tryd.ntmps16 (by simp) (fun w => [(0, .v (aggV x.v))]) (fun w => (Start.v rfl Start.nil)) fun w₀ => ?_
 refine GS ?_
 refine TN 0 ?_
 refine RN ?_
 refine ⟨_, _, eff_box (n := 57) (d := 1) (k := 1000001) rfl (by decide), fun b1 hb1 => ?_⟩
 have hBb1 := hb1.1
 refine TL ?_
 refine RA rfl ?_
 refine RN ?_
 refine A.seq ?_
 refine GS ?_
 refine TL ?_
 refine RS (ok_field field41_0 (by decide) rfl) ?_
 refine RS (ok_loadV (s := 1000001) (by decide) Tryd.underlying5 rfl rfl rfl (rfl)) ?_
 refine RBS rfl rfl rfl (.bool false) (by first | rfl | (simp; done) | (simp; omega) | (simp [*]; done) | (simp [*]; omega)) ?_
 refine RN ?_
 refine A.no rfl ?_
 refine A.skip ?_
 refine EN ?_
 refine A.seq ?_
 refine GS ?_
 refine TL ?_
 refine RA rfl ?_
 refine RN ?_
 refine A.block ?_
 refine A.loop (ι := Nat) (fun i => i ≤ 4 ∧ ∀ j, j < i → (x.e j).Z) (fun i => [(1, .v (ptr b1)), (3, .v (nI (i))), (1000001, blk b1 41 x.v)]) (fun i => 4 - i) 0 ?_ ?_ ?_
 ·exact ⟨Nat.zero_le _, fun j h => absurd h (Nat.not_lt_zero _)⟩
 ·exact (KC 1 rfl (KE 3 rfl (by rfl) (KC 1000001 rfl KN)))
 intro i hG
 refine A.seq ?_
 refine GS ?_
 refine TL ?_
 refine RM rfl ?_
 refine RB rfl rfl rfl ?_
 refine RN ?_
 refine A.cond rfl (fun hc10 => ?_) (fun hc10 => ?_)
 ·have hi : i < 4 := by simp at hc10; omega
  refine A.skip ?_
  refine EN ?_
  refine A.seq ?_
  refine A.block ?_
  by_cases hz : (x.e i).Z
  ·refine GS ?_
   refine TL ?_
   refine RS (ok_field field41_0 (by decide) rfl) ?_
   refine RS (ok_loadV (s := 1000001) (by decide) Tryd.underlying5 rfl rfl rfl (rfl)) ?_
   refine RBS rfl rfl rfl (.bool true) (by simp [h0]) ?_
   refine RM rfl ?_
   refine RQ (ok_move rfl) ?_
   refine RQ (ok_field field41_3 (by decide) rfl) ?_
   refine RQ (ok_indexN (i) Tryd.underlying39 size38 rfl rfl (rfl) (hi)) ?_
   refine RQ (ok_loadP (s := 1000001) (by decide) Tryd.underlying38 rfl size38 rfl rfl (by rw [hx.len]; omega) (hx.ent_at hi)) ?_
   refine RQ (ok_lit [] (EntT.v EntT.zero) (fun _ _ => rfl) (by kernel_rfl)) ?_
   refine RQ (ok_neqT (n := 4) (decide (x.e i).Z) flat38 (by decide) (by kernel_rfl) (by kernel_rfl) rfl rfl (hx.e i).kin EntT.zero_fit.kin (EntT.dz _)) ?_; refine RZ (.bool false) (by rw [decide_eq_true hz]; rfl) ?_
   refine RP rfl rfl ?_
   refine RM rfl ?_
   refine RQ (ok_field field41_0 (by decide) rfl) ?_
   refine RQ (ok_loadV (s := 1000001) (by decide) Tryd.underlying5 rfl rfl rfl (rfl)) ?_
   refine RQ (ok_bin rfl rfl rfl) ?_; refine RZ (.bool false) (by simp [h0]) ?_
   refine RQ (ok_move rfl) ?_
   refine RK ?_
   refine RK ?_
   refine RK ?_
   refine RK ?_
   refine RK ?_
   refine RK ?_
   refine RQ (ok_pick rfl rfl) ?_
   refine RP rfl rfl ?_
   refine RN ?_
   refine A.sub (KC 1 rfl (KC 3 rfl (KC 36 rfl (KC 1000001 rfl KN)))) ?_
   refine A.no rfl ?_
   refine A.skip ?_
   refine End.normal_block ?_
   refine EN ?_
   refine GE ?_
   refine TL ?_
   refine RM rfl ?_
   refine RBS rfl rfl rfl (nI (i + 1)) (wrap_eq (by omega) (by omega)) ?_
   refine RA rfl ?_
   refine RN ?_
   refine End.normal_then ?_
   refine End.again (i + 1) ?_ ?_ ?_
   ·exact z_upto hG hi hz
   ·show _ - _ < _ - _; omega
   ·exact (KC 1 rfl (KC 3 rfl (KC 1000001 rfl KN)))
  ·refine GS ?_
   refine TL ?_
   refine RS (ok_field field41_0 (by decide) rfl) ?_
   refine RS (ok_loadV (s := 1000001) (by decide) Tryd.underlying5 rfl rfl rfl (rfl)) ?_
   refine RBS rfl rfl rfl (.bool true) (by simp [h0]) ?_
   refine RM rfl ?_
   refine RQ (ok_move rfl) ?_
   refine RQ (ok_field field41_3 (by decide) rfl) ?_
   refine RQ (ok_indexN (i) Tryd.underlying39 size38 rfl rfl (rfl) (hi)) ?_
   refine RQ (ok_loadP (s := 1000001) (by decide) Tryd.underlying38 rfl size38 rfl rfl (by rw [hx.len]; omega) (hx.ent_at hi)) ?_
   refine RQ (ok_lit [] (EntT.v EntT.zero) (fun _ _ => rfl) (by kernel_rfl)) ?_
   refine RQ (ok_neqT (n := 4) (decide (x.e i).Z) flat38 (by decide) (by kernel_rfl) (by kernel_rfl) rfl rfl (hx.e i).kin EntT.zero_fit.kin (EntT.dz _)) ?_; refine RZ (.bool true) (by rw [decide_eq_false hz]; rfl) ?_
   refine RP rfl rfl ?_
   refine RM rfl ?_
   refine RK ?_
   refine RK ?_
   refine RK ?_
   refine RK ?_
   refine RunK.skippedU rfl rfl rfl rfl ?_
   refine RunK.skippedU rfl rfl rfl rfl ?_
   refine RunK.skippedU rfl rfl rfl rfl ?_
   refine RunK.skippedU rfl rfl rfl rfl ?_
   refine RunK.skippedU rfl rfl rfl rfl ?_
   refine RunK.skippedU rfl rfl rfl rfl ?_
   refine RK ?_
   refine RP rfl rfl ?_
   refine RN ?_
   refine A.sub (KC 1 rfl (KC 3 rfl (KC 36 rfl (KC 1000001 rfl KN)))) ?_
   refine A.yes rfl ?_
   refine GS ?_
   refine TL ?_
   refine RA rfl ?_
   refine RN ?_
   refine A.ret ?_
   refine End.ret_block ?_
   refine End.ret_then ?_
   refine End.ret_then ?_
   refine End.ret_block ?_
   refine End.ret_then ?_
   first | exact End.ret1 rfl rfl (Le.v (congrArg (Value.int .i64) (NodT.ck_Rz h0 fun h => hz (h i hi)).symm)) | exact End.ret1 rfl rfl (Le.v (congrArg (Value.int .i64) ((fst4_at (f := (fun i => (x.r i).ck)) hi hK.2 hk).trans (NodT.ck_R h0 hzs).symm))) | exact End.ret1 rfl rfl (Le.v (congrArg (Value.int .i64) ((NodT.ck_R h0 hzs).trans (fst4_no (f := (fun i => (x.r i).ck)) fun j hj => hK.2 j (by omega))).symm))
 ·have hi2 : i = 4 := by have := hG.1; simp at hc10; omega
  have hzs : ∀ j, j < 4 → (x.e j).Z := fun j hj => hG.2 j (by omega)
  refine A.exit ?_
  refine End.exit_then ?_
  refine End.exit_then ?_
  refine End.exit_here ?_
  refine EN ?_
  refine A.seq ?_
  refine GS ?_
  refine TL ?_
  refine RA rfl ?_
  refine RN ?_
  refine A.block ?_
  refine A.loop (ι := Nat) (fun i => i ≤ 4 ∧ ∀ j, j < i → (x.r j).ck = 0) (fun i => [(1, .v (ptr b1)), (4, .v (nI (i))), (1000001, blk b1 41 x.v)]) (fun i => 4 - i) 0 ?_ ?_ ?_
  ·exact ⟨Nat.zero_le _, fun j h => absurd h (Nat.not_lt_zero _)⟩
  ·exact (KC 1 rfl (KE 4 rfl (by rfl) (KC 1000001 rfl KN)))
  intro i hK
  refine A.seq ?_
  refine GS ?_
  refine TL ?_
  refine RM rfl ?_
  refine RB rfl rfl rfl ?_
  refine RN ?_
  refine A.cond rfl (fun hc38 => ?_) (fun hc38 => ?_)
  ·have hi : i < 4 := by simp at hc38; omega
   refine A.skip ?_
   refine EN ?_
   refine A.seq ?_
   refine A.block ?_
   refine GS ?_
   refine TL ?_
   refine RM rfl ?_
   refine RS (ok_field field41_2 (by decide) rfl) ?_
   refine RS (ok_indexN (i) Tryd.underlying36 size35 rfl rfl (rfl) (hi)) ?_
   refine RS (ok_loadP (s := 1000001) (by decide) Tryd.underlying35 rfl size35 rfl rfl (by rw [hx.len]; omega) (hx.rec_at hi)) ?_
   refine RS (ok_call (refCheckR_fn (x.r i).x (x.r i).s (x.r i).c (x.r i).t (hx.r i).t) (A1 rfl)) ?_; refine RZ (.int .i64 (x.r i).ck) (rfl) ?_
   refine RA rfl ?_
   refine RN ?_
   refine A.seq ?_
   refine GS ?_
   refine TL ?_
   refine RS (ok_field field41_0 (by decide) rfl) ?_
   refine RS (ok_loadV (s := 1000001) (by decide) Tryd.underlying5 rfl rfl rfl (rfl)) ?_
   refine RBS rfl rfl rfl (.bool false) (by simp [h0]) ?_
   refine RN ?_
   refine A.no rfl ?_
   refine A.skip ?_
   refine EN ?_
   refine GS ?_
   refine TL ?_
   refine RM rfl ?_
   refine RB rfl rfl rfl ?_
   refine RN ?_
   refine A.cond rfl (fun hc55 => ?_) (fun hc55 => ?_)
   ·have hk : (x.r i).ck ≠ 0 := by simpa using hc55
    refine GS ?_
    refine TL ?_
    refine RM rfl ?_
    refine RA rfl ?_
    refine RN ?_
    refine A.ret ?_
    refine End.ret_block ?_
    refine End.ret_then ?_
    refine End.ret_then ?_
    refine End.ret_block ?_
    refine End.ret_then ?_
    first | exact End.ret1 rfl rfl (Le.v (congrArg (Value.int .i64) (NodT.ck_Rz h0 fun h => hz (h i hi)).symm)) | exact End.ret1 rfl rfl (Le.v (congrArg (Value.int .i64) ((fst4_at (f := (fun i => (x.r i).ck)) hi hK.2 hk).trans (NodT.ck_R h0 hzs).symm))) | exact End.ret1 rfl rfl (Le.v (congrArg (Value.int .i64) ((NodT.ck_R h0 hzs).trans (fst4_no (f := (fun i => (x.r i).ck)) fun j hj => hK.2 j (by omega))).symm))
   ·have hk : (x.r i).ck = 0 := by simpa using hc55
    refine A.skip ?_
    refine End.normal_block ?_
    refine EN ?_
    refine GE ?_
    refine TL ?_
    refine RM rfl ?_
    refine RBS rfl rfl rfl (nI (i + 1)) (wrap_eq (by omega) (by omega)) ?_
    refine RA rfl ?_
    refine RN ?_
    refine End.normal_then ?_
    refine End.again (i + 1) ?_ ?_ ?_
    ·exact z_upto hK hi hk
    ·show _ - _ < _ - _; omega
    ·exact (KC 1 rfl (KC 4 rfl (KC 1000001 rfl KN)))
  ·have hi3 : i = 4 := by have := hK.1; simp at hc38; omega
   refine A.exit ?_
   refine End.exit_then ?_
   refine End.exit_then ?_
   refine End.exit_here ?_
   refine EN ?_
   refine GS ?_
   refine TL ?_
   refine RA rfl ?_
   refine RN ?_
   refine A.ret ?_
   first | exact End.ret1 rfl rfl (Le.v (congrArg (Value.int .i64) (NodT.ck_Rz h0 fun h => hz (h i hi)).symm)) | exact End.ret1 rfl rfl (Le.v (congrArg (Value.int .i64) ((fst4_at (f := (fun i => (x.r i).ck)) hi hK.2 hk).trans (NodT.ck_R h0 hzs).symm))) | exact End.ret1 rfl rfl (Le.v (congrArg (Value.int .i64) ((NodT.ck_R h0 hzs).trans (fst4_no (f := (fun i => (x.r i).ck)) fun j hj => hK.2 j (by omega))).symm))
set_option maxHeartbeats 2000000 in
theorem rCheck_E (x : NodT) (hx : x.Fit) (h5 : ¬ 5 < x.l.toNat) (h0 : ¬ x.l.toNat = 0) : Fn Tryd.prog 16 [.v (aggV x.v)] (.v (.int .i64 (x.ck))) := by
 refine Fn.of Tryd.func16 rfl (by kernel_rfl) Tryd.ntmps16 (by simp) (fun w => [(0, .v (aggV x.v))]) (fun w => (Start.v rfl Start.nil)) fun w₀ => ?_
 refine GS ?_
 refine TN 0 ?_
 refine RN ?_
 refine ⟨_, _, eff_box (n := 57) (d := 1) (k := 1000001) rfl (by decide), fun b1 hb1 => ?_⟩
 have hBb1 := hb1.1
 refine TL ?_
 refine RA rfl ?_
 refine RN ?_
 refine A.seq ?_
 refine GS ?_
 refine TL ?_
 refine RS (ok_field field41_0 (by decide) rfl) ?_
 refine RS (ok_loadV (s := 1000001) (by decide) Tryd.underlying5 rfl rfl rfl (rfl)) ?_
 refine RBS rfl rfl rfl (.bool false) (by first | rfl | (simp; done) | (simp; omega) | (simp [*]; done) | (simp [*]; omega)) ?_
 refine RN ?_
 refine A.no rfl ?_
 refine A.skip ?_
 refine EN ?_
 refine A.seq ?_
 refine GS ?_
 refine TL ?_
 refine RA rfl ?_
 refine RN ?_
 refine A.block ?_
 refine A.loop (ι := Nat) (fun i => i ≤ 4 ∧ ∀ j, j < i → (x.r j).Z) (fun i => [(1, .v (ptr b1)), (3, .v (nI (i))), (1000001, blk b1 41 x.v)]) (fun i => 4 - i) 0 ?_ ?_ ?_
 ·exact ⟨Nat.zero_le _, fun j h => absurd h (Nat.not_lt_zero _)⟩
 ·exact (KC 1 rfl (KE 3 rfl (by rfl) (KC 1000001 rfl KN)))
 intro i hG
 refine A.seq ?_
 refine GS ?_
 refine TL ?_
 refine RM rfl ?_
 refine RB rfl rfl rfl ?_
 refine RN ?_
 refine A.cond rfl (fun hc10 => ?_) (fun hc10 => ?_)
 ·have hi : i < 4 := by simp at hc10; omega
  refine A.skip ?_
  refine EN ?_
  refine A.seq ?_
  refine A.block ?_
  by_cases hz : (x.r i).Z
  ·refine GS ?_
   refine TL ?_
   refine RS (ok_field field41_0 (by decide) rfl) ?_
   refine RS (ok_loadV (s := 1000001) (by decide) Tryd.underlying5 rfl rfl rfl (rfl)) ?_
   refine RBS rfl rfl rfl (.bool false) (by simp; omega) ?_
   refine RM rfl ?_
   refine RK ?_
   refine RK ?_
   refine RK ?_
   refine RK ?_
   refine RK ?_
   refine RK ?_
   refine RP rfl rfl ?_
   refine RM rfl ?_
   refine RQ (ok_field field41_0 (by decide) rfl) ?_
   refine RQ (ok_loadV (s := 1000001) (by decide) Tryd.underlying5 rfl rfl rfl (rfl)) ?_
   refine RQ (ok_bin rfl rfl rfl) ?_; refine RZ (.bool true) (by simp; omega) ?_
   refine RQ (ok_move rfl) ?_
   refine RQ (ok_move rfl) ?_
   refine RQ (ok_field field41_2 (by decide) rfl) ?_
   refine RQ (ok_indexN (i) Tryd.underlying36 size35 rfl rfl (rfl) (hi)) ?_
   refine RQ (ok_loadP (s := 1000001) (by decide) Tryd.underlying35 rfl size35 rfl rfl (by rw [hx.len]; omega) (hx.rec_at hi)) ?_
   refine RQ (ok_lit [] (RecT.v RecT.zero) (fun _ _ => rfl) (by kernel_rfl)) ?_
   refine RQ (ok_neqT (n := 4) (decide (x.r i).Z) flat35 (by decide) (by kernel_rfl) (by kernel_rfl) rfl rfl (hx.r i).kin RecT.zero_fit.kin (RecT.dz _)) ?_; refine RZ (.bool false) (by rw [decide_eq_true hz]; rfl) ?_
   refine RQ (ok_pick rfl rfl) ?_
   refine RP rfl rfl ?_
   refine RN ?_
   refine A.sub (KC 1 rfl (KC 3 rfl (KC 36 rfl (KC 1000001 rfl KN)))) ?_
   refine A.no rfl ?_
   refine A.skip ?_
   refine End.normal_block ?_
   refine EN ?_
   refine GE ?_
   refine TL ?_
   refine RM rfl ?_
   refine RBS rfl rfl rfl (nI (i + 1)) (wrap_eq (by omega) (by omega)) ?_
   refine RA rfl ?_
   refine RN ?_
   refine End.normal_then ?_
   refine End.again (i + 1) ?_ ?_ ?_
   ·exact z_upto hG hi hz
   ·show _ - _ < _ - _; omega
   ·exact (KC 1 rfl (KC 3 rfl (KC 1000001 rfl KN)))
  ·refine GS ?_
   refine TL ?_
   refine RS (ok_field field41_0 (by decide) rfl) ?_
   refine RS (ok_loadV (s := 1000001) (by decide) Tryd.underlying5 rfl rfl rfl (rfl)) ?_
   refine RBS rfl rfl rfl (.bool false) (by simp; omega) ?_
   refine RM rfl ?_
   refine RK ?_
   refine RK ?_
   refine RK ?_
   refine RK ?_
   refine RK ?_
   refine RK ?_
   refine RP rfl rfl ?_
   refine RM rfl ?_
   refine RQ (ok_field field41_0 (by decide) rfl) ?_
   refine RQ (ok_loadV (s := 1000001) (by decide) Tryd.underlying5 rfl rfl rfl (rfl)) ?_
   refine RQ (ok_bin rfl rfl rfl) ?_; refine RZ (.bool true) (by simp; omega) ?_
   refine RQ (ok_move rfl) ?_
   refine RQ (ok_move rfl) ?_
   refine RQ (ok_field field41_2 (by decide) rfl) ?_
   refine RQ (ok_indexN (i) Tryd.underlying36 size35 rfl rfl (rfl) (hi)) ?_
   refine RQ (ok_loadP (s := 1000001) (by decide) Tryd.underlying35 rfl size35 rfl rfl (by rw [hx.len]; omega) (hx.rec_at hi)) ?_
   refine RQ (ok_lit [] (RecT.v RecT.zero) (fun _ _ => rfl) (by kernel_rfl)) ?_
   refine RQ (ok_neqT (n := 4) (decide (x.r i).Z) flat35 (by decide) (by kernel_rfl) (by kernel_rfl) rfl rfl (hx.r i).kin RecT.zero_fit.kin (RecT.dz _)) ?_; refine RZ (.bool true) (by rw [decide_eq_false hz]; rfl) ?_
   refine RQ (ok_pick rfl rfl) ?_
   refine RP rfl rfl ?_
   refine RN ?_
   refine A.sub (KC 1 rfl (KC 3 rfl (KC 36 rfl (KC 1000001 rfl KN)))) ?_
   refine A.yes rfl ?_
   refine GS ?_
   refine TL ?_
   refine RA rfl ?_
   refine RN ?_
   refine A.ret ?_
   refine End.ret_block ?_
   refine End.ret_then ?_
   refine End.ret_then ?_
   refine End.ret_block ?_
   refine End.ret_then ?_
   first | exact End.ret1 rfl rfl (Le.v (congrArg (Value.int .i64) (NodT.ck_Ez h5 h0 fun h => hz (h i hi)).symm)) | exact End.ret1 rfl rfl (Le.v (congrArg (Value.int .i64) ((fst4_at (f := (fun i => (x.e i).ck)) hi hK.2 hk).trans (NodT.ck_E h5 h0 hzs).symm))) | exact End.ret1 rfl rfl (Le.v (congrArg (Value.int .i64) ((NodT.ck_E h5 h0 hzs).trans (fst4_no (f := (fun i => (x.e i).ck)) fun j hj => hK.2 j (by omega))).symm))
 ·have hi2 : i = 4 := by have := hG.1; simp at hc10; omega
  have hzs : ∀ j, j < 4 → (x.r j).Z := fun j hj => hG.2 j (by omega)
  refine A.exit ?_
  refine End.exit_then ?_
  refine End.exit_then ?_
  refine End.exit_here ?_
  refine EN ?_
  refine A.seq ?_
  refine GS ?_
  refine TL ?_
  refine RA rfl ?_
  refine RN ?_
  refine A.block ?_
  refine A.loop (ι := Nat) (fun i => i ≤ 4 ∧ ∀ j, j < i → (x.e j).ck = 0) (fun i => [(1, .v (ptr b1)), (4, .v (nI (i))), (1000001, blk b1 41 x.v)]) (fun i => 4 - i) 0 ?_ ?_ ?_
  ·exact ⟨Nat.zero_le _, fun j h => absurd h (Nat.not_lt_zero _)⟩
  ·exact (KC 1 rfl (KE 4 rfl (by rfl) (KC 1000001 rfl KN)))
  intro i hK
  refine A.seq ?_
  refine GS ?_
  refine TL ?_
  refine RM rfl ?_
  refine RB rfl rfl rfl ?_
  refine RN ?_
  refine A.cond rfl (fun hc38 => ?_) (fun hc38 => ?_)
  ·have hi : i < 4 := by simp at hc38; omega
   refine A.skip ?_
   refine EN ?_
   refine A.seq ?_
   refine A.block ?_
   refine GS ?_
   refine TL ?_
   refine RM rfl ?_
   refine RS (ok_field field41_2 (by decide) rfl) ?_
   refine RS (ok_indexN (i) Tryd.underlying36 size35 rfl rfl (rfl) (hi)) ?_
   refine RS (ok_loadP (s := 1000001) (by decide) Tryd.underlying35 rfl size35 rfl rfl (by rw [hx.len]; omega) (hx.rec_at hi)) ?_
   refine RS (ok_call (refCheckR_fn (x.r i).x (x.r i).s (x.r i).c (x.r i).t (hx.r i).t) (A1 rfl)) ?_; refine RZ (.int .i64 (x.r i).ck) (rfl) ?_
   refine RA rfl ?_
   refine RN ?_
   refine A.seq ?_
   refine GS ?_
   refine TL ?_
   refine RS (ok_field field41_0 (by decide) rfl) ?_
   refine RS (ok_loadV (s := 1000001) (by decide) Tryd.underlying5 rfl rfl rfl (rfl)) ?_
   refine RBS rfl rfl rfl (.bool true) (by simp; omega) ?_
   refine RN ?_
   refine A.yes rfl ?_
   refine GE ?_
   refine TL ?_
   refine RM rfl ?_
   refine RS (ok_field field41_3 (by decide) rfl) ?_
   refine RS (ok_indexN (i) Tryd.underlying39 size38 rfl rfl (rfl) (hi)) ?_
   refine RS (ok_loadP (s := 1000001) (by decide) Tryd.underlying38 rfl size38 rfl rfl (by rw [hx.len]; omega) (hx.ent_at hi)) ?_
   refine RS (ok_call (refCheckE_fn (x.e i).x (x.e i).t (hx.e i).t) (A1 rfl)) ?_; refine RZ (.int .i64 (x.e i).ck) (rfl) ?_
   refine RA rfl ?_
   refine RN ?_
   refine EN ?_
   refine GS ?_
   refine TL ?_
   refine RM rfl ?_
   refine RB rfl rfl rfl ?_
   refine RN ?_
   refine A.cond rfl (fun hc55 => ?_) (fun hc55 => ?_)
   ·have hk : (x.e i).ck ≠ 0 := by simpa using hc55
    refine GS ?_
    refine TL ?_
    refine RM rfl ?_
    refine RA rfl ?_
    refine RN ?_
    refine A.ret ?_
    refine End.ret_block ?_
    refine End.ret_then ?_
    refine End.ret_then ?_
    refine End.ret_block ?_
    refine End.ret_then ?_
    first | exact End.ret1 rfl rfl (Le.v (congrArg (Value.int .i64) (NodT.ck_Ez h5 h0 fun h => hz (h i hi)).symm)) | exact End.ret1 rfl rfl (Le.v (congrArg (Value.int .i64) ((fst4_at (f := (fun i => (x.e i).ck)) hi hK.2 hk).trans (NodT.ck_E h5 h0 hzs).symm))) | exact End.ret1 rfl rfl (Le.v (congrArg (Value.int .i64) ((NodT.ck_E h5 h0 hzs).trans (fst4_no (f := (fun i => (x.e i).ck)) fun j hj => hK.2 j (by omega))).symm))
   ·have hk : (x.e i).ck = 0 := by simpa using hc55
    refine A.skip ?_
    refine End.normal_block ?_
    refine EN ?_
    refine GE ?_
    refine TL ?_
    refine RM rfl ?_
    refine RBS rfl rfl rfl (nI (i + 1)) (wrap_eq (by omega) (by omega)) ?_
    refine RA rfl ?_
    refine RN ?_
    refine End.normal_then ?_
    refine End.again (i + 1) ?_ ?_ ?_
    ·exact z_upto hK hi hk
    ·show _ - _ < _ - _; omega
    ·exact (KC 1 rfl (KC 4 rfl (KC 1000001 rfl KN)))
  ·have hi3 : i = 4 := by have := hK.1; simp at hc38; omega
   refine A.exit ?_
   refine End.exit_then ?_
   refine End.exit_then ?_
   refine End.exit_here ?_
   refine EN ?_
   refine GS ?_
   refine TL ?_
   refine RA rfl ?_
   refine RN ?_
   refine A.ret ?_
   first | exact End.ret1 rfl rfl (Le.v (congrArg (Value.int .i64) (NodT.ck_Ez h5 h0 fun h => hz (h i hi)).symm)) | exact End.ret1 rfl rfl (Le.v (congrArg (Value.int .i64) ((fst4_at (f := (fun i => (x.e i).ck)) hi hK.2 hk).trans (NodT.ck_E h5 h0 hzs).symm))) | exact End.ret1 rfl rfl (Le.v (congrArg (Value.int .i64) ((NodT.ck_E h5 h0 hzs).trans (fst4_no (f := (fun i => (x.e i).ck)) fun j hj => hK.2 j (by omega))).symm))
theorem rCheck_fn (x : NodT) (hx : x.Fit) : Fn Tryd.prog 16 [.v (aggV x.v)] (.v (.int .i64 (x.ck))) := by
 by_cases h5 : 5 < x.l.toNat
 ·rw [NodT.ck_hi h5]; exact rCheck_hi x hx h5
 by_cases h : x.l.toNat = 0
 ·exact rCheck_R x hx h
 ·exact rCheck_E x hx h5 h
set_option maxHeartbeats 2000000 in
theorem rBytes_R (x : NodT) (hx : x.Fit) (h0 : x.l.toNat = 0) : Fn Tryd.prog 12 [.v (aggV x.v)] (byt x.bl) := by
 refine Fn.of Tryd.func12 rfl (by kernel_rfl) Tryd.ntmps12 (by simp) (fun w => [(0, .v (aggV x.v))]) (fun w => (Start.v rfl Start.nil)) fun w₀ => ?_
 refine GS ?_
 refine TN 0 ?_
 refine RN ?_
 refine ⟨_, _, eff_box (n := 45) (d := 1) (k := 1000001) rfl (by decide), fun b1 hb1 => ?_⟩
 have hBb1 := hb1.1
 refine TL ?_
 refine RA rfl ?_
 refine RN ?_
 refine GS ?_
 refine TL ?_
 refine RS (ok_field field41_0 (by decide) rfl) ?_
 refine RS (ok_loadV (s := 1000001) (by decide) Tryd.underlying5 rfl rfl rfl (rfl)) ?_
 refine RS (ok_field field41_1 (by decide) rfl) ?_
 refine RS (ok_loadV (s := 1000001) (by decide) Tryd.underlying28 rfl rfl rfl (rfl)) ?_
 refine RS (ok_shr rfl rfl (by decide)) ?_; refine RZ (nW (x.j / 16777216)) (by rw [show min (24 : Int).toNat IntKind.u32.bits = 24 from rfl, shr_nat]) ?_
 refine RS (ok_conv Tryd.underlying28 Tryd.underlying5 rfl) ?_; refine RZ (byteV (UInt8.ofNat (x.j / 16777216))) (by rw [wrap_u8_nat]; rfl) ?_
 refine RS (ok_field field41_1 (by decide) rfl) ?_
 refine RS (ok_loadV (s := 1000001) (by decide) Tryd.underlying28 rfl rfl rfl (rfl)) ?_
 refine RS (ok_shr rfl rfl (by decide)) ?_; refine RZ (nW (x.j / 65536)) (by rw [show min (16 : Int).toNat IntKind.u32.bits = 16 from rfl, shr_nat]) ?_
 refine RS (ok_conv Tryd.underlying28 Tryd.underlying5 rfl) ?_; refine RZ (byteV (UInt8.ofNat (x.j / 65536))) (by rw [wrap_u8_nat]; rfl) ?_
 refine RS (ok_field field41_1 (by decide) rfl) ?_
 refine RS (ok_loadV (s := 1000001) (by decide) Tryd.underlying28 rfl rfl rfl (rfl)) ?_
 refine RS (ok_shr rfl rfl (by decide)) ?_; refine RZ (nW (x.j / 256)) (by rw [show min (8 : Int).toNat IntKind.u32.bits = 8 from rfl, shr_nat]) ?_
 refine RS (ok_conv Tryd.underlying28 Tryd.underlying5 rfl) ?_; refine RZ (byteV (UInt8.ofNat (x.j / 256))) (by rw [wrap_u8_nat]; rfl) ?_
 refine RS (ok_field field41_1 (by decide) rfl) ?_
 refine RS (ok_loadV (s := 1000001) (by decide) Tryd.underlying28 rfl rfl rfl (rfl)) ?_
 refine RS (ok_conv Tryd.underlying28 Tryd.underlying5 rfl) ?_; refine RZ (byteV (UInt8.ofNat (x.j))) (by rw [wrap_u8_nat]; rfl) ?_
 refine RS (ok_buildOwn [byteV x.l, byteV (UInt8.ofNat (x.j / 16777216)), byteV (UInt8.ofNat (x.j / 65536)), byteV (UInt8.ofNat (x.j / 256)), byteV (UInt8.ofNat x.j)] Tryd.underlying44 info5 rfl (by decide) (by decide) rfl ⟨rfl, rfl, rfl, rfl, rfl, rfl, rfl, rfl, rfl, rfl, trivial⟩ (fun d hd => by simp only [List.mem_cons, List.not_mem_nil, or_false] at hd; rcases hd with rfl | rfl | rfl | rfl | rfl <;> rfl)) ?_
 refine RA rfl ?_
 refine RN ?_
 refine A.seq ?_
 refine GS ?_
 refine TL ?_
 refine RA rfl ?_
 refine RN ?_
 refine A.block ?_
 refine A.loop (ι := Nat) (fun i => i ≤ 4) (fun i => [(1, .v (ptr b1)), (3, own w₀.heap.size 5 (5 + 45 * i) (((x.l :: be 4 x.j) ++ (x.R.take i).flatMap RecT.l).map byteV)), (4, .v (nI (i))), (1000001, blk b1 41 x.v)]) (fun i => 4 - i) 0 ?_ ?_ ?_
 ·exact Nat.zero_le _
 ·exact (KC 1 rfl (KE 3 rfl (show own _ _ _ _ = own _ _ _ _ from congrArg _ (by rw [List.take_zero, List.flatMap_nil, List.append_nil, be4]; rfl)) (KE 4 rfl (by rfl) (KC 1000001 rfl KN))))
 intro i hG
 refine A.seq ?_
 refine GS ?_
 refine TL ?_
 refine RM rfl ?_
 refine RB rfl rfl rfl ?_
 refine RN ?_
 refine A.cond rfl (fun hc24 => ?_) (fun hc24 => ?_)
 ·have hi : i < 4 := by simp at hc24; omega
  refine A.skip ?_
  refine EN ?_
  refine A.seq ?_
  refine A.block ?_
  refine GS ?_
  refine TL ?_
  refine RS (ok_field field41_0 (by decide) rfl) ?_
  refine RS (ok_loadV (s := 1000001) (by decide) Tryd.underlying5 rfl rfl rfl (rfl)) ?_
  refine RBS rfl rfl rfl (.bool true) (by simp [h0]) ?_
  refine RN ?_
  refine A.yes rfl ?_
  refine GE ?_
  refine TF 6 ?_
  refine RM rfl ?_
  refine RM rfl ?_
  refine RS (ok_field field41_2 (by decide) rfl) ?_
  refine RS (ok_indexN (i) Tryd.underlying36 size35 rfl rfl (rfl) (hi)) ?_
  refine RS (ok_loadP (s := 1000001) (by decide) Tryd.underlying35 rfl size35 rfl rfl (by rw [hx.len]; omega) (hx.rec_at hi)) ?_
  refine RS (ok_call (refRecord_fn (x.r i).x (x.r i).s (x.r i).c (x.r i).t (hx.r i).t (hx.r i).s (hx.r i).c) (A1 rfl)) ?_
  refine RN ?_
  refine ⟨_, eff_appendS (vs := ((x.r i).l.map byteV)) Tryd.underlying44 info5 (by decide) rfl rfl rfl (Le.eq (byt_vals _)) (by simp [byteV, Value.oneCell']) (by rw [List.length_map, (hx.r i).lenL]; omega) (by decide) (fun g hg => (LV 1 rfl (LV 4 rfl (LT 1000001 rfl LN)))), ?_⟩
  refine TL ?_
  refine RA rfl ?_
  refine RN ?_
  refine End.normal_block ?_
  refine EN ?_
  refine GE ?_
  refine TL ?_
  refine RM rfl ?_
  refine RBS rfl rfl rfl (nI (i + 1)) (wrap_eq (by omega) (by omega)) ?_
  refine RA rfl ?_
  refine RN ?_
  refine End.normal_then ?_
  refine End.again (i + 1) ?_ ?_ ?_
  ·show _ ≤ _; omega
  ·show _ - _ < _ - _; omega
  ·exact (KC 1 rfl (KE 3 rfl (show own _ _ _ _ = own _ _ _ _ from by rw [List.length_map, (hx.r i).lenL, take_flat hx.lr hi (z := RecT.zero), ← List.append_assoc, List.map_append (l₁ := (x.l :: be 4 x.j) ++ _), show 5 + 45 * (i + 1) = 5 + 45 * i + 45 from by omega]; rfl) (KC 4 rfl (KC 1000001 rfl KN))))
 ·have hi2 : i = 4 := by simp at hc24; omega
  refine A.exit ?_
  refine End.exit_then ?_
  refine End.exit_then ?_
  refine End.exit_here ?_
  refine EN ?_
  refine GS ?_
  refine TL ?_
  refine RM rfl ?_
  refine RA rfl ?_
  refine RN ?_
  refine A.ret ?_
  subst hi2
  exact End.ret1 rfl rfl ((own_byt (by rw [List.take_of_length_le (Nat.le_of_eq hx.lr), List.length_append, flat_length (RecT.lensL hx.fr), hx.lr, List.length_cons, be_length])).trans (Le.eq (congrArg byt (by rw [List.take_of_length_le (Nat.le_of_eq hx.lr)]; unfold NodT.bl; rw [if_pos h0]; rfl))))
set_option maxHeartbeats 2000000 in
theorem rBytes_E (x : NodT) (hx : x.Fit) (h0 : ¬ x.l.toNat = 0) : Fn Tryd.prog 12 [.v (aggV x.v)] (byt x.bl) := by
 refine Fn.of Tryd.func12 rfl (by kernel_rfl) Tryd.ntmps12 (by simp) (fun w => [(0, .v (aggV x.v))]) (fun w => (Start.v rfl Start.nil)) fun w₀ => ?_
 refine GS ?_
 refine TN 0 ?_
 refine RN ?_
 refine ⟨_, _, eff_box (n := 45) (d := 1) (k := 1000001) rfl (by decide), fun b1 hb1 => ?_⟩
 have hBb1 := hb1.1
 refine TL ?_
 refine RA rfl ?_
 refine RN ?_
 refine GS ?_
 refine TL ?_
 refine RS (ok_field field41_0 (by decide) rfl) ?_
 refine RS (ok_loadV (s := 1000001) (by decide) Tryd.underlying5 rfl rfl rfl (rfl)) ?_
 refine RS (ok_field field41_1 (by decide) rfl) ?_
 refine RS (ok_loadV (s := 1000001) (by decide) Tryd.underlying28 rfl rfl rfl (rfl)) ?_
 refine RS (ok_shr rfl rfl (by decide)) ?_; refine RZ (nW (x.j / 16777216)) (by rw [show min (24 : Int).toNat IntKind.u32.bits = 24 from rfl, shr_nat]) ?_
 refine RS (ok_conv Tryd.underlying28 Tryd.underlying5 rfl) ?_; refine RZ (byteV (UInt8.ofNat (x.j / 16777216))) (by rw [wrap_u8_nat]; rfl) ?_
 refine RS (ok_field field41_1 (by decide) rfl) ?_
 refine RS (ok_loadV (s := 1000001) (by decide) Tryd.underlying28 rfl rfl rfl (rfl)) ?_
 refine RS (ok_shr rfl rfl (by decide)) ?_; refine RZ (nW (x.j / 65536)) (by rw [show min (16 : Int).toNat IntKind.u32.bits = 16 from rfl, shr_nat]) ?_
 refine RS (ok_conv Tryd.underlying28 Tryd.underlying5 rfl) ?_; refine RZ (byteV (UInt8.ofNat (x.j / 65536))) (by rw [wrap_u8_nat]; rfl) ?_
 refine RS (ok_field field41_1 (by decide) rfl) ?_
 refine RS (ok_loadV (s := 1000001) (by decide) Tryd.underlying28 rfl rfl rfl (rfl)) ?_
 refine RS (ok_shr rfl rfl (by decide)) ?_; refine RZ (nW (x.j / 256)) (by rw [show min (8 : Int).toNat IntKind.u32.bits = 8 from rfl, shr_nat]) ?_
 refine RS (ok_conv Tryd.underlying28 Tryd.underlying5 rfl) ?_; refine RZ (byteV (UInt8.ofNat (x.j / 256))) (by rw [wrap_u8_nat]; rfl) ?_
 refine RS (ok_field field41_1 (by decide) rfl) ?_
 refine RS (ok_loadV (s := 1000001) (by decide) Tryd.underlying28 rfl rfl rfl (rfl)) ?_
 refine RS (ok_conv Tryd.underlying28 Tryd.underlying5 rfl) ?_; refine RZ (byteV (UInt8.ofNat (x.j))) (by rw [wrap_u8_nat]; rfl) ?_
 refine RS (ok_buildOwn [byteV x.l, byteV (UInt8.ofNat (x.j / 16777216)), byteV (UInt8.ofNat (x.j / 65536)), byteV (UInt8.ofNat (x.j / 256)), byteV (UInt8.ofNat x.j)] Tryd.underlying44 info5 rfl (by decide) (by decide) rfl ⟨rfl, rfl, rfl, rfl, rfl, rfl, rfl, rfl, rfl, rfl, trivial⟩ (fun d hd => by simp only [List.mem_cons, List.not_mem_nil, or_false] at hd; rcases hd with rfl | rfl | rfl | rfl | rfl <;> rfl)) ?_
 refine RA rfl ?_
 refine RN ?_
 refine A.seq ?_
 refine GS ?_
 refine TL ?_
 refine RA rfl ?_
 refine RN ?_
 refine A.block ?_
 refine A.loop (ι := Nat) (fun i => i ≤ 4) (fun i => [(1, .v (ptr b1)), (3, own w₀.heap.size 5 (5 + 33 * i) (((x.l :: be 4 x.j) ++ (x.E.take i).flatMap EntT.l).map byteV)), (4, .v (nI (i))), (1000001, blk b1 41 x.v)]) (fun i => 4 - i) 0 ?_ ?_ ?_
 ·exact Nat.zero_le _
 ·exact (KC 1 rfl (KE 3 rfl (show own _ _ _ _ = own _ _ _ _ from congrArg _ (by rw [List.take_zero, List.flatMap_nil, List.append_nil, be4]; rfl)) (KE 4 rfl (by rfl) (KC 1000001 rfl KN))))
 intro i hG
 refine A.seq ?_
 refine GS ?_
 refine TL ?_
 refine RM rfl ?_
 refine RB rfl rfl rfl ?_
 refine RN ?_
 refine A.cond rfl (fun hc24 => ?_) (fun hc24 => ?_)
 ·have hi : i < 4 := by simp at hc24; omega
  refine A.skip ?_
  refine EN ?_
  refine A.seq ?_
  refine A.block ?_
  refine GS ?_
  refine TL ?_
  refine RS (ok_field field41_0 (by decide) rfl) ?_
  refine RS (ok_loadV (s := 1000001) (by decide) Tryd.underlying5 rfl rfl rfl (rfl)) ?_
  refine RBS rfl rfl rfl (.bool false) (by simp; omega) ?_
  refine RN ?_
  refine A.no rfl ?_
  refine GE ?_
  refine TF 6 ?_
  refine RM rfl ?_
  refine RM rfl ?_
  refine RS (ok_field field41_3 (by decide) rfl) ?_
  refine RS (ok_indexN (i) Tryd.underlying39 size38 rfl rfl (rfl) (hi)) ?_
  refine RS (ok_loadP (s := 1000001) (by decide) Tryd.underlying38 rfl size38 rfl rfl (by rw [hx.len]; omega) (hx.ent_at hi)) ?_
  refine RS (ok_call (refEntry_fn (x.e i).x (x.e i).t (hx.e i).t) (A1 rfl)) ?_
  refine RN ?_
  refine ⟨_, eff_appendS (vs := ((x.e i).l.map byteV)) Tryd.underlying44 info5 (by decide) rfl rfl rfl (Le.eq (byt_vals _)) (by simp [byteV, Value.oneCell']) (by rw [List.length_map, (hx.e i).lenL]; omega) (by decide) (fun g hg => (LV 1 rfl (LV 4 rfl (LT 1000001 rfl LN)))), ?_⟩
  refine TL ?_
  refine RA rfl ?_
  refine RN ?_
  refine End.normal_block ?_
  refine EN ?_
  refine GE ?_
  refine TL ?_
  refine RM rfl ?_
  refine RBS rfl rfl rfl (nI (i + 1)) (wrap_eq (by omega) (by omega)) ?_
  refine RA rfl ?_
  refine RN ?_
  refine End.normal_then ?_
  refine End.again (i + 1) ?_ ?_ ?_
  ·show _ ≤ _; omega
  ·show _ - _ < _ - _; omega
  ·exact (KC 1 rfl (KE 3 rfl (show own _ _ _ _ = own _ _ _ _ from by rw [List.length_map, (hx.e i).lenL, take_flat hx.le hi (z := EntT.zero), ← List.append_assoc, List.map_append (l₁ := (x.l :: be 4 x.j) ++ _), show 5 + 33 * (i + 1) = 5 + 33 * i + 33 from by omega]; rfl) (KC 4 rfl (KC 1000001 rfl KN))))
 ·have hi2 : i = 4 := by simp at hc24; omega
  refine A.exit ?_
  refine End.exit_then ?_
  refine End.exit_then ?_
  refine End.exit_here ?_
  refine EN ?_
  refine GS ?_
  refine TL ?_
  refine RM rfl ?_
  refine RA rfl ?_
  refine RN ?_
  refine A.ret ?_
  subst hi2
  exact End.ret1 rfl rfl ((own_byt (by rw [List.take_of_length_le (Nat.le_of_eq hx.le), List.length_append, flat_length (EntT.lensL hx.fe), hx.le, List.length_cons, be_length])).trans (Le.eq (congrArg byt (by rw [List.take_of_length_le (Nat.le_of_eq hx.le)]; unfold NodT.bl; rw [if_neg h0]; rfl))))
theorem rBytes_fn (x : NodT) (hx : x.Fit) : Fn Tryd.prog 12 [.v (aggV x.v)] (byt x.bl) := by
 by_cases h : x.l.toNat = 0
 ·exact rBytes_R x hx h
 ·exact rBytes_E x hx h
theorem rDigest_fn (x : NodT) (hx : x.Fit) (h5 : x.l.toNat ≤ 5) : Fn Tryd.prog 19 [.v (aggV x.v)] (.v (aggV ((sha x.bl).map byteV))) := by
 refine Fn.of Tryd.func19 rfl (by kernel_rfl) Tryd.ntmps19 (by simp) (fun w => [(0, .v (aggV x.v))]) (fun w => (Start.v rfl Start.nil)) fun w₀ => ?_
 refine GS ?_
 refine TN 0 ?_
 refine RN ?_
 refine ⟨_, _, eff_box (n := 6) (d := 1) (k := 1000001) rfl (by decide), fun b1 hb1 => ?_⟩
 have hBb1 := hb1.1
 refine TN 1 ?_
 refine RN ?_
 refine ⟨_, _, eff_alloc (n := 6) (d := 2) (k := 1000002) zero33 (by decide), fun b2 hb2 => ?_⟩
 have hBb2 := hb2.1
 refine TL ?_
 refine RN ?_
 refine GS ?_
 refine TF 3 ?_
 refine RS (ok_loadA (s := 1000001) (by decide) Tryd.underlying41 rfl (size41.of (hx.len)) rfl rfl) ?_
 refine RS (ok_call (rBytes_fn x hx) (A1 rfl)) ?_
 refine RS (ok_call (refSum_fn x.bl (by rw [hx.bl_length]; have := sz_le x.l.toNat; omega)) (Args.cons rfl LA Args.nil)) ?_
 refine RN ?_
 refine ⟨_, eff_storeA (n := 6) (s := 1000002) (size33.of (by rw [List.length_map, sha_length])) rfl rfl (all_bytes _) hBb2 rfl (by rw [List.length_map, sha_length]; rfl) (LV 2 rfl (LT 1000001 rfl LN)), ?_⟩
 refine TL ?_
 refine RN ?_
 refine A.ret ?_
 exact End.cell1 (s := 1000002) rfl Tryd.underlying33 rfl (size33.of (by rw [List.length_map, sha_length])) rfl rfl (Le.refl _)
theorem rFits_lo (n : Int) (h : n < 1) (x : NodT) (hx : x.Fit)  : Fn Tryd.prog 20 [.v (.int .i64 (n)), .v (aggV x.v)] (.v (.int .i64 (1))) := by
 refine Fn.of Tryd.func20 rfl (by kernel_rfl) Tryd.ntmps20 (by simp) (fun w => [(0, .v (.int .i64 (n))), (1, .v (aggV x.v))]) (fun w => (Start.v rfl (Start.v rfl Start.nil))) fun w₀ => ?_
 refine GS ?_
 refine TN 0 ?_
 refine RN ?_
 refine ⟨_, _, eff_box (n := 53) (d := 3) (k := 1000003) rfl (by decide), fun b3 hb3 => ?_⟩
 have hBb3 := hb3.1
 refine TL ?_
 refine RA rfl ?_
 refine RN ?_
 refine A.seq ?_
 refine GS ?_
 refine TL ?_
 refine RM rfl ?_
 refine RBS rfl rfl rfl (.bool true) (by first | rfl | (simp; done) | (simp; omega) | (simp [*]; done) | (simp [*]; omega)) ?_
 refine RM rfl ?_
 refine RK ?_
 refine RK ?_
 refine RP rfl rfl ?_
 refine RN ?_
 refine A.yes rfl ?_
 refine GS ?_
 refine TL ?_
 refine RA rfl ?_
 refine RN ?_
 refine A.ret ?_
 refine End.ret_then ?_
 exact End.ret1 rfl rfl (by first | exact Le.refl _ | exact Le.old _ _)
theorem rFits_hi (n : Int) (h : 4096 < n) (x : NodT) (hx : x.Fit)  : Fn Tryd.prog 20 [.v (.int .i64 (n)), .v (aggV x.v)] (.v (.int .i64 (1))) := by
 refine Fn.of Tryd.func20 rfl (by kernel_rfl) Tryd.ntmps20 (by simp) (fun w => [(0, .v (.int .i64 (n))), (1, .v (aggV x.v))]) (fun w => (Start.v rfl (Start.v rfl Start.nil))) fun w₀ => ?_
 refine GS ?_
 refine TN 0 ?_
 refine RN ?_
 refine ⟨_, _, eff_box (n := 53) (d := 3) (k := 1000003) rfl (by decide), fun b3 hb3 => ?_⟩
 have hBb3 := hb3.1
 refine TL ?_
 refine RA rfl ?_
 refine RN ?_
 refine A.seq ?_
 refine GS ?_
 refine TL ?_
 refine RM rfl ?_
 refine RBS rfl rfl rfl (.bool false) (by first | rfl | (simp; done) | (simp; omega) | (simp [*]; done) | (simp [*]; omega)) ?_
 refine RM rfl ?_
 refine RQ (ok_move rfl) ?_
 refine RQ (ok_bin rfl rfl rfl) ?_; refine RZ (.bool true) (by first | rfl | (simp; done) | (simp; omega) | (simp [*]; done) | (simp [*]; omega)) ?_
 refine RP rfl rfl ?_
 refine RN ?_
 refine A.yes rfl ?_
 refine GS ?_
 refine TL ?_
 refine RA rfl ?_
 refine RN ?_
 refine A.ret ?_
 refine End.ret_then ?_
 exact End.ret1 rfl rfl (by first | exact Le.refl _ | exact Le.old _ _)
theorem rFits_ck (n : Nat) (h1 : 1 ≤ n) (h2 : n ≤ 4096) (x : NodT) (hx : x.Fit) (hk : x.ck ≠ 0) : Fn Tryd.prog 20 [.v (nI (n)), .v (aggV x.v)] (.v (.int .i64 (x.ck))) := by
 refine Fn.of Tryd.func20 rfl (by kernel_rfl) Tryd.ntmps20 (by simp) (fun w => [(0, .v (nI (n))), (1, .v (aggV x.v))]) (fun w => (Start.v rfl (Start.v rfl Start.nil))) fun w₀ => ?_
 refine GS ?_
 refine TN 0 ?_
 refine RN ?_
 refine ⟨_, _, eff_box (n := 53) (d := 3) (k := 1000003) rfl (by decide), fun b3 hb3 => ?_⟩
 have hBb3 := hb3.1
 refine TL ?_
 refine RA rfl ?_
 refine RN ?_
 refine A.seq ?_
 refine GS ?_
 refine TL ?_
 refine RM rfl ?_
 refine RBS rfl rfl rfl (.bool false) (by first | rfl | (simp; done) | (simp; omega) | (simp [*]; done) | (simp [*]; omega)) ?_
 refine RM rfl ?_
 refine RQ (ok_move rfl) ?_
 refine RQ (ok_bin rfl rfl rfl) ?_; refine RZ (.bool false) (by first | rfl | (simp; done) | (simp; omega) | (simp [*]; done) | (simp [*]; omega)) ?_
 refine RP rfl rfl ?_
 refine RN ?_
 refine A.no rfl ?_
 refine A.skip ?_
 refine EN ?_
 refine GS ?_
 refine TL ?_
 refine RS (ok_loadA (s := 1000003) (by decide) Tryd.underlying41 rfl (size41.of (hx.len)) rfl rfl) ?_
 refine RS (ok_call (rCheck_fn x hx) (A1 rfl)) ?_
 refine RA rfl ?_
 refine RN ?_
 refine A.seq ?_
 refine GS ?_
 refine TL ?_
 refine RM rfl ?_
 refine RBS rfl rfl rfl (.bool true) (by simp [hk]) ?_
 refine RN ?_
 refine A.yes rfl ?_
 refine GS ?_
 refine TL ?_
 refine RM rfl ?_
 refine RA rfl ?_
 refine RN ?_
 refine A.ret ?_
 refine End.ret_then ?_
 exact End.ret1 rfl rfl (by first | exact Le.refl _ | exact Le.old _ _)
theorem rFits_no (n : Nat) (h1 : 1 ≤ n) (h2 : n ≤ 4096) (x : NodT) (hx : x.Fit) (hk : x.ck = 0) (hp : ¬ IsP n x.l.toNat x.j) : Fn Tryd.prog 20 [.v (nI (n)), .v (aggV x.v)] (.v (.int .i64 (17))) := by
 refine Fn.of Tryd.func20 rfl (by kernel_rfl) Tryd.ntmps20 (by simp) (fun w => [(0, .v (nI (n))), (1, .v (aggV x.v))]) (fun w => (Start.v rfl (Start.v rfl Start.nil))) fun w₀ => ?_
 refine GS ?_
 refine TN 0 ?_
 refine RN ?_
 refine ⟨_, _, eff_box (n := 53) (d := 3) (k := 1000003) rfl (by decide), fun b3 hb3 => ?_⟩
 have hBb3 := hb3.1
 refine TL ?_
 refine RA rfl ?_
 refine RN ?_
 refine A.seq ?_
 refine GS ?_
 refine TL ?_
 refine RM rfl ?_
 refine RBS rfl rfl rfl (.bool false) (by first | rfl | (simp; done) | (simp; omega) | (simp [*]; done) | (simp [*]; omega)) ?_
 refine RM rfl ?_
 refine RQ (ok_move rfl) ?_
 refine RQ (ok_bin rfl rfl rfl) ?_; refine RZ (.bool false) (by first | rfl | (simp; done) | (simp; omega) | (simp [*]; done) | (simp [*]; omega)) ?_
 refine RP rfl rfl ?_
 refine RN ?_
 refine A.no rfl ?_
 refine A.skip ?_
 refine EN ?_
 refine GS ?_
 refine TL ?_
 refine RS (ok_loadA (s := 1000003) (by decide) Tryd.underlying41 rfl (size41.of (hx.len)) rfl rfl) ?_
 refine RS (ok_call (rCheck_fn x hx) (A1 rfl)) ?_
 refine RA rfl ?_
 refine RN ?_
 refine A.seq ?_
 refine GS ?_
 refine TL ?_
 refine RM rfl ?_
 refine RBS rfl rfl rfl (.bool false) (by simp [hk]) ?_
 refine RN ?_
 refine A.no rfl ?_
 refine A.skip ?_
 refine EN ?_
 refine A.seq ?_
 refine GS ?_
 refine TL ?_
 refine RM rfl ?_
 refine RS (ok_field field41_0 (by decide) rfl) ?_
 refine RS (ok_loadV (s := 1000003) (by decide) Tryd.underlying5 rfl rfl rfl (rfl)) ?_
 refine RS (ok_conv Tryd.underlying5 Tryd.underlying3 rfl) ?_; refine RZ (nI (x.l.toNat)) (wrap_eq rfl (by have := x.l.toNat_lt; omega)) ?_
 refine RS (ok_field field41_1 (by decide) rfl) ?_
 refine RS (ok_loadV (s := 1000003) (by decide) Tryd.underlying28 rfl rfl rfl (rfl)) ?_
 refine RS (ok_conv Tryd.underlying28 Tryd.underlying3 rfl) ?_; refine RZ (nI (x.j)) (wrap_eq rfl (by have := hx.j; omega)) ?_
 refine RS (ok_call (rIs_n n h1 h2 x.l.toNat x.j hp) (A3 rfl rfl rfl)) ?_
 refine RS (ok_not rfl) ?_
 refine RN ?_
 refine A.yes rfl ?_
 refine GS ?_
 refine TL ?_
 refine RA rfl ?_
 refine RN ?_
 refine A.ret ?_
 refine End.ret_then ?_
 exact End.ret1 rfl rfl (by first | exact Le.refl _ | exact Le.old _ _)
set_option maxHeartbeats 2000000 in
theorem rFits_p (n : Nat) (h1 : 1 ≤ n) (h2 : n ≤ 4096) (x : NodT) (hx : x.Fit) (hk : x.ck = 0) (hl : x.l.toNat ≤ hg n) (hj : x.j < un n (x.l.toNat + 1)) (hp : IsP n x.l.toNat x.j) : Fn Tryd.prog 20 [.v (nI (n)), .v (aggV x.v)] (.v (.int .i64 (ftN n x))) := by
 have hb := pts_pos hj
 refine Fn.of Tryd.func20 rfl (by kernel_rfl) Tryd.ntmps20 (by simp) (fun w => [(0, .v (nI (n))), (1, .v (aggV x.v))]) (fun w => (Start.v rfl (Start.v rfl Start.nil))) fun w₀ => ?_
 refine GS ?_
 refine TN 0 ?_
 refine RN ?_
 refine ⟨_, _, eff_box (n := 53) (d := 3) (k := 1000003) rfl (by decide), fun b3 hb3 => ?_⟩
 have hBb3 := hb3.1
 refine TL ?_
 refine RA rfl ?_
 refine RN ?_
 refine A.seq ?_
 refine GS ?_
 refine TL ?_
 refine RM rfl ?_
 refine RBS rfl rfl rfl (.bool false) (by first | rfl | (simp; done) | (simp; omega) | (simp [*]; done) | (simp [*]; omega)) ?_
 refine RM rfl ?_
 refine RQ (ok_move rfl) ?_
 refine RQ (ok_bin rfl rfl rfl) ?_; refine RZ (.bool false) (by first | rfl | (simp; done) | (simp; omega) | (simp [*]; done) | (simp [*]; omega)) ?_
 refine RP rfl rfl ?_
 refine RN ?_
 refine A.no rfl ?_
 refine A.skip ?_
 refine EN ?_
 refine GS ?_
 refine TL ?_
 refine RS (ok_loadA (s := 1000003) (by decide) Tryd.underlying41 rfl (size41.of (hx.len)) rfl rfl) ?_
 refine RS (ok_call (rCheck_fn x hx) (A1 rfl)) ?_
 refine RA rfl ?_
 refine RN ?_
 refine A.seq ?_
 refine GS ?_
 refine TL ?_
 refine RM rfl ?_
 refine RBS rfl rfl rfl (.bool false) (by simp [hk]) ?_
 refine RN ?_
 refine A.no rfl ?_
 refine A.skip ?_
 refine EN ?_
 refine A.seq ?_
 refine GS ?_
 refine TL ?_
 refine RM rfl ?_
 refine RS (ok_field field41_0 (by decide) rfl) ?_
 refine RS (ok_loadV (s := 1000003) (by decide) Tryd.underlying5 rfl rfl rfl (rfl)) ?_
 refine RS (ok_conv Tryd.underlying5 Tryd.underlying3 rfl) ?_; refine RZ (nI (x.l.toNat)) (wrap_eq rfl (by have := x.l.toNat_lt; omega)) ?_
 refine RS (ok_field field41_1 (by decide) rfl) ?_
 refine RS (ok_loadV (s := 1000003) (by decide) Tryd.underlying28 rfl rfl rfl (rfl)) ?_
 refine RS (ok_conv Tryd.underlying28 Tryd.underlying3 rfl) ?_; refine RZ (nI (x.j)) (wrap_eq rfl (by have := hx.j; omega)) ?_
 refine RS (ok_call (rIs_y n h1 h2 x.l.toNat x.j hl hj) (A3 rfl rfl rfl)) ?_
 refine RS (ok_not rfl) ?_
 refine RN ?_
 refine A.no rfl ?_
 refine A.skip ?_
 refine EN ?_
 refine A.seq ?_
 refine GS ?_
 refine TL ?_
 refine RM rfl ?_
 refine RS (ok_field field41_0 (by decide) rfl) ?_
 refine RS (ok_loadV (s := 1000003) (by decide) Tryd.underlying5 rfl rfl rfl (rfl)) ?_
 refine RS (ok_conv Tryd.underlying5 Tryd.underlying3 rfl) ?_; refine RZ (nI (x.l.toNat)) (wrap_eq rfl (by have := x.l.toNat_lt; omega)) ?_
 refine RS (ok_field field41_1 (by decide) rfl) ?_
 refine RS (ok_loadV (s := 1000003) (by decide) Tryd.underlying28 rfl rfl rfl (rfl)) ?_
 refine RS (ok_conv Tryd.underlying28 Tryd.underlying3 rfl) ?_; refine RZ (nI (x.j)) (wrap_eq rfl (by have := hx.j; omega)) ?_
 refine RS (ok_call (rParts_fn n h1 h2 x.l.toNat x.j hl hj) (A3 rfl rfl rfl)) ?_
 refine RA rfl ?_
 refine RN ?_
 refine A.sub (KC 3 rfl (KC 6 rfl (KC 1000003 rfl KN))) ?_
 refine A.block ?_
 refine A.loop (ι := Nat) (fun i => pts n x.l.toNat x.j ≤ i ∧ i ≤ 4 ∧ ∀ j, pts n x.l.toNat x.j ≤ j → j < i → (x.r j).Z ∧ (x.e j).Z) (fun i => [(3, .v (ptr b3)), (6, .v (nI (i))), (1000003, blk b3 41 x.v)]) (fun i => 4 - i) (pts n x.l.toNat x.j) ?_ ?_ ?_
 ·exact ⟨Nat.le_refl _, hb.2.1, fun j h h' => absurd h' (Nat.not_lt.2 h)⟩
 ·exact (KC 3 rfl (KE 6 rfl (by rfl) (KC 1000003 rfl KN)))
 intro i hG
 refine A.seq ?_
 refine GS ?_
 refine TL ?_
 refine RM rfl ?_
 refine RB rfl rfl rfl ?_
 refine RN ?_
 refine A.cond rfl (fun hc36 => ?_) (fun hc36 => ?_)
 ·have hi : i < 4 := by simp at hc36; omega
  refine A.skip ?_
  refine EN ?_
  refine A.seq ?_
  refine A.block ?_
  by_cases hr : (x.r i).Z
  ·refine GS ?_
   refine TL ?_
   refine RM rfl ?_
   refine RS (ok_field field41_2 (by decide) rfl) ?_
   refine RS (ok_indexN (i) Tryd.underlying36 size35 rfl rfl (rfl) (hi)) ?_
   refine RS (ok_loadP (s := 1000003) (by decide) Tryd.underlying35 rfl size35 rfl rfl (by rw [hx.len]; omega) (hx.rec_at hi)) ?_
   refine RS (ok_lit [] (RecT.v RecT.zero) (fun _ _ => rfl) (by kernel_rfl)) ?_
   refine RS (ok_neqT (n := 4) (decide (x.r i).Z) flat35 (by decide) (by kernel_rfl) (by kernel_rfl) rfl rfl (hx.r i).kin RecT.zero_fit.kin (RecT.dz _)) ?_; refine RZ (.bool false) (by rw [decide_eq_true hr]; rfl) ?_
   refine RM rfl ?_
   refine RQ (ok_move rfl) ?_
   refine RQ (ok_field field41_3 (by decide) rfl) ?_
   refine RQ (ok_indexN (i) Tryd.underlying39 size38 rfl rfl (rfl) (hi)) ?_
   refine RQ (ok_loadP (s := 1000003) (by decide) Tryd.underlying38 rfl size38 rfl rfl (by rw [hx.len]; omega) (hx.ent_at hi)) ?_
   refine RQ (ok_lit [] (EntT.v EntT.zero) (fun _ _ => rfl) (by kernel_rfl)) ?_
   refine RQ (ok_neqT (n := 4) (decide (x.e i).Z) flat38 (by decide) (by kernel_rfl) (by kernel_rfl) rfl rfl (hx.e i).kin EntT.zero_fit.kin (EntT.dz _)) ?_
   refine RP rfl rfl ?_
   refine RN ?_
   refine A.cond rfl (fun hc52 => ?_) (fun hc52 => ?_)
   ·have he : ¬ (x.e i).Z := by simpa using hc52
    refine GS ?_
    refine TL ?_
    refine RA rfl ?_
    refine RN ?_
    refine A.ret ?_
    refine End.ret_block ?_
    refine End.ret_then ?_
    refine End.ret_then ?_
    refine End.ret_block ?_
    refine End.ret_then ?_
    first | exact End.ret1 rfl rfl (Le.v (congrArg (Value.int .i64) (ft_part h1 h2 hk hp fun h => hr (h i hG.1 hi).1).symm)) | exact End.ret1 rfl rfl (Le.v (congrArg (Value.int .i64) (ft_part h1 h2 hk hp fun h => he (h i hG.1 hi).2).symm)) | exact End.ret1 rfl rfl (Le.v (congrArg (Value.int .i64) (ft_ok h1 h2 hk hp fun j hj hj' => hG.2.2 j hj (by omega)).symm))
   ·have he : (x.e i).Z := by simpa using hc52
    refine A.skip ?_
    refine End.normal_block ?_
    refine EN ?_
    refine GE ?_
    refine TL ?_
    refine RM rfl ?_
    refine RBS rfl rfl rfl (nI (i + 1)) (wrap_eq (by omega) (by omega)) ?_
    refine RA rfl ?_
    refine RN ?_
    refine End.normal_then ?_
    refine End.again (i + 1) ?_ ?_ ?_
    ·exact ⟨by omega, by omega, fun j hj hj' => (Nat.lt_or_ge j i).elim (hG.2.2 j hj) fun h => by rw [show j = i from by omega]; exact ⟨hr, he⟩⟩
    ·show _ - _ < _ - _; omega
    ·exact (KC 3 rfl (KC 6 rfl (KC 1000003 rfl KN)))
  ·refine GS ?_
   refine TL ?_
   refine RM rfl ?_
   refine RS (ok_field field41_2 (by decide) rfl) ?_
   refine RS (ok_indexN (i) Tryd.underlying36 size35 rfl rfl (rfl) (hi)) ?_
   refine RS (ok_loadP (s := 1000003) (by decide) Tryd.underlying35 rfl size35 rfl rfl (by rw [hx.len]; omega) (hx.rec_at hi)) ?_
   refine RS (ok_lit [] (RecT.v RecT.zero) (fun _ _ => rfl) (by kernel_rfl)) ?_
   refine RS (ok_neqT (n := 4) (decide (x.r i).Z) flat35 (by decide) (by kernel_rfl) (by kernel_rfl) rfl rfl (hx.r i).kin RecT.zero_fit.kin (RecT.dz _)) ?_; refine RZ (.bool true) (by rw [decide_eq_false hr]; rfl) ?_
   refine RM rfl ?_
   refine RK ?_
   refine RK ?_
   refine RK ?_
   refine RK ?_
   refine RK ?_
   refine RK ?_
   refine RP rfl rfl ?_
   refine RN ?_
   refine A.yes rfl ?_
   refine GS ?_
   refine TL ?_
   refine RA rfl ?_
   refine RN ?_
   refine A.ret ?_
   refine End.ret_block ?_
   refine End.ret_then ?_
   refine End.ret_then ?_
   refine End.ret_block ?_
   refine End.ret_then ?_
   first | exact End.ret1 rfl rfl (Le.v (congrArg (Value.int .i64) (ft_part h1 h2 hk hp fun h => hr (h i hG.1 hi).1).symm)) | exact End.ret1 rfl rfl (Le.v (congrArg (Value.int .i64) (ft_part h1 h2 hk hp fun h => he (h i hG.1 hi).2).symm)) | exact End.ret1 rfl rfl (Le.v (congrArg (Value.int .i64) (ft_ok h1 h2 hk hp fun j hj hj' => hG.2.2 j hj (by omega)).symm))
 ·have hi2 : i = 4 := by have := hG.2.1; simp at hc36; omega
  refine A.exit ?_
  refine End.exit_then ?_
  refine End.exit_then ?_
  refine End.exit_here ?_
  refine EN ?_
  refine GS ?_
  refine TL ?_
  refine RA rfl ?_
  refine RN ?_
  refine A.ret ?_
  first | exact End.ret1 rfl rfl (Le.v (congrArg (Value.int .i64) (ft_part h1 h2 hk hp fun h => hr (h i hG.1 hi).1).symm)) | exact End.ret1 rfl rfl (Le.v (congrArg (Value.int .i64) (ft_part h1 h2 hk hp fun h => he (h i hG.1 hi).2).symm)) | exact End.ret1 rfl rfl (Le.v (congrArg (Value.int .i64) (ft_ok h1 h2 hk hp fun j hj hj' => hG.2.2 j hj (by omega)).symm))
theorem rFits_fn (n : Int) (x : NodT) (hx : x.Fit) : Fn Tryd.prog 20 [.v (.int .i64 (n)), .v (aggV x.v)] (.v (.int .i64 (ftN n x))) := by
 by_cases hn : 1 ≤ n ∧ n ≤ 4096
 ·obtain ⟨m, rfl⟩ : ∃ m : Nat, n = (m : Int) := ⟨n.toNat, by omega⟩
  have h1 : 1 ≤ m := by omega
  have h2 : m ≤ 4096 := by omega
  by_cases hk : x.ck = 0
  ·by_cases hp : IsP m x.l.toNat x.j
   ·obtain ⟨hl, hj⟩ := isP_nat.1 hp
    exact rFits_p m h1 h2 x hx hk hl hj hp
   ·rw [ft_no h1 h2 hk hp]; exact rFits_no m h1 h2 x hx hk hp
  ·rw [ft_ck h1 h2 hk]; exact rFits_ck m h1 h2 x hx hk
 ·rw [ft_bad hn]
  by_cases h : n < 1
  ·exact rFits_lo n h x hx
  ·exact rFits_hi n (by omega) x hx
/-! What the laws make of their numbers. -/
def digS (s : UInt8) : List UInt8 := (List.range 32).map fun i => UInt8.ofNat (s.toNat + 7 * i)
theorem digS_len (s : UInt8) : (digS s).length = 32 := by simp [digS]
theorem digS_get {s : UInt8} {i : Nat} (h : i < 32) : (digS s)[i]? = some (UInt8.ofNat (s.toNat + 7 * i)) := by simp [digS, h]
def recOf (a b : UInt8) : RecT := if a.toNat % 3 = 0 then RecT.zero else ⟨UInt8.ofNat (a.toNat % 3), b.toNat % 8, b.toNat * 257, digS b⟩
def entOf (a b : UInt8) : EntT := if a.toNat % 3 = 0 then EntT.zero else ⟨UInt8.ofNat (a.toNat % 3), digS b⟩
theorem mod3 {a : UInt8} (h : ¬ a.toNat % 3 = 0) : (UInt8.ofNat (a.toNat % 3)).toNat = a.toNat % 3 := by rw [UInt8.toNat_ofNat', Nat.mod_eq_of_lt (by omega)]
theorem recOf_fit (a b : UInt8) : (recOf a b).Fit := by
 unfold recOf
 have := b.toNat_lt
 split
 ·exact RecT.zero_fit
 ·exact ⟨digS_len b, by show b.toNat % 8 < _; omega, by show b.toNat * 257 < _; omega⟩
theorem entOf_fit (a b : UInt8) : (entOf a b).Fit := by
 unfold entOf
 split
 ·exact EntT.zero_fit
 ·exact ⟨digS_len b⟩
theorem recOf_ok (a b : UInt8) : ¬ (recOf a b).Bad := by
 unfold recOf
 split
 ·exact RecT.zero_ok
 ·rename_i h
  unfold RecT.Bad BadR
  simp only [mod3 h]
  omega
theorem entOf_ok (a b : UInt8) : ¬ (entOf a b).Bad := by
 unfold entOf
 split
 ·exact EntT.zero_ok
 ·rename_i h
  unfold EntT.Bad BadE
  simp only [mod3 h]
  omega
theorem lDigest_fn (s : UInt8) : Fn Tryd.prog 64 [.v (byteV s)] (.v (aggV ((digS s).map byteV))) := by
 refine Fn.of Tryd.func64 rfl (by kernel_rfl) Tryd.ntmps64 (by simp) (fun w => [(0, .v (byteV s))]) (fun w => (Start.v rfl Start.nil)) fun w₀ => ?_
 refine GS ?_
 refine TN 0 ?_
 refine RN ?_
 refine ⟨_, _, eff_alloc (n := 17) (d := 2) (k := 1000002) zero33 (by decide), fun b2 hb2 => ?_⟩
 have hBb2 := hb2.1
 refine TL ?_
 refine RN ?_
 refine GS ?_
 refine TN 0 ?_
 refine RN ?_
 refine ⟨_, _, eff_alloc (n := 17) (d := 3) (k := 1000003) zero33 (by decide), fun b3 hb3 => ?_⟩
 have hBb3 := hb3.1
 have hlt_b2_b3 : b2 < b3 := hb3.2 1000002 _ _ _ rfl
 refine TL ?_
 refine RN ?_
 refine A.seq ?_
 refine GS ?_
 refine TL ?_
 refine RA rfl ?_
 refine RN ?_
 refine A.block ?_
 refine A.loop (ι := Nat) (fun i => i ≤ 32) (fun i => [(0, .v (byteV s)), (2, .v (ptr b2)), (3, .v (ptr b3)), (4, .v (nI (i))), (1000002, blk b2 33 (List.replicate 32 (.int .u8 0))), (1000003, blk b3 33 (((digS s).take i).map byteV ++ List.replicate ((digS s).length - i) (.int .u8 0)))]) (fun i => 32 - i) 0 ?_ ?_ ?_
 ·exact Nat.zero_le _
 ·exact (KC 0 rfl (KC 2 rfl (KC 3 rfl (KE 4 rfl (by rfl) (KC 1000002 rfl (KE 1000003 rfl (by rw [digS_len]; rfl) KN))))))
 intro i hG
 refine A.seq ?_
 refine GS ?_
 refine TL ?_
 refine RM rfl ?_
 refine RB rfl rfl rfl ?_
 refine RN ?_
 refine A.cond rfl (fun hc6 => ?_) (fun hc6 => ?_)
 ·have hi : i < 32 := by simp at hc6; omega
  refine A.skip ?_
  refine EN ?_
  refine A.seq ?_
  refine A.block ?_
  refine GE ?_
  refine TF 7 ?_
  refine RM rfl ?_
  refine RM rfl ?_
  refine RM rfl ?_
  refine RBS rfl rfl rfl (nI (7 * i)) (wrap_eq (by omega) (by omega)) ?_
  refine RS (ok_conv Tryd.underlying3 Tryd.underlying5 rfl) ?_; refine RZ (byteV (UInt8.ofNat (7 * i))) (by rw [wrap_u8_nat]; rfl) ?_
  refine RBS rfl rfl rfl (byteV (UInt8.ofNat (s.toNat + 7 * i))) (add_u8 s (7 * i)) ?_
  refine RS (ok_index0 (i) Tryd.underlying33 info5 rfl rfl (rfl) (hi)) ?_
  refine RN ?_
  refine ⟨_, eff_storeS (n := 17) (s := 1000003) info5 rfl rfl rfl hBb3 rfl (by simp [digS_len]; omega) (LV 0 rfl (LV 2 rfl (LV 3 rfl (LV 4 rfl (LB 1000002 rfl LN))))), ?_⟩
  refine TL ?_
  refine RN ?_
  refine End.normal_block ?_
  refine EN ?_
  refine GE ?_
  refine TL ?_
  refine RM rfl ?_
  refine RBS rfl rfl rfl (nI (i + 1)) (wrap_eq (by omega) (by omega)) ?_
  refine RA rfl ?_
  refine RN ?_
  refine End.normal_then ?_
  refine End.again (i + 1) ?_ ?_ ?_
  ·show _ ≤ _; omega
  ·show _ - _ < _ - _; omega
  ·exact (KC 0 rfl (KC 2 rfl (KC 3 rfl (KC 4 rfl (KC 1000002 rfl (KE 1000003 rfl (congrArg _ (fill_step (digS_get hi))) KN))))))
 ·have hi2 : i = 32 := by simp at hc6; omega
  refine A.exit ?_
  refine End.exit_then ?_
  refine End.exit_then ?_
  refine End.exit_here ?_
  refine EN ?_
  refine GS ?_
  refine TF 1 ?_
  refine RS (ok_loadA (s := 1000003) (by decide) Tryd.underlying33 rfl (size33.of (by rw [List.length_append, List.length_map, List.length_take, List.length_replicate, digS_len]; omega)) rfl rfl) ?_; refine RZ (aggV ((digS s).map byteV)) (by subst hi2; rw [digS_len, Nat.sub_self, List.replicate_zero, List.append_nil, List.take_of_length_le (by rw [digS_len]; exact Nat.le_refl _)]) ?_
  refine RN ?_
  refine ⟨_, eff_storeA (n := 17) (s := 1000002) (size33.of (by rw [List.length_map, digS_len])) rfl rfl (all_bytes _) hBb2 rfl (by rw [List.length_map, digS_len]; rfl) (LV 2 rfl (LB 1000003 rfl LN)), ?_⟩
  refine TL ?_
  refine RN ?_
  refine A.ret ?_
  exact End.cell1 (s := 1000002) rfl Tryd.underlying33 rfl (size33.of (by rw [List.length_map, digS_len])) rfl rfl (Le.refl _)
theorem lRecord_z (a b : UInt8) (h : a.toNat % 3 = 0) : Fn Tryd.prog 26 [.v (byteV a), .v (byteV b)] (.v (aggV RecT.zero.v)) := by
 refine Fn.of Tryd.func26 rfl (by kernel_rfl) Tryd.ntmps26 (by simp) (fun w => [(0, .v (byteV a)), (1, .v (byteV b))]) (fun w => (Start.v rfl (Start.v rfl Start.nil))) fun w₀ => ?_
 refine GS ?_
 refine TN 0 ?_
 refine RN ?_
 refine ⟨_, _, eff_alloc (n := 21) (d := 4) (k := 1000004) zero35 (by decide), fun b4 hb4 => ?_⟩
 have hBb4 := hb4.1
 refine TL ?_
 refine RN ?_
 refine A.seq ?_
 refine GS ?_
 refine TL ?_
 refine RM rfl ?_
 refine RS (ok_rem rfl rfl (by decide)) ?_; refine RZ (nB (a.toNat % 3)) (by rw [tmod_lit _ (by decide)]; rfl) ?_
 refine RBS rfl rfl rfl (.bool true) (by simp [h]) ?_
 refine RN ?_
 refine A.yes rfl ?_
 refine GS ?_
 refine TF 1 ?_
 refine RS (ok_lit [] (RecT.v RecT.zero) (fun _ _ => rfl) (by kernel_rfl)) ?_
 refine RN ?_
 refine ⟨_, eff_storeA (n := 21) (s := 1000004) (size35.of (rfl)) rfl rfl (by first | exact NodT.one _ | exact RecT.one _ | exact EntT.one _ | exact RecT.all1 _ | exact EntT.all1 _ | exact all_byte _ | exact all_bytes _) hBb4 rfl (by first | rfl | (rw [rfl]; rfl)) (LV 4 rfl LN), ?_⟩
 refine TL ?_
 refine RN ?_
 refine A.ret ?_
 refine End.ret_then ?_
 exact End.cell1 (s := 1000004) rfl Tryd.underlying35 rfl (size35.of (rfl)) rfl rfl (Le.refl _)
theorem buildRec {x : Nat} {a : UInt8} (s c : Nat) (t : List UInt8) (hx : a.toNat = x) (ht : t.length = 32) : Tryd.prog.built 35 [(0, .int .u8 (x : Int)), (1, aggV [.int .u32 (s : Int), .int .u64 (c : Int)]), (2, aggV (t.map byteV))] = some (RecT.v ⟨a, s, c, t⟩).toArray := by
 subst hx
 match t, ht with
 | [a0, a1, a2, a3, a4, a5, a6, a7, a8, a9, b0, b1, b2, b3, b4, b5, b6, b7, b8, b9, c0, c1, c2, c3, c4, c5, c6, c7, c8, c9, d0, d1], _ => show _ = _; kernel_rfl
theorem lRecord_n (a b : UInt8) (h : ¬ a.toNat % 3 = 0) : Fn Tryd.prog 26 [.v (byteV a), .v (byteV b)] (.v (aggV (RecT.v ⟨UInt8.ofNat (a.toNat % 3), b.toNat % 8, b.toNat * 257, digS b⟩))) := by
 refine Fn.of Tryd.func26 rfl (by kernel_rfl) Tryd.ntmps26 (by simp) (fun w => [(0, .v (byteV a)), (1, .v (byteV b))]) (fun w => (Start.v rfl (Start.v rfl Start.nil))) fun w₀ => ?_
 refine GS ?_
 refine TN 0 ?_
 refine RN ?_
 refine ⟨_, _, eff_alloc (n := 21) (d := 4) (k := 1000004) zero35 (by decide), fun b4 hb4 => ?_⟩
 have hBb4 := hb4.1
 refine TL ?_
 refine RN ?_
 refine A.seq ?_
 refine GS ?_
 refine TL ?_
 refine RM rfl ?_
 refine RS (ok_rem rfl rfl (by decide)) ?_; refine RZ (nB (a.toNat % 3)) (by rw [tmod_lit _ (by decide)]; rfl) ?_
 refine RBS rfl rfl rfl (.bool false) (by simp; omega) ?_
 refine RN ?_
 refine A.no rfl ?_
 refine A.skip ?_
 refine EN ?_
 refine GS ?_
 refine TF 12 ?_
 refine RM rfl ?_
 refine RS (ok_rem rfl rfl (by decide)) ?_; refine RZ (nB (a.toNat % 3)) (by rw [tmod_lit _ (by decide)]; rfl) ?_
 refine RM rfl ?_
 refine RS (ok_rem rfl rfl (by decide)) ?_; refine RZ (nB (b.toNat % 8)) (by rw [tmod_lit _ (by decide)]; rfl) ?_
 refine RS (ok_conv Tryd.underlying5 Tryd.underlying28 rfl) ?_; refine RZ (nW (b.toNat % 8)) (congrArg _ (wrap_u32 (by omega) (by omega))) ?_
 refine RM rfl ?_
 refine RS (ok_conv Tryd.underlying5 Tryd.underlying29 rfl) ?_; refine RZ (.int .u64 (b.toNat : Int)) (congrArg _ (wrap_u64 (by omega) (by have := b.toNat_lt; omega))) ?_
 refine RBS rfl rfl rfl (nQ (b.toNat * 257)) (by rw [show ((b.toNat : Int) * 257) = ((b.toNat * 257 : Nat) : Int) from by omega]; exact congrArg _ (wrap_u64 (by omega) (by have := b.toNat_lt; omega))) ?_
 refine RS (ok_litS [(0, nW (b.toNat % 8)), (1, nQ (b.toNat * 257))] [nW (b.toNat % 8), nQ (b.toNat * 257)] ⟨rfl, rfl, rfl, rfl, trivial⟩ (buildN _ _)) ?_
 refine RM rfl ?_
 refine RS (ok_call (lDigest_fn b) (A1 rfl)) ?_
 refine RS (ok_litS [(0, nB (a.toNat % 3)), (1, aggV [nW (b.toNat % 8), nQ (b.toNat * 257)]), (2, aggV ((digS b).map byteV))] (RecT.v ⟨UInt8.ofNat (a.toNat % 3), b.toNat % 8, b.toNat * 257, digS b⟩) ⟨rfl, rfl, rfl, rfl, rfl, rfl, trivial⟩ (buildRec _ _ _ (mod3 h) (digS_len b))) ?_
 refine RN ?_
 refine ⟨_, eff_storeA (n := 21) (s := 1000004) (size35.of (by have h9 := (recOf_fit a b).len; rw [show recOf a b = _ from if_neg h] at h9; exact h9)) rfl rfl (RecT.one _) hBb4 rfl (by have h9 := (recOf_fit a b).len; rw [show recOf a b = _ from if_neg h] at h9; rw [h9]; rfl) (LV 4 rfl LN), ?_⟩
 refine TL ?_
 refine RN ?_
 refine A.ret ?_
 exact End.cell1 (s := 1000004) rfl Tryd.underlying35 rfl (size35.of (by have h9 := (recOf_fit a b).len; rw [show recOf a b = _ from if_neg h] at h9; exact h9)) rfl rfl (Le.refl _)
theorem lRecord_fn (a b : UInt8) : Fn Tryd.prog 26 [.v (byteV a), .v (byteV b)] (.v (aggV (recOf a b).v)) := by
 by_cases h : a.toNat % 3 = 0
 ·rw [show recOf a b = RecT.zero from if_pos h]; exact lRecord_z a b h
 ·rw [show recOf a b = _ from if_neg h]; exact lRecord_n a b h
theorem lEntry_z (a b : UInt8) (h : a.toNat % 3 = 0) : Fn Tryd.prog 30 [.v (byteV a), .v (byteV b)] (.v (aggV EntT.zero.v)) := by
 refine Fn.of Tryd.func30 rfl (by kernel_rfl) Tryd.ntmps30 (by simp) (fun w => [(0, .v (byteV a)), (1, .v (byteV b))]) (fun w => (Start.v rfl (Start.v rfl Start.nil))) fun w₀ => ?_
 refine GS ?_
 refine TN 0 ?_
 refine RN ?_
 refine ⟨_, _, eff_alloc (n := 14) (d := 4) (k := 1000004) zero38 (by decide), fun b4 hb4 => ?_⟩
 have hBb4 := hb4.1
 refine TL ?_
 refine RN ?_
 refine A.seq ?_
 refine GS ?_
 refine TL ?_
 refine RM rfl ?_
 refine RS (ok_rem rfl rfl (by decide)) ?_; refine RZ (nB (a.toNat % 3)) (by rw [tmod_lit _ (by decide)]; rfl) ?_
 refine RBS rfl rfl rfl (.bool true) (by simp [h]) ?_
 refine RN ?_
 refine A.yes rfl ?_
 refine GS ?_
 refine TF 1 ?_
 refine RS (ok_lit [] (EntT.v EntT.zero) (fun _ _ => rfl) (by kernel_rfl)) ?_
 refine RN ?_
 refine ⟨_, eff_storeA (n := 14) (s := 1000004) (size38.of (rfl)) rfl rfl (by first | exact NodT.one _ | exact RecT.one _ | exact EntT.one _ | exact RecT.all1 _ | exact EntT.all1 _ | exact all_byte _ | exact all_bytes _) hBb4 rfl (by first | rfl | (rw [rfl]; rfl)) (LV 4 rfl LN), ?_⟩
 refine TL ?_
 refine RN ?_
 refine A.ret ?_
 refine End.ret_then ?_
 exact End.cell1 (s := 1000004) rfl Tryd.underlying38 rfl (size38.of (rfl)) rfl rfl (Le.refl _)
theorem buildEnt {x : Nat} {a : UInt8} (t : List UInt8) (hx : a.toNat = x) (ht : t.length = 32) : Tryd.prog.built 38 [(0, .int .u8 (x : Int)), (1, aggV (t.map byteV))] = some (EntT.v ⟨a, t⟩).toArray := by
 subst hx
 match t, ht with
 | [a0, a1, a2, a3, a4, a5, a6, a7, a8, a9, b0, b1, b2, b3, b4, b5, b6, b7, b8, b9, c0, c1, c2, c3, c4, c5, c6, c7, c8, c9, d0, d1], _ => show _ = _; kernel_rfl
theorem lEntry_n (a b : UInt8) (h : ¬ a.toNat % 3 = 0) : Fn Tryd.prog 30 [.v (byteV a), .v (byteV b)] (.v (aggV (EntT.v ⟨UInt8.ofNat (a.toNat % 3), digS b⟩))) := by
 refine Fn.of Tryd.func30 rfl (by kernel_rfl) Tryd.ntmps30 (by simp) (fun w => [(0, .v (byteV a)), (1, .v (byteV b))]) (fun w => (Start.v rfl (Start.v rfl Start.nil))) fun w₀ => ?_
 refine GS ?_
 refine TN 0 ?_
 refine RN ?_
 refine ⟨_, _, eff_alloc (n := 14) (d := 4) (k := 1000004) zero38 (by decide), fun b4 hb4 => ?_⟩
 have hBb4 := hb4.1
 refine TL ?_
 refine RN ?_
 refine A.seq ?_
 refine GS ?_
 refine TL ?_
 refine RM rfl ?_
 refine RS (ok_rem rfl rfl (by decide)) ?_; refine RZ (nB (a.toNat % 3)) (by rw [tmod_lit _ (by decide)]; rfl) ?_
 refine RBS rfl rfl rfl (.bool false) (by simp; omega) ?_
 refine RN ?_
 refine A.no rfl ?_
 refine A.skip ?_
 refine EN ?_
 refine GS ?_
 refine TF 5 ?_
 refine RM rfl ?_
 refine RS (ok_rem rfl rfl (by decide)) ?_; refine RZ (nB (a.toNat % 3)) (by rw [tmod_lit _ (by decide)]; rfl) ?_
 refine RM rfl ?_
 refine RS (ok_call (lDigest_fn b) (A1 rfl)) ?_
 refine RS (ok_litS [(0, nB (a.toNat % 3)), (1, aggV ((digS b).map byteV))] (EntT.v ⟨UInt8.ofNat (a.toNat % 3), digS b⟩) ⟨rfl, rfl, rfl, rfl, trivial⟩ (buildEnt _ (mod3 h) (digS_len b))) ?_
 refine RN ?_
 refine ⟨_, eff_storeA (n := 14) (s := 1000004) (size38.of (by have h9 := (entOf_fit a b).len; rw [show entOf a b = _ from if_neg h] at h9; exact h9)) rfl rfl (EntT.one _) hBb4 rfl (by have h9 := (entOf_fit a b).len; rw [show entOf a b = _ from if_neg h] at h9; rw [h9]; rfl) (LV 4 rfl LN), ?_⟩
 refine TL ?_
 refine RN ?_
 refine A.ret ?_
 exact End.cell1 (s := 1000004) rfl Tryd.underlying38 rfl (size38.of (by have h9 := (entOf_fit a b).len; rw [show entOf a b = _ from if_neg h] at h9; exact h9)) rfl rfl (Le.refl _)
theorem lEntry_fn (a b : UInt8) : Fn Tryd.prog 30 [.v (byteV a), .v (byteV b)] (.v (aggV (entOf a b).v)) := by
 by_cases h : a.toNat % 3 = 0
 ·rw [show entOf a b = EntT.zero from if_pos h]; exact lEntry_z a b h
 ·rw [show entOf a b = _ from if_neg h]; exact lEntry_n a b h
/-! The node that a law is about. -/
def n13V (k l j : Nat) (S D : List UInt8) : List Value := [.int .u16 ((k : Nat) : Int), nB l, .int .u16 ((j : Nat) : Int)] ++ (S.map byteV ++ D.map byteV)
theorem n13_len {k l j : Nat} {S D : List UInt8} (hS : S.length = 4) (hD : D.length = 4) : (n13V k l j S D).length = 11 := by simp [n13V, hS, hD]
theorem n13_S {k l j : Nat} {S D : List UInt8} (hS : S.length = 4) {i : Nat} (hi : i < 4) : (n13V k l j S D)[0 + 3 + i]? = some (byteV (S.getD i 0)) := by
 unfold n13V
 rw [Nat.zero_add, Nat.add_comm, List.getElem?_append_right (by simp), List.getElem?_append_left (by simp; omega)]
 simp [hS, hi]
theorem n13_D {k l j : Nat} {S D : List UInt8} (hS : S.length = 4) (hD : D.length = 4) {i : Nat} (hi : i < 4) : (n13V k l j S D)[0 + 7 + i]? = some (byteV (D.getD i 0)) := by
 unfold n13V
 rw [Nat.zero_add, Nat.add_comm, List.getElem?_append_right (by first | (simp; done) | (simp; omega)), List.getElem?_append_right (by first | (simp; done) | (simp; omega))]
 simp [hS, hD, hi, show i + 7 - 3 - 4 = i from by omega]
def stR (l j : Nat) (S D : List UInt8) (i : Nat) : NodT := ⟨UInt8.ofNat l, j, pg RecT.zero (fun k => recOf (S.getD k 0) (D.getD k 0)) i, zerosE⟩
def stE (l j : Nat) (S D : List UInt8) (i : Nat) : NodT := ⟨UInt8.ofNat l, j, zerosR, pg EntT.zero (fun k => entOf (S.getD k 0) (D.getD k 0)) i⟩
theorem stR_fit {l j : Nat} {S D : List UInt8} {i : Nat} (hj : j < 4294967296) : (stR l j S D i).Fit := ⟨hj, pg_length _ _ _, rfl, fun a (ha : a ∈ pg RecT.zero (fun k => recOf (S.getD k 0) (D.getD k 0)) i) => (pg_mem ha).elim (fun e => e ▸ RecT.zero_fit) fun ⟨k, _, _, e⟩ => e ▸ recOf_fit _ _, NodT.ze_fit⟩
theorem stE_fit {l j : Nat} {S D : List UInt8} {i : Nat} (hj : j < 4294967296) : (stE l j S D i).Fit := ⟨hj, rfl, pg_length _ _ _, NodT.zr_fit, fun a (ha : a ∈ pg EntT.zero (fun k => entOf (S.getD k 0) (D.getD k 0)) i) => (pg_mem ha).elim (fun e => e ▸ EntT.zero_fit) fun ⟨k, _, _, e⟩ => e ▸ entOf_fit _ _⟩
theorem stR_set {l j : Nat} {S D : List UInt8} {i : Nat} (hi : i < 4) (hj : j < 4294967296) : (stR l j S D i).v.take (2 + i * 35) ++ (recOf (S.getD i 0) (D.getD i 0)).v ++ (stR l j S D i).v.drop (2 + i * 35 + (recOf (S.getD i 0) (D.getD i 0)).v.length) = (stR l j S D (i + 1)).v := by
 rw [(stR_fit hj).set_rec hi (recOf_fit _ _)]
 unfold stR
 simp only
 rw [pg_set RecT.zero (fun k => recOf (S.getD k 0) (D.getD k 0)) hi]
theorem stE_set {l j : Nat} {S D : List UInt8} {i : Nat} (hi : i < 4) (hj : j < 4294967296) : (stE l j S D i).v.take (142 + i * 33) ++ (entOf (S.getD i 0) (D.getD i 0)).v ++ (stE l j S D i).v.drop (142 + i * 33 + (entOf (S.getD i 0) (D.getD i 0)).v.length) = (stE l j S D (i + 1)).v := by
 rw [(stE_fit hj).set_ent hi (entOf_fit _ _)]
 unfold stE
 simp only
 rw [pg_set EntT.zero (fun k => entOf (S.getD k 0) (D.getD k 0)) hi]
/-- The level and the index. -/
def lvN (k l : Nat) : Nat := l % (hg (nn k) + 1)
def ixN (k l j : Nat) : Nat := j % un (nn k) (lvN k l + 1)
theorem lvN_le (k l : Nat) : lvN k l ≤ hg (nn k) := by unfold lvN; have := Nat.mod_lt l (show 0 < hg (nn k) + 1 by omega); omega
theorem ixN_lt (k l j : Nat) : ixN k l j < un (nn k) (lvN k l + 1) := Nat.mod_lt _ (un_pos (nn1 k) _)
theorem ixN_small (k l j : Nat) : ixN k l j < 4294967296 := by have h1 := ixN_lt k l j; have h2 := un_le (nn1 k) (lvN k l + 1); have h3 := nn2 k; omega
def ofN (k l j : Nat) (S D : List UInt8) : NodT := if lvN k l = 0 then stR (lvN k l) (ixN k l j) S D (pts (nn k) (lvN k l) (ixN k l j)) else stE (lvN k l) (ixN k l j) S D (pts (nn k) (lvN k l) (ixN k l j))
theorem ofN_fit (k l j : Nat) (S D : List UInt8) : (ofN k l j S D).Fit := by unfold ofN; split; exact stR_fit (ixN_small k l j); exact stE_fit (ixN_small k l j)
theorem lv8 (k l : Nat) : (UInt8.ofNat (lvN k l)).toNat = lvN k l := by rw [UInt8.toNat_ofNat', Nat.mod_eq_of_lt (by have h1 := lvN_le k l; have h2 := hg_le (nn k); omega)]
theorem ofN_l (k l j : Nat) (S D : List UInt8) : (ofN k l j S D).l.toNat = lvN k l := by unfold ofN; split <;> exact lv8 k l
theorem ofN_j (k l j : Nat) (S D : List UInt8) : (ofN k l j S D).j = ixN k l j := by unfold ofN; split <;> rfl
theorem stR_e {l j : Nat} {S D : List UInt8} {i m : Nat} : ((stR l j S D i).e m).Z := by unfold NodT.e stR; simp only; rw [ze_get]; exact EntT.z_iff.2 rfl
theorem stE_r {l j : Nat} {S D : List UInt8} {i m : Nat} : ((stE l j S D i).r m).Z := by unfold NodT.r stE; simp only; rw [zr_get]; exact RecT.z_iff.2 rfl
theorem stR_r {l j : Nat} {S D : List UInt8} {i m : Nat} (hm : m < 4) : (stR l j S D i).r m = if m < i then recOf (S.getD m 0) (D.getD m 0) else RecT.zero := pg_getD RecT.zero (fun k => recOf (S.getD k 0) (D.getD k 0)) i hm RecT.zero
theorem stE_e {l j : Nat} {S D : List UInt8} {i m : Nat} (hm : m < 4) : (stE l j S D i).e m = if m < i then entOf (S.getD m 0) (D.getD m 0) else EntT.zero := pg_getD EntT.zero (fun k => entOf (S.getD k 0) (D.getD k 0)) i hm EntT.zero
theorem ofN_ck (k l j : Nat) (S D : List UInt8) : (ofN k l j S D).ck = 0 := by
 have hl := ofN_l k l j S D
 have h5 := Nat.le_trans (lvN_le k l) (hg_le (nn k))
 unfold ofN at *
 by_cases h0 : lvN k l = 0
 ·rw [if_pos h0] at *
  refine NodT.ok_R (by omega) (fun i _ => stR_e) fun i hi => ?_
  rw [stR_r hi]; split; exact recOf_ok _ _; exact RecT.zero_ok
 ·rw [if_neg h0] at *
  refine NodT.ok_E (by omega) (by omega) (fun i _ => stE_r) fun i hi => ?_
  rw [stE_e hi]; split; exact entOf_ok _ _; exact EntT.zero_ok
theorem ofN_is (k l j : Nat) (S D : List UInt8) : IsP (nn k) (ofN k l j S D).l.toNat (ofN k l j S D).j := by rw [ofN_l, ofN_j]; exact isP_nat.2 ⟨lvN_le k l, ixN_lt k l j⟩
theorem ofN_ft (k l j : Nat) (S D : List UInt8) : ftN (nn k) (ofN k l j S D) = 0 := by
 refine ft_ok (nn1 k) (nn2 k) (ofN_ck k l j S D) (ofN_is k l j S D) fun i hp hi => ?_
 rw [ofN_l, ofN_j] at hp
 unfold ofN
 split
 ·refine ⟨?_, stR_e⟩
  rw [stR_r hi, if_neg (by omega)]; exact RecT.z_iff.2 rfl
 ·refine ⟨stE_r, ?_⟩
  rw [stE_e hi, if_neg (by omega)]; exact EntT.z_iff.2 rfl
set_option maxHeartbeats 2000000 in
theorem Of13_R (k l j : Nat) (S D : List UInt8) (hk : k < 65536) (hl : l < 256) (hj : j < 65536) (hS : S.length = 4) (hD : D.length = 4) (h0 : lvN k l = 0) : Fn Tryd.prog 9 [.v (aggV (n13V k l j S D))] (.v (.tuple #[nI (nn k), aggV (stR (lvN k l) (ixN k l j) S D (pts (nn k) (lvN k l) (ixN k l j))).v])) := by
 have h1 := nn1 k
 have h2 := nn2 k
 have hlv := lvN_le k l
 have hh := hg_le (nn k)
 have hix := ixN_lt k l j
 have hp := pts_pos hix
 have hjs := ixN_small k l j
 refine Fn.of Tryd.func9 rfl (by kernel_rfl) Tryd.ntmps9 (by simp) (fun w => [(0, .v (aggV (n13V k l j S D)))]) (fun w => (Start.v rfl Start.nil)) fun w₀ => ?_
 refine GS ?_
 refine TN 0 ?_
 refine RN ?_
 refine ⟨_, _, eff_box (n := 67) (d := 1) (k := 1000001) rfl (by decide), fun b1 hb1 => ?_⟩
 have hBb1 := hb1.1
 refine TN 2 ?_
 refine RA rfl ?_
 refine RN ?_
 refine ⟨_, _, eff_alloc (n := 67) (d := 3) (k := 1000003) zero41 (by decide), fun b3 hb3 => ?_⟩
 have hBb3 := hb3.1
 refine TL ?_
 refine RN ?_
 refine GS ?_
 refine TL ?_
 refine RS (ok_field field27_0 (by decide) rfl) ?_
 refine RS (ok_loadP (s := 1000001) (by decide) Tryd.underlying24 rfl size24 rfl rfl (by rw [n13_len hS hD]; decide) (show _ = [Value.int .u16 ((k : Nat) : Int)] from rfl)) ?_
 refine RS (ok_call (NOf_fn k hk) (A1 rfl)) ?_
 refine RA rfl ?_
 refine RN ?_
 refine GD ?_
 refine TL ?_
 refine RS (ok_field field27_1 (by decide) rfl) ?_
 refine RS (ok_loadV (s := 1000001) (by decide) Tryd.underlying5 rfl rfl rfl (rfl)) ?_
 refine RS (ok_conv Tryd.underlying5 Tryd.underlying3 rfl) ?_; refine RZ (nI (l)) (wrap_eq rfl (by omega)) ?_
 refine RM rfl ?_
 refine RS (ok_call (rHeight_fn (nn k) h1 h2) (A1 rfl)) ?_
 refine RBS rfl rfl rfl (nI (hg (nn k) + 1)) (wrap_eq (by omega) (by omega)) ?_
 refine RS (ok_rem rfl rfl (by omega)) ?_; refine RZ (nI (lvN k l)) (by rw [tmod_nat]; rfl) ?_
 refine RA rfl ?_
 refine RN ?_
 refine GD ?_
 refine TL ?_
 refine RS (ok_field field27_2 (by decide) rfl) ?_
 refine RS (ok_loadV (s := 1000001) (by decide) Tryd.underlying22 rfl rfl rfl (rfl)) ?_
 refine RS (ok_conv Tryd.underlying22 Tryd.underlying3 rfl) ?_; refine RZ (nI (j)) (wrap_eq rfl (by omega)) ?_
 refine RM rfl ?_
 refine RM rfl ?_
 refine RS (ok_call (rCount_fn (nn k) h1 h2 (lvN k l) hlv) (A2 rfl rfl)) ?_
 refine RS (ok_rem rfl rfl (by have := un_pos h1 (lvN k l + 1); omega)) ?_; refine RZ (nI (ixN k l j)) (by rw [tmod_nat]; rfl) ?_
 refine RA rfl ?_
 refine RN ?_
 refine GS ?_
 refine TN 5 ?_
 refine RM rfl ?_
 refine RS (ok_conv Tryd.underlying3 Tryd.underlying5 rfl) ?_; refine RZ (byteV (UInt8.ofNat (lvN k l))) (by rw [wrap_u8_nat]; rfl) ?_
 refine RM rfl ?_
 refine RS (ok_conv Tryd.underlying3 Tryd.underlying28 rfl) ?_; refine RZ (nW (ixN k l j)) (congrArg _ (wrap_u32 (by omega) (by omega))) ?_
 refine RS (ok_litS [(0, byteV (UInt8.ofNat (lvN k l))), (1, nW (ixN k l j))] (NodT.emp (UInt8.ofNat (lvN k l)) (ixN k l j)).v ⟨rfl, rfl, rfl, rfl, trivial⟩ (buildX _ _)) ?_
 refine RN ?_
 refine ⟨_, _, eff_alloc (n := 67) (d := 7) (k := 1000007) zero41 (by decide), fun b7 hb7 => ?_⟩
 have hBb7 := hb7.1
 have hlt_b3_b7 : b3 < b7 := hb7.2 1000003 _ _ _ rfl
 refine TF 6 ?_
 refine RN ?_
 refine ⟨_, eff_storeA (n := 67) (s := 1000007) (size41.of ((NodT.emp_fit _ hjs).len)) rfl rfl (by first | exact NodT.one _ | exact RecT.one _ | exact EntT.one _ | exact RecT.all1 _ | exact EntT.all1 _ | exact all_byte _ | exact all_bytes _) hBb7 rfl (by first | rfl | (rw [(NodT.emp_fit _ hjs).len]; rfl)) (LV 1 rfl (LV 3 rfl (LV 4 rfl (LV 5 rfl (LV 6 rfl (LV 7 rfl (LT 1000001 rfl (LB 1000003 rfl LN)))))))), ?_⟩
 refine TL ?_
 refine RN ?_
 refine A.sub (KC 1 rfl (KC 3 rfl (KC 4 rfl (KC 5 rfl (KC 6 rfl (KC 7 rfl (KC 1000001 rfl (KC 1000003 rfl (KC 1000007 rfl KN))))))))) ?_
 refine A.seq ?_
 refine GS ?_
 refine TL ?_
 refine RA rfl ?_
 refine RN ?_
 refine A.block ?_
 refine A.loop (ι := Nat) (fun i => i ≤ (pts (nn k) (lvN k l) (ixN k l j))) (fun i => [(1, .v (ptr b1)), (3, .v (ptr b3)), (4, .v (nI (nn k))), (5, .v (nI (lvN k l))), (6, .v (nI (ixN k l j))), (7, .v (ptr b7)), (8, .v (nI (i))), (1000001, blk b1 27 (n13V k l j S D)), (1000003, blk b3 41 (NodT.emp 0 0).v), (1000007, blk b7 41 (stR (lvN k l) (ixN k l j) S D i).v)]) (fun i => (pts (nn k) (lvN k l) (ixN k l j)) - i) 0 ?_ ?_ ?_
 ·exact Nat.zero_le _
 ·exact (KC 1 rfl (KC 3 rfl (KC 4 rfl (KC 5 rfl (KC 6 rfl (KC 7 rfl (KE 8 rfl (by rfl) (KC 1000001 rfl (KC 1000003 rfl (KE 1000007 rfl (by unfold stR; rw [pg_zero]; rfl) KN))))))))))
 intro i hG
 refine A.seq ?_
 refine GS ?_
 refine TL ?_
 refine RM rfl ?_
 refine RM rfl ?_
 refine RM rfl ?_
 refine RM rfl ?_
 refine RS (ok_call (rParts_fn (nn k) h1 h2 (lvN k l) (ixN k l j) hlv hix) (A3 rfl rfl rfl)) ?_
 refine RB rfl rfl rfl ?_
 refine RN ?_
 refine A.cond rfl (fun hc36 => ?_) (fun hc36 => ?_)
 ·have hi : i < (pts (nn k) (lvN k l) (ixN k l j)) := by simp at hc36; omega
  have hi4 : i < 4 := by omega
  refine A.skip ?_
  refine EN ?_
  refine A.seq ?_
  refine A.block ?_
  refine GS ?_
  refine TL ?_
  refine RM rfl ?_
  refine RBS rfl rfl rfl (.bool true) (by simp [h0]) ?_
  refine RN ?_
  refine A.yes rfl ?_
  refine A.reg (by kernel_rfl) (by kernel_rfl) (.inr (by kernel_rfl)) ?_
  refine TD 12 ?_
  refine RM rfl ?_
  refine RM rfl ?_
  refine RS (ok_field field27_3 (by decide) rfl) ?_
  refine RS (ok_indexA (i) Tryd.underlying25 info5 rfl rfl (rfl) (hi4)) ?_
  refine RS (ok_loadV (s := 1000001) (by decide) Tryd.underlying5 rfl rfl rfl (n13_S hS hi4)) ?_
  refine RM rfl ?_
  refine RS (ok_field field27_4 (by decide) rfl) ?_
  refine RS (ok_indexA (i) Tryd.underlying25 info5 rfl rfl (rfl) (hi4)) ?_
  refine RS (ok_loadV (s := 1000001) (by decide) Tryd.underlying5 rfl rfl rfl (n13_D hS hD hi4)) ?_
  refine RS (ok_call (lRecord_fn (S.getD i 0) (D.getD i 0)) (A2 rfl rfl)) ?_
  refine RS (ok_field field41_2 (by decide) rfl) ?_
  refine RS (ok_indexN (i) Tryd.underlying36 size35 rfl rfl (rfl) (hi4)) ?_
  refine RN ?_
  refine ⟨_, eff_storeP (n := 67) (s := 1000007) (size35.of ((recOf_fit _ _).len)) rfl rfl (RecT.one _) hBb7 rfl (by rw [(stR_fit hjs).len, (recOf_fit _ _).len]; omega) (LV 1 rfl (LV 3 rfl (LV 4 rfl (LV 5 rfl (LV 6 rfl (LV 7 rfl (LV 8 rfl (LT 1000001 rfl (LB 1000003 rfl LN))))))))), ?_⟩
  refine TL ?_
  refine RN ?_
  refine End.sub (KC 1 rfl (KC 3 rfl (KC 4 rfl (KC 5 rfl (KC 6 rfl (KC 7 rfl (KC 8 rfl (KC 1000001 rfl (KC 1000003 rfl (KE 1000007 rfl (show _ = blk b7 41 (stR (lvN k l) (ixN k l j) S D (i + 1)).v from congrArg _ (stR_set hi4 hjs)) KN)))))))))) ?_
  refine End.normal_block ?_
  refine EN ?_
  refine GE ?_
  refine TL ?_
  refine RM rfl ?_
  refine RBS rfl rfl rfl (nI (i + 1)) (wrap_eq (by omega) (by omega)) ?_
  refine RA rfl ?_
  refine RN ?_
  refine End.normal_then ?_
  refine End.again (i + 1) ?_ ?_ ?_
  ·show _ ≤ _; omega
  ·show _ - _ < _ - _; omega
  ·exact (KC 1 rfl (KC 3 rfl (KC 4 rfl (KC 5 rfl (KC 6 rfl (KC 7 rfl (KC 8 rfl (KC 1000001 rfl (KC 1000003 rfl (KC 1000007 rfl KN))))))))))
 ·have hi2 : i = (pts (nn k) (lvN k l) (ixN k l j)) := by simp at hc36; omega
  refine A.exit ?_
  refine End.exit_then ?_
  refine End.exit_then ?_
  refine End.exit_here ?_
  refine EN ?_
  refine GD ?_
  refine TD 3 ?_
  refine RM rfl ?_
  refine RS (ok_loadA (s := 1000007) (by decide) Tryd.underlying41 rfl (size41.of ((stR_fit hjs).len)) rfl rfl) ?_
  refine RA rfl ?_
  refine RN ?_
  refine ⟨_, eff_storeA (n := 67) (s := 1000003) (size41.of ((stR_fit hjs).len)) rfl rfl (by first | exact NodT.one _ | exact RecT.one _ | exact EntT.one _ | exact RecT.all1 _ | exact EntT.all1 _ | exact all_byte _ | exact all_bytes _) hBb3 rfl (by first | rfl | (rw [(stR_fit hjs).len]; rfl)) (LV 2 rfl (LV 3 rfl (LT 1000001 rfl (LB 1000007 rfl LN)))), ?_⟩
  refine TL ?_
  refine RN ?_
  refine A.ret ?_
  subst hi2
  exact End.TcellX (s := 1000003) rfl rfl Tryd.underlying41 rfl (size41.of ((stR_fit hjs).len)) rfl rfl
set_option maxHeartbeats 2000000 in
theorem Of13_E (k l j : Nat) (S D : List UInt8) (hk : k < 65536) (hl : l < 256) (hj : j < 65536) (hS : S.length = 4) (hD : D.length = 4) (h0 : ¬ lvN k l = 0) : Fn Tryd.prog 9 [.v (aggV (n13V k l j S D))] (.v (.tuple #[nI (nn k), aggV (stE (lvN k l) (ixN k l j) S D (pts (nn k) (lvN k l) (ixN k l j))).v])) := by
 have h1 := nn1 k
 have h2 := nn2 k
 have hlv := lvN_le k l
 have hh := hg_le (nn k)
 have hix := ixN_lt k l j
 have hp := pts_pos hix
 have hjs := ixN_small k l j
 refine Fn.of Tryd.func9 rfl (by kernel_rfl) Tryd.ntmps9 (by simp) (fun w => [(0, .v (aggV (n13V k l j S D)))]) (fun w => (Start.v rfl Start.nil)) fun w₀ => ?_
 refine GS ?_
 refine TN 0 ?_
 refine RN ?_
 refine ⟨_, _, eff_box (n := 67) (d := 1) (k := 1000001) rfl (by decide), fun b1 hb1 => ?_⟩
 have hBb1 := hb1.1
 refine TN 2 ?_
 refine RA rfl ?_
 refine RN ?_
 refine ⟨_, _, eff_alloc (n := 67) (d := 3) (k := 1000003) zero41 (by decide), fun b3 hb3 => ?_⟩
 have hBb3 := hb3.1
 refine TL ?_
 refine RN ?_
 refine GS ?_
 refine TL ?_
 refine RS (ok_field field27_0 (by decide) rfl) ?_
 refine RS (ok_loadP (s := 1000001) (by decide) Tryd.underlying24 rfl size24 rfl rfl (by rw [n13_len hS hD]; decide) (show _ = [Value.int .u16 ((k : Nat) : Int)] from rfl)) ?_
 refine RS (ok_call (NOf_fn k hk) (A1 rfl)) ?_
 refine RA rfl ?_
 refine RN ?_
 refine GD ?_
 refine TL ?_
 refine RS (ok_field field27_1 (by decide) rfl) ?_
 refine RS (ok_loadV (s := 1000001) (by decide) Tryd.underlying5 rfl rfl rfl (rfl)) ?_
 refine RS (ok_conv Tryd.underlying5 Tryd.underlying3 rfl) ?_; refine RZ (nI (l)) (wrap_eq rfl (by omega)) ?_
 refine RM rfl ?_
 refine RS (ok_call (rHeight_fn (nn k) h1 h2) (A1 rfl)) ?_
 refine RBS rfl rfl rfl (nI (hg (nn k) + 1)) (wrap_eq (by omega) (by omega)) ?_
 refine RS (ok_rem rfl rfl (by omega)) ?_; refine RZ (nI (lvN k l)) (by rw [tmod_nat]; rfl) ?_
 refine RA rfl ?_
 refine RN ?_
 refine GD ?_
 refine TL ?_
 refine RS (ok_field field27_2 (by decide) rfl) ?_
 refine RS (ok_loadV (s := 1000001) (by decide) Tryd.underlying22 rfl rfl rfl (rfl)) ?_
 refine RS (ok_conv Tryd.underlying22 Tryd.underlying3 rfl) ?_; refine RZ (nI (j)) (wrap_eq rfl (by omega)) ?_
 refine RM rfl ?_
 refine RM rfl ?_
 refine RS (ok_call (rCount_fn (nn k) h1 h2 (lvN k l) hlv) (A2 rfl rfl)) ?_
 refine RS (ok_rem rfl rfl (by have := un_pos h1 (lvN k l + 1); omega)) ?_; refine RZ (nI (ixN k l j)) (by rw [tmod_nat]; rfl) ?_
 refine RA rfl ?_
 refine RN ?_
 refine GS ?_
 refine TN 5 ?_
 refine RM rfl ?_
 refine RS (ok_conv Tryd.underlying3 Tryd.underlying5 rfl) ?_; refine RZ (byteV (UInt8.ofNat (lvN k l))) (by rw [wrap_u8_nat]; rfl) ?_
 refine RM rfl ?_
 refine RS (ok_conv Tryd.underlying3 Tryd.underlying28 rfl) ?_; refine RZ (nW (ixN k l j)) (congrArg _ (wrap_u32 (by omega) (by omega))) ?_
 refine RS (ok_litS [(0, byteV (UInt8.ofNat (lvN k l))), (1, nW (ixN k l j))] (NodT.emp (UInt8.ofNat (lvN k l)) (ixN k l j)).v ⟨rfl, rfl, rfl, rfl, trivial⟩ (buildX _ _)) ?_
 refine RN ?_
 refine ⟨_, _, eff_alloc (n := 67) (d := 7) (k := 1000007) zero41 (by decide), fun b7 hb7 => ?_⟩
 have hBb7 := hb7.1
 have hlt_b3_b7 : b3 < b7 := hb7.2 1000003 _ _ _ rfl
 refine TF 6 ?_
 refine RN ?_
 refine ⟨_, eff_storeA (n := 67) (s := 1000007) (size41.of ((NodT.emp_fit _ hjs).len)) rfl rfl (by first | exact NodT.one _ | exact RecT.one _ | exact EntT.one _ | exact RecT.all1 _ | exact EntT.all1 _ | exact all_byte _ | exact all_bytes _) hBb7 rfl (by first | rfl | (rw [(NodT.emp_fit _ hjs).len]; rfl)) (LV 1 rfl (LV 3 rfl (LV 4 rfl (LV 5 rfl (LV 6 rfl (LV 7 rfl (LT 1000001 rfl (LB 1000003 rfl LN)))))))), ?_⟩
 refine TL ?_
 refine RN ?_
 refine A.sub (KC 1 rfl (KC 3 rfl (KC 4 rfl (KC 5 rfl (KC 6 rfl (KC 7 rfl (KC 1000001 rfl (KC 1000003 rfl (KC 1000007 rfl KN))))))))) ?_
 refine A.seq ?_
 refine GS ?_
 refine TL ?_
 refine RA rfl ?_
 refine RN ?_
 refine A.block ?_
 refine A.loop (ι := Nat) (fun i => i ≤ (pts (nn k) (lvN k l) (ixN k l j))) (fun i => [(1, .v (ptr b1)), (3, .v (ptr b3)), (4, .v (nI (nn k))), (5, .v (nI (lvN k l))), (6, .v (nI (ixN k l j))), (7, .v (ptr b7)), (8, .v (nI (i))), (1000001, blk b1 27 (n13V k l j S D)), (1000003, blk b3 41 (NodT.emp 0 0).v), (1000007, blk b7 41 (stE (lvN k l) (ixN k l j) S D i).v)]) (fun i => (pts (nn k) (lvN k l) (ixN k l j)) - i) 0 ?_ ?_ ?_
 ·exact Nat.zero_le _
 ·exact (KC 1 rfl (KC 3 rfl (KC 4 rfl (KC 5 rfl (KC 6 rfl (KC 7 rfl (KE 8 rfl (by rfl) (KC 1000001 rfl (KC 1000003 rfl (KE 1000007 rfl (by unfold stE; rw [pg_zero]; rfl) KN))))))))))
 intro i hG
 refine A.seq ?_
 refine GS ?_
 refine TL ?_
 refine RM rfl ?_
 refine RM rfl ?_
 refine RM rfl ?_
 refine RM rfl ?_
 refine RS (ok_call (rParts_fn (nn k) h1 h2 (lvN k l) (ixN k l j) hlv hix) (A3 rfl rfl rfl)) ?_
 refine RB rfl rfl rfl ?_
 refine RN ?_
 refine A.cond rfl (fun hc36 => ?_) (fun hc36 => ?_)
 ·have hi : i < (pts (nn k) (lvN k l) (ixN k l j)) := by simp at hc36; omega
  have hi4 : i < 4 := by omega
  refine A.skip ?_
  refine EN ?_
  refine A.seq ?_
  refine A.block ?_
  refine GS ?_
  refine TL ?_
  refine RM rfl ?_
  refine RBS rfl rfl rfl (.bool false) (by simp; omega) ?_
  refine RN ?_
  refine A.no rfl ?_
  refine A.reg (by kernel_rfl) (by kernel_rfl) (.inr (by kernel_rfl)) ?_
  refine TD 12 ?_
  refine RM rfl ?_
  refine RM rfl ?_
  refine RS (ok_field field27_3 (by decide) rfl) ?_
  refine RS (ok_indexA (i) Tryd.underlying25 info5 rfl rfl (rfl) (hi4)) ?_
  refine RS (ok_loadV (s := 1000001) (by decide) Tryd.underlying5 rfl rfl rfl (n13_S hS hi4)) ?_
  refine RM rfl ?_
  refine RS (ok_field field27_4 (by decide) rfl) ?_
  refine RS (ok_indexA (i) Tryd.underlying25 info5 rfl rfl (rfl) (hi4)) ?_
  refine RS (ok_loadV (s := 1000001) (by decide) Tryd.underlying5 rfl rfl rfl (n13_D hS hD hi4)) ?_
  refine RS (ok_call (lEntry_fn (S.getD i 0) (D.getD i 0)) (A2 rfl rfl)) ?_
  refine RS (ok_field field41_3 (by decide) rfl) ?_
  refine RS (ok_indexN (i) Tryd.underlying39 size38 rfl rfl (rfl) (hi4)) ?_
  refine RN ?_
  refine ⟨_, eff_storeP (n := 67) (s := 1000007) (size38.of ((entOf_fit _ _).len)) rfl rfl (EntT.one _) hBb7 rfl (by rw [(stE_fit hjs).len, (entOf_fit _ _).len]; omega) (LV 1 rfl (LV 3 rfl (LV 4 rfl (LV 5 rfl (LV 6 rfl (LV 7 rfl (LV 8 rfl (LT 1000001 rfl (LB 1000003 rfl LN))))))))), ?_⟩
  refine TL ?_
  refine RN ?_
  refine End.sub (KC 1 rfl (KC 3 rfl (KC 4 rfl (KC 5 rfl (KC 6 rfl (KC 7 rfl (KC 8 rfl (KC 1000001 rfl (KC 1000003 rfl (KE 1000007 rfl (show _ = blk b7 41 (stE (lvN k l) (ixN k l j) S D (i + 1)).v from congrArg _ (stE_set hi4 hjs)) KN)))))))))) ?_
  refine End.normal_block ?_
  refine EN ?_
  refine GE ?_
  refine TL ?_
  refine RM rfl ?_
  refine RBS rfl rfl rfl (nI (i + 1)) (wrap_eq (by omega) (by omega)) ?_
  refine RA rfl ?_
  refine RN ?_
  refine End.normal_then ?_
  refine End.again (i + 1) ?_ ?_ ?_
  ·show _ ≤ _; omega
  ·show _ - _ < _ - _; omega
  ·exact (KC 1 rfl (KC 3 rfl (KC 4 rfl (KC 5 rfl (KC 6 rfl (KC 7 rfl (KC 8 rfl (KC 1000001 rfl (KC 1000003 rfl (KC 1000007 rfl KN))))))))))
 ·have hi2 : i = (pts (nn k) (lvN k l) (ixN k l j)) := by simp at hc36; omega
  refine A.exit ?_
  refine End.exit_then ?_
  refine End.exit_then ?_
  refine End.exit_here ?_
  refine EN ?_
  refine GD ?_
  refine TD 3 ?_
  refine RM rfl ?_
  refine RS (ok_loadA (s := 1000007) (by decide) Tryd.underlying41 rfl (size41.of ((stE_fit hjs).len)) rfl rfl) ?_
  refine RA rfl ?_
  refine RN ?_
  refine ⟨_, eff_storeA (n := 67) (s := 1000003) (size41.of ((stE_fit hjs).len)) rfl rfl (by first | exact NodT.one _ | exact RecT.one _ | exact EntT.one _ | exact RecT.all1 _ | exact EntT.all1 _ | exact all_byte _ | exact all_bytes _) hBb3 rfl (by first | rfl | (rw [(stE_fit hjs).len]; rfl)) (LV 2 rfl (LV 3 rfl (LT 1000001 rfl (LB 1000007 rfl LN)))), ?_⟩
  refine TL ?_
  refine RN ?_
  refine A.ret ?_
  subst hi2
  exact End.TcellX (s := 1000003) rfl rfl Tryd.underlying41 rfl (size41.of ((stE_fit hjs).len)) rfl rfl
theorem Of13_fn (k l j : Nat) (S D : List UInt8) (hk : k < 65536) (hl : l < 256) (hj : j < 65536) (hS : S.length = 4) (hD : D.length = 4) : Fn Tryd.prog 9 [.v (aggV (n13V k l j S D))] (.v (.tuple #[nI (nn k), aggV (ofN k l j S D).v])) := by
 unfold ofN
 by_cases h0 : lvN k l = 0
 ·rw [if_pos h0]; exact Of13_R k l j S D hk hl hj hS hD h0
 ·rw [if_neg h0]; exact Of13_E k l j S D hk hl hj hS hD h0
end Go.Proofs.YtlddnmblfgaimaaDoor
