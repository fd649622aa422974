/-
  OWN TEXTS of this seat, put together, part 7: C16l, C16m, Vars, C16n, MerkL, C16o, C16p, C16t, C16u, Law9, Law8, Law4, Law11, Law14.
-/
import Derived.Test.YtmkpekmhhbcifaaGreatDoorQc0
import Derived.Test.YtmkpekmhhbcifaaGreatDoorQc2
import Derived.Test.YtmkpekmhhbcifaaGreatDoorQc6
import Derived.Test.YtmkpekmhhbcifaaGreatDoorQc3
import Derived.Test.YtmkpekmhhbcifaaGreatDoorQc1
import Derived.Test.YtmkpekmhhbcifaaGreatDoorQc5
namespace Go.Proofs.YtmkpekmhhbcifaaGreatDoor
open Go Go.RowKit
set_option linter.unusedVariables false
set_option maxRecDepth 20000
set_option linter.unusedSimpArgs false
theorem emF_false {n : Nat} {f : Nat → RecT} {l j i : Nat} (hi : i < n) (hij : i / 4 ^ (l + 1) = j) (h : (f i).x.toNat ≠ 0) : emF n f l j = false := by
 unfold emF
 exact decide_eq_false fun hh => h (hh i hi hij)
theorem emF_true {n : Nat} {f : Nat → RecT} {l j : Nat} (h : ∀ i, i < n → i / 4 ^ (l + 1) = j → (f i).x.toNat = 0) : emF n f l j = true := emF_iff.2 h
theorem recs_x {R : List RecT} (hR : FitR R) {i : Nat} (hi : i < R.length) : (recsV R)[i * 35 + 0]? = some (byteV (recAt R i).x) := by
 have h := recs_at hR hi
 have h2 : (((recsV R).drop (i * 35)).take 35)[0]? = some (byteV (recAt R i).x) := by rw [h]; rfl
 rwa [List.getElem?_take, if_pos (by decide), List.getElem?_drop] at h2
abbrev srM (rd : Addr) (R : List RecT) (sd : Addr) (S : List Nat) : Env := [(1000801, memR (some rd) (recsV R)), (1000701, memR (some sd) (slotV S))]
def grpW (R : List RecT) (j w : Nat) : NodT := ⟨0, j, pg RecT.zero (fun v => recAt R (4 * j + v)) w, zerosE⟩
theorem grpW_fit {R : List RecT} (hR : FitR R) {j : Nat} (hj : j < 4294967296) (w : Nat) : (grpW R j w).Fit := ⟨hj, pg_length _ _ _, rfl, pg_fitR fun i => hR.at _, NodT.ze_fit⟩
theorem grpW_zero (R : List RecT) (j : Nat) : grpW R j 0 = NodT.emp 0 j := by unfold grpW NodT.emp; rw [pg_zero]; rfl
theorem grpW_full (R : List RecT) (j : Nat) : grpW R j (pts R.length 0 j) = grpR R j := rfl
theorem grpW_set {R : List RecT} (hR : FitR R) {j : Nat} (hj : j < 4294967296) {w : Nat} (hw : w < 4) : (grpW R j w).v.take (2 + w * 35) ++ (recAt R (4 * j + w)).v ++ (grpW R j w).v.drop (2 + w * 35 + (recAt R (4 * j + w)).v.length) = (grpW R j (w + 1)).v := by
 rw [(grpW_fit hR hj w).set_rec hw (hR.at _)]
 unfold grpW
 dsimp only
 rw [pg_set RecT.zero (fun v => recAt R (4 * j + v)) hw]
def entD (R : List RecT) (S : List Nat) (l k : Nat) : EntT := if emF R.length (recAt R) l k then EntT.zero else entR (S.getD (tot R.length l + k) 0) (nodR R S l k)
theorem entD_fit (R : List RecT) (S : List Nat) (l k : Nat) : (entD R S l k).Fit := by
 unfold entD
 split
 ·exact EntT.zero_fit
 ·exact entR_fit _ _
theorem entD_no {R : List RecT} {S : List Nat} {l k : Nat} (h : emF R.length (recAt R) l k = false) : entD R S l k = ⟨UInt8.ofNat (S.getD (tot R.length l + k) 0 + 1), sha (nodR R S l k).bl⟩ := by unfold entD; rw [h]; rfl
def nodD (R : List RecT) (S : List Nat) (l j w : Nat) : NodT := ⟨UInt8.ofNat (l + 1), j, zerosR, pg EntT.zero (fun v => entD R S l (4 * j + v)) w⟩
theorem nodD_fit (R : List RecT) (S : List Nat) (l : Nat) {j : Nat} (hj : j < 4294967296) (w : Nat) : (nodD R S l j w).Fit := ⟨hj, rfl, pg_length _ _ _, NodT.zr_fit, pg_fitE fun i => entD_fit _ _ _ _⟩
theorem nodD_zero (R : List RecT) (S : List Nat) (l j : Nat) : nodD R S l j 0 = NodT.emp (UInt8.ofNat (l + 1)) j := by unfold nodD NodT.emp; rw [pg_zero]; rfl
theorem nodD_full (R : List RecT) (S : List Nat) (l j : Nat) : nodD R S l j (pts R.length (l + 1) j) = nodR R S (l + 1) j := by rw [nodR_succ]; rfl
theorem nodD_set (R : List RecT) (S : List Nat) (l : Nat) {j : Nat} (hj : j < 4294967296) {w : Nat} (hw : w < 4) {e : EntT} (he : e = entD R S l (4 * j + w)) : (nodD R S l j w).v.take (142 + w * 33) ++ e.v ++ (nodD R S l j w).v.drop (142 + w * 33 + e.v.length) = (nodD R S l j (w + 1)).v := by
 subst he
 rw [(nodD_fit R S l hj w).set_ent hw (entD_fit _ _ _ _)]
 unfold nodD
 dsimp only
 rw [pg_set EntT.zero (fun v => entD R S l (4 * j + v)) hw]
theorem nodD_skip {R : List RecT} {S : List Nat} {l j w : Nat} (hj : j < 4294967296) (hw : w < 4) (he : emF R.length (recAt R) l (4 * j + w) = true) : (nodD R S l j w).v = (nodD R S l j (w + 1)).v := by
 have hz : entD R S l (4 * j + w) = EntT.zero := by unfold entD; rw [he]; rfl
 rw [← nodD_set R S l hj hw rfl, (nodD_fit R S l hj w).set_ent hw (entD_fit _ _ _ _), hz]
 have hl : (pg EntT.zero (fun v => entD R S l (4 * j + v)) w).length = 4 := pg_length _ _ _
 have hg : (pg EntT.zero (fun v => entD R S l (4 * j + v)) w).getD w EntT.zero = EntT.zero := by rw [pg_getD _ _ _ hw, if_neg (by omega)]
 unfold nodD
 dsimp only
 congr 2
 apply ext4 hl (by simpa using hl) EntT.zero
 intro i hi
 by_cases h : w = i
 ·subst h
  rw [hg, List.getD_eq_getElem?_getD, List.getElem?_set_self (by rw [hl]; exact hw)]; rfl
 ·rw [List.getD_eq_getElem?_getD, List.getD_eq_getElem?_getD, List.getElem?_set_ne h]
theorem rNumber_fn (n : Nat) (h1 : 1 ≤ n) (h2 : n ≤ 4096) (l j : Nat) (hl : l ≤ hg n) (hj : j < 100000)  : Fn Tryz.prog 51 [.v (nI (n)), .v (nI (l)), .v (nI (j))] (.v (nI (tot n l + j))) := by
 have hh := hg_le n
 refine FV Tryz.func51 rfl Tryz.ntmps51 rfl fun w₀ => ?_
 refine GV rfl (GV rfl (QS (GV rfl (A.block ?_))));refine A.loop (ι := Nat) (fun i => i ≤ l) (fun i => [(0, .v (nI (n))), (1, .v (nI (l))), (7, .v (nI (tot n i + j))), (8, .v (nI (i)))]) (fun i => l - i) 0 ?_ ?_ ?_
 ·exact Nat.zero_le _
 ·exact (KC 0 rfl (KC 1 rfl (KE 7 rfl (by rw [tot_zero, Nat.zero_add]) (KE 8 rfl (by rfl) KN))))
 intro i hi'
 refine QS (GV rfl ?_);refine A.cond rfl (fun hc12 => ?_) (fun hc12 => ?_)
 ·have hi2 : i < l := by simp at hc12; omega
  refine QK (QSB (GTE (RV 3 rfl ?_)));refine RS (ok_call (rCount_fn n h1 h2 i (by omega)) (A2 rfl rfl)) ?_;refine RB rfl rfl rfl ?_;refine RZ (nI (tot n (i + 1) + j)) (by rw [show ((tot n i + j : Nat) : Int) + ((un n (i + 1) : Nat) : Int) = ((tot n (i + 1) + j : Nat) : Int) from by rw [tot_succ]; omega]; exact wrap_eq rfl (by have := tot_small h1 h2 (show i + 1 ≤ 6 by omega); omega)) ?_;refine RVN 1 rfl ?_;refine End.normal_block (EN (GTE (RV 2 rfl ?_)));refine RZ (nI (i + 1)) (wrap_eq (by omega) (by omega)) ?_;refine RVN 1 rfl ?_;refine End.normal_then ?_;refine End.again (i + 1) ?_ ?_ ?_
  ·show _ ≤ _; omega
  ·show _ - _ < _ - _; omega
  ·exact (Sv [0, 1, 7, 8] rfl)
 ·have hi2 : i = l := by simp at hc12; omega
  refine A.exit (End.exit_then (End.exit_then (End.exit_here (EN (GV rfl (A.ret ?_))))));exact End.ret1 rfl rfl (Le.eq (by rw [hi2]))
theorem rTotal_fn (n : Nat) (h1 : 1 ≤ n) (h2 : n ≤ 4096)  : Fn Tryz.prog 36 [.v (nI (n))] (.v (nI (tot n (hg n + 1)))) := by
 have hh := hg_le n
 have htp := un_top h1 h2
 refine FV Tryz.func36 rfl Tryz.ntmps36 rfl fun w₀ => ?_
 refine GV rfl (GT (RV 2 rfl ?_));refine RS (ok_call (rHeight_fn n h1 h2) (A1 rfl)) ?_;refine RS (ok_call (rNumber_fn n h1 h2 (hg n) 0 (Nat.le_refl _) (by decide)) (A3 rfl rfl rfl)) ?_;refine RB rfl rfl rfl ?_;refine RZ (nI (tot n (hg n + 1))) (by rw [← htp]; exact wrap_eq rfl (by have := tot_small h1 h2 (show hg n + 1 ≤ 6 by omega); omega)) ?_;refine RVN 1 rfl ?_;refine A.ret ?_;exact ER rfl rfl
set_option maxHeartbeats 1000000 in
theorem rEmpty_fn (R : List RecT) (hR : FitR R) (h1 : 1 ≤ R.length) (h2 : R.length ≤ 4096) (rd : Addr) (rc : Nat) (l j : Nat) (hl : l ≤ 5)  : FnM Tryz.prog 27 (recM rd R) [.v (.slice (some rd) R.length rc), .v (nI (l)), .v (nI (j))] (.v (.bool (emF R.length (recAt R) l j))) := by
 refine FnM.ofO Tryz.func27 rfl (by kernel_rfl) Tryz.ntmps27 (by simp) (by decide) (fun w => [(0, .v (.slice (some rd) R.length rc)), (1, .v (nI (l))), (2, .v (nI (j))), (1000801, old w.heap.size (memR (some rd) (recsV R)))]) (fun w => (StartMO.v rfl (StartMO.v rfl (StartMO.v rfl (StartMO.mo (by simp [recM]) (by decide) StartMO.nil))))) fun w₀ hM => ?_
 skip
 refine GV rfl (QS (GV rfl (A.block ?_)));refine A.loop (ι := Nat) (fun i => i ≤ R.length ∧ ∀ k, k < i → k / 4 ^ (l + 1) = j → (recAt R k).x.toNat = 0) (fun i => [(0, .v (.slice (some rd) R.length rc)), (1, .v (nI (l))), (2, .v (nI (j))), (7, .v (nI (i))), (1000801, old w₀.heap.size (memR (some rd) (recsV R)))]) (fun i => R.length - i) 0 ?_ ?_ ?_
 ·exact ⟨Nat.zero_le _, fun k h => absurd h (Nat.not_lt_zero _)⟩
 ·exact (KC 0 rfl (KC 1 rfl (KC 2 rfl (KE 7 rfl (by rfl) (KC 1000801 rfl KN)))))
 intro i hG
 refine QS (GT (RV 2 rfl ?_));refine RS (ok_lenV U26 rfl) ?_;refine RVN 1 rfl ?_;refine A.cond rfl (fun hc11 => ?_) (fun hc11 => ?_)
 ·have hi : i < R.length := by simp at hc11; omega
  refine QK (QSB ?_)
  by_cases hq : (i / 4 ^ (l + 1) = j)
  ·refine GT (RV 2 rfl ?_);refine RS (ok_call (rIndex_fn i l (by omega) hl) (A2 rfl rfl)) ?_;refine RV 2 rfl ?_;refine RZ (.bool true) (congrArg Value.bool (decide_eq_true (by omega))) ?_;refine RV 3 rfl ?_;refine RQ (ok_indexRX i U26 infoP51 rfl rfl hi) ?_;refine RQ (ok_fieldRX field51_0 (by decide) rfl) ?_;refine RQ (ok_loadRX (u := byteV (recAt R i).x) (s := 1000801) U5 rfl rfl (by decide) rfl (recs_x hR hi)) ?_;refine RVN 2 rfl ?_;refine A.cond rfl (fun hc26 => ?_) (fun hc26 => ?_)
   ·have hb : (recAt R i).x.toNat ≠ 0 := by simpa using hc26
    refine GV rfl (A.ret (End.ret_block (End.ret_then (End.ret_then (End.ret_block (End.ret_then ?_))))))
    first | exact End.ret1 rfl rfl (Le.v (congrArg Value.bool (emF_false hi hq hb).symm)) | exact End.ret1 rfl rfl (Le.v (congrArg Value.bool (emF_true fun k hk hkj => hG.2 k (by omega) hkj).symm))
   ·have hb : (recAt R i).x.toNat = 0 := by simpa using hc26
    refine A.skip (End.normal_block (EN (GTE (RV 2 rfl ?_))));refine RZ (nI (i + 1)) (wrap_eq (by omega) (by omega)) ?_;refine RVN 1 rfl ?_;refine End.normal_then ?_;refine End.again (i + 1) ?_ ?_ ?_
    ·first | exact ⟨by omega, fun k hk hkj => (Nat.lt_or_ge k i).elim (fun h => hG.2 k h hkj) fun h => by rw [show k = i from by omega]; exact hb⟩ | exact ⟨by omega, fun k hk hkj => (Nat.lt_or_ge k i).elim (fun h => hG.2 k h hkj) fun h => absurd (by rw [show k = i from by omega] at hkj; exact hkj) hq⟩
    ·show _ - _ < _ - _; omega
    ·exact (Sv [0, 1, 2, 7, 1000801] rfl)
  ·refine GT (RV 2 rfl ?_);refine RS (ok_call (rIndex_fn i l (by omega) hl) (A2 rfl rfl)) ?_;refine RV 2 rfl ?_;refine RZ (.bool false) (congrArg Value.bool (decide_eq_false (by omega))) ?_;refine RVN 8 rfl ?_;refine A.no rfl ?_;refine A.skip (End.normal_block (EN (GTE (RV 2 rfl ?_))));refine RZ (nI (i + 1)) (wrap_eq (by omega) (by omega)) ?_;refine RVN 1 rfl ?_;refine End.normal_then ?_;refine End.again (i + 1) ?_ ?_ ?_
   ·first | exact ⟨by omega, fun k hk hkj => (Nat.lt_or_ge k i).elim (fun h => hG.2 k h hkj) fun h => by rw [show k = i from by omega]; exact hb⟩ | exact ⟨by omega, fun k hk hkj => (Nat.lt_or_ge k i).elim (fun h => hG.2 k h hkj) fun h => absurd (by rw [show k = i from by omega] at hkj; exact hkj) hq⟩
   ·show _ - _ < _ - _; omega
   ·exact (Sv [0, 1, 2, 7, 1000801] rfl)
 ·have hi2 : i = R.length := by have := hG.1; simp at hc11; omega
  refine A.exit (End.exit_then (End.exit_then (End.exit_here (EN (GV rfl (A.ret ?_))))))
  first | exact End.ret1 rfl rfl (Le.v (congrArg Value.bool (emF_false hi hq hb).symm)) | exact End.ret1 rfl rfl (Le.v (congrArg Value.bool (emF_true fun k hk hkj => hG.2 k (by omega) hkj).symm))
set_option maxHeartbeats 2000000 in
theorem rNode_leaf (R : List RecT) (hR : FitR R) (h1 : 1 ≤ R.length) (h2 : R.length ≤ 4096) (rd : Addr) (rc : Nat) (S : List Nat) (hS : OkS S) (hSl : tot R.length (hg R.length + 1) ≤ S.length) (sd : Addr) (sc : Nat) (j : Nat) (hj : j < un R.length (0 + 1))  : FnM Tryz.prog 29 (srM rd R sd S) [.v (.slice (some rd) R.length rc), .v (.slice (some sd) S.length sc), .v (nI (0)), .v (nI (j))] (.v (aggV (nodR R S 0 j).v)) := by
 have hh := hg_le R.length
 have hun := un_le h1 (0 + 1)
 have hj6 : j < 4294967296 := by omega
 have hl : 0 ≤ hg R.length := Nat.zero_le _
 refine FnM.ofO Tryz.func29 rfl (by kernel_rfl) Tryz.ntmps29 (by simp) (by decide) (fun w => [(0, .v (.slice (some rd) R.length rc)), (1, .v (.slice (some sd) S.length sc)), (2, .v (nI (0))), (3, .v (nI (j))), (1000801, old w.heap.size (memR (some rd) (recsV R))), (1000701, old w.heap.size (memR (some sd) (slotV S)))]) (fun w => (StartMO.v rfl (StartMO.v rfl (StartMO.v rfl (StartMO.v rfl (StartMO.mo (by simp [srM]) (by decide) (StartMO.mo (by simp [srM]) (by decide) StartMO.nil))))))) fun w₀ hM => ?_
 skip
 refine GS (TN 0 (RN ?_));refine ZN 1000008 zero57 fun b8 ⟨hBb8, hb8⟩ => ?_
 refine TL (RN (GT (RM rfl ?_)));refine RS (ok_lenV U26 rfl) ?_;refine RVN 1 rfl ?_;refine GS (TN 5 (RM rfl ?_));refine RS (ok_conv U3 U5 rfl) ?_; refine RZ (byteV (UInt8.ofNat (0))) (by rw [wrap_u8_nat]; rfl) ?_;refine RM rfl ?_;refine RS (ok_conv U3 U46 rfl) ?_; refine RZ (nW j) (congrArg (Value.int .u32) (wrap_u32 (by omega) (by omega))) ?_;refine RS (ok_litS [(0, byteV (UInt8.ofNat (0))), (1, nW j)] (NodT.emp (UInt8.ofNat (0)) j).v ⟨rfl, rfl, rfl, rfl, trivial⟩ (buildX _ _)) ?_;refine RN ?_;refine ZN 1000010 zero57 fun b10 ⟨hBb10, hb10⟩ => ?_
 have hlt_b8_b10 := hb10 1000008 b8 _ _ rfl
 refine TF 6 (RN ?_);refine ⟨_, eff_storeA (n := 69) (s := 1000010) (size57.of ((NodT.emp_fit 0 (j := j) hj6).len)) rfl rfl (NodT.one _) hBb10 rfl (by rw [(NodT.emp_fit 0 (j := j) hj6).len]; rfl) (LB 1000008 rfl (LO 1000701 rfl (LO 1000801 rfl (LW [0, 1, 2, 3, 8, 9, 10] rfl)))), ?_⟩
 refine TL (RN (QS (GV rfl (A.block ?_))));refine A.loop (ι := Nat) (fun w => w ≤ pts R.length 0 j) (fun w => [(0, .v (.slice (some rd) R.length rc)), (1, .v (.slice (some sd) S.length sc)), (2, .v (nI (0))), (3, .v (nI (j))), (8, .v (ptr b8)), (9, .v (nI (R.length))), (10, .v (ptr b10)), (11, .v (nI (w))), (1000008, blk b8 57 (NodT.emp 0 0).v), (1000010, blk b10 57 (grpW R j w).v), (1000801, old w₀.heap.size (memR (some rd) (recsV R))), (1000701, old w₀.heap.size (memR (some sd) (slotV S)))]) (fun w => pts R.length 0 j - w) 0 ?_ ?_ ?_
 ·exact Nat.zero_le _
 ·exact (KC 0 rfl (KC 1 rfl (KC 2 rfl (KC 3 rfl (KC 8 rfl (KC 9 rfl (KC 10 rfl (KE 11 rfl (by rfl) (KC 1000008 rfl (KE 1000010 rfl (by rw [grpW_zero]) (KC 1000801 rfl (KC 1000701 rfl KN))))))))))))
 intro w hw'
 refine QS (GT (RV 4 rfl ?_));refine RS (ok_call (rParts_fn R.length h1 h2 (0) j hl hj) (A3 rfl rfl rfl)) ?_;refine RVN 1 rfl ?_;refine A.cond rfl (fun hc25 => ?_) (fun hc25 => ?_)
 ·have hw : w < pts R.length (0) j := by simp at hc25; omega
  have hw4 : w < 4 := by have := pts_le R.length (0) j; omega
  have hk : (4 * j + w) < R.length := by unfold pts un at hw; omega
  refine QK (QSB (GT (RV 2 rfl ?_)));refine RZ (nI (4 * j)) (wrap_eq (by omega) (by omega)) ?_;refine RV 2 rfl ?_;refine RZ (nI (4 * j + w)) (wrap_eq (by omega) (by omega)) ?_;refine RVN 1 rfl ?_;refine GT (RV 2 rfl ?_);refine RZ (.bool true) (by rfl) ?_;refine RN (A.yes rfl ?_);refine GE (TF 7 (RV 3 rfl ?_));refine RS (ok_indexR (s := 1000801) (4 * j + w) U26 infoP51 rfl rfl (by decide) rfl hk (by rw [recs_len hR]; omega)) ?_;refine RS (ok_loadElemT 35 U51 rfl size51 (by rw [recs_at hR hk, (hR.at _).len]; exact Nat.le_refl _) rfl) ?_; refine RZ (aggV (recAt R (4 * j + w)).v) (congrArg aggV (by rw [recs_at hR hk]; exact List.take_of_length_le (Nat.le_of_eq (hR.at _).len))) ?_;refine RS (ok_field field57_2 (by decide) rfl) ?_;refine RS (ok_indexN (w) U52 size51 rfl rfl (rfl) (hw4)) ?_;refine RN ?_;refine ⟨_, eff_storeP (n := 69) (s := 1000010) (size51.of ((hR.at _).len)) rfl rfl (RecT.one _) hBb10 rfl (by rw [(grpW_fit hR hj6 w).len, (hR.at _).len]; omega) (LB 1000008 rfl (LO 1000701 rfl (LO 1000801 rfl (LW [0, 1, 2, 3, 8, 9, 10, 11] rfl)))), ?_⟩
  refine TL (RN (End.sub (KC 0 rfl (KC 1 rfl (KC 2 rfl (KC 3 rfl (KC 8 rfl (KC 9 rfl (KC 10 rfl (KC 11 rfl (KC 1000008 rfl (KE 1000010 rfl (show _ = blk b10 57 (grpW R j (w + 1)).v from congrArg (blk b10 57) (grpW_set hR hj6 hw4)) (KC 1000701 rfl (KC 1000801 rfl KN)))))))))))) ?_));refine End.normal_block (EN (GTE (RV 2 rfl ?_)));refine RZ (nI (w + 1)) (wrap_eq (by omega) (by omega)) ?_;refine RVN 1 rfl ?_;refine End.normal_then ?_;refine End.again (w + 1) ?_ ?_ ?_
  ·show _ ≤ _; omega
  ·show _ - _ < _ - _; omega
  ·exact (Sv [0, 1, 2, 3, 8, 9, 10, 11, 1000008, 1000010, 1000801, 1000701] rfl)
 ·have hw2 : w = pts R.length (0) j := by simp at hc25; omega
  refine A.exit (End.exit_then (End.exit_then (End.exit_here (EN (GS (TF 1 (RL 1000010 U57 rfl rfl (size57.of ((grpW_fit hR hj6 _).len)) ?_)))))));refine RN ?_;refine ⟨_, eff_storeA (n := 69) (s := 1000008) (size57.of ((grpW_fit hR hj6 _).len)) rfl rfl (NodT.one _) hBb8 rfl (by rw [(grpW_fit hR hj6 _).len]; rfl) (LV 8 rfl (LB 1000010 rfl (LO 1000701 rfl (LO 1000801 rfl LN)))), ?_⟩
  refine TL (RN (A.ret ?_));exact End.cell1 (s := 1000008) rfl U57 rfl (size57.of ((grpW_fit hR hj6 _).len)) rfl rfl (Le.v (by rw [hw2, grpW_full, nodR_zero]))
set_option maxHeartbeats 4000000 in
theorem rNode_step (R : List RecT) (hR : FitR R) (h1 : 1 ≤ R.length) (h2 : R.length ≤ 4096) (rd : Addr) (rc : Nat) (S : List Nat) (hS : OkS S) (hSl : tot R.length (hg R.length + 1) ≤ S.length) (sd : Addr) (sc : Nat) (l j : Nat) (hl : l + 1 ≤ hg R.length) (hj : j < un R.length (l + 1 + 1)) (ih : ∀ k, k < un R.length (l + 1) → FnM Tryz.prog 29 (srM rd R sd S) [.v (.slice (some rd) R.length rc), .v (.slice (some sd) S.length sc), .v (nI (l)), .v (nI (k))] (.v (aggV (nodR R S l k).v)))  : FnM Tryz.prog 29 (srM rd R sd S) [.v (.slice (some rd) R.length rc), .v (.slice (some sd) S.length sc), .v (nI (l + 1)), .v (nI (j))] (.v (aggV (nodR R S (l + 1) j).v)) := by
 have hh := hg_le R.length
 have hun := un_le h1 (l + 1 + 1)
 have hj6 : j < 4294967296 := by omega
 refine FnM.ofO Tryz.func29 rfl (by kernel_rfl) Tryz.ntmps29 (by simp) (by decide) (fun w => [(0, .v (.slice (some rd) R.length rc)), (1, .v (.slice (some sd) S.length sc)), (2, .v (nI (l + 1))), (3, .v (nI (j))), (1000801, old w.heap.size (memR (some rd) (recsV R))), (1000701, old w.heap.size (memR (some sd) (slotV S)))]) (fun w => (StartMO.v rfl (StartMO.v rfl (StartMO.v rfl (StartMO.v rfl (StartMO.mo (by simp [srM]) (by decide) (StartMO.mo (by simp [srM]) (by decide) StartMO.nil))))))) fun w₀ hM => ?_
 skip
 refine GS (TN 0 (RN ?_));refine ZN 1000008 zero57 fun b8 ⟨hBb8, hb8⟩ => ?_
 refine TL (RN (GT (RM rfl ?_)));refine RS (ok_lenV U26 rfl) ?_;refine RVN 1 rfl ?_;refine GS (TN 5 (RM rfl ?_));refine RS (ok_conv U3 U5 rfl) ?_; refine RZ (byteV (UInt8.ofNat (l + 1))) (by rw [wrap_u8_nat]; rfl) ?_;refine RM rfl ?_;refine RS (ok_conv U3 U46 rfl) ?_; refine RZ (nW j) (congrArg (Value.int .u32) (wrap_u32 (by omega) (by omega))) ?_;refine RS (ok_litS [(0, byteV (UInt8.ofNat (l + 1))), (1, nW j)] (NodT.emp (UInt8.ofNat (l + 1)) j).v ⟨rfl, rfl, rfl, rfl, trivial⟩ (buildX _ _)) ?_;refine RN ?_;refine ZN 1000010 zero57 fun b10 ⟨hBb10, hb10⟩ => ?_
 have hlt_b8_b10 := hb10 1000008 b8 _ _ rfl
 refine TF 6 (RN ?_);refine ⟨_, eff_storeA (n := 69) (s := 1000010) (size57.of ((NodT.emp_fit (UInt8.ofNat (l + 1)) (j := j) hj6).len)) rfl rfl (NodT.one _) hBb10 rfl (by rw [(NodT.emp_fit (UInt8.ofNat (l + 1)) (j := j) hj6).len]; rfl) (LB 1000008 rfl (LO 1000701 rfl (LO 1000801 rfl (LW [0, 1, 2, 3, 8, 9, 10] rfl)))), ?_⟩
 refine TL (RN (QS (GV rfl (A.block ?_))));refine A.loop (ι := Nat) (fun w => w ≤ pts R.length (l + 1) j) (fun w => [(0, .v (.slice (some rd) R.length rc)), (1, .v (.slice (some sd) S.length sc)), (2, .v (nI (l + 1))), (3, .v (nI (j))), (8, .v (ptr b8)), (9, .v (nI (R.length))), (10, .v (ptr b10)), (11, .v (nI (w))), (1000008, blk b8 57 (NodT.emp 0 0).v), (1000010, blk b10 57 (nodD R S l j w).v), (1000801, old w₀.heap.size (memR (some rd) (recsV R))), (1000701, old w₀.heap.size (memR (some sd) (slotV S)))]) (fun w => pts R.length (l + 1) j - w) 0 ?_ ?_ ?_
 ·exact Nat.zero_le _
 ·exact (KC 0 rfl (KC 1 rfl (KC 2 rfl (KC 3 rfl (KC 8 rfl (KC 9 rfl (KC 10 rfl (KE 11 rfl (by rfl) (KC 1000008 rfl (KE 1000010 rfl (by rw [nodD_zero]) (KC 1000801 rfl (KC 1000701 rfl KN))))))))))))
 intro w hw'
 refine QS (GT (RV 4 rfl ?_));refine RS (ok_call (rParts_fn R.length h1 h2 (l + 1) j hl hj) (A3 rfl rfl rfl)) ?_;refine RVN 1 rfl ?_;refine A.cond rfl (fun hc25 => ?_) (fun hc25 => ?_)
 ·have hw : w < pts R.length (l + 1) j := by simp at hc25; omega
  have hw4 : w < 4 := by have := pts_le R.length (l + 1) j; omega
  have hkS : tot R.length l + (4 * j + w) < S.length := by have := numP_lt (n := R.length) (l := l) (j := (4 * j + w)) (by omega) (kid_ok hw); omega
  have hku := kid_ok hw
  have hul := un_le h1 (l + 1)
  refine QK (QSB (GT (RV 2 rfl ?_)));refine RZ (nI (4 * j)) (wrap_eq (by omega) (by omega)) ?_;refine RV 2 rfl ?_;refine RZ (nI (4 * j + w)) (wrap_eq (by omega) (by omega)) ?_;refine RVN 1 rfl ?_;refine GT (RV 2 rfl ?_);refine RZ (.bool false) (congrArg Value.bool (decide_eq_false (by omega))) ?_;refine RN (A.no rfl ?_);refine GT (RV 3 rfl ?_);refine RZ (nI (l)) (wrap_eq (by omega) (by omega)) ?_;refine RM rfl ?_;refine RS (ok_callMK (rEmpty_fn R hR h1 h2 rd rc l (4 * j + w) (by omega)) (SubK.cons (k := 1000801) (by decide) rfl Le.unold SubK.nil) (A3 rfl rfl rfl)) ?_;refine RVN 1 rfl ?_;refine A.cond rfl (fun hc46 => ?_) (fun hc46 => ?_)
  ·have he : emF R.length (recAt R) l (4 * j + w) = false := by simpa using hc46
   refine A.reg (by kernel_rfl) (by kernel_rfl) (.inr (by kernel_rfl)) ?_;refine TD 21 ?_;refine RV 5 rfl ?_;refine RZ (nI (l)) (wrap_eq (by omega) (by omega)) ?_;refine RM rfl ?_;refine RS (ok_call (rNumber_fn R.length h1 h2 l (4 * j + w) (by omega) (by omega)) (A3 rfl rfl rfl)) ?_;refine RS (ok_indexRX (tot R.length l + (4 * j + w)) U27 infoPI rfl rfl hkS) ?_;refine RS (ok_loadRX (u := nI (S.getD (tot R.length l + (4 * j + w)) 0)) (s := 1000701) U3 rfl rfl (by decide) rfl (slotV_at hkS)) ?_;refine RB rfl rfl rfl ?_;refine RZ (nI ((S.getD (tot R.length l + (4 * j + w)) 0) + 1)) (wrap_eq (by omega) (by have := hS.at (tot R.length l + (4 * j + w)); omega)) ?_;refine RS (ok_conv U3 U5 rfl) ?_; refine RZ (byteV (UInt8.ofNat ((S.getD (tot R.length l + (4 * j + w)) 0) + 1))) (by rw [wrap_u8_nat]; rfl) ?_;refine RV 4 rfl ?_;refine RZ (nI (l)) (wrap_eq (by omega) (by omega)) ?_;refine RM rfl ?_;refine RS (ok_callMK (ih (4 * j + w) (kid_ok hw)) (SubK.cons (k := 1000801) (by decide) rfl Le.unold (SubK.cons (k := 1000701) (by decide) rfl Le.unold SubK.nil)) (Args.cons rfl (Le.refl _) (A3 rfl rfl rfl))) ?_;refine RS (ok_call (rDigest_fn (nodR R S l (4 * j + w)) (nodR_fit hR S (by omega)) (by rw [nodR_l (by omega)]; omega)) (A1 rfl)) ?_;refine RS (ok_litS [(0, byteV (UInt8.ofNat ((S.getD (tot R.length l + (4 * j + w)) 0) + 1))), (1, aggV ((sha (nodR R S l (4 * j + w)).bl).map byteV))] (EntT.v ⟨UInt8.ofNat ((S.getD (tot R.length l + (4 * j + w)) 0) + 1), sha (nodR R S l (4 * j + w)).bl⟩) ⟨rfl, rfl, rfl, rfl, trivial⟩ (buildEntB _ _ (sha_length _))) ?_;refine RS (ok_field field57_3 (by decide) rfl) ?_;refine RS (ok_indexN (w) U55 size54 rfl rfl (rfl) (hw4)) ?_;refine RN ?_;refine ⟨_, eff_storeP (n := 69) (s := 1000010) (size54.of (by show _ = 33; rw [EntT.Fit.len ⟨sha_length _⟩])) rfl rfl (EntT.one _) hBb10 rfl (by rw [(nodD_fit R S l hj6 w).len, EntT.Fit.len ⟨sha_length _⟩]; omega) (LB 1000008 rfl (LO 1000701 rfl (LO 1000801 rfl (LW [0, 1, 2, 3, 8, 9, 10, 11] rfl)))), ?_⟩
   refine TL (RN (End.sub (KC 0 rfl (KC 1 rfl (KC 2 rfl (KC 3 rfl (KC 8 rfl (KC 9 rfl (KC 10 rfl (KC 11 rfl (KC 1000008 rfl (KE 1000010 rfl (show _ = blk b10 57 (nodD R S l j (w + 1)).v from congrArg (blk b10 57) (nodD_set R S l hj6 hw4 (entD_no he).symm)) (KC 1000701 rfl (KC 1000801 rfl KN)))))))))))) ?_));refine End.normal_block (EN (GTE (RV 2 rfl ?_)));refine RZ (nI (w + 1)) (wrap_eq (by omega) (by omega)) ?_;refine RVN 1 rfl ?_;refine End.normal_then ?_;refine End.again (w + 1) ?_ ?_ ?_
   ·show _ ≤ _; omega
   ·show _ - _ < _ - _; omega
   ·exact (KC 0 rfl (KC 1 rfl (KC 2 rfl (KC 3 rfl (KC 8 rfl (KC 9 rfl (KC 10 rfl (KC 11 rfl (KC 1000008 rfl (KE 1000010 rfl (by first | rfl | (rw [nodD_skip hj6 hw4 he])) (KC 1000801 rfl (KC 1000701 rfl KN))))))))))))
  ·have he : emF R.length (recAt R) l (4 * j + w) = true := by simpa using hc46
   refine A.skip (End.normal_block (EN (GTE (RV 2 rfl ?_))));refine RZ (nI (w + 1)) (wrap_eq (by omega) (by omega)) ?_;refine RVN 1 rfl ?_;refine End.normal_then ?_;refine End.again (w + 1) ?_ ?_ ?_
   ·show _ ≤ _; omega
   ·show _ - _ < _ - _; omega
   ·exact (KC 0 rfl (KC 1 rfl (KC 2 rfl (KC 3 rfl (KC 8 rfl (KC 9 rfl (KC 10 rfl (KC 11 rfl (KC 1000008 rfl (KE 1000010 rfl (by first | rfl | (rw [nodD_skip hj6 hw4 he])) (KC 1000801 rfl (KC 1000701 rfl KN))))))))))))
 ·have hw2 : w = pts R.length (l + 1) j := by simp at hc25; omega
  refine A.exit (End.exit_then (End.exit_then (End.exit_here (EN (GS (TF 1 (RL 1000010 U57 rfl rfl (size57.of ((nodD_fit R S l hj6 _).len)) ?_)))))));refine RN ?_;refine ⟨_, eff_storeA (n := 69) (s := 1000008) (size57.of ((nodD_fit R S l hj6 _).len)) rfl rfl (NodT.one _) hBb8 rfl (by rw [(nodD_fit R S l hj6 _).len]; rfl) (LV 8 rfl (LB 1000010 rfl (LO 1000701 rfl (LO 1000801 rfl LN)))), ?_⟩
  refine TL (RN (A.ret ?_));exact End.cell1 (s := 1000008) rfl U57 rfl (size57.of ((nodD_fit R S l hj6 _).len)) rfl rfl (Le.v (by rw [hw2, nodD_full]))
theorem rNode_fn (R : List RecT) (hR : FitR R) (h1 : 1 ≤ R.length) (h2 : R.length ≤ 4096) (rd : Addr) (rc : Nat) (S : List Nat) (hS : OkS S) (hSl : tot R.length (hg R.length + 1) ≤ S.length) (sd : Addr) (sc : Nat) : ∀ (l j : Nat), l ≤ hg R.length → j < un R.length (l + 1) → FnM Tryz.prog 29 (srM rd R sd S) [.v (.slice (some rd) R.length rc), .v (.slice (some sd) S.length sc), .v (nI (l)), .v (nI (j))] (.v (aggV (nodR R S l j).v))
 | 0, j, _, hj => rNode_leaf R hR h1 h2 rd rc S hS hSl sd sc j hj
 | l + 1, j, hl, hj => rNode_step R hR h1 h2 rd rc S hS hSl sd sc l j hl hj fun k hk => rNode_fn R hR h1 h2 rd rc S hS hSl sd sc l k (by omega) hk
theorem treR_row (R : List RecT) (S : List Nat) {l j : Nat} (hl : l ≤ 5) (hj : j < un R.length (l + 1)) : nodsV (treR R S (tot R.length l + j)) ++ (nodR R S l j).v = nodsV (treR R S (tot R.length l + j + 1)) := by
 rw [← treR_step R S hl hj, nods_app]; simp [nodsV]
theorem tre_start (R : List RecT) (S : List Nat) {B : Nat} {e : TypeId} : Le (.v (.slice none 0 0)) (ownP B e 274 (tot R.length 0) (nodsV (treR R S (tot R.length 0)))) := ownP_nil
set_option maxHeartbeats 2000000 in
theorem rTree_fnB (R : List RecT) (hR : FitR R) (h1 : 1 ≤ R.length) (h2 : R.length ≤ 4096) (rd : Addr) (rc : Nat) (S : List Nat) (hS : OkS S) (hSl : tot R.length (hg R.length + 1) ≤ S.length) (sd : Addr) (sc : Nat)  : FnMB Tryz.prog 14 (srM rd R sd S) [.v (.slice (some rd) R.length rc), .v (.slice (some sd) S.length sc)] (fun B => ownP B 57 274 (tot R.length (hg R.length + 1)) (nodsV (treR R S (tot R.length (hg R.length + 1))))) := by
 have hh := hg_le R.length
 have hsm := tot_small h1 h2 (show hg R.length + 1 ≤ 6 by omega)
 refine FnMB.ofO Tryz.func14 rfl (by kernel_rfl) Tryz.ntmps14 (by simp) (by decide) (fun w => [(0, .v (.slice (some rd) R.length rc)), (1, .v (.slice (some sd) S.length sc)), (1000801, old w.heap.size (memR (some rd) (recsV R))), (1000701, old w.heap.size (memR (some sd) (slotV S)))]) (fun w => (StartMO.v rfl (StartMO.v rfl (StartMO.mo (by simp [srM]) (by decide) (StartMO.mo (by simp [srM]) (by decide) StartMO.nil))))) fun w₀ hM => ?_
 skip
 refine GV rfl (GT (RM rfl ?_));refine RS (ok_lenV U26 rfl) ?_;refine RVN 1 rfl ?_;refine GV rfl (QS (GV rfl (A.block (A.subL (SubL.cons (t := 0) rfl (Le.refl _) (SubL.cons (t := 1) rfl (Le.refl _) (SubL.cons (t := 5) rfl (Le.refl _) (SubL.cons (t := 6) rfl (tre_start R S (B := w₀.heap.size) (e := 57)) (SubL.cons (t := 7) rfl (Le.refl _) (SubL.cons (t := 1000801) rfl (Le.refl _) (SubL.cons (t := 1000701) rfl (Le.refl _) SubL.nil))))))) ?_))));refine A.loop (ι := Nat) (fun L => L ≤ hg R.length + 1) (fun L => [(0, .v (.slice (some rd) R.length rc)), (1, .v (.slice (some sd) S.length sc)), (5, .v (nI (R.length))), (6, ownP w₀.heap.size 57 274 (tot R.length L) (nodsV (treR R S (tot R.length L)))), (7, .v (nI (L))), (1000801, old w₀.heap.size (memR (some rd) (recsV R))), (1000701, old w₀.heap.size (memR (some sd) (slotV S)))]) (fun L => hg R.length + 1 - L) 0 ?_ ?_ ?_
 ·exact Nat.zero_le _
 ·exact (KC 0 rfl (KC 1 rfl (KC 5 rfl (KC 6 rfl (KE 7 rfl (by rfl) (KC 1000801 rfl (KC 1000701 rfl KN)))))))
 intro L hG
 refine QS (GT (RV 2 rfl ?_));refine RS (ok_call (rHeight_fn R.length h1 h2) (A1 rfl)) ?_;refine RVN 1 rfl ?_;refine A.cond rfl (fun hc14 => ?_) (fun hc14 => ?_)
 ·have hL : L < hg R.length + 1 := by simp at hc14; omega
  refine QK (QSB (GV rfl (A.block ?_)));refine A.loop (ι := Nat) (fun X => X ≤ un R.length (L + 1)) (fun X => [(0, .v (.slice (some rd) R.length rc)), (1, .v (.slice (some sd) S.length sc)), (5, .v (nI (R.length))), (6, ownP w₀.heap.size 57 274 (tot R.length L + X) (nodsV (treR R S (tot R.length L + X)))), (7, .v (nI (L))), (8, .v (nI (X))), (1000801, old w₀.heap.size (memR (some rd) (recsV R))), (1000701, old w₀.heap.size (memR (some sd) (slotV S)))]) (fun X => un R.length (L + 1) - X) 0 ?_ ?_ ?_
  ·exact Nat.zero_le _
  ·exact (KC 0 rfl (KC 1 rfl (KC 5 rfl (KC 6 rfl (KC 7 rfl (KE 8 rfl (by rfl) (KC 1000801 rfl (KC 1000701 rfl KN))))))))
  intro X hI
  refine QS (GT (RV 3 rfl ?_));refine RS (ok_call (rCount_fn R.length h1 h2 L (by omega)) (A2 rfl rfl)) ?_;refine RVN 1 rfl ?_;refine A.cond rfl (fun hc21 => ?_) (fun hc21 => ?_)
  ·have hX : X < un R.length (L + 1) := by simp at hc21; omega
   have hnl := numP_lt (n := R.length) (l := L) (j := X) (by omega) hX
   have hul := un_le h1 (L + 1)
   refine QK (QSB (GE (TF 7 (RV 5 rfl ?_))));refine RS (ok_callMK (rNode_fn R hR h1 h2 rd rc S hS hSl sd sc L X (by omega) hX) (SubK.cons (k := 1000801) (by decide) rfl Le.unold (SubK.cons (k := 1000701) (by decide) rfl Le.unold SubK.nil)) (Args.cons rfl (Le.refl _) (A3 rfl rfl rfl))) ?_;refine RS (ok_build1K U30 infoN rfl (by decide) (by decide) rfl (nodR_fit hR S (by omega)).len) ?_;refine RN ?_;refine ⟨_, eff_appendG U30 infoN (by decide) (by decide) rfl rfl rfl (nodR_fit hR S (by omega)).len (NodT.one _) (by omega) (by decide) (fun g hg => (LO 1000701 rfl (LO 1000801 rfl (LW [0, 1, 5, 7, 8] rfl)))), ?_⟩
   refine TL (RVN 1 rfl ?_);refine End.normal_block (EN (GTE (RV 2 rfl ?_)));refine RZ (nI (X + 1)) (wrap_eq (by omega) (by omega)) ?_;refine RVN 1 rfl ?_;refine End.normal_then ?_;refine End.again (X + 1) ?_ ?_ ?_
   ·show _ ≤ _; omega
   ·show _ - _ < _ - _; omega
   ·exact (KC 0 rfl (KC 1 rfl (KC 5 rfl (KE 6 rfl (congrArg (ownP w₀.heap.size 57 274 (tot R.length L + X + 1)) (treR_row R S (by omega) hX)) (KC 7 rfl (KC 8 rfl (KC 1000801 rfl (KC 1000701 rfl KN))))))))
  ·have hX2 : X = un R.length (L + 1) := by simp at hc21; omega
   refine A.exit (End.exit_then (End.exit_then (End.exit_here (End.normal_block (EN (GTE (RV 2 rfl ?_)))))));refine RZ (nI (L + 1)) (wrap_eq (by omega) (by omega)) ?_;refine RVN 1 rfl ?_;refine End.normal_then ?_;refine End.again (L + 1) ?_ ?_ ?_
   ·show _ ≤ _; omega
   ·show _ - _ < _ - _; omega
   ·exact (KC 0 rfl (KC 1 rfl (KC 5 rfl (KE 6 rfl (by rw [hX2]; rfl) (KC 7 rfl (KC 1000801 rfl (KC 1000701 rfl KN)))))))
 ·have hL2 : L = hg R.length + 1 := by simp at hc14; omega
  refine A.exit (End.exit_then (End.exit_then (End.exit_here (EN (GV rfl (A.ret ?_))))));exact End.ret1 rfl rfl (by subst hL2; exact Le.refl _)
section
set_option maxRecDepth 20000
set_option linter.unusedSimpArgs false
def rcsL (T : List NodT) (m : Nat) : List RecT := (List.range m).map (recT T)
theorem rcsL_len (T : List NodT) (m : Nat) : (rcsL T m).length = m := by simp [rcsL]
theorem rcsL_at {T : List NodT} {m i : Nat} (h : i < m) : recAt (rcsL T m) i = recT T i := by
 unfold recAt rcsL
 rw [List.getD_eq_getElem?_getD, List.getElem?_map, List.getElem?_range h]; rfl
theorem rcsL_fit {T : List NodT} (hT : FitT T) (m : Nat) : FitR (rcsL T m) := fun r hr => by
 obtain ⟨k, _, rfl⟩ := List.mem_map.1 hr
 exact (hT.at _).r _
theorem rcsL_row (T : List NodT) (m : Nat) : recsV (rcsL T m) ++ (recT T m).v = recsV (rcsL T (m + 1)) := by
 unfold rcsL recsV; rw [List.range_succ, List.map_append, List.flatMap_append]; simp
theorem rec_start (T : List NodT) {B : Nat} {e : TypeId} : Le (.v (.slice none 0 0)) (ownP B e 35 0 (recsV (rcsL T 0))) := ownP_nil
theorem grps_of {n : Nat} {T : List NodT} (h1 : 1 ≤ n) (h2 : n ≤ 4096) (h : ∀ k, k < tot n 1 → errI n T k = 0) : Grps n T := fun j hj => by
 have he := h j (by rw [tot_one]; exact hj)
 have e1 := errI_at (n := n) (T := T) (l := 0) (j := j) (by decide) hj
 rw [tot_zero, Nat.zero_add] at e1
 rw [e1] at he
 obtain ⟨h3, h4, h5⟩ := errA_fit he
 rw [tot_zero, Nat.zero_add] at h3 h4 h5
 obtain ⟨_, _, h7⟩ := ft_zero h1 h2 h5
 exact ⟨h3, fun w h1 h2 => (h7 w (by rw [h3, h4]; exact h1) h2).1⟩
theorem em_ref {n : Nat} {T : List NodT} (h1 : 1 ≤ n) (h2 : n ≤ 4096) {L X k : Nat} (hL : 0 < L) (h : ∀ k, k < tot n L + X → errI n T k = 0) (hk : k < un n (L - 1 + 1)) : emF n (recAt (rcsL T n)) (L - 1) k = emT n T (L - 1) k := by
 have hg := grps_of h1 h2 fun k hk => h k (by have := tot_mono (n := n) (show 1 ≤ L by omega); omega)
 rw [emT_eq hg _ hk]
 exact emF_congr (fun i hi => rcsL_at hi) _ _
theorem err17 {n : Nat} {T : List NodT} {L X : Nat} (hl : L ≤ hg n) (hX : X < un n (L + 1)) (h : ∀ k, k < tot n L + X → errI n T k = 0) (hf : ¬ ((ndAt T (tot n L + X)).l.toNat = L ∧ (ndAt T (tot n L + X)).j = X ∧ ftN n (ndAt T (tot n L + X)) = 0)) : fstN (errI n T) (tot n (hg n + 1)) = 17 := by
 have hh := hg_le n
 have he : errI n T (tot n L + X) = 17 := by
  rw [errI_at (by omega) hX]
  exact if_pos (by simpa using fun h => hf (fitA_iff.1 h))
 rw [fstN_at h (by rw [he]; decide) (numP_lt hl hX), he]
theorem err9 {n : Nat} {T : List NodT} {L X : Nat} (hl : L ≤ hg n) (hX : X < un n (L + 1)) (h : ∀ k, k < tot n L + X → errI n T k = 0) (hf : (ndAt T (tot n L + X)).l.toNat = L ∧ (ndAt T (tot n L + X)).j = X ∧ ftN n (ndAt T (tot n L + X)) = 0) {w : Nat} (hL : 0 < L) (hw4 : w < 4) (hw : 4 * X + w < un n (L - 1 + 1)) (hb : badK n T (L - 1) (4 * X + w) ((ndAt T (tot n L + X)).e w) = true) : fstN (errI n T) (tot n (hg n + 1)) = 9 := by
 have hh := hg_le n
 obtain ⟨l, rfl⟩ : ∃ l, L = l + 1 := ⟨L - 1, by omega⟩
 have he : errI n T (tot n (l + 1) + X) = 9 := by
  rw [errI_at (by omega) hX]
  unfold errA
  rw [if_neg (by rw [fitA_iff.2 hf]; decide), if_pos]
  exact ⟨w, kid_pts hw4 hw, hb⟩
 rw [fstN_at h (by rw [he]; decide) (numP_lt hl hX), he]
theorem errOk {n : Nat} {T : List NodT} {L X w : Nat} (hl : L ≤ hg n) (hX : X < un n (L + 1)) (hf : (ndAt T (tot n L + X)).l.toNat = L ∧ (ndAt T (tot n L + X)).j = X ∧ ftN n (ndAt T (tot n L + X)) = 0) (hK : ∀ v, v < w → 0 < L → badK n T (L - 1) (4 * X + v) ((ndAt T (tot n L + X)).e v) = false) (he : ¬ w < 4 ∨ L = 0 ∨ ¬ 4 * X + w < un n (L - 1 + 1)) : errI n T (tot n L + X) = 0 := by
 have hh := hg_le n
 rw [errI_at (by omega) hX]
 unfold errA
 rw [if_neg (by rw [fitA_iff.2 hf]; decide), if_neg]
 cases L with
 | zero => exact fun h => h
 | succ l =>
  rintro ⟨v, hv, hb⟩
  have hv4 := pts_le n (l + 1) X
  have hk := kid_ok hv
  have hvw : v < w := by
   rcases he with h | h | h
   ·omega
   ·cases h
   ·simp only [Nat.add_sub_cancel] at h; omega
  have hkv := hK v hvw (Nat.succ_pos _)
  simp only [Nat.add_sub_cancel] at hkv
  rw [hkv] at hb; cases hb
theorem fit3 (x : NodT) (L X : Nat) : x.l.toNat ≠ L ∨ (x.l.toNat = L ∧ x.j ≠ X) ∨ (x.l.toNat = L ∧ x.j = X) := by
 by_cases h : x.l.toNat = L
 ·by_cases h2 : x.j = X
  ·exact .inr (.inr ⟨h, h2⟩)
  ·exact .inr (.inl ⟨h, h2⟩)
 ·exact .inl h
theorem wl3 (w L : Nat) : ¬ w < 4 ∨ (w < 4 ∧ L = 0) ∨ (w < 4 ∧ 0 < L) := by omega
theorem em3 (b : Bool) (k : Nat) : b ≠ decide (k = 0) ∨ (b = decide (k = 0) ∧ k = 0) ∨ (b = decide (k = 0) ∧ k ≠ 0) := by
 by_cases h : b = decide (k = 0)
 ·by_cases h2 : k = 0
  ·exact .inr (.inl ⟨h, h2⟩)
  ·exact .inr (.inr ⟨h, h2⟩)
 ·exact .inl h
theorem fit_eZ {n : Nat} {x : NodT} (h1 : 1 ≤ n) (h2 : n ≤ 4096) (hf : ftN n x = 0) (h0 : x.l.toNat ≠ 0) {w : Nat} (hw : w < 4) : (x.e w).Z ↔ (x.e w).x.toNat = 0 := by
 have hb := ((NodT.ck_ok (ft_zero h1 h2 hf).1).2.2 h0).2 w hw
 unfold EntT.Bad BadE at hb
 unfold EntT.Z
 constructor
 ·exact fun h => h.1
 ·exact fun h => ⟨h, Classical.byContradiction fun hh => hb (.inr ⟨h, hh⟩)⟩
theorem bad_e {n : Nat} {T : List NodT} {l k : Nat} {e : EntT} (hz : e.Z ↔ e.x.toNat = 0) (h : emT n T l k ≠ decide (e.x.toNat = 0)) : badK n T l k e = true := by
 unfold badK
 rw [decide_eq_true_iff]
 exact .inl fun hh => h (by rw [← hh]; exact decide_eq_decide.2 hz)
theorem bad_d {n : Nat} {T : List NodT} {l k : Nat} {e : EntT} (hz : e.Z ↔ e.x.toNat = 0) (h : e.x.toNat ≠ 0) (hd : e.t ≠ sha (ndAt T (tot n l + k)).bl) : badK n T l k e = true := by
 unfold badK
 rw [decide_eq_true_iff]
 exact .inr ⟨fun hh => h (hz.1 hh), hd⟩
theorem bad_no {n : Nat} {T : List NodT} {l k : Nat} {e : EntT} (hz : e.Z ↔ e.x.toNat = 0) (h : emT n T l k = decide (e.x.toNat = 0)) (hd : e.x.toNat = 0 ∨ e.t = sha (ndAt T (tot n l + k)).bl) : badK n T l k e = false := by
 unfold badK
 rw [decide_eq_false_iff_not, not_or]
 refine ⟨fun hh => hh (by rw [h]; exact decide_eq_decide.2 hz), fun hh => ?_⟩
 rcases hd with hd | hd
 ·exact hh.1 (hz.2 hd)
 ·exact hh.2 hd
theorem rEmpty_n (n : Nat) (h1 : 1 ≤ n) (h2 : n ≤ 4096) (R : List RecT) (hn : R.length = n) (hR : FitR R) (rd : Addr) (rc : Nat) (l j : Nat) (hl : l ≤ 5) : FnM Tryz.prog 27 (recM rd R) [.v (.slice (some rd) n rc), .v (nI l), .v (nI j)] (.v (.bool (emF n (recAt R) l j))) := by
 subst hn; exact rEmpty_fn R hR h1 h2 rd rc l j hl
theorem rChk_lo (n : Int) (h : n < 1) (A₀ : Option Addr) (T : List NodT) (hT : FitT T) (c : Nat)  : FnM Tryz.prog 21 (trO A₀ T) [.v (.int .i64 (n)), .v (.slice A₀ T.length c)] (.v (.int .i64 (1))) := by
 refine FnM.ofO Tryz.func21 rfl (by kernel_rfl) Tryz.ntmps21 (by simp) (by decide) (fun w => [(0, .v (.int .i64 (n))), (1, .v (.slice A₀ T.length c)), (1000501, old w.heap.size (memR A₀ (nodsV T)))]) (fun w => (StartMO.v rfl (StartMO.v rfl (StartMO.mo (by simp [trO]) (by decide) StartMO.nil)))) fun w₀ hM => ?_
 skip
 refine GV rfl (QS (GT (RV 2 rfl ?_)));refine RT ?_;refine RV 4 rfl ?_;refine RT ?_;refine RV 7 rfl ?_;refine RT ?_;refine RN (A.yes rfl ?_);refine GV rfl (A.ret (End.ret_then ?_));exact ER rfl rfl
theorem rChk_hi (n : Int) (h : 4096 < n) (A₀ : Option Addr) (T : List NodT) (hT : FitT T) (c : Nat)  : FnM Tryz.prog 21 (trO A₀ T) [.v (.int .i64 (n)), .v (.slice A₀ T.length c)] (.v (.int .i64 (1))) := by
 refine FnM.ofO Tryz.func21 rfl (by kernel_rfl) Tryz.ntmps21 (by simp) (by decide) (fun w => [(0, .v (.int .i64 (n))), (1, .v (.slice A₀ T.length c)), (1000501, old w.heap.size (memR A₀ (nodsV T)))]) (fun w => (StartMO.v rfl (StartMO.v rfl (StartMO.mo (by simp [trO]) (by decide) StartMO.nil)))) fun w₀ hM => ?_
 skip
 refine GV rfl (QS (GT (RV 2 rfl ?_)));refine RF ?_;refine RV 3 rfl ?_;refine RT ?_;refine RP rfl rfl ?_;refine RT ?_;refine RV 7 rfl ?_;refine RT ?_;refine RN (A.yes rfl ?_);refine GV rfl (A.ret (End.ret_then ?_));exact ER rfl rfl
theorem rChk_len (n : Nat) (h1 : 1 ≤ n) (h2 : n ≤ 4096) (A₀ : Option Addr) (T : List NodT) (hT : FitT T) (c : Nat) (hl : T.length ≠ tot n (hg n + 1))  : FnM Tryz.prog 21 (trO A₀ T) [.v (nI (n)), .v (.slice A₀ T.length c)] (.v (.int .i64 (1))) := by
 refine FnM.ofO Tryz.func21 rfl (by kernel_rfl) Tryz.ntmps21 (by simp) (by decide) (fun w => [(0, .v (nI (n))), (1, .v (.slice A₀ T.length c)), (1000501, old w.heap.size (memR A₀ (nodsV T)))]) (fun w => (StartMO.v rfl (StartMO.v rfl (StartMO.mo (by simp [trO]) (by decide) StartMO.nil)))) fun w₀ hM => ?_
 skip
 refine GV rfl (QS (GT (RV 2 rfl ?_)));refine RF ?_;refine RV 3 rfl ?_;refine RF ?_;refine RP rfl rfl ?_;refine RF ?_;refine RV 2 rfl ?_;refine RQ (ok_lenV U30 rfl) ?_;refine RQ (ok_move rfl) ?_;refine RQ (ok_call (rTotal_fn n h1 h2) (A1 rfl)) ?_;refine RQ (ok_bin rfl rfl rfl) ?_;refine RZ (.bool true) (congrArg Value.bool (by simp; omega)) ?_;refine RP rfl rfl ?_;refine RT ?_;refine RN (A.yes rfl ?_);refine GV rfl (A.ret (End.ret_then ?_));exact ER rfl rfl
set_option maxHeartbeats 8000000 in
theorem rChk_ok (n : Nat) (h1 : 1 ≤ n) (h2 : n ≤ 4096) (ad : Addr) (T : List NodT) (hT : FitT T) (c : Nat) (hlen : T.length = tot n (hg n + 1))  : FnM Tryz.prog 21 (trM ad T) [.v (nI (n)), .v (.slice (some ad) T.length c)] (.v (.int .i64 (fstN (errI n T) (tot n (hg n + 1))))) := by
 have hh := hg_le n
 have hsm := tot_small h1 h2 (show hg n + 1 ≤ 6 by omega)
 have hfr : ∀ k, (recT T k).Fit := fun k => (hT.at _).r _
 refine FnM.ofO Tryz.func21 rfl (by kernel_rfl) Tryz.ntmps21 (by simp) (by decide) (fun w => [(0, .v (nI (n))), (1, .v (.slice (some ad) T.length c)), (1000501, old w.heap.size (memR (some ad) (nodsV T)))]) (fun w => (StartMO.v rfl (StartMO.v rfl (StartMO.mo (by simp [trM]) (by decide) StartMO.nil)))) fun w₀ hM => ?_
 skip
 refine GV rfl (QS (GT (RV 2 rfl ?_)));refine RF ?_;refine RV 3 rfl ?_;refine RF ?_;refine RP rfl rfl ?_;refine RF ?_;refine RV 2 rfl ?_;refine RQ (ok_lenV U30 rfl) ?_;refine RQ (ok_move rfl) ?_;refine RQ (ok_call (rTotal_fn n h1 h2) (A1 rfl)) ?_;refine RQ (ok_bin rfl rfl rfl) ?_;refine RZ (.bool false) (congrArg Value.bool (by simp; omega)) ?_;refine RP rfl rfl ?_;refine RZ (.bool false) (by rfl) ?_;refine RN (A.no rfl ?_);refine QK (GV rfl (QS (GV rfl (A.block (A.subL (SubL.cons (t := 0) rfl (Le.refl _) (SubL.cons (t := 1) rfl (Le.refl _) (SubL.cons (t := 5) rfl (rec_start T (B := w₀.heap.size) (e := 51)) (SubL.cons (t := 6) rfl (Le.refl _) (SubL.cons (t := 1000501) rfl (Le.refl _) SubL.nil))))) ?_)))));refine A.loop (ι := Nat) (fun i => i ≤ n) (fun i => [(0, .v (nI (n))), (1, .v (.slice (some ad) T.length c)), (5, ownP w₀.heap.size 51 35 (i) (recsV (rcsL T (i)))), (6, .v (nI (i))), (1000501, old w₀.heap.size (memR (some ad) (nodsV T)))]) (fun i => n - i) 0 ?_ ?_ ?_
 ·exact Nat.zero_le _
 ·exact (KC 0 rfl (KC 1 rfl (KC 5 rfl (KE 6 rfl (by rfl) (KC 1000501 rfl KN)))))
 intro i hi'
 refine QS (GV rfl ?_);refine A.cond rfl (fun hc28 => ?_) (fun hc28 => ?_)
 ·have hi : i < n := by simp at hc28; omega
  have h4 : i / 4 < T.length := by have := div_lt_un hi 1; have := numP_lt (n := n) (l := 0) (j := i / 4) (Nat.zero_le _) (by simpa using this); rw [tot_zero, Nat.zero_add] at this; omega
  refine QK (QSB (GE (TF 11 (RV 3 rfl ?_))));refine RS (ok_div rfl rfl (by decide)) ?_; refine RZ (nI (i / 4)) (by first | rfl | (rw [tdiv_lit _ (by decide)]; exact wrap_eq rfl (by omega))) ?_;refine RM rfl ?_;refine RS (ok_rem rfl rfl (by decide)) ?_; refine RZ (nI (i % 4)) (by first | rfl | (rw [tmod_lit _ (by decide)]; rfl)) ?_;refine RS (ok_indexRX (i / 4) U30 infoN rfl rfl h4) ?_;refine RS (ok_fieldRX field57_2 (by decide) rfl) ?_;refine RS (ok_indexAX (i % 4) U52 size51 rfl rfl (Nat.mod_lt _ (by decide))) ?_;refine RS (ok_loadRXT (ys := (recT T i).v) (s := 1000501) U51 rfl (size51.of (hfr i).len) rfl (by decide) rfl (by rw [(hfr i).len]; exact nods_rec hT h4 (Nat.mod_lt _ (by decide)))) ?_;refine RS (ok_build1K U26 infoP51 rfl (by decide) (by decide) rfl (hfr i).len) ?_;refine RN ?_;refine ⟨_, eff_appendG U26 infoP51 (by decide) (by decide) rfl rfl rfl (hfr i).len (RecT.one _) (by omega) (by decide) (fun g hg => (LO 1000501 rfl (LW [0, 1, 6] rfl))), ?_⟩
  refine TL (RVN 1 rfl ?_);refine End.normal_block (EN (GTE (RV 2 rfl ?_)));refine RZ (nI (i + 1)) (wrap_eq (by omega) (by omega)) ?_;refine RVN 1 rfl ?_;refine End.normal_then ?_;refine End.again (i + 1) ?_ ?_ ?_
  ·show _ ≤ _; omega
  ·show _ - _ < _ - _; omega
  ·exact (KC 0 rfl (KC 1 rfl (KE 5 rfl (congrArg (ownP w₀.heap.size 51 35 (i + 1)) (rcsL_row T i)) (KC 6 rfl (KC 1000501 rfl KN)))))
 ·have hi2 : n = i := by simp at hc28; omega
  subst hi2
  refine A.exit (End.exit_then (End.exit_then (End.exit_here (EN (QS ?_)))));refine A.nameP (t := 5) (k := 1000203) rfl (fun w y h => ownP_one h) fun v5 hv5 => ?_
  refine A.openRowY (k := 1000203) (k' := 1000311) rfl (by rw [recs_len (rcsL_fit hT _), rcsL_len]; omega) fun g11 q ys hBg hq hv => ?_
  subst hv
  refine GV rfl (A.block ?_);refine A.loop (ι := Nat) (fun L => L ≤ hg n + 1 ∧ ∀ k, k < tot n L → errI n T k = 0) (fun L => [(0, .v (nI (n))), (1, .v (.slice (some ad) T.length c)), (5, .v (.slice (some ⟨g11, 0, none⟩) n q)), (7, .v (nI (L))), (1000311, blk g11 51 (recsV (rcsL T n) ++ ys)), (1000501, old w₀.heap.size (memR (some ad) (nodsV T)))]) (fun L => hg n + 1 - L) 0 ?_ ?_ ?_
  ·exact ⟨Nat.zero_le _, fun k h => absurd h (Nat.not_lt_zero _)⟩
  ·exact (KC 0 rfl (KC 1 rfl (KC 5 rfl (KE 7 rfl (by rfl) (KC 1000311 rfl (KC 1000501 rfl KN))))))
  intro L hG
  refine QS (GT (RV 2 rfl ?_));refine RS (ok_call (rHeight_fn n h1 h2) (A1 rfl)) ?_;refine RVN 1 rfl ?_;refine A.cond rfl (fun hc46 => ?_) (fun hc46 => ?_)
  ·have hL : L < hg n + 1 := by have := hG.1; simp at hc46; omega
   refine QK (QSB (GV rfl (A.block ?_)));refine A.loop (ι := Nat) (fun X => X ≤ un n (L + 1) ∧ ∀ k, k < tot n L + X → errI n T k = 0) (fun X => [(0, .v (nI (n))), (1, .v (.slice (some ad) T.length c)), (5, .v (.slice (some ⟨g11, 0, none⟩) n q)), (7, .v (nI (L))), (8, .v (nI (X))), (1000311, blk g11 51 (recsV (rcsL T n) ++ ys)), (1000501, old w₀.heap.size (memR (some ad) (nodsV T)))]) (fun X => un n (L + 1) - X) 0 ?_ ?_ ?_
   ·exact ⟨Nat.zero_le _, hG.2⟩
   ·exact (KC 0 rfl (KC 1 rfl (KC 5 rfl (KC 7 rfl (KE 8 rfl (by rfl) (KC 1000311 rfl (KC 1000501 rfl KN)))))))
   intro X hI
   refine QS (GT (RV 3 rfl ?_));refine RS (ok_call (rCount_fn n h1 h2 L (by omega)) (A2 rfl rfl)) ?_;refine RVN 1 rfl ?_;refine A.cond rfl (fun hc53 => ?_) (fun hc53 => ?_)
   ·have hX : X < un n (L + 1) := by simp at hc53; omega
    have hnl := numP_lt (n := n) (l := L) (j := X) (by omega) hX
    have hnm : tot n L + X < T.length := by omega
    refine QK (QSB (GS (TN 7 (RV 4 rfl ?_))));refine RS (ok_call (rNumber_fn n h1 h2 L X (by omega) (by omega)) (A3 rfl rfl rfl)) ?_;refine RS (ok_indexR (s := 1000501) (tot n L + X) U30 infoN rfl rfl (by decide) rfl hnm (by rw [nods_len hT]; omega)) ?_;refine RS (ok_loadElemT 274 U57 rfl size57 (by rw [nods_at hT hnm, (hT.at _).len]; exact Nat.le_refl _) rfl) ?_; refine RZ (aggV (ndAt T (tot n L + X)).v) (congrArg aggV (by rw [nods_at hT hnm]; exact List.take_of_length_le (Nat.le_of_eq (hT.at _).len))) ?_;refine RN ?_;refine ZN 1000009 zero57 fun b9 ⟨hBb9, hb9⟩ => ?_
    refine TF 8 (RN ?_);refine ⟨_, eff_storeA (n := 139) (s := 1000009) (size57.of ((hT.at _).len)) rfl rfl (NodT.one _) hBb9 rfl (by rw [(hT.at _).len]; rfl) (LT 1000311 rfl (LO 1000501 rfl (LW [0, 1, 5, 7, 8, 9] rfl))), ?_⟩
    refine TL (RN (QS ?_))
    rcases fit3 (ndAt T (tot n L + X)) L X with ha | ⟨ha, hb⟩ | ⟨ha, hb⟩
    ·refine GT (RS (ok_field field57_0 (by decide) rfl) ?_);refine RLV 1000009 U5 rfl rfl rfl ?_;refine RS (ok_conv U5 U3 rfl) ?_; refine RZ (nI ((ndAt T (tot n L + X)).l.toNat)) (congrArg (Value.int .i64) (wrap_i64 (by omega) (by have := (ndAt T (tot n L + X)).l.toNat_lt; omega))) ?_;refine RV 2 rfl ?_;refine RZ (.bool true) (by simp; omega) ?_;refine RV 7 rfl ?_;refine RZ (.bool true) (by rfl) ?_;refine RV 6 rfl ?_;refine RZ (.bool true) (by rfl) ?_;refine RN (A.sub (Sv [0, 1, 5, 7, 8, 9, 80, 1000009, 1000311, 1000501] rfl) ?_);refine A.yes rfl ?_;refine GV rfl (A.ret (End.ret_then (End.ret_block (End.ret_then (End.ret_then (End.ret_block (End.ret_block (End.ret_then (End.ret_then (End.ret_block (End.ret_then ?_)))))))))))
     first | exact End.ret1 rfl rfl (Le.v (congrArg (Value.int .i64) hres)) | exact End.ret1 rfl rfl (Le.v (congrArg (Value.int .i64) (err17 (by omega) hX hI.2 (fun h => ha h.1)).symm)) | exact End.ret1 rfl rfl (Le.v (congrArg (Value.int .i64) (err17 (by omega) hX hI.2 (fun h => hb h.2.1)).symm)) | exact End.ret1 rfl rfl (Le.v (congrArg (Value.int .i64) (err17 (by omega) hX hI.2 (fun h => hne h.2.2)).symm)) | exact End.ret1 rfl rfl (Le.v (congrArg (Value.int .i64) (err9 (by omega) hX hI.2 hf hL0 hw4 hk (bad_e heZ hz)).symm)) | exact End.ret1 rfl rfl (Le.v (congrArg (Value.int .i64) (err9 (by omega) hX hI.2 hf hL0 hw4 hk (bad_d heZ hs hd)).symm))
    ·refine GT (RS (ok_field field57_0 (by decide) rfl) ?_);refine RLV 1000009 U5 rfl rfl rfl ?_;refine RS (ok_conv U5 U3 rfl) ?_; refine RZ (nI ((ndAt T (tot n L + X)).l.toNat)) (congrArg (Value.int .i64) (wrap_i64 (by omega) (by have := (ndAt T (tot n L + X)).l.toNat_lt; omega))) ?_;refine RV 2 rfl ?_;refine RZ (.bool false) (by simp [ha]) ?_;refine RM rfl ?_;refine RQ (ok_field field57_1 (by decide) rfl) ?_;refine RQ (ok_loadV (s := 1000009) (by decide) U46 rfl rfl rfl (rfl)) ?_;refine RQ (ok_conv U46 U3 rfl) ?_; refine RZ (nI ((ndAt T (tot n L + X)).j)) (congrArg (Value.int .i64) (wrap_i64 (by omega) (by have := (hT.at (tot n L + X)).j; omega))) ?_;refine RV 2 rfl ?_;refine RZ (.bool true) (by simp; omega) ?_;refine RP rfl rfl ?_;refine RZ (.bool true) (by rfl) ?_;refine RV 6 rfl ?_;refine RZ (.bool true) (by rfl) ?_;refine RN (A.sub (Sv [0, 1, 5, 7, 8, 9, 80, 1000009, 1000311, 1000501] rfl) ?_);refine A.yes rfl ?_;refine GV rfl (A.ret (End.ret_then (End.ret_block (End.ret_then (End.ret_then (End.ret_block (End.ret_block (End.ret_then (End.ret_then (End.ret_block (End.ret_then ?_)))))))))))
     first | exact End.ret1 rfl rfl (Le.v (congrArg (Value.int .i64) hres)) | exact End.ret1 rfl rfl (Le.v (congrArg (Value.int .i64) (err17 (by omega) hX hI.2 (fun h => ha h.1)).symm)) | exact End.ret1 rfl rfl (Le.v (congrArg (Value.int .i64) (err17 (by omega) hX hI.2 (fun h => hb h.2.1)).symm)) | exact End.ret1 rfl rfl (Le.v (congrArg (Value.int .i64) (err17 (by omega) hX hI.2 (fun h => hne h.2.2)).symm)) | exact End.ret1 rfl rfl (Le.v (congrArg (Value.int .i64) (err9 (by omega) hX hI.2 hf hL0 hw4 hk (bad_e heZ hz)).symm)) | exact End.ret1 rfl rfl (Le.v (congrArg (Value.int .i64) (err9 (by omega) hX hI.2 hf hL0 hw4 hk (bad_d heZ hs hd)).symm))
    ·refine GT (RS (ok_field field57_0 (by decide) rfl) ?_);refine RLV 1000009 U5 rfl rfl rfl ?_;refine RS (ok_conv U5 U3 rfl) ?_; refine RZ (nI ((ndAt T (tot n L + X)).l.toNat)) (congrArg (Value.int .i64) (wrap_i64 (by omega) (by have := (ndAt T (tot n L + X)).l.toNat_lt; omega))) ?_;refine RV 2 rfl ?_;refine RZ (.bool false) (by simp [ha]) ?_;refine RM rfl ?_;refine RQ (ok_field field57_1 (by decide) rfl) ?_;refine RQ (ok_loadV (s := 1000009) (by decide) U46 rfl rfl rfl (rfl)) ?_;refine RQ (ok_conv U46 U3 rfl) ?_; refine RZ (nI ((ndAt T (tot n L + X)).j)) (congrArg (Value.int .i64) (wrap_i64 (by omega) (by have := (hT.at (tot n L + X)).j; omega))) ?_;refine RV 2 rfl ?_;refine RZ (.bool false) (by simp [hb]) ?_;refine RP rfl rfl ?_;refine RZ (.bool false) (by rfl) ?_;refine RV 2 rfl ?_;refine RQ (ok_loadA (s := 1000009) (by decide) U57 rfl (size57.of ((hT.at _).len)) rfl rfl) ?_;refine RQ (ok_call (rFits_fn n (ndAt T (tot n L + X)) (hT.at _)) (A2 rfl rfl)) ?_;refine RVN 2 rfl ?_;refine A.sub (Sv [0, 1, 5, 7, 8, 9, 80, 1000009, 1000311, 1000501] rfl) ?_;refine A.cond rfl (fun hc80 => ?_) (fun hc80 => ?_)
     ·have hne : ftN n (ndAt T (tot n L + X)) ≠ 0 := by simpa using hc80
      refine GV rfl (A.ret (End.ret_then (End.ret_block (End.ret_then (End.ret_then (End.ret_block (End.ret_block (End.ret_then (End.ret_then (End.ret_block (End.ret_then ?_)))))))))))
      first | exact End.ret1 rfl rfl (Le.v (congrArg (Value.int .i64) hres)) | exact End.ret1 rfl rfl (Le.v (congrArg (Value.int .i64) (err17 (by omega) hX hI.2 (fun h => ha h.1)).symm)) | exact End.ret1 rfl rfl (Le.v (congrArg (Value.int .i64) (err17 (by omega) hX hI.2 (fun h => hb h.2.1)).symm)) | exact End.ret1 rfl rfl (Le.v (congrArg (Value.int .i64) (err17 (by omega) hX hI.2 (fun h => hne h.2.2)).symm)) | exact End.ret1 rfl rfl (Le.v (congrArg (Value.int .i64) (err9 (by omega) hX hI.2 hf hL0 hw4 hk (bad_e heZ hz)).symm)) | exact End.ret1 rfl rfl (Le.v (congrArg (Value.int .i64) (err9 (by omega) hX hI.2 hf hL0 hw4 hk (bad_d heZ hs hd)).symm))
     ·have hfz : ftN n (ndAt T (tot n L + X)) = 0 := by simpa using hc80
      have hf : (ndAt T (tot n L + X)).l.toNat = L ∧ (ndAt T (tot n L + X)).j = X ∧ ftN n (ndAt T (tot n L + X)) = 0 := ⟨ha, hb, hfz⟩
      refine QK (GV rfl (A.block ?_));refine A.loop (ι := Nat) (fun w => w ≤ 4 ∧ ∀ v, v < w → 0 < L → badK n T (L - 1) (4 * X + v) ((ndAt T (tot n L + X)).e v) = false) (fun w => [(0, .v (nI (n))), (1, .v (.slice (some ad) T.length c)), (5, .v (.slice (some ⟨g11, 0, none⟩) n q)), (7, .v (nI (L))), (8, .v (nI (X))), (9, .v (ptr b9)), (10, .v (nI (w))), (1000009, blk b9 57 (ndAt T (tot n L + X)).v), (1000311, blk g11 51 (recsV (rcsL T n) ++ ys)), (1000501, old w₀.heap.size (memR (some ad) (nodsV T)))]) (fun w => 4 - w) 0 ?_ ?_ ?_
      ·exact ⟨Nat.zero_le _, fun k h => absurd h (Nat.not_lt_zero _)⟩
      ·exact (KC 0 rfl (KC 1 rfl (KC 5 rfl (KC 7 rfl (KC 8 rfl (KC 9 rfl (KE 10 rfl (by rfl) (KC 1000009 rfl (KC 1000311 rfl (KC 1000501 rfl KN))))))))))
      intro w hK
      refine QS ?_
      rcases wl3 w L with hp | ⟨hp, hq⟩ | ⟨hw4, hL0⟩
      ·refine GT (RV 2 rfl ?_);refine RZ (.bool false) (congrArg Value.bool (decide_eq_false (by omega))) ?_;refine RV 4 rfl ?_;refine RZ (.bool false) (by rfl) ?_;refine RV 11 rfl ?_;refine RZ (.bool false) (by rfl) ?_;refine RN (A.no rfl ?_);refine A.exit (End.exit_then (End.exit_then (End.exit_here (End.normal_block (EN (GTE (RV 2 rfl ?_)))))));refine RZ (nI (X + 1)) (wrap_eq (by omega) (by omega)) ?_;refine RVN 1 rfl ?_;refine End.normal_then ?_;refine End.again (X + 1) ?_ ?_ ?_
       ·exact ⟨by omega, fun k hk' => (Nat.lt_or_ge k (tot n L + X)).elim (hI.2 k) fun h => by rw [show k = tot n L + X from by omega]; first | exact errOk (by omega) hX hf hK.2 (.inl hp) | exact errOk (by omega) hX hf hK.2 (.inr (.inl hq)) | exact errOk (by omega) hX hf hK.2 (.inr (.inr hk))⟩
       ·show _ - _ < _ - _; omega
       ·exact (Sv [0, 1, 5, 7, 8, 1000311, 1000501] rfl)
      ·refine GT (RV 2 rfl ?_);refine RZ (.bool true) (congrArg Value.bool (decide_eq_true (by omega))) ?_;refine RV 3 rfl ?_;refine RZ (.bool false) (congrArg Value.bool (decide_eq_false (by omega))) ?_;refine RP rfl rfl ?_;refine RZ (.bool false) (by rfl) ?_;refine RV 11 rfl ?_;refine RZ (.bool false) (by rfl) ?_;refine RN (A.no rfl ?_);refine A.exit (End.exit_then (End.exit_then (End.exit_here (End.normal_block (EN (GTE (RV 2 rfl ?_)))))));refine RZ (nI (X + 1)) (wrap_eq (by omega) (by omega)) ?_;refine RVN 1 rfl ?_;refine End.normal_then ?_;refine End.again (X + 1) ?_ ?_ ?_
       ·exact ⟨by omega, fun k hk' => (Nat.lt_or_ge k (tot n L + X)).elim (hI.2 k) fun h => by rw [show k = tot n L + X from by omega]; first | exact errOk (by omega) hX hf hK.2 (.inl hp) | exact errOk (by omega) hX hf hK.2 (.inr (.inl hq)) | exact errOk (by omega) hX hf hK.2 (.inr (.inr hk))⟩
       ·show _ - _ < _ - _; omega
       ·exact (Sv [0, 1, 5, 7, 8, 1000311, 1000501] rfl)
      ·refine GT (RV 2 rfl ?_);refine RZ (.bool true) (congrArg Value.bool (decide_eq_true (by omega))) ?_;refine RV 3 rfl ?_;refine RZ (.bool true) (congrArg Value.bool (decide_eq_true (by omega))) ?_;refine RP rfl rfl ?_;refine RZ (.bool true) (by rfl) ?_;refine RV 3 rfl ?_;refine RZ (nI (4 * X)) (wrap_eq (by omega) (by omega)) ?_;refine RV 2 rfl ?_;refine RZ (nI (4 * X + w)) (wrap_eq (by omega) (by omega)) ?_;refine RV 3 rfl ?_;refine RZ (nI (L - 1)) (wrap_eq (by omega) (by omega)) ?_;refine RQ (ok_call (rCount_fn n h1 h2 (L - 1) (by omega)) (A2 rfl rfl)) ?_;refine RVN 2 rfl ?_;refine A.cond rfl (fun hc97 => ?_) (fun hc97 => ?_)
       ·have hk : 4 * X + w < un n (L - 1 + 1) := by simp at hc97; omega
        have hkl := numP_lt (n := n) (l := L - 1) (j := 4 * X + w) (by omega) hk
        have hkm : tot n (L - 1) + (4 * X + w) < T.length := by omega
        have hke := hI.2 (tot n (L - 1) + (4 * X + w)) (by have := tot_succ n (L - 1); rw [Nat.sub_add_cancel hL0] at this hk; omega)
        have hcl := (errA_fit ((errI_at (by omega) hk).symm.trans hke)).1
        have heZ := fit_eZ h1 h2 hf.2.2 (show (ndAt T (tot n L + X)).l.toNat ≠ 0 by rw [hf.1]; omega) hw4
        refine QK (QSB (GS (TN 4 (RM rfl ?_))));refine RS (ok_field field57_3 (by decide) rfl) ?_;refine RS (ok_indexN (w) U55 size54 rfl rfl (rfl) (hw4)) ?_;refine RS (ok_loadP (s := 1000009) (by decide) U54 rfl size54 rfl rfl (by rw [(hT.at _).len]; omega) (ent_part (hT.at _) hw4)) ?_;refine RN ?_;refine ZN 1000011 zero54 fun b11 ⟨hBb11, hb11⟩ => ?_
        refine TF 5 (RN ?_);refine ⟨_, eff_storeA (n := 139) (s := 1000011) (size54.of (((hT.at _).e _).len)) rfl rfl (EntT.one _) hBb11 rfl (by rw [((hT.at _).e _).len]; rfl) (LT 1000009 rfl (LT 1000311 rfl (LO 1000501 rfl (LW [0, 1, 5, 7, 8, 9, 10, 11] rfl)))), ?_⟩
        refine TL (RN (GS (TN 11 (RV 4 rfl ?_))));refine RZ (nI (L - 1)) (wrap_eq (by omega) (by omega)) ?_;refine RV 2 rfl ?_;refine RZ (nI (4 * X)) (wrap_eq (by omega) (by omega)) ?_;refine RV 2 rfl ?_;refine RZ (nI (4 * X + w)) (wrap_eq (by omega) (by omega)) ?_;refine RS (ok_call (rNumber_fn n h1 h2 (L - 1) (4 * X + w) (by omega) (by omega)) (A3 rfl rfl rfl)) ?_;refine RS (ok_indexR (s := 1000501) (tot n (L - 1) + (4 * X + w)) U30 infoN rfl rfl (by decide) rfl hkm (by rw [nods_len hT]; omega)) ?_;refine RS (ok_loadElemT 274 U57 rfl size57 (by rw [nods_at hT hkm, (hT.at _).len]; exact Nat.le_refl _) rfl) ?_; refine RZ (aggV (ndAt T (tot n (L - 1) + (4 * X + w))).v) (congrArg aggV (by rw [nods_at hT hkm]; exact List.take_of_length_le (Nat.le_of_eq (hT.at _).len))) ?_;refine RN ?_;refine ZN 1000012 zero57 fun b12 ⟨hBb12, hb12⟩ => ?_
        have hlt_b9_b12 := hb12 1000009 b9 _ _ rfl
        refine TF 12 (RN ?_);refine ⟨_, eff_storeA (n := 139) (s := 1000012) (size57.of ((hT.at _).len)) rfl rfl (NodT.one _) hBb12 rfl (by rw [(hT.at _).len]; rfl) (LB 1000009 rfl (LT 1000011 rfl (LT 1000311 rfl (LO 1000501 rfl (LW [0, 1, 5, 7, 8, 9, 10, 11, 12] rfl))))), ?_⟩
        refine TL (RN (A.sub (Sv [0, 1, 5, 7, 8, 9, 10, 11, 12, 1000009, 1000011, 1000012, 1000311, 1000501] rfl) ?_));refine A.blkRow (k := 1000311) (k' := 1000801) (ys := ys) rfl ?_
        rcases em3 (emT n T (L - 1) (4 * X + w)) ((ndAt T (tot n L + X)).e w).x.toNat with hz | ⟨hz, hs⟩ | ⟨hz, hs⟩
        ·refine A.blkRow (k := 1000311) (k' := 1000801) (ys := ys) rfl ?_;refine GTD (RV 3 rfl ?_);refine RZ (nI (L - 1)) (wrap_eq (by omega) (by omega)) ?_;refine RV 2 rfl ?_;refine RZ (nI (4 * X)) (wrap_eq (by omega) (by omega)) ?_;refine RV 2 rfl ?_;refine RZ (nI (4 * X + w)) (wrap_eq (by omega) (by omega)) ?_;refine RS (ok_callMK (rEmpty_n n h1 h2 (rcsL T n) (rcsL_len T n) (rcsL_fit hT n) ⟨g11, 0, none⟩ q (L - 1) (4 * X + w) (by omega)) (SubK.cons (k := 1000801) (by decide) rfl (Le.refl _) SubK.nil) (A3 rfl rfl rfl)) ?_; refine RZ (.bool (emT n T (L - 1) (4 * X + w))) (congrArg Value.bool (em_ref h1 h2 hL0 hI.2 hk)) ?_;refine RS (ok_field field54_0 (by decide) rfl) ?_;refine RLV 1000011 U5 rfl rfl rfl ?_;refine RB rfl rfl rfl ?_;refine RZ (.bool (decide (((ndAt T (tot n L + X)).e w).x.toNat = 0))) (congrArg Value.bool (decide_eq_decide.2 (by omega))) ?_;refine RS (ok_neBoolS U4 rfl rfl) ?_; refine RZ (.bool true) (congrArg Value.bool (by simpa using hz)) ?_;refine RV 5 rfl ?_;refine RunK.skippedU rfl rfl rfl rfl ?_;refine RunK.skippedU rfl rfl rfl rfl ?_;refine RunK.skippedU rfl rfl rfl rfl ?_;refine RunK.skippedU rfl rfl rfl rfl ?_;refine RunK.skippedU rfl rfl rfl rfl ?_;refine RV 2 rfl ?_;refine RZ (.bool true) (by rfl) ?_;refine RN (A.yes rfl ?_);refine GV rfl (A.sub (Sv [4, 1000009, 1000011, 1000012, 1000311, 1000501, 1000801] rfl) ?_);refine A.ret (End.ret_block (End.ret_then (End.ret_then (End.ret_block (End.ret_block (End.ret_then (End.ret_then (End.ret_block (End.ret_block (End.ret_then (End.ret_then ?_)))))))))));refine End.ret_block (End.ret_then ?_)
         first | exact End.ret1 rfl rfl (Le.v (congrArg (Value.int .i64) hres)) | exact End.ret1 rfl rfl (Le.v (congrArg (Value.int .i64) (err17 (by omega) hX hI.2 (fun h => ha h.1)).symm)) | exact End.ret1 rfl rfl (Le.v (congrArg (Value.int .i64) (err17 (by omega) hX hI.2 (fun h => hb h.2.1)).symm)) | exact End.ret1 rfl rfl (Le.v (congrArg (Value.int .i64) (err17 (by omega) hX hI.2 (fun h => hne h.2.2)).symm)) | exact End.ret1 rfl rfl (Le.v (congrArg (Value.int .i64) (err9 (by omega) hX hI.2 hf hL0 hw4 hk (bad_e heZ hz)).symm)) | exact End.ret1 rfl rfl (Le.v (congrArg (Value.int .i64) (err9 (by omega) hX hI.2 hf hL0 hw4 hk (bad_d heZ hs hd)).symm))
        ·refine A.blkRow (k := 1000311) (k' := 1000801) (ys := ys) rfl ?_;refine GTD (RV 3 rfl ?_);refine RZ (nI (L - 1)) (wrap_eq (by omega) (by omega)) ?_;refine RV 2 rfl ?_;refine RZ (nI (4 * X)) (wrap_eq (by omega) (by omega)) ?_;refine RV 2 rfl ?_;refine RZ (nI (4 * X + w)) (wrap_eq (by omega) (by omega)) ?_;refine RS (ok_callMK (rEmpty_n n h1 h2 (rcsL T n) (rcsL_len T n) (rcsL_fit hT n) ⟨g11, 0, none⟩ q (L - 1) (4 * X + w) (by omega)) (SubK.cons (k := 1000801) (by decide) rfl (Le.refl _) SubK.nil) (A3 rfl rfl rfl)) ?_; refine RZ (.bool (emT n T (L - 1) (4 * X + w))) (congrArg Value.bool (em_ref h1 h2 hL0 hI.2 hk)) ?_;refine RS (ok_field field54_0 (by decide) rfl) ?_;refine RLV 1000011 U5 rfl rfl rfl ?_;refine RB rfl rfl rfl ?_;refine RZ (.bool (decide (((ndAt T (tot n L + X)).e w).x.toNat = 0))) (congrArg Value.bool (decide_eq_decide.2 (by omega))) ?_;refine RS (ok_neBoolS U4 rfl rfl) ?_; refine RZ (.bool false) (congrArg Value.bool (by simp [hz])) ?_;refine RM rfl ?_;refine RQ (ok_field field54_0 (by decide) rfl) ?_;refine RQ (ok_loadV (s := 1000011) (by decide) U5 rfl rfl rfl (rfl)) ?_;refine RQ (ok_bin rfl rfl rfl) ?_;refine RZ (.bool false) (congrArg Value.bool (by simp; omega)) ?_;refine RV 7 rfl ?_;refine RZ (.bool false) (by rfl) ?_;refine RP rfl rfl ?_;refine RZ (.bool false) (by rfl) ?_;refine RN (A.no rfl ?_);refine A.skip (End.normal_block (EN (GTE (RV 2 rfl ?_))));refine RZ (nI (w + 1)) (wrap_eq (by omega) (by omega)) ?_;refine RVN 1 rfl ?_;refine End.sub (Sv [0, 1, 5, 7, 8, 9, 10, 1000009, 1000011, 1000012, 1000311, 1000501, 1000801] rfl) ?_;refine End.normal_then ?_;refine End.again (w + 1) ?_ ?_ ?_
         ·exact ⟨by omega, fun v hv h0 => (Nat.lt_or_ge v w).elim (fun h => hK.2 v h h0) fun h => by rw [show v = w from by omega]; first | exact bad_no heZ hz (.inl hs) | exact bad_no heZ hz (.inr hd)⟩
         ·show _ - _ < _ - _; omega
         ·exact (Sv [0, 1, 5, 7, 8, 9, 10, 1000009, 1000311, 1000501] rfl)
        ·refine A.blkRow (k := 1000311) (k' := 1000801) (ys := ys) rfl ?_;refine GTD (RV 3 rfl ?_);refine RZ (nI (L - 1)) (wrap_eq (by omega) (by omega)) ?_;refine RV 2 rfl ?_;refine RZ (nI (4 * X)) (wrap_eq (by omega) (by omega)) ?_;refine RV 2 rfl ?_;refine RZ (nI (4 * X + w)) (wrap_eq (by omega) (by omega)) ?_;refine RS (ok_callMK (rEmpty_n n h1 h2 (rcsL T n) (rcsL_len T n) (rcsL_fit hT n) ⟨g11, 0, none⟩ q (L - 1) (4 * X + w) (by omega)) (SubK.cons (k := 1000801) (by decide) rfl (Le.refl _) SubK.nil) (A3 rfl rfl rfl)) ?_; refine RZ (.bool (emT n T (L - 1) (4 * X + w))) (congrArg Value.bool (em_ref h1 h2 hL0 hI.2 hk)) ?_;refine RS (ok_field field54_0 (by decide) rfl) ?_;refine RLV 1000011 U5 rfl rfl rfl ?_;refine RB rfl rfl rfl ?_;refine RZ (.bool (decide (((ndAt T (tot n L + X)).e w).x.toNat = 0))) (congrArg Value.bool (decide_eq_decide.2 (by omega))) ?_;refine RS (ok_neBoolS U4 rfl rfl) ?_; refine RZ (.bool false) (congrArg Value.bool (by simp [hz])) ?_;refine RM rfl ?_;refine RQ (ok_field field54_0 (by decide) rfl) ?_;refine RQ (ok_loadV (s := 1000011) (by decide) U5 rfl rfl rfl (rfl)) ?_;refine RQ (ok_bin rfl rfl rfl) ?_;refine RZ (.bool true) (congrArg Value.bool (by simp; omega)) ?_;refine RQ (ok_move rfl) ?_;refine RQ (ok_field field54_1 (by decide) rfl) ?_;refine RQ (ok_loadP (s := 1000011) (by decide) U40 rfl size40 rfl rfl (by rw [((hT.at _).e _).len]; decide) (ent_t ((hT.at _).e _))) ?_;refine RQ (ok_loadA (s := 1000012) (by decide) U57 rfl (size57.of ((hT.at _).len)) rfl rfl) ?_;refine RQ (ok_call (rDigest_fn (ndAt T (tot n (L - 1) + (4 * X + w))) (hT.at _) (by rw [hcl]; omega)) (A1 rfl)) ?_;refine RQ (ok_neqT (n := 4) (decide (((ndAt T (tot n L + X)).e w).t = sha (ndAt T (tot n (L - 1) + (4 * X + w))).bl)) flat40r (by decide) (by kernel_rfl) (by kernel_rfl) rfl rfl (kinB ((hT.at _).e _).t) (kinB (sha_length _)) (by rw [decide_eq_true_iff]; exact ⟨fun h => congrArg _ h, fun h => bytes_inj h⟩)) ?_;refine RVN 2 rfl ?_;refine A.cond rfl (fun hc138 => ?_) (fun hc138 => ?_)
         ·have hd : ((ndAt T (tot n L + X)).e w).t ≠ sha (ndAt T (tot n (L - 1) + (4 * X + w))).bl := by simpa using hc138
          refine GV rfl (A.sub (Sv [4, 1000009, 1000011, 1000012, 1000311, 1000501, 1000801] rfl) ?_);refine A.ret (End.ret_block (End.ret_then (End.ret_then (End.ret_block (End.ret_block (End.ret_then (End.ret_then (End.ret_block (End.ret_block (End.ret_then (End.ret_then ?_)))))))))));refine End.ret_block (End.ret_then ?_)
          first | exact End.ret1 rfl rfl (Le.v (congrArg (Value.int .i64) hres)) | exact End.ret1 rfl rfl (Le.v (congrArg (Value.int .i64) (err17 (by omega) hX hI.2 (fun h => ha h.1)).symm)) | exact End.ret1 rfl rfl (Le.v (congrArg (Value.int .i64) (err17 (by omega) hX hI.2 (fun h => hb h.2.1)).symm)) | exact End.ret1 rfl rfl (Le.v (congrArg (Value.int .i64) (err17 (by omega) hX hI.2 (fun h => hne h.2.2)).symm)) | exact End.ret1 rfl rfl (Le.v (congrArg (Value.int .i64) (err9 (by omega) hX hI.2 hf hL0 hw4 hk (bad_e heZ hz)).symm)) | exact End.ret1 rfl rfl (Le.v (congrArg (Value.int .i64) (err9 (by omega) hX hI.2 hf hL0 hw4 hk (bad_d heZ hs hd)).symm))
         ·have hd : ((ndAt T (tot n L + X)).e w).t = sha (ndAt T (tot n (L - 1) + (4 * X + w))).bl := by simpa using hc138
          refine A.skip (End.normal_block (EN (GTE (RV 2 rfl ?_))));refine RZ (nI (w + 1)) (wrap_eq (by omega) (by omega)) ?_;refine RVN 1 rfl ?_;refine End.sub (Sv [0, 1, 5, 7, 8, 9, 10, 1000009, 1000011, 1000012, 1000311, 1000501, 1000801] rfl) ?_;refine End.normal_then ?_;refine End.again (w + 1) ?_ ?_ ?_
          ·exact ⟨by omega, fun v hv h0 => (Nat.lt_or_ge v w).elim (fun h => hK.2 v h h0) fun h => by rw [show v = w from by omega]; first | exact bad_no heZ hz (.inl hs) | exact bad_no heZ hz (.inr hd)⟩
          ·show _ - _ < _ - _; omega
          ·exact (Sv [0, 1, 5, 7, 8, 9, 10, 1000009, 1000311, 1000501] rfl)
       ·have hk : ¬ 4 * X + w < un n (L - 1 + 1) := by simp at hc97; omega
        refine A.exit (End.exit_then (End.exit_then (End.exit_here (End.normal_block (EN (GTE (RV 2 rfl ?_)))))));refine RZ (nI (X + 1)) (wrap_eq (by omega) (by omega)) ?_;refine RVN 1 rfl ?_;refine End.normal_then ?_;refine End.again (X + 1) ?_ ?_ ?_
        ·exact ⟨by omega, fun k hk' => (Nat.lt_or_ge k (tot n L + X)).elim (hI.2 k) fun h => by rw [show k = tot n L + X from by omega]; first | exact errOk (by omega) hX hf hK.2 (.inl hp) | exact errOk (by omega) hX hf hK.2 (.inr (.inl hq)) | exact errOk (by omega) hX hf hK.2 (.inr (.inr hk))⟩
        ·show _ - _ < _ - _; omega
        ·exact (Sv [0, 1, 5, 7, 8, 1000311, 1000501] rfl)
   ·have hX2 : X = un n (L + 1) := by have := hI.1; simp at hc53; omega
    refine A.exit (End.exit_then (End.exit_then (End.exit_here (End.normal_block (EN (GTE (RV 2 rfl ?_)))))));refine RZ (nI (L + 1)) (wrap_eq (by omega) (by omega)) ?_;refine RVN 1 rfl ?_;refine End.normal_then ?_;refine End.again (L + 1) ?_ ?_ ?_
    ·exact ⟨by omega, fun k hk => hI.2 k (by rw [tot_succ] at hk; omega)⟩
    ·show _ - _ < _ - _; omega
    ·exact (Sv [0, 1, 5, 7, 1000311, 1000501] rfl)
  ·have hL2 : L = hg n + 1 := by have := hG.1; simp at hc46; omega
   have hres : (0 : Int) = fstN (errI n T) (tot n (hg n + 1)) := (fstN_zero.2 fun k hk => hG.2 k (by rw [hL2]; exact hk)).symm
   refine A.exit (End.exit_then (End.exit_then (End.exit_here (EN (GV rfl (A.ret ?_))))))
   first | exact End.ret1 rfl rfl (Le.v (congrArg (Value.int .i64) hres)) | exact End.ret1 rfl rfl (Le.v (congrArg (Value.int .i64) (err17 (by omega) hX hI.2 (fun h => ha h.1)).symm)) | exact End.ret1 rfl rfl (Le.v (congrArg (Value.int .i64) (err17 (by omega) hX hI.2 (fun h => hb h.2.1)).symm)) | exact End.ret1 rfl rfl (Le.v (congrArg (Value.int .i64) (err17 (by omega) hX hI.2 (fun h => hne h.2.2)).symm)) | exact End.ret1 rfl rfl (Le.v (congrArg (Value.int .i64) (err9 (by omega) hX hI.2 hf hL0 hw4 hk (bad_e heZ hz)).symm)) | exact End.ret1 rfl rfl (Le.v (congrArg (Value.int .i64) (err9 (by omega) hX hI.2 hf hL0 hw4 hk (bad_d heZ hs hd)).symm))
theorem rCheck16_fn (n : Int) (A₀ : Option Addr) (T : List NodT) (hT : FitT T) (c : Nat) : FnM Tryz.prog 21 (trO A₀ T) [.v (.int .i64 (n)), .v (.slice A₀ T.length c)] (.v (.int .i64 (chkT n T))) := by
 by_cases hn : 1 ≤ n ∧ n ≤ 4096
 ·obtain ⟨k, rfl⟩ : ∃ k : Nat, n = k := ⟨n.toNat, by omega⟩
  have h1 : 1 ≤ k := by omega
  have h2 : k ≤ 4096 := by omega
  by_cases hl : T.length = tot k (hg k + 1)
  ·rw [chk_ok h1 h2 hl]
   exact FnM.addr (M := []) (ds := fun a => [.v (.int .i64 (k : Int)), .v (.slice a T.length c)]) (rChk_lo 0 (by decide) none [] FitT.nil 0).body hT (by have := tot_pos h1; omega) fun ad => rChk_ok k h1 h2 ad T hT c hl
  ·rw [chk_len h1 h2 hl]; exact rChk_len k h1 h2 A₀ T hT c hl
 ·rw [chk_bad hn]
  by_cases h : n < 1
  ·exact rChk_lo n h A₀ T hT c
  ·exact rChk_hi n (by omega) A₀ T hT c
end
structure VarN where
 a : Nat
 t : Nat
 T : TypeId
 zs : List Value
 s : Nat
 ys : List Value
section
set_option maxRecDepth 20000
set_option linter.unusedSimpArgs false
end
section
variable {κ : Cx}
theorem Le.blkR {b : Nat} {e : TypeId} {xs ys : List Value} : Le (blk b e (xs ++ ys)) (memR (some ⟨b, 0, none⟩) xs) := fun B w _ h j u hu => by
 obtain ⟨h1, h2⟩ := h
 refine ⟨_, rfl, h1, ?_⟩
 rw [show (⟨b, 0, none⟩ : Addr).add j = ⟨b, j, none⟩ from by unfold Addr.add; split <;> simp_all]
 simp only [World.cell?, h2]
 have : (xs ++ ys)[j]? = some u := by rw [List.getElem?_append_left (List.getElem?_eq_some_iff.1 hu).1]; exact hu
 simpa using this
theorem Le.blkR0 {b : Nat} {e : TypeId} {xs : List Value} : Le (blk b e xs) (memR (some ⟨b, 0, none⟩) xs) := by
 have h := Le.blkR (b := b) (e := e) (xs := xs) (ys := [])
 rwa [List.append_nil] at h
def newQ (base : Nat) (e : TypeId) (val : Nat → Nat → Value) (m : Nat) (xs : List Value) : D :=
 .p (fun B w x => ∃ b q ys, x = val b q ∧ m ≤ q ∧ base ≤ b ∧ b < B ∧ w.heap[b]? = some (.cells (xs ++ ys).toArray e (0, 0)))
  (fun _ _ _ _ g ⟨b, q, ys, h1, hm, h2, h3, h4⟩ => ⟨b, q, ys, h1, hm, h2, h3, (g.block b h3).trans h4⟩) (fun _ _ _ _ g ⟨b, q, ys, h1, hm, h2, h3, h4⟩ => ⟨b, q, ys, h1, hm, h2, by omega, h4⟩)
theorem newQ_mono {e : TypeId} {val : Nat → Nat → Value} {m : Nat} {xs : List Value} (B B' : Nat) (h : B ≤ B') : Le (newQ B' e val m xs) (newQ B e val m xs) := fun _ _ _ ⟨b, q, ys, h1, hm, h2, h3⟩ => ⟨b, q, ys, h1, hm, by omega, h3⟩
section
variable {P : Program} {n B : Nat} {ops : Array Oper} {E : Env}
def NewQ (B m : Nat) (E : Env) (x : Nat × Nat × List Value) : Prop := B ≤ x.1 ∧ m ≤ x.2.1 ∧ ∀ s b' e xs, E.look s = some (blk b' e xs) → b' < x.1
theorem eff_nameQ {o : Oper} {d k m : Nat} {e : TypeId} {val : Nat → Nat → Value} {xs : List Value} (ht : o.dst = some d) (hg : o.guard = none) (hok : ∀ B', OpOk P B' o E (newQ B' e val m xs)) (hdn : d < n) (hnv : n ≤ vbase) :
  EffG P n B ops o E (NewQ B m E) (fun x => (d, .v (val x.1 x.2.1)) :: (k, blk x.1 e (xs ++ x.2.2)) :: E) := by
 intro κ a w K Q h hK
 rw [if_pos (by simp [Region.wanted, hg])]
 refine wp_of_out ht ((hok w.heap.size a.eval w (Nat.le_refl _) (h.virt hnv) fun x _ u hu => h.at_ x _ hu).mono ?_)
 rintro x w' ⟨hgr, b, q, ys, rfl, hm, hb, hlt, hh⟩
 refine hK (b, q, ys) _ _ ⟨Nat.le_trans h.base hb, hm, fun s b' e ys hs => Nat.lt_of_lt_of_le (h.of s _ hs).1 hb⟩ (Below.mono hgr h.base) (St.put ?_ hdn rfl)
 exact (h.grow hgr).push (t := k) (d := blk b e (xs ++ ys)) ⟨hlt, hh⟩
theorem ownP_newQ {base sz m : Nat} {e : TypeId} {xs : List Value} (hx : 0 < xs.length) : Le (ownP base e sz m xs) (newQ base e (fun b q => .slice (some ⟨b, 0, none⟩) m q) m xs) := fun B w x h0 => by
 obtain ⟨⟨hl, h2⟩, hlt⟩ := h0
 rcases h2 with ⟨rfl, rfl⟩ | ⟨b, cap, cur, rfl, hb, hh, hnc, h5, h6⟩
 ·omega
 ·have hcur : xs ++ cur.toList.drop xs.length = cur.toList := by
   have : cur.toList.take xs.length = xs := by
    first | exact h6 | (rw [hl]; exact h6) | (obtain ⟨h6, h7⟩ := h6; first | exact h6 | exact h7 | (rw [hl]; exact h6) | (rw [hl]; exact h7)) | skip
   conv => rhs; rw [← List.take_append_drop xs.length cur.toList, this]
  exact ⟨b, cap, cur.toList.drop xs.length, rfl, hnc, hb, hlt b (by simp [Value.ownBlock]), by rw [hcur]; exact hh⟩
theorem eff_nameOP {o : Oper} {d k m sz : Nat} {e : TypeId} {xs : List Value} (hx : 0 < xs.length) (ht : o.dst = some d) (hg : o.guard = none) (hok : ∀ B', OpOk P B' o E (ownP B' e sz m xs)) (hdn : d < n) (hnv : n ≤ vbase) :
  EffG P n B ops o E (NewQ B m E) (fun x => (d, .v (.slice (some ⟨x.1, 0, none⟩) m x.2.1)) :: (k, blk x.1 e (xs ++ x.2.2)) :: E) :=
 eff_nameQ (val := fun b q => .slice (some ⟨b, 0, none⟩) m q) ht hg (fun B' ρ w hB hv hρ => (hok B' ρ w hB hv hρ).mono fun _ _ h => ⟨h.1, ownP_newQ hx _ _ _ h.2⟩) hdn hnv
end
section
variable {P : Program} {n : Nat} {E : Env} {w₀ : World} {c : Code} {Q : Exit → Act → World → Prop}
theorem End.cellQ {fn : Func} {r s b g q m kg : Nat} {T e' e : TypeId} {td : TypeDesc} {ys xs zs : List Value} {val : Nat → Nat → Value} (hr : fn.results = #[.cell r T]) (ht : P.underlying T = some td) (hp : (match td with | .struct _ | .array _ _ => true | _ => false) = true) (hsz : SizeIs P T ys.length)
  (h1 : E.look r = some (.v (.pointer (some ⟨b, 0, none⟩)))) (h2 : E.look s = some (blk b e' ys)) (h4 : E.look kg = some (blk g e (xs ++ zs))) (hg : w₀.heap.size ≤ g) (hm : m ≤ q) (hv : val g q = aggV ys) : End Cx.top w₀ n E (BP P fn (PostOf w₀ (newQ w₀.heap.size e val m xs)) .ret) := fun a w gr hs => by
 have h3 : a.tmps[r]?.getD undef = .pointer (some ⟨b, 0, none⟩) := by rw [← Array.getD_eq_getD_getElem?]; exact hs.of r _ h1
 obtain ⟨_, hh⟩ := hs.of s _ h2
 obtain ⟨hl, hh'⟩ := hs.of kg _ h4
 have k1 := load_cell (P := P) ht hp hsz hh
 exact BP.ret hs.defers ⟨aggV ys, by simp [results, hr, h3, asAddr, k1], _, rfl, gr, g, q, zs, hv.symm, hm, hg, hl, hh'⟩
end
abbrev P2 := UInt8 × UInt8
def p2V (x : P2) : List Value := [byteV x.1, byteV x.2]
def p2R (q : List P2) : List Value := q.flatMap p2V
theorem p2_lens (q : List P2) : ∀ x ∈ q, (p2V x).length = 2 := fun _ _ => rfl
theorem p2R_len (q : List P2) : (p2R q).length = q.length * 2 := flat_length (p2_lens q)
def p2At (q : List P2) (i : Nat) : P2 := q.getD i (0, 0)
theorem p2R_at {q : List P2} {i : Nat} (hi : i < q.length) : ((p2R q).drop (i * 2)).take 2 = p2V (p2At q i) := flat_getD (p2_lens q) hi _
def mD (k : UInt8) (q : List P2) (S : List UInt8) : D :=
 .p (fun B w x => ∃ A₁ c₁ A₂ c₂, x = aggV [byteV k, .slice A₁ q.length c₁, .slice A₂ S.length c₂] ∧ RowIn B w A₁ (p2R q) ∧ RowIn B w A₂ (S.map byteV)) (fun _ _ _ _ g ⟨A₁, c₁, A₂, c₂, h1, h2, h3⟩ => ⟨A₁, c₁, A₂, c₂, h1, h2.keep g, h3.keep g⟩) (fun _ _ _ _ g ⟨A₁, c₁, A₂, c₂, h1, h2, h3⟩ => ⟨A₁, c₁, A₂, c₂, h1, h2.up g, h3.up g⟩)
theorem A.openM {P : Program} {n : Nat} {E : Env} {w₀ : World} {c : Code} {Q : Exit → Act → World → Prop} {t k₁ k₂ B' : Nat} {k : UInt8} {q : List P2} {S : List UInt8} (ht : E.look t = some (old B' (mD k q S)))
  (h : ∀ (A₁ : Option Addr) (c₁ : Nat) (A₂ : Option Addr) (c₂ : Nat), A κ P w₀ n c ((t, .v (aggV [byteV k, .slice A₁ q.length c₁, .slice A₂ S.length c₂])) :: (k₁, old B' (memR A₁ (p2R q))) :: (k₂, old B' (memR A₂ (S.map byteV))) :: E) Q) : A κ P w₀ n c E Q := fun a w g hs => by
 obtain ⟨hB, A₁, c₁, A₂, c₂, h1, h2, h3⟩ := hs.of t _ ht
 exact h A₁ c₁ A₂ c₂ a w g (((hs.push (t := k₂) (d := old B' (memR A₂ (S.map byteV))) ⟨hB, h3⟩).push (t := k₁) (d := old B' (memR A₁ (p2R q))) ⟨hB, h2⟩).push (t := t) (d := .v (aggV [byteV k, .slice A₁ q.length c₁, .slice A₂ S.length c₂])) h1)
end
section
set_option maxRecDepth 20000
set_option linter.unusedSimpArgs false
theorem infoPW : InfoP Tryz.prog 95 (.agg #[.int .u8 0, .int .u8 0]) 2 2 := by unfold InfoP; kernel_rfl
theorem infoPB : InfoP Tryz.prog 5 (.int .u8 0) 1 1 := by unfold InfoP; kernel_rfl
def mN (k : UInt8) : Nat := 1 + k.toNat % 24
theorem mN1 (k : UInt8) : 1 ≤ mN k := Nat.le_add_right _ _
theorem mN2 (k : UInt8) : mN k ≤ 24 := by unfold mN; omega
def mAt (q : List P2) (i : Nat) : RecT := if i < q.length then recOf (p2At q i).1 (p2At q i).2 else RecT.zero
def mP (q : List P2) (i : Nat) : List RecT := (List.range i).map (mAt q)
abbrev mR (k : UInt8) (q : List P2) : List RecT := mP q (mN k)
theorem mAt_fit (q : List P2) (i : Nat) : (mAt q i).Fit := by
 unfold mAt; split
 ·exact recOf_fit _ _
 ·exact RecT.zero_fit
theorem mP_len (q : List P2) (i : Nat) : (mP q i).length = i := by simp [mP]
theorem mP_fit (q : List P2) (i : Nat) : FitR (mP q i) := fun r hr => by
 obtain ⟨j, _, rfl⟩ := List.mem_map.1 hr
 exact mAt_fit q j
theorem mP_row (q : List P2) (i : Nat) : recsV (mP q i) ++ (mAt q i).v = recsV (mP q (i + 1)) := by
 unfold mP recsV; rw [List.range_succ, List.map_append, List.flatMap_append]; simp
theorem mP_start (q : List P2) {B : Nat} {e : TypeId} : Le (.v (.slice none 0 0)) (ownP B e 35 0 (recsV (mP q 0))) := ownP_nil
def msAt (S : List UInt8) (i : Nat) : Nat := if i < S.length then (S.getD i 0).toNat % 2 else 0
def mSP (S : List UInt8) (i : Nat) : List Nat := (List.range i).map (msAt S)
abbrev mS (k : UInt8) (S : List UInt8) : List Nat := mSP S (tot (mN k) (hg (mN k) + 1))
theorem mSP_len (S : List UInt8) (i : Nat) : (mSP S i).length = i := by simp [mSP]
theorem mSP_ok (S : List UInt8) (i : Nat) : OkS (mSP S i) := fun s hs => by
 obtain ⟨j, _, rfl⟩ := List.mem_map.1 hs
 unfold msAt; split <;> omega
theorem mSP_row (S : List UInt8) (i : Nat) : slotV (mSP S i) ++ [nI (msAt S i)] = slotV (mSP S (i + 1)) := by
 unfold mSP slotV; rw [List.range_succ, List.map_append, List.map_append]; rfl
theorem mSP_start (S : List UInt8) {B : Nat} {e : TypeId} : Le (.v (.slice none 0 0)) (ownP B e 1 0 (slotV (mSP S 0))) := ownP_nil
theorem slb_at {S : List UInt8} {i : Nat} (h : i < S.length) : ((S.map byteV).drop (i * 1)).take 1 = [byteV (S.getD i 0)] := by
 rw [Nat.mul_one, ← List.map_drop, ← List.map_take, List.drop_eq_getElem_cons h, List.getD_eq_getElem?_getD, List.getElem?_eq_getElem h]; rfl
abbrev mM (A₁ : Option Addr) (q : List P2) (A₂ : Option Addr) (S : List UInt8) : Env := [(1000721, memR A₁ (p2R q)), (1000722, memR A₂ (S.map byteV))]
theorem size25 : SizeIs Tryz.prog 25 3 := by unfold SizeIs; kernel_rfl
theorem field25_0 : FieldIs Tryz.prog 25 0 0 1 := by unfold FieldIs; kernel_rfl
theorem field25_1 : FieldIs Tryz.prog 25 1 1 1 := by unfold FieldIs; kernel_rfl
theorem field25_2 : FieldIs Tryz.prog 25 2 2 1 := by unfold FieldIs; kernel_rfl
theorem bl24_fn (k : UInt8)  : Fn Tryz.prog 38 [.v (byteV k)] (.v (nI (mN k))) := by
 refine FV Tryz.func38 rfl Tryz.ntmps38 rfl fun w₀ => ?_
 refine GV rfl (GT (RM rfl ?_));refine RS (ok_conv U5 U3 rfl) ?_; refine RZ (nI (k.toNat)) (congrArg (Value.int .i64) (wrap_i64 (by omega) (by have := k.toNat_lt; omega))) ?_;refine RS (ok_rem rfl rfl (by decide)) ?_; refine RZ (nI (k.toNat % 24)) (by first | rfl | (rw [tmod_lit _ (by decide)]; rfl)) ?_;refine RB rfl rfl rfl ?_;refine RZ (nI (mN k)) (congrArg (Value.int .i64) (by show IntKind.i64.wrap (1 + ((k.toNat % 24 : Nat) : Int)) = ((1 + k.toNat % 24 : Nat) : Int); rw [wrap_i64 (by omega) (by omega)]; omega)) ?_;refine RVN 1 rfl ?_;refine A.ret ?_;exact ER rfl rfl
set_option maxHeartbeats 4000000 in
theorem MOf_fnB (k : UInt8) (q : List P2) (S : List UInt8) (A₁ A₂ : Option Addr) (c₁ c₂ : Nat)  : FnMB Tryz.prog 11 (mM A₁ q A₂ S) [.v (aggV [byteV k, .slice A₁ q.length c₁, .slice A₂ S.length c₂])] (fun B => tup [ownP B 51 35 (mN k) (recsV (mR k q)), ownP B 3 1 (tot (mN k) (hg (mN k) + 1)) (slotV (mS k S))]) := by
 refine FnMB.ofO Tryz.func11 rfl (by kernel_rfl) Tryz.ntmps11 (by simp) (by decide) (fun w => [(0, .v (aggV [byteV k, .slice A₁ q.length c₁, .slice A₂ S.length c₂])), (1000721, old w.heap.size (memR A₁ (p2R q))), (1000722, old w.heap.size (memR A₂ (S.map byteV)))]) (fun w => (StartMO.v rfl (StartMO.mo (by simp [mM]) (by decide) (StartMO.mo (by simp [mM]) (by decide) StartMO.nil)))) fun w₀ hM => ?_
 skip
 obtain ⟨n, hn⟩ : ∃ n, n = mN k := ⟨_, rfl⟩
 have h1 : 1 ≤ n := hn ▸ mN1 k
 have h24 : n ≤ 24 := hn ▸ mN2 k
 have h2 : n ≤ 4096 := by omega
 unfold mR mS
 rw [← hn]
 have hh := hg_le n
 have hsm := tot_small h1 h2 (show hg n + 1 ≤ 6 by omega)
 refine GS (TN 0 (RN ?_));refine ZB 1000001 rfl fun b1 ⟨hBb1, hb1⟩ => ?_
 refine TL (RVN 2 rfl ?_);refine GT (RS (ok_field field25_0 (by decide) rfl) ?_);refine RLV 1000001 U5 rfl rfl rfl ?_;refine RS (ok_call (bl24_fn k) (A1 rfl)) ?_; refine RZ (nI (n)) (by rw [hn]) ?_;refine RVN 1 rfl ?_;refine GV rfl (QS (GV rfl (A.block (A.subL (SubL.cons (t := 1) rfl (Le.refl _) (SubL.cons (t := 4) rfl (Le.refl _) (SubL.cons (t := 5) rfl (mP_start q (B := w₀.heap.size) (e := 51)) (SubL.cons (t := 6) rfl (Le.refl _) (SubL.cons (t := 1000001) rfl (Le.refl _) (SubL.cons (t := 1000721) rfl (Le.refl _) (SubL.cons (t := 1000722) rfl (Le.refl _) SubL.nil))))))) ?_))));refine A.loop (ι := Nat) (fun i => i ≤ n) (fun i => [(1, .v (ptr b1)), (4, .v (nI (n))), (5, ownP w₀.heap.size 51 35 (i) (recsV (mP q (i)))), (6, .v (nI (i))), (1000001, blk b1 25 [byteV k, .slice A₁ q.length c₁, .slice A₂ S.length c₂]), (1000721, old w₀.heap.size (memR A₁ (p2R q))), (1000722, old w₀.heap.size (memR A₂ (S.map byteV)))]) (fun i => n - i) 0 ?_ ?_ ?_
 ·exact Nat.zero_le _
 ·exact (KC 1 rfl (KC 4 rfl (KC 5 rfl (KE 6 rfl (by rfl) (KC 1000001 rfl (KC 1000721 rfl (KC 1000722 rfl KN)))))))
 intro i hi'
 refine QS (GV rfl ?_);refine A.cond rfl (fun hc16 => ?_) (fun hc16 => ?_)
 ·have hi : i < n := by simp at hc16; omega
  refine QK (QSB (GS (TN 0 (RN ?_))));refine ⟨_, _, eff_allocLt (n := 65) (d := 7) (k := 1000007) (r := 5) zero51 (by decide) rfl, fun b7 hb7 => ?_⟩
  have hBb7 := hb7.1
  refine TL (RN (QS (GT (RM rfl ?_))));refine RS (ok_field field25_1 (by decide) rfl) ?_;refine RLV 1000001 U22 rfl rfl rfl ?_;refine RS (ok_lenV U22 rfl) ?_;refine RVN 1 rfl ?_;refine A.cond rfl (fun hc23 => ?_) (fun hc23 => ?_)
  ·have hq : i < q.length := by simp at hc23; omega
   refine A.reg (by kernel_rfl) (by kernel_rfl) (.inr (by kernel_rfl)) ?_;refine TD 13 ?_;refine RS (ok_field field25_1 (by decide) rfl) ?_;refine RLV 1000001 U22 rfl rfl rfl ?_;refine RM rfl ?_;refine RS (ok_indexR (s := 1000721) i U22 infoPW rfl rfl (by decide) rfl hq (by rw [p2R_len]; omega)) ?_;refine RS (ok_indexEP 0 U95 info5 rfl rfl (by decide)) ?_;refine RS (ok_loadP1 (u := byteV (p2At q i).1) (us := [byteV (p2At q i).2]) U5 rfl (by show some (elemP _) = _; rw [p2R_at hq]; rfl)) ?_;refine RS (ok_field field25_1 (by decide) rfl) ?_;refine RLV 1000001 U22 rfl rfl rfl ?_;refine RM rfl ?_;refine RS (ok_indexR (s := 1000721) i U22 infoPW rfl rfl (by decide) rfl hq (by rw [p2R_len]; omega)) ?_;refine RS (ok_indexEP 1 U95 info5 rfl rfl (by decide)) ?_;refine RS (ok_loadP1 (u := byteV (p2At q i).2) (us := []) U5 rfl (by show some (elemP _) = _; rw [p2R_at hq]; rfl)) ?_;refine RS (ok_call (lRecord_fn (p2At q i).1 (p2At q i).2) (A2 rfl rfl)) ?_;refine RN ?_;refine ⟨_, eff_storeA (n := 65) (s := 1000007) (size51.of ((recOf_fit _ _).len)) rfl rfl (RecT.one _) hBb7 rfl (by rw [(recOf_fit _ _).len]; rfl) (LeftS.cons (t := 5) rfl (Surv.ltP) (LT 1000001 rfl (LO 1000721 rfl (LO 1000722 rfl (LW [1, 4, 6, 7] rfl))))), ?_⟩
   refine TL (RN (EN (A.subL (SubL.cons (t := 1) rfl (Le.refl _) (SubL.cons (t := 4) rfl (Le.refl _) (SubL.cons (t := 5) rfl (Le.lt) (SubL.cons (t := 6) rfl (Le.refl _) (SubL.cons (t := 7) rfl (Le.refl _) (SubL.cons (t := 1000001) rfl (Le.refl _) (SubL.cons (t := 1000007) rfl (Le.refl _) (SubL.cons (t := 1000721) rfl (Le.refl _) (SubL.cons (t := 1000722) rfl (Le.refl _) SubL.nil))))))))) ?_)));refine GE (TF 3 (RM rfl ?_));refine RL 1000007 U51 rfl rfl (size51.of (by first | exact (recOf_fit _ _).len | exact RecT.zero_fit.len)) ?_; refine RZ (aggV (mAt q i).v) (by first | exact congrArg (fun r : RecT => aggV r.v) (show recOf _ _ = mAt q i by unfold mAt; rw [if_pos hq]) | exact congrArg (fun r : RecT => aggV r.v) (show RecT.zero = mAt q i by unfold mAt; rw [if_neg hq])) ?_;refine RS (ok_build1K U26 infoP51 rfl (by decide) (by decide) rfl (mAt_fit q i).len) ?_;refine RN ?_;refine ⟨_, eff_appendG U26 infoP51 (by decide) (by decide) rfl rfl rfl (mAt_fit q i).len (RecT.one _) (by omega) (by decide) (fun g hg => (LT 1000001 rfl (LO 1000721 rfl (LO 1000722 rfl (LW [1, 4, 6] rfl))))), ?_⟩
   refine TL (RVN 1 rfl ?_);refine End.sub (Sv [1, 4, 5, 6, 1000001, 1000721, 1000722] rfl) ?_;refine End.normal_block (EN (GTE (RV 2 rfl ?_)));refine RZ (nI (i + 1)) (wrap_eq (by omega) (by omega)) ?_;refine RVN 1 rfl ?_;refine End.normal_then ?_;refine End.again (i + 1) ?_ ?_ ?_
   ·show _ ≤ _; omega
   ·show _ - _ < _ - _; omega
   ·exact (KC 1 rfl (KC 4 rfl (KE 5 rfl (congrArg (ownP w₀.heap.size 51 35 (i + 1)) (mP_row q i)) (KC 6 rfl (KC 1000001 rfl (KC 1000721 rfl (KC 1000722 rfl KN)))))))
  ·have hq : ¬ i < q.length := by simp at hc23; omega
   refine QK (A.subL (SubL.cons (t := 1) rfl (Le.refl _) (SubL.cons (t := 4) rfl (Le.refl _) (SubL.cons (t := 5) rfl (Le.lt) (SubL.cons (t := 6) rfl (Le.refl _) (SubL.cons (t := 7) rfl (Le.refl _) (SubL.cons (t := 23) rfl (Le.refl _) (SubL.cons (t := 1000001) rfl (Le.refl _) (SubL.cons (t := 1000007) rfl (Le.refl _) (SubL.cons (t := 1000721) rfl (Le.refl _) (SubL.cons (t := 1000722) rfl (Le.refl _) SubL.nil)))))))))) ?_);refine GE (TF 3 (RM rfl ?_));refine RL 1000007 U51 rfl rfl (size51.of (by first | exact (recOf_fit _ _).len | exact RecT.zero_fit.len)) ?_; refine RZ (aggV (mAt q i).v) (by first | exact congrArg (fun r : RecT => aggV r.v) (show recOf _ _ = mAt q i by unfold mAt; rw [if_pos hq]) | exact congrArg (fun r : RecT => aggV r.v) (show RecT.zero = mAt q i by unfold mAt; rw [if_neg hq])) ?_;refine RS (ok_build1K U26 infoP51 rfl (by decide) (by decide) rfl (mAt_fit q i).len) ?_;refine RN ?_;refine ⟨_, eff_appendG U26 infoP51 (by decide) (by decide) rfl rfl rfl (mAt_fit q i).len (RecT.one _) (by omega) (by decide) (fun g hg => (LT 1000001 rfl (LO 1000721 rfl (LO 1000722 rfl (LW [1, 4, 6] rfl))))), ?_⟩
   refine TL (RVN 1 rfl ?_);refine End.normal_block (EN (GTE (RV 2 rfl ?_)));refine RZ (nI (i + 1)) (wrap_eq (by omega) (by omega)) ?_;refine RVN 1 rfl ?_;refine End.normal_then ?_;refine End.again (i + 1) ?_ ?_ ?_
   ·show _ ≤ _; omega
   ·show _ - _ < _ - _; omega
   ·exact (KC 1 rfl (KC 4 rfl (KE 5 rfl (congrArg (ownP w₀.heap.size 51 35 (i + 1)) (mP_row q i)) (KC 6 rfl (KC 1000001 rfl (KC 1000721 rfl (KC 1000722 rfl KN)))))))
 ·have hi2 : n = i := by simp at hc16; omega
  subst hi2
  refine A.exit (End.exit_then (End.exit_then (End.exit_here (EN (GV rfl (QS (GV rfl (A.block (A.subL (SubL.cons (t := 1) rfl (Le.refl _) (SubL.cons (t := 4) rfl (Le.refl _) (SubL.cons (t := 5) rfl (Le.refl _) (SubL.cons (t := 8) rfl (mSP_start S (B := w₀.heap.size) (e := 3)) (SubL.cons (t := 9) rfl (Le.refl _) (SubL.cons (t := 1000001) rfl (Le.refl _) (SubL.cons (t := 1000721) rfl (Le.refl _) (SubL.cons (t := 1000722) rfl (Le.refl _) SubL.nil)))))))) ?_)))))))));refine A.loop (ι := Nat) (fun i => i ≤ tot n (hg n + 1)) (fun i => [(1, .v (ptr b1)), (4, .v (nI (n))), (5, ownP w₀.heap.size 51 35 (n) (recsV (mP q (n)))), (8, ownP w₀.heap.size 3 1 (i) (slotV (mSP S (i)))), (9, .v (nI (i))), (1000001, blk b1 25 [byteV k, .slice A₁ q.length c₁, .slice A₂ S.length c₂]), (1000721, old w₀.heap.size (memR A₁ (p2R q))), (1000722, old w₀.heap.size (memR A₂ (S.map byteV)))]) (fun i => tot n (hg n + 1) - i) 0 ?_ ?_ ?_
  ·exact Nat.zero_le _
  ·exact (KC 1 rfl (KC 4 rfl (KC 5 rfl (KC 8 rfl (KE 9 rfl (by rfl) (KC 1000001 rfl (KC 1000721 rfl (KC 1000722 rfl KN))))))))
  intro i hi'
  refine QS (GT (RV 2 rfl ?_));refine RS (ok_call (rTotal_fn n h1 h2) (A1 rfl)) ?_;refine RVN 1 rfl ?_;refine A.cond rfl (fun hc44 => ?_) (fun hc44 => ?_)
  ·have hi : i < tot n (hg n + 1) := by simp at hc44; omega
   refine QK (QSB (GV rfl (QS (GT (RM rfl ?_)))));refine RS (ok_field field25_2 (by decide) rfl) ?_;refine RLV 1000001 U23 rfl rfl rfl ?_;refine RS (ok_lenV U23 rfl) ?_;refine RVN 1 rfl ?_;refine A.cond rfl (fun hc51 => ?_) (fun hc51 => ?_)
   ·have hq : i < S.length := by simp at hc51; omega
    refine GTE (RS (ok_field field25_2 (by decide) rfl) ?_);refine RLV 1000001 U23 rfl rfl rfl ?_;refine RM rfl ?_;refine RS (ok_indexR (s := 1000722) i U23 infoPB rfl rfl (by decide) rfl hq (by rw [List.length_map]; omega)) ?_;refine RS (ok_loadP1 (u := byteV (S.getD i 0)) (us := []) U5 rfl (by show some (elemP _) = _; rw [slb_at hq])) ?_;refine RS (ok_rem rfl rfl (by decide)) ?_; refine RZ (nB ((S.getD i 0).toNat % 2)) (by rw [tmod_lit _ (by decide)]; rfl) ?_;refine RS (ok_conv U5 U3 rfl) ?_; refine RZ (nI ((S.getD i 0).toNat % 2)) (congrArg (Value.int .i64) (wrap_i64 (by omega) (by omega))) ?_;refine RVN 1 rfl ?_;refine EN (GE (TF 3 (RV 2 rfl ?_)));refine RZ (nI (msAt S i)) (congrArg nI (by unfold msAt; first | rw [if_pos hq] | rw [if_neg hq])) ?_;refine RS (ok_build1N U27 infoPI rfl rfl) ?_;refine RN ?_;refine ⟨_, eff_appendG U27 infoPI (by decide) (by decide) rfl rfl rfl rfl rfl (by omega) (by decide) (fun g hg => (LeftS.cons (t := 5) rfl (Surv.ownP (by decide)) (LT 1000001 rfl (LO 1000721 rfl (LO 1000722 rfl (LW [1, 4, 9] rfl)))))), ?_⟩
    refine TL (RVN 1 rfl ?_);refine End.normal_block (EN (GTE (RV 2 rfl ?_)));refine RZ (nI (i + 1)) (wrap_eq (by omega) (by omega)) ?_;refine RVN 1 rfl ?_;refine End.sub (Sv [1, 4, 5, 8, 9, 1000001, 1000721, 1000722] rfl) ?_;refine End.normal_then ?_;refine End.again (i + 1) ?_ ?_ ?_
    ·show _ ≤ _; omega
    ·show _ - _ < _ - _; omega
    ·exact (KC 1 rfl (KC 4 rfl (KC 5 rfl (KE 8 rfl (congrArg (ownP w₀.heap.size 3 1 (i + 1)) (mSP_row S i)) (KC 9 rfl (KC 1000001 rfl (KC 1000721 rfl (KC 1000722 rfl KN))))))))
   ·have hq : ¬ i < S.length := by simp at hc51; omega
    refine QK (GE (TF 3 (RV 2 rfl ?_)));refine RZ (nI (msAt S i)) (congrArg nI (by unfold msAt; first | rw [if_pos hq] | rw [if_neg hq])) ?_;refine RS (ok_build1N U27 infoPI rfl rfl) ?_;refine RN ?_;refine ⟨_, eff_appendG U27 infoPI (by decide) (by decide) rfl rfl rfl rfl rfl (by omega) (by decide) (fun g hg => (LeftS.cons (t := 5) rfl (Surv.ownP (by decide)) (LT 1000001 rfl (LO 1000721 rfl (LO 1000722 rfl (LW [1, 4, 9] rfl)))))), ?_⟩
    refine TL (RVN 1 rfl ?_);refine End.normal_block (EN (GTE (RV 2 rfl ?_)));refine RZ (nI (i + 1)) (wrap_eq (by omega) (by omega)) ?_;refine RVN 1 rfl ?_;refine End.normal_then ?_;refine End.again (i + 1) ?_ ?_ ?_
    ·show _ ≤ _; omega
    ·show _ - _ < _ - _; omega
    ·exact (KC 1 rfl (KC 4 rfl (KC 5 rfl (KE 8 rfl (congrArg (ownP w₀.heap.size 3 1 (i + 1)) (mSP_row S i)) (KC 9 rfl (KC 1000001 rfl (KC 1000721 rfl (KC 1000722 rfl KN))))))))
  ·have hi2 : tot n (hg n + 1) = i := by simp at hc44; omega
   refine A.exit (End.exit_then (End.exit_then (End.exit_here (EN (GV rfl (A.ret ?_))))));exact End.ret2 rfl rfl (Le.refl _) rfl (Le.eq (by rw [hi2]))
theorem rTree_n (n m : Nat) (h1 : 1 ≤ n) (h2 : n ≤ 4096) (R : List RecT) (hn : R.length = n) (hR : FitR R) (rd : Addr) (rc : Nat) (S : List Nat) (hm : S.length = m) (hS : OkS S) (hSl : tot n (hg n + 1) ≤ m) (sd : Addr) (sc : Nat) : FnMB Tryz.prog 14 (srM rd R sd S) [.v (.slice (some rd) n rc), .v (.slice (some sd) m sc)] (fun B => ownP B 57 274 (tot n (hg n + 1)) (nodsV (treR R S (tot n (hg n + 1))))) := by
 subst hn; subst hm; exact rTree_fnB R hR h1 h2 rd rc S hS hSl sd sc
abbrev mT (k : UInt8) (q : List P2) (S : List UInt8) : List NodT := treR (mR k q) (mS k S) (tot (mN k) (hg (mN k) + 1))
theorem mN4 (k : UInt8) : mN k ≤ 4096 := by have := mN2 k; omega
theorem mT_len (k : UInt8) (q : List P2) (S : List UInt8) : (mT k q S).length = tot (mN k) (hg (mN k) + 1) := treR_length _ _ _
theorem mR_len (k : UInt8) (q : List P2) : (mR k q).length = mN k := mP_len _ _
theorem mS_len (k : UInt8) (S : List UInt8) : (mS k S).length = tot (mN k) (hg (mN k) + 1) := mSP_len _ _
theorem mT_fit (k : UInt8) (q : List P2) (S : List UInt8) : FitT (mT k q S) := treR_fit (mP_fit q _) _ (by rw [mR_len]; exact mN1 k) (by rw [mR_len]; exact mN4 k) (by rw [mR_len]; exact Nat.le_refl _)
theorem mT_pos (k : UInt8) : 0 < tot (mN k) (hg (mN k) + 1) := tot_pos (mN1 k)
theorem mTv_len (k : UInt8) (q : List P2) (S : List UInt8) : (nodsV (mT k q S)).length = tot (mN k) (hg (mN k) + 1) * 274 := by rw [nods_len (mT_fit k q S), mT_len]
set_option maxHeartbeats 1000000 in
theorem MTree_fnB (k : UInt8) (q : List P2) (S : List UInt8) (A₁ A₂ : Option Addr) (c₁ c₂ : Nat)  : FnMB Tryz.prog 20 (mM A₁ q A₂ S) [.v (aggV [byteV k, .slice A₁ q.length c₁, .slice A₂ S.length c₂])] (fun B => newQ B 57 (fun b c => aggV [nI (mN k), .slice (some ⟨b, 0, none⟩) (tot (mN k) (hg (mN k) + 1)) c]) (tot (mN k) (hg (mN k) + 1)) (nodsV (mT k q S))) := by
 refine FnMB.ofO Tryz.func20 rfl (by kernel_rfl) Tryz.ntmps20 (by simp) (by decide) (fun w => [(0, .v (aggV [byteV k, .slice A₁ q.length c₁, .slice A₂ S.length c₂])), (1000721, old w.heap.size (memR A₁ (p2R q))), (1000722, old w.heap.size (memR A₂ (S.map byteV)))]) (fun w => (StartMO.v rfl (StartMO.mo (by simp [mM]) (by decide) (StartMO.mo (by simp [mM]) (by decide) StartMO.nil)))) fun w₀ hM => ?_
 skip
 refine GS (TN 0 (RN ?_));refine ZB 1000001 rfl fun b1 ⟨hBb1, hb1⟩ => ?_
 refine TN 1 (RN ?_);refine ZN 1000002 zero32 fun b2 ⟨hBb2, hb2⟩ => ?_
 refine TL (RN (GT (RL 1000001 U25 rfl rfl (size25.of rfl) ?_)));refine RS (ok_callMBK (MOf_fnB k q S A₁ A₂ c₁ c₂) (fun _ _ h => tup_le2 (ownP_mono h) (ownP_mono h)) (SubK.cons (k := 1000721) (by decide) rfl Le.unold (SubK.cons (k := 1000722) (by decide) rfl Le.unold SubK.nil)) (A1 rfl)) ?_;refine RM rfl ?_;refine RS (ok_extract rfl rfl) ?_;refine RS (ok_extract rfl rfl) ?_;refine RVN 2 rfl ?_;refine A.nameP (t := 3) (k := 1000321) rfl (fun w y h => ownP_one h) fun v3 hv3 => ?_
 refine A.openRowP (k := 1000321) (k' := 1000801) rfl (by rw [recs_len (mP_fit q _), mP_len]; have := mN1 k; omega) fun rd rdq hrdq erd => ?_
 subst erd
 refine A.nameP (t := 4) (k := 1000322) rfl (fun w y h => ownP_one h) fun v4 hv4 => ?_
 refine A.openRowP (k := 1000322) (k' := 1000701) rfl (by unfold slotV; rw [List.length_map, mSP_len]; exact mT_pos k) fun sd sdq hsdq esd => ?_
 subst esd
 refine GS (RunTK.newG 4 (by decide) rfl (.inl rfl) ?_);refine RM rfl ?_;refine RS (ok_lenV U26 rfl) ?_;refine RVN 2 rfl ?_;refine ⟨_, _, _, eff_nameOP (n := 16) (d := 14) (k := 1000311) (by rw [mTv_len]; have := mT_pos k; omega) rfl rfl (fun B' => ok_callMBK (rTree_n (mN k) (tot (mN k) (hg (mN k) + 1)) (mN1 k) (mN4 k) (mR k q) (mR_len k q) (mP_fit q _) rd rdq (mS k S) (mS_len k S) (mSP_ok S _) (Nat.le_refl _) sd sdq) (fun _ _ h => ownP_mono h) (SubK.cons (k := 1000801) (by decide) rfl (Le.refl _) (SubK.cons (k := 1000701) (by decide) rfl (Le.refl _) SubK.nil)) (A2 rfl rfl)) (by decide) (by decide), fun x14 hx14 => ?_⟩
 obtain ⟨g14, q14, y14⟩ := x14
 have hBg14 : w₀.heap.size ≤ g14 := hx14.1
 have hmg14 := hx14.2.1
 dsimp only at hmg14
 refine TF 6 (RS (ok_litS [(0, nI (mN k)), (1, .slice (some ⟨g14, 0, none⟩) (tot (mN k) (hg (mN k) + 1)) q14)] [nI (mN k), .slice (some ⟨g14, 0, none⟩) (tot (mN k) (hg (mN k) + 1)) q14] ⟨rfl, rfl, rfl, rfl, trivial⟩ (buildTr _ _ rfl)) ?_);refine RN ?_; refine ZA 1000002 (size32.of rfl) hBb2 rfl rfl rfl (LV 2 rfl (LT 1000001 rfl (LT 1000311 rfl (LO 1000721 rfl (LO 1000722 rfl LN))))) ?_;refine TL (RN (A.ret ?_));exact End.cellQ (s := 1000002) (kg := 1000311) rfl U32 rfl (size32.of rfl) rfl rfl rfl hBg14 hmg14 rfl
end
section
set_option maxRecDepth 20000
set_option linter.unusedSimpArgs false
theorem Le.memNil {d : D} {A₀ : Option Addr} : Le d (memR A₀ []) := fun _ _ _ _ j u hu => by cases hu
def lvR : List RecT := [recOf 1 7, RecT.zero, RecT.zero, RecT.zero, RecT.zero]
def lvS : List Nat := [1, 0, 0]
def lzR : List RecT := [RecT.zero]
def lzS : List Nat := [0]
theorem lvR_fit : FitR lvR := fun r hr => by
 simp only [lvR, List.mem_cons, List.not_mem_nil, or_false] at hr
 rcases hr with rfl | rfl | rfl | rfl | rfl
 ·exact recOf_fit _ _
 all_goals exact RecT.zero_fit
theorem lvR_ok : OkR lvR := fun r hr => by
 simp only [lvR, List.mem_cons, List.not_mem_nil, or_false] at hr
 rcases hr with rfl | rfl | rfl | rfl | rfl
 ·exact recOf_ok _ _
 all_goals exact RecT.zero_ok
theorem lvS_ok : OkS lvS := fun r hr => by
 simp only [lvS, List.mem_cons, List.not_mem_nil, or_false] at hr
 rcases hr with rfl | rfl | rfl <;> simp
theorem lzR_fit : FitR lzR := fun r hr => by
 simp only [lzR, List.mem_cons, List.not_mem_nil, or_false] at hr
 subst hr; exact RecT.zero_fit
theorem lzR_ok : OkR lzR := fun r hr => by
 simp only [lzR, List.mem_cons, List.not_mem_nil, or_false] at hr
 subst hr; exact RecT.zero_ok
theorem lzS_ok : OkS lzS := fun r hr => by
 simp only [lzS, List.mem_cons, List.not_mem_nil, or_false] at hr
 subst hr; simp
def lvT : List NodT := treR lvR lvS (tot lvR.length (hg lvR.length + 1))
def lzT : List NodT := treR lzR lzS (tot lzR.length (hg lzR.length + 1))
theorem lvT_len : lvT.length = 3 := by unfold lvT; rw [treR_length]; decide
theorem lzT_len : lzT.length = 1 := by unfold lzT; rw [treR_length]; decide
theorem lvT_fit : FitT lvT := treR_fit lvR_fit _ (by decide) (by decide) (Nat.le_refl _)
theorem lzT_fit : FitT lzT := treR_fit lzR_fit _ (by decide) (by decide) (Nat.le_refl _)
theorem lvT_tree : Tree 5 lvT := treR_tree lvR_ok lvS_ok (by decide) (by decide)
theorem lzT_tree : Tree 1 lzT := treR_tree lzR_ok lzS_ok (by decide) (by decide)
theorem lzT_at : ndAt lzT (tot 1 (hg 1)) = NodT.emp 0 0 := by
 have h := treR_at (R := lzR) (S := lzS) (m := tot lzR.length (hg lzR.length + 1)) (l := 0) (j := 0) (by decide) (by decide) (by decide)
 exact h.trans (by rw [nodR_zero]; rfl)
theorem lvT_0 : ndAt lvT 0 = grpR lvR 0 := by
 have h := treR_at (R := lvR) (S := lvS) (m := tot lvR.length (hg lvR.length + 1)) (l := 0) (j := 0) (by decide) (by decide) (by decide)
 rw [nodR_zero] at h; exact h
theorem lvT_1 : ndAt lvT 1 = grpR lvR 1 := by
 have h := treR_at (R := lvR) (S := lvS) (m := tot lvR.length (hg lvR.length + 1)) (l := 0) (j := 1) (by decide) (by decide) (by decide)
 rw [nodR_zero] at h; exact h
theorem lvT_2 : ndAt lvT 2 = nodR lvR lvS 1 0 := treR_at (R := lvR) (S := lvS) (m := tot lvR.length (hg lvR.length + 1)) (l := 1) (j := 0) (by decide) (by decide) (by decide)
def lvE : EntT := ⟨2, sha (grpR lvR 0).bl⟩
theorem lvT_E : (ndAt lvT 2).E = [lvE, EntT.zero, EntT.zero, EntT.zero] := by
 have e0 : emF lvR.length (recAt lvR) 0 (4 * 0 + 0) = false := by decide +kernel
 have e1 : emF lvR.length (recAt lvR) 0 (4 * 0 + 1) = true := by decide +kernel
 rw [lvT_2]
 apply ext4 (by rw [nodR_succ]; exact pg_length _ _ _) rfl EntT.zero
 intro i hi
 show (nodR lvR lvS (0 + 1) 0).e i = _
 rw [nodR_e hi]
 match i, hi with
 | 0, _ => rw [if_pos (by decide), e0]; rfl
 | 1, _ => rw [if_pos (by decide), e1]; rfl
 | 2, _ => rw [if_neg (by decide)]; rfl
 | 3, _ => rw [if_neg (by decide)]; rfl
theorem em_0 : emT 5 lvT 0 0 = false := by
 unfold emT; rw [lvT_0]; decide +kernel
theorem em_1 : emT 5 lvT 0 1 = true := by
 unfold emT; rw [lvT_1]; decide +kernel
theorem mny_0 : mny 5 lvT 0 = 2 := by
 show runTo _ 1 1 = 2
 unfold runTo
 rw [show emT 5 lvT (hg 5 - 1) (pidx 5 0 1) = false from em_0]; rfl
theorem mny_4 : mny 5 lvT 4 = 1 := by
 show runTo _ 1 1 = 1
 unfold runTo
 rw [show emT 5 lvT (hg 5 - 1) (pidx 5 4 1) = true from em_1]; rfl
def pfA : List NodT := pthT 5 lvT 0 2
def pfB : List NodT := pthT 5 lvT 4 1
theorem pfA_len : pfA.length = 2 := pthT_length _ _ _ _
theorem pfB_len : pfB.length = 1 := pthT_length _ _ _ _
theorem pfA_fit : FitT pfA := pthT_fit lvT_fit _ _
theorem pfB_fit : FitT pfB := pthT_fit lvT_fit _ _
def lvD : List UInt8 := sha (ndAt lvT (tot 5 (hg 5))).bl
theorem lvD_len : lvD.length = 32 := sha_length _
theorem lv_rec {n : Nat} {T : List NodT} (h : Tree n T) : ∀ i, i < n → (recT T i).x.toNat = 0 → recT T i = RecT.zero := fun i hi hx => by
 have h1 : i / 4 < un n (0 + 1) := by have := div_lt_un hi 1; simpa using this
 have hf := h.fit (l := 0) (j := i / 4) (Nat.zero_le _) h1
 rw [tot_zero, Nat.zero_add] at hf
 have hb := ((NodT.ck_ok hf.2.2.1).2.1 hf.1).2 (i % 4) (Nat.mod_lt _ (by decide))
 unfold RecT.Bad BadR at hb
 refine RecT.z_iff.1 ⟨hx, Classical.byContradiction fun hh => hb (.inr ⟨hx, hh⟩)⟩
theorem verA : ver 5 lvD 0 pfA = 0 ∧ verR 5 lvD 0 pfA = recOf 1 7 := by
 have h := lvT_tree.prf (x := 0) (by decide)
 have h2 := lvT_tree.prf_rec (x := 0) (by decide) (lv_rec lvT_tree)
 rw [mny_0] at h h2
 refine ⟨h.ver, h2.trans ?_⟩
 unfold recT; rw [show 0 / 4 = 0 from rfl, lvT_0, grpR_r (by decide)]; rfl
theorem verB : ver 5 lvD 4 pfB = 0 ∧ verR 5 lvD 4 pfB = RecT.zero := by
 have h := lvT_tree.prf (x := 4) (by decide)
 have h2 := lvT_tree.prf_rec (x := 4) (by decide) (lv_rec lvT_tree)
 rw [mny_4] at h h2
 refine ⟨h.ver, h2.trans ?_⟩
 unfold recT; rw [show 4 / 4 = 1 from rfl, lvT_1, grpR_r (by decide)]; rfl
theorem verC : ver 5 lvD 0 [] = 1 ∧ verR 5 lvD 0 [] = RecT.zero := by
 have h : ver 5 lvD 0 [] = 1 := ver_len (n := 5) (x := 0) (by decide) (by decide) (by decide) (.inl rfl)
 exact ⟨h, verR_no (by rw [h]; decide)⟩
theorem src5 : srcE 5 [RecT.zero, RecT.zero, RecT.zero, RecT.zero] [0, 0, 0] = 1 := srcE_no fun h => absurd h.2.2.1 (by decide)
theorem lv_buildR : Tryz.prog.built 52 [(0, aggV (recOf 1 7).v)] = some (recsV [recOf 1 7, RecT.zero, RecT.zero, RecT.zero]).toArray := by kernel_rfl
theorem lv_buildX : Tryz.prog.built 57 [(2, aggV (recsV [recOf 1 7, RecT.zero, RecT.zero, RecT.zero]))] = some (grpR lvR 0).v.toArray := by kernel_rfl
theorem lv_buildE (x : UInt8) (t : List UInt8) (ht : t.length = 32) : Tryz.prog.built 55 [(0, aggV (EntT.v ⟨x, t⟩))] = some (entsV [⟨x, t⟩, EntT.zero, EntT.zero, EntT.zero]).toArray := by
 match t, ht with
 | [a0, a1, a2, a3, a4, a5, a6, a7, a8, a9, b0, b1, b2, b3, b4, b5, b6, b7, b8, b9, c0, c1, c2, c3, c4, c5, c6, c7, c8, c9, d0, d1], _ => show _ = _; kernel_rfl
theorem lv_part (ys : List Value) : ((nodsV lvT ++ ys).drop (0 + 2 * 274 + 142)).take 132 = entsV [lvE, EntT.zero, EntT.zero, EntT.zero] := by
 have h1 := nods_at lvT_fit (i := 2) (by rw [lvT_len]; decide)
 have hl := nods_len lvT_fit
 rw [lvT_len] at hl
 rw [List.drop_append_of_le_length (by omega), List.take_append_of_le_length (by rw [List.length_drop]; omega)]
 have h2 : (((nodsV lvT).drop (2 * 274)).take 274).drop 142 = entsV (ndAt lvT 2).E := by
  rw [h1]
  have hf := lvT_fit.at 2
  show List.drop 142 ([byteV _, .int .u32 _] ++ (recsV (ndAt lvT 2).R ++ entsV (ndAt lvT 2).E)) = _
  rw [← List.append_assoc, List.drop_left']
  rw [List.length_append, recs_len hf.fr, hf.lr]; rfl
 rw [lvT_E] at h2
 rw [← h2, List.drop_take, List.drop_drop]
theorem zr4_fit : FitR [RecT.zero, RecT.zero, RecT.zero, RecT.zero] := fun r hr => by
 simp only [List.mem_cons, List.not_mem_nil, or_false, or_self] at hr
 subst hr; exact RecT.zero_fit
theorem lvE_kin : Kin (fun _ _ => True) (List.replicate 4 (.u8 :: List.replicate 32 .u8)).flatten (entsV [lvE, EntT.zero, EntT.zero, EntT.zero]) := by
 have h := EntT.kins (R := [lvE, EntT.zero, EntT.zero, EntT.zero]) (fun e he => by
  simp only [List.mem_cons, List.not_mem_nil, or_false] at he
  rcases he with rfl | rfl | rfl | rfl
  ·exact ⟨sha_length _⟩
  all_goals exact EntT.zero_fit)
 exact h
theorem flat55e : flat Tryz.prog 5 55 = some (List.replicate 4 (.u8 :: List.replicate 32 .u8)).flatten := by kernel_rfl
set_option maxHeartbeats 16000000 in
theorem lives16_fn  : FnM Tryz.prog 19 tabE [] (.v (.bool true)) := by
 refine FnM.of Tryz.func19 rfl (by kernel_rfl) Tryz.ntmps19 (by simp) (by decide) (fun w => [(1900000, tabH 0 ([errT])), (1900001, tab 1 (sizV)), (1900002, tab 2 (H8.list.map u32V)), (1900003, tab 3 (K64.map u32V))]) (fun w => (StartM.m (by simp [tabE]) (by decide) (StartM.m (by simp [tabE]) (by decide) (StartM.m (by simp [tabE]) (by decide) (StartM.m (by simp [tabE]) (by decide) StartM.nil))))) fun w₀ hM => ?_
 have htab := tabE_hi hM
 refine GV rfl (GS (TN 1 (RS (ok_call (lRecord_fn 1 7) (A2 rfl rfl)) ?_)));refine RN ?_;refine ZN 1000001 zero51 fun b1 ⟨hBb1, hb1⟩ => ?_
 refine TF 2 (RN ?_);refine ⟨_, eff_storeA (n := 149) (s := 1000001) (size51.of ((recOf_fit 1 7).len)) rfl rfl (RecT.one _) hBb1 rfl (by rw [(recOf_fit 1 7).len]; rfl) (LV 1 rfl (LeftS.cons (t := 1900000) rfl (Surv.tabH (by omega)) (LQ 1900001 rfl (LQ 1900002 rfl (LQ 1900003 rfl LN))))), ?_⟩
 refine TL (RN (GS (TN 1 (RS (ok_lit [] (RecT.v RecT.zero) (fun _ _ => rfl) (by kernel_rfl)) ?_))));refine RN ?_;refine ZM 1000019 (fun B' => ok_buildG (m := 1) [(0, aggV RecT.zero.v)] (recsV lzR) U26 infoP51 ⟨rfl, rfl, trivial⟩ (by kernel_rfl) (by decide) (by decide)) rfl fun b19 ⟨hBb19, hb19⟩ => ?_
 have hlt_b1_b19 := hb19 1000001 b1 _ _ rfl
 refine TN 2 (RN ?_);refine ZM 1000020 (fun B' => ok_buildG (m := 1) [(0, nI 0)] (slotV lzS) U27 infoPI ⟨rfl, rfl, trivial⟩ (by kernel_rfl) (by decide) (by decide)) rfl fun b20 ⟨hBb20, hb20⟩ => ?_
 have hlt_b1_b20 := hb20 1000001 b1 _ _ rfl
 have hlt_b19_b20 := hb20 1000019 b19 _ _ rfl
 refine RunTK.newG 3 (by decide) rfl (.inl rfl) ?_;refine RN ?_;refine ⟨_, _, _, eff_nameY (n := 149) (d := 21) (k := 1000021) rfl rfl (fun B' => ok_callMBK (Build_okB lzR lzR_fit (by decide) (by decide) lzR_ok lzS lzS_ok (by decide) ⟨b19, 0, none⟩ ⟨b20, 0, none⟩ 1 1 (by decide)) newY_mono (SubK.app (SubK.of (Sub.cons rfl (Sub.cons rfl (Sub.cons rfl KN))) tabN_v) (SubK.cons (k := 1000019) (by decide) rfl Le.blkR0 (SubK.cons (k := 1000020) (by decide) rfl Le.blkR0 SubK.nil))) (A3 rfl rfl rfl)) (by decide) (by decide), fun x21 hx21 => ?_⟩
 obtain ⟨g21, y21⟩ := x21
 have hBg21 : w₀.heap.size ≤ g21 := hx21.1
 refine TN 7 (RV 2 rfl ?_);refine RZ (aggV [nI 1, .slice (some ⟨g21, 0, none⟩) lzT.length lzT.length]) (by rw [lzT_len]; rfl) ?_;refine RVN 1 rfl ?_;refine ZN 1000002 zero32 fun b2 ⟨hBb2, hb2⟩ => ?_
 refine TF 8 (RN ?_); refine ZA 1000002 (size32.of rfl) hBb2 rfl rfl rfl (LT 1000001 rfl (LT 1000019 rfl (LT 1000020 rfl (LT 1000021 rfl (LeftS.cons (t := 1900000) rfl (Surv.tabH (by omega)) (LQ 1900001 rfl (LQ 1900002 rfl (LQ 1900003 rfl (LW [1, 2, 23] rfl))))))))) ?_;refine TL (RVN 1 rfl ?_);refine GS (TN 5 (RL 1000002 U32 rfl rfl (size32.of rfl) ?_));refine RS (ok_callMK (Root_ok 1 ⟨g21, 0, none⟩ lzT lzT_fit lzT.length lzT_tree) (SubK.app (SubK.of (Sub.cons rfl (Sub.cons rfl (Sub.cons rfl (Sub.cons rfl KN)))) tabE_v) (SubK.cons (k := 1000021) (by decide) rfl Le.blkR SubK.nil)) (A1 rfl)) ?_;refine RVN 3 rfl ?_;refine ZN 1000004 zero40 fun b4 ⟨hBb4, hb4⟩ => ?_
 refine TF 6 (RN ?_);refine ⟨_, eff_storeA (n := 149) (s := 1000004) (size40.of (by rw [List.length_map, sha_length])) rfl rfl (all_bytes _) hBb4 rfl (by rw [List.length_map, sha_length]; rfl) (LT 1000001 rfl (LT 1000002 rfl (LT 1000019 rfl (LT 1000020 rfl (LT 1000021 rfl (LeftS.cons (t := 1900000) rfl (Surv.tabH (by omega)) (LQ 1900001 rfl (LQ 1900002 rfl (LQ 1900003 rfl (LW [1, 3, 4, 28] rfl)))))))))), ?_⟩
 refine TL (RVN 1 rfl ?_);refine GS (TN 5 (RL 1000001 U51 rfl rfl (size51.of ((recOf_fit 1 7).len)) ?_));refine RS (ok_lit [] (RecT.v RecT.zero) (fun _ _ => rfl) (by kernel_rfl)) ?_;refine RS (ok_lit [] (RecT.v RecT.zero) (fun _ _ => rfl) (by kernel_rfl)) ?_;refine RS (ok_lit [] (RecT.v RecT.zero) (fun _ _ => rfl) (by kernel_rfl)) ?_;refine RS (ok_lit [] (RecT.v RecT.zero) (fun _ _ => rfl) (by kernel_rfl)) ?_;refine RN ?_;refine ZM 1000035 (fun B' => ok_buildG (m := 5) [(0, aggV (recOf 1 7).v), (1, aggV RecT.zero.v), (2, aggV RecT.zero.v), (3, aggV RecT.zero.v), (4, aggV RecT.zero.v)] (recsV lvR) U26 infoP51 ⟨rfl, rfl, rfl, rfl, rfl, rfl, rfl, rfl, rfl, rfl, trivial⟩ (by kernel_rfl) (by decide) (by decide)) rfl fun b35 ⟨hBb35, hb35⟩ => ?_
 have hlt_b1_b35 := hb35 1000001 b1 _ _ rfl
 have hlt_b2_b35 := hb35 1000002 b2 _ _ rfl
 have hlt_b4_b35 := hb35 1000004 b4 _ _ rfl
 have hlt_b19_b35 := hb35 1000019 b19 _ _ rfl
 have hlt_b20_b35 := hb35 1000020 b20 _ _ rfl
 have hlt_g21_b35 := hb35 1000021 g21 _ _ rfl
 refine TN 6 (RN ?_);refine ZM 1000036 (fun B' => ok_buildG (m := 3) [(0, nI 1), (1, nI 0), (2, nI 0)] (slotV lvS) U27 infoPI ⟨rfl, rfl, rfl, rfl, rfl, rfl, trivial⟩ (by kernel_rfl) (by decide) (by decide)) rfl fun b36 ⟨hBb36, hb36⟩ => ?_
 have hlt_b1_b36 := hb36 1000001 b1 _ _ rfl
 have hlt_b2_b36 := hb36 1000002 b2 _ _ rfl
 have hlt_b4_b36 := hb36 1000004 b4 _ _ rfl
 have hlt_b19_b36 := hb36 1000019 b19 _ _ rfl
 have hlt_b20_b36 := hb36 1000020 b20 _ _ rfl
 have hlt_g21_b36 := hb36 1000021 g21 _ _ rfl
 have hlt_b35_b36 := hb36 1000035 b35 _ _ rfl
 refine RunTK.newG 7 (by decide) rfl (.inl rfl) ?_;refine RN ?_;refine ⟨_, _, _, eff_nameY (n := 149) (d := 37) (k := 1000037) rfl rfl (fun B' => ok_callMBK (Build_okB lvR lvR_fit (by decide) (by decide) lvR_ok lvS lvS_ok (by decide) ⟨b35, 0, none⟩ ⟨b36, 0, none⟩ 5 3 (by decide)) newY_mono (SubK.app (SubK.of (Sub.cons rfl (Sub.cons rfl (Sub.cons rfl KN))) tabN_v) (SubK.cons (k := 1000035) (by decide) rfl Le.blkR0 (SubK.cons (k := 1000036) (by decide) rfl Le.blkR0 SubK.nil))) (A3 rfl rfl rfl)) (by decide) (by decide), fun x37 hx37 => ?_⟩
 obtain ⟨g37, y37⟩ := x37
 have hBg37 : w₀.heap.size ≤ g37 := hx37.1
 refine TN 11 (RV 2 rfl ?_);refine RZ (aggV [nI 5, .slice (some ⟨g37, 0, none⟩) lvT.length lvT.length]) (by rw [lvT_len]; rfl) ?_;refine RVN 1 rfl ?_;refine ZN 1000006 zero32 fun b6 ⟨hBb6, hb6⟩ => ?_
 have hlt_b2_b6 := hb6 1000002 b2 _ _ rfl
 refine TF 12 (RN ?_); refine ZA 1000006 (size32.of rfl) hBb6 rfl rfl rfl (LT 1000001 rfl (LB 1000002 rfl (LT 1000004 rfl (LT 1000019 rfl (LT 1000020 rfl (LT 1000021 rfl (LT 1000035 rfl (LT 1000036 rfl (LT 1000037 rfl (LeftS.cons (t := 1900000) rfl (Surv.tabH (by omega)) (LQ 1900001 rfl (LQ 1900002 rfl (LQ 1900003 rfl (LW [1, 3, 4, 5, 6, 39] rfl)))))))))))))) ?_;refine TL (RVN 1 rfl ?_);refine A.sub (Sv [1, 3, 4, 5, 6, 7, 1000001, 1000002, 1000004, 1000006, 1000019, 1000020, 1000021, 1000035, 1000036, 1000037, 1900000, 1900001, 1900002, 1900003] rfl) ?_;refine GS (RunTK.newG 1 (by decide) rfl (.inl rfl) ?_);refine RL 1000006 U32 rfl rfl (size32.of rfl) ?_;refine RN ?_;refine ⟨_, _, _, eff_nameY (n := 149) (d := 42) (k := 1000042) rfl rfl (fun B' => ok_callMBK (Prove_okB 5 ⟨g37, 0, none⟩ lvT lvT_fit lvT.length lvT_tree 0 (by decide)) newY_mono (SubK.app (SubK.of (Sub.cons rfl (Sub.cons rfl (Sub.cons rfl (Sub.cons rfl KN)))) tabE_v) (SubK.cons (k := 1000037) (by decide) rfl Le.blkR SubK.nil)) (A2 rfl rfl)) (by decide) (by decide), fun x42 hx42 => ?_⟩
 obtain ⟨g42, y42⟩ := x42
 have hBg42 : w₀.heap.size ≤ g42 := hx42.1
 refine TN 5 (RV 2 rfl ?_);refine RZ (aggV [nI 0, .slice (some ⟨g42, 0, none⟩) pfA.length pfA.length]) (by rw [pfA_len, mny_0]) ?_;refine RVN 1 rfl ?_;refine ZN 1000008 zero69 fun b8 ⟨hBb8, hb8⟩ => ?_
 refine TF 6 (RN ?_); refine ZA 1000008 (size69.of rfl) hBb8 rfl rfl rfl (LT 1000001 rfl (LT 1000002 rfl (LT 1000004 rfl (LT 1000006 rfl (LT 1000019 rfl (LT 1000020 rfl (LT 1000021 rfl (LT 1000035 rfl (LT 1000036 rfl (LT 1000037 rfl (LT 1000042 rfl (LeftS.cons (t := 1900000) rfl (Surv.tabH (by omega)) (LQ 1900001 rfl (LQ 1900002 rfl (LQ 1900003 rfl (LW [1, 3, 4, 5, 6, 7, 8, 44] rfl)))))))))))))))) ?_;refine TL (RVN 1 rfl ?_);refine GS (RunTK.newG 1 (by decide) rfl (.inl rfl) ?_);refine RL 1000006 U32 rfl rfl (size32.of rfl) ?_;refine RN ?_;refine ⟨_, _, _, eff_nameY (n := 149) (d := 47) (k := 1000047) rfl rfl (fun B' => ok_callMBK (Prove_okB 5 ⟨g37, 0, none⟩ lvT lvT_fit lvT.length lvT_tree 4 (by decide)) newY_mono (SubK.app (SubK.of (Sub.cons rfl (Sub.cons rfl (Sub.cons rfl (Sub.cons rfl KN)))) tabE_v) (SubK.cons (k := 1000037) (by decide) rfl Le.blkR SubK.nil)) (A2 rfl rfl)) (by decide) (by decide), fun x47 hx47 => ?_⟩
 obtain ⟨g47, y47⟩ := x47
 have hBg47 : w₀.heap.size ≤ g47 := hx47.1
 refine TN 5 (RV 2 rfl ?_);refine RZ (aggV [nI 4, .slice (some ⟨g47, 0, none⟩) pfB.length pfB.length]) (by rw [pfB_len, mny_4]) ?_;refine RVN 1 rfl ?_;refine ZN 1000010 zero69 fun b10 ⟨hBb10, hb10⟩ => ?_
 have hlt_b8_b10 := hb10 1000008 b8 _ _ rfl
 refine TF 6 (RN ?_); refine ZA 1000010 (size69.of rfl) hBb10 rfl rfl rfl (LT 1000001 rfl (LT 1000002 rfl (LT 1000004 rfl (LT 1000006 rfl (LB 1000008 rfl (LT 1000019 rfl (LT 1000020 rfl (LT 1000021 rfl (LT 1000035 rfl (LT 1000036 rfl (LT 1000037 rfl (LT 1000042 rfl (LT 1000047 rfl (LeftS.cons (t := 1900000) rfl (Surv.tabH (by omega)) (LQ 1900001 rfl (LQ 1900002 rfl (LQ 1900003 rfl (LW [1, 3, 4, 5, 6, 7, 8, 9, 10, 49] rfl)))))))))))))))))) ?_;refine TL (RVN 1 rfl ?_);refine GS (TN 5 (RL 1000006 U32 rfl rfl (size32.of rfl) ?_));refine RS (ok_callMK (Root_ok 5 ⟨g37, 0, none⟩ lvT lvT_fit lvT.length lvT_tree) (SubK.app (SubK.of (Sub.cons rfl (Sub.cons rfl (Sub.cons rfl (Sub.cons rfl KN)))) tabE_v) (SubK.cons (k := 1000037) (by decide) rfl Le.blkR SubK.nil)) (A1 rfl)) ?_;refine RV 2 rfl ?_;refine RZ (aggV (lvD.map byteV)) (by rfl) ?_;refine RVN 1 rfl ?_;refine ZN 1000012 zero40 fun b12 ⟨hBb12, hb12⟩ => ?_
 have hlt_b4_b12 := hb12 1000004 b4 _ _ rfl
 refine TF 6 (RN ?_);refine ⟨_, eff_storeA (n := 149) (s := 1000012) (size40.of (by rw [List.length_map, lvD_len])) rfl rfl (all_bytes _) hBb12 rfl (by rw [List.length_map, lvD_len]; rfl) (LT 1000001 rfl (LT 1000002 rfl (LB 1000004 rfl (LT 1000006 rfl (LT 1000008 rfl (LT 1000010 rfl (LT 1000019 rfl (LT 1000020 rfl (LT 1000021 rfl (LT 1000035 rfl (LT 1000036 rfl (LT 1000037 rfl (LT 1000042 rfl (LT 1000047 rfl (LeftS.cons (t := 1900000) rfl (Surv.tabH (by omega)) (LQ 1900001 rfl (LQ 1900002 rfl (LQ 1900003 rfl (LW [1, 3, 4, 5, 6, 7, 8, 9, 10, 11, 12, 54] rfl))))))))))))))))))), ?_⟩
 refine TL (RVN 1 rfl ?_);refine QS (GTD (RV 3 rfl ?_));refine RZ (.int .i64 0) (by rfl) ?_;refine RV 2 rfl ?_;refine RZ (.int .i64 0) (by rfl) ?_;refine RV 2 rfl ?_;refine RZ (.int .i64 0) (by rfl) ?_;refine RV 2 rfl ?_;refine RZ (.int .i64 0) (by rfl) ?_;refine RV 2 rfl ?_;refine RZ (.int .i64 0) (by rfl) ?_;refine RB rfl rfl rfl ?_;refine RZ (.bool false) (by rfl) ?_;refine RM rfl ?_;refine RQ (ok_loadA (s := 1000004) (by decide) U40 rfl (size40.of (by rw [List.length_map, sha_length])) rfl rfl) ?_;refine RQ (ok_lit [] (NodT.v (NodT.emp 0 0)) (fun _ _ => rfl) (by kernel_rfl)) ?_;refine RQ (ok_call (rDigest_fn (NodT.emp 0 0) (NodT.emp_fit 0 (j := 0) (by decide)) (by decide)) (A1 rfl)) ?_;refine RQ (ok_neqT (n := 4) true flat40r (by decide) (by kernel_rfl) (by kernel_rfl) rfl rfl (kinB (sha_length _)) (kinB (sha_length _)) (iff_of_true rfl (by rw [lzT_at]))) ?_; refine RZ (.bool false) (by rfl) ?_;refine RP rfl rfl ?_;refine RZ (.bool false) (by rfl) ?_;refine RM rfl ?_;refine RQ (ok_field field32_1 (by decide) rfl) ?_;refine RQ (ok_loadV (s := 1000006) (by decide) U30 rfl rfl rfl (rfl)) ?_;refine RQ (ok_lenV U30 rfl) ?_;refine RQ (ok_bin rfl rfl rfl) ?_;refine RZ (.bool false) (congrArg Value.bool (by rw [lvT_len]; rfl)) ?_;refine RP rfl rfl ?_;refine RZ (.bool false) (by rfl) ?_;refine RM rfl ?_;refine RQ (ok_field field69_1 (by decide) rfl) ?_;refine RQ (ok_loadV (s := 1000008) (by decide) U30 rfl rfl rfl (rfl)) ?_;refine RQ (ok_lenV U30 rfl) ?_;refine RQ (ok_bin rfl rfl rfl) ?_;refine RZ (.bool false) (congrArg Value.bool (by rw [pfA_len]; rfl)) ?_;refine RP rfl rfl ?_;refine RZ (.bool false) (by rfl) ?_;refine RM rfl ?_;refine RQ (ok_field field69_1 (by decide) rfl) ?_;refine RQ (ok_loadV (s := 1000010) (by decide) U30 rfl rfl rfl (rfl)) ?_;refine RQ (ok_lenV U30 rfl) ?_;refine RQ (ok_bin rfl rfl rfl) ?_;refine RZ (.bool false) (congrArg Value.bool (by rw [pfB_len]; rfl)) ?_;refine RP rfl rfl ?_;refine RZ (.bool false) (by rfl) ?_;refine RN (A.sub (Sv [1, 6, 8, 10, 12, 90, 1000001, 1000002, 1000004, 1000006, 1000008, 1000010, 1000012, 1000019, 1000020, 1000021, 1000035, 1000036, 1000037, 1000042, 1000047, 1900000, 1900001, 1900002, 1900003] rfl) ?_);refine A.no rfl ?_;refine QK (QS (GTD (RS (ok_field field32_1 (by decide) rfl) ?_)));refine RLV 1000006 U30 rfl rfl rfl ?_;refine RS (ok_indexS 2 U30 infoN rfl rfl rfl (by rw [lvT_len]; decide)) ?_;refine RS (ok_field field57_3 (by decide) rfl) ?_;refine RS (ok_loadP (s := 1000037) (by decide) U55 rfl size55 rfl rfl (by have hl := nods_len lvT_fit; rw [lvT_len] at hl; rw [List.length_append]; show _ ≤ (nodsV lvT).length + _; omega) (lv_part _)) ?_;refine RL 1000001 U51 rfl rfl (size51.of ((recOf_fit 1 7).len)) ?_;refine RS (ok_litS [(0, aggV (recOf 1 7).v)] (recsV [recOf 1 7, RecT.zero, RecT.zero, RecT.zero]) ⟨rfl, rfl, trivial⟩ lv_buildR) ?_;refine RS (ok_litS [(2, aggV (recsV [recOf 1 7, RecT.zero, RecT.zero, RecT.zero]))] (grpR lvR 0).v ⟨rfl, rfl, trivial⟩ lv_buildX) ?_
 refine RS (ok_call (rDigest_fn (grpR lvR 0) (grpR_fit lvR_fit (by decide)) (by decide)) (A1 rfl)) ?_;refine RS (ok_litS [(0, byteV 2), (1, aggV ((sha (grpR lvR 0).bl).map byteV))] (EntT.v lvE) ⟨rfl, rfl, rfl, rfl, trivial⟩ (buildEntB _ _ (sha_length _))) ?_;refine RS (ok_litS [(0, aggV lvE.v)] (entsV [lvE, EntT.zero, EntT.zero, EntT.zero]) ⟨rfl, rfl, trivial⟩ (lv_buildE _ _ (sha_length _))) ?_;refine RS (ok_neqT (n := 5) true flat55e (by decide) (by kernel_rfl) (by kernel_rfl) rfl rfl lvE_kin lvE_kin (iff_of_true rfl rfl)) ?_; refine RZ (.bool false) (by rfl) ?_;refine RN (A.no rfl ?_);refine QK (GS (TN 6 (RL 1000012 U40 rfl rfl (size40.of (by rw [List.length_map, lvD_len])) ?_)));refine RL 1000008 U69 rfl rfl (size69.of rfl) ?_;refine RS (ok_callMK (Verify_fn 5 0 lvD lvD_len (some ⟨g42, 0, none⟩) pfA pfA_fit pfA.length) (SubK.app (SubK.of (Sub.cons rfl (Sub.cons rfl (Sub.cons rfl (Sub.cons rfl KN)))) tabE_v) (SubK.cons (k := 1000042) (by decide) rfl Le.blkR SubK.nil)) (A3 rfl rfl rfl)) ?_;refine RV 2 rfl ?_;refine RZ (aggV (recOf 1 7).v) (by rw [verA.2]) ?_;refine RS (ok_extractV rfl rfl) ?_;refine RZ (.int .i64 0) (by rw [verA.1]) ?_;refine RN ?_;refine ZN 1000014 zero51 fun b14 ⟨hBb14, hb14⟩ => ?_
 have hlt_b1_b14 := hb14 1000001 b1 _ _ rfl
 have hlt_b19_b14 := hb14 1000019 b19 _ _ rfl
 have hlt_b35_b14 := hb14 1000035 b35 _ _ rfl
 refine TF 7 (RN ?_);refine ⟨_, eff_storeA (n := 149) (s := 1000014) (size51.of ((recOf_fit 1 7).len)) rfl rfl (RecT.one _) hBb14 rfl (by rw [(recOf_fit 1 7).len]; rfl) (LB 1000001 rfl (LT 1000002 rfl (LT 1000004 rfl (LT 1000006 rfl (LT 1000008 rfl (LT 1000010 rfl (LT 1000012 rfl (LB 1000019 rfl (LT 1000020 rfl (LT 1000021 rfl (LB 1000035 rfl (LT 1000036 rfl (LT 1000037 rfl (LT 1000042 rfl (LT 1000047 rfl (LeftS.cons (t := 1900000) rfl (Surv.tabH (by omega)) (LQ 1900001 rfl (LQ 1900002 rfl (LQ 1900003 rfl (LW [1, 10, 12, 14, 108] rfl)))))))))))))))))))), ?_⟩
 refine TL (RVN 1 rfl ?_);refine GS (TN 6 (RL 1000012 U40 rfl rfl (size40.of (by rw [List.length_map, lvD_len])) ?_));refine RL 1000010 U69 rfl rfl (size69.of rfl) ?_;refine RS (ok_callMK (Verify_fn 5 4 lvD lvD_len (some ⟨g47, 0, none⟩) pfB pfB_fit pfB.length) (SubK.app (SubK.of (Sub.cons rfl (Sub.cons rfl (Sub.cons rfl (Sub.cons rfl KN)))) tabE_v) (SubK.cons (k := 1000047) (by decide) rfl Le.blkR SubK.nil)) (A3 rfl rfl rfl)) ?_;refine RV 2 rfl ?_;refine RZ (aggV RecT.zero.v) (by rw [verB.2]) ?_;refine RS (ok_extractV rfl rfl) ?_;refine RZ (.int .i64 0) (by rw [verB.1]) ?_;refine RN ?_;refine ZN 1000015 zero51 fun b15 ⟨hBb15, hb15⟩ => ?_
 have hlt_b1_b15 := hb15 1000001 b1 _ _ rfl
 have hlt_b14_b15 := hb15 1000014 b14 _ _ rfl
 have hlt_b19_b15 := hb15 1000019 b19 _ _ rfl
 have hlt_b35_b15 := hb15 1000035 b35 _ _ rfl
 refine TF 7 (RN ?_);refine ⟨_, eff_storeA (n := 149) (s := 1000015) (size51.of (RecT.zero_fit.len)) rfl rfl (RecT.one _) hBb15 rfl (by rw [RecT.zero_fit.len]; rfl) (LB 1000001 rfl (LT 1000002 rfl (LT 1000004 rfl (LT 1000006 rfl (LT 1000008 rfl (LT 1000010 rfl (LT 1000012 rfl (LB 1000014 rfl (LB 1000019 rfl (LT 1000020 rfl (LT 1000021 rfl (LB 1000035 rfl (LT 1000036 rfl (LT 1000037 rfl (LT 1000042 rfl (LT 1000047 rfl (LeftS.cons (t := 1900000) rfl (Surv.tabH (by omega)) (LQ 1900001 rfl (LQ 1900002 rfl (LQ 1900003 rfl (LW [1, 3, 12, 14, 15, 114] rfl))))))))))))))))))))), ?_⟩
 refine TL (RVN 1 rfl ?_);refine A.sub (Sv [1, 3, 5, 12, 14, 15, 1000001, 1000002, 1000004, 1000006, 1000008, 1000010, 1000012, 1000014, 1000015, 1000019, 1000020, 1000021, 1000035, 1000036, 1000037, 1000042, 1000047, 1900000, 1900001, 1900002, 1900003] rfl) ?_;refine GS (TN 0 (RN ?_));refine ZM 1000116 (fun B' => ok_makeK 4 U26 infoP51 (by decide) rfl rfl (by decide)) rfl fun b116 ⟨hBb116, hb116⟩ => ?_
 have hlt_b1_b116 := hb116 1000001 b1 _ _ rfl
 have hlt_b2_b116 := hb116 1000002 b2 _ _ rfl
 have hlt_b4_b116 := hb116 1000004 b4 _ _ rfl
 have hlt_b6_b116 := hb116 1000006 b6 _ _ rfl
 have hlt_b8_b116 := hb116 1000008 b8 _ _ rfl
 have hlt_b10_b116 := hb116 1000010 b10 _ _ rfl
 have hlt_b12_b116 := hb116 1000012 b12 _ _ rfl
 have hlt_b14_b116 := hb116 1000014 b14 _ _ rfl
 have hlt_b15_b116 := hb116 1000015 b15 _ _ rfl
 have hlt_b19_b116 := hb116 1000019 b19 _ _ rfl
 have hlt_b20_b116 := hb116 1000020 b20 _ _ rfl
 have hlt_g21_b116 := hb116 1000021 g21 _ _ rfl
 have hlt_b35_b116 := hb116 1000035 b35 _ _ rfl
 have hlt_b36_b116 := hb116 1000036 b36 _ _ rfl
 have hlt_g37_b116 := hb116 1000037 g37 _ _ rfl
 have hlt_g42_b116 := hb116 1000042 g42 _ _ rfl
 have hlt_g47_b116 := hb116 1000047 g47 _ _ rfl
 refine TN 1 (RN ?_);refine ZM 1000117 (fun B' => ok_buildG (m := 3) [(0, nI 0), (1, nI 0), (2, nI 0)] (intL [0, 0, 0]) U27 infoPI ⟨rfl, rfl, rfl, rfl, rfl, rfl, trivial⟩ (by kernel_rfl) (by decide) (by decide)) rfl fun b117 ⟨hBb117, hb117⟩ => ?_
 have hlt_b1_b117 := hb117 1000001 b1 _ _ rfl
 have hlt_b2_b117 := hb117 1000002 b2 _ _ rfl
 have hlt_b4_b117 := hb117 1000004 b4 _ _ rfl
 have hlt_b6_b117 := hb117 1000006 b6 _ _ rfl
 have hlt_b8_b117 := hb117 1000008 b8 _ _ rfl
 have hlt_b10_b117 := hb117 1000010 b10 _ _ rfl
 have hlt_b12_b117 := hb117 1000012 b12 _ _ rfl
 have hlt_b14_b117 := hb117 1000014 b14 _ _ rfl
 have hlt_b15_b117 := hb117 1000015 b15 _ _ rfl
 have hlt_b19_b117 := hb117 1000019 b19 _ _ rfl
 have hlt_b20_b117 := hb117 1000020 b20 _ _ rfl
 have hlt_g21_b117 := hb117 1000021 g21 _ _ rfl
 have hlt_b35_b117 := hb117 1000035 b35 _ _ rfl
 have hlt_b36_b117 := hb117 1000036 b36 _ _ rfl
 have hlt_g37_b117 := hb117 1000037 g37 _ _ rfl
 have hlt_g42_b117 := hb117 1000042 g42 _ _ rfl
 have hlt_g47_b117 := hb117 1000047 g47 _ _ rfl
 have hlt_b116_b117 := hb117 1000116 b116 _ _ rfl
 refine TL (RS (ok_callMK (Build_bad 5 [RecT.zero, RecT.zero, RecT.zero, RecT.zero] zr4_fit [0, 0, 0] (some ⟨b116, 0, none⟩) (some ⟨b117, 0, none⟩) 4 3 src5) (SubK.cons (k := 1000116) (by decide) rfl ((Le.eq (congrArg (blk b116 51) (made_rec 4 (fun _ => RecT.zero)))).trans Le.blkR0) (SubK.cons (k := 1000117) (by decide) rfl Le.blkR0 SubK.nil)) (A3 rfl rfl rfl)) ?_);refine RVN 4 rfl ?_;refine GT (RL 1000012 U40 rfl rfl (size40.of (by rw [List.length_map, lvD_len])) ?_);refine RS (ok_lit [] ([.int .i64 0] ++ [.slice none 0 0]) (fun _ _ => rfl) (by kernel_rfl)) ?_;refine RS (ok_callMK (Verify_fn 5 0 lvD lvD_len none [] FitT.nil 0) (SubK.app (SubK.of (Sub.cons rfl (Sub.cons rfl (Sub.cons rfl (Sub.cons rfl KN)))) tabE_v) (SubK.cons (k := 1000037) (by decide) rfl Le.memNil SubK.nil)) (A3 rfl rfl rfl)) ?_;refine RV 2 rfl ?_;refine RZ (aggV RecT.zero.v) (by rw [verC.2]) ?_;refine RS (ok_extractV rfl rfl) ?_;refine RZ (.int .i64 1) (by rw [verC.1]) ?_;refine RVN 1 rfl ?_;refine GT (RV 3 rfl ?_);refine RZ (.int .i64 0) (by rfl) ?_;refine RB rfl rfl rfl ?_;refine RZ (.bool true) (by rfl) ?_;refine RM rfl ?_;refine RQ (ok_loadA (s := 1000014) (by decide) U51 rfl (size51.of ((recOf_fit 1 7).len)) rfl rfl) ?_;refine RQ (ok_loadA (s := 1000001) (by decide) U51 rfl (size51.of ((recOf_fit 1 7).len)) rfl rfl) ?_;refine RQ (ok_eqlT (n := 4) true flat51 (by decide) (by kernel_rfl) (by kernel_rfl) rfl rfl (recOf_fit 1 7).kin (recOf_fit 1 7).kin (iff_of_true rfl rfl)) ?_;refine RP rfl rfl ?_;refine RZ (.bool true) (by rfl) ?_;refine RM rfl ?_;refine RQ (ok_loadA (s := 1000015) (by decide) U51 rfl (size51.of (RecT.zero_fit.len)) rfl rfl) ?_;refine RQ (ok_lit [] (RecT.v RecT.zero) (fun _ _ => rfl) (by kernel_rfl)) ?_;refine RQ (ok_eqlT (n := 4) true flat51 (by decide) (by kernel_rfl) (by kernel_rfl) rfl rfl RecT.zero_fit.kin RecT.zero_fit.kin (iff_of_true rfl rfl)) ?_;refine RP rfl rfl ?_;refine RZ (.bool true) (by rfl) ?_;refine RV 3 rfl ?_;refine RZ (.bool true) (by rfl) ?_;refine RP rfl rfl ?_;refine RZ (.bool true) (by rfl) ?_;refine RV 3 rfl ?_;refine RZ (.bool true) (by rfl) ?_;refine RP rfl rfl ?_;refine RZ (.bool true) (by rfl) ?_;refine RVN 1 rfl ?_;refine A.sub (Sv [0, 1000001, 1000002, 1000004, 1000006, 1000008, 1000010, 1000012, 1000014, 1000015, 1000019, 1000020, 1000021, 1000035, 1000036, 1000037, 1000042, 1000047, 1000116, 1000117, 1900000, 1900001, 1900002, 1900003] rfl) ?_;refine A.ret ?_;exact ER rfl rfl
end
section
set_option maxRecDepth 20000
set_option linter.unusedSimpArgs false
theorem nods_blk {T : List NodT} (hT : FitT T) {i : Nat} (hi : i < T.length) (ys : List Value) : ((nodsV T ++ ys).drop (0 + i * 274)).take 274 = (ndAt T i).v := by
 have hl := nods_len hT
 rw [Nat.zero_add, List.drop_append_of_le_length (by omega), List.take_append_of_le_length (by rw [List.length_drop]; omega), nods_at hT hi]
end
section
set_option maxRecDepth 20000
set_option linter.unusedSimpArgs false
theorem field61_0 : FieldIs Tryz.prog 61 0 0 274 := by unfold FieldIs; kernel_rfl
theorem field61_1 : FieldIs Tryz.prog 61 1 274 1 := by unfold FieldIs; kernel_rfl
theorem field61_2 : FieldIs Tryz.prog 61 2 275 1 := by unfold FieldIs; kernel_rfl
abbrev zT (k : UInt8) (q : List P2) (S : List UInt8) (a : UInt8) (z : NodT) : List NodT := (mT k q S).set (a.toNat % tot (mN k) (hg (mN k) + 1)) z
theorem zT_len (k : UInt8) (q : List P2) (S : List UInt8) (a : UInt8) (z : NodT) : (zT k q S a z).length = tot (mN k) (hg (mN k) + 1) := by rw [List.length_set]; exact mT_len k q S
theorem zT_fit (k : UInt8) (q : List P2) (S : List UInt8) (a : UInt8) {z : NodT} (hz : z.Fit) : FitT (zT k q S a z) := (mT_fit k q S).set _ hz
def zV (z : NodT) (o : UInt8) (b : Int) : List Value := z.v ++ [byteV o, .int .i64 b]
theorem zV_len {z : NodT} (hz : z.Fit) (o : UInt8) (b : Int) : (zV z o b).length = 276 := by unfold zV; rw [List.length_append, hz.len]; rfl
theorem zV_node {z : NodT} (hz : z.Fit) (o : UInt8) (b : Int) : ((zV z o b).drop 0).take 274 = z.v := by unfold zV; rw [List.drop_zero, List.take_left' hz.len]
theorem zV_o {z : NodT} (hz : z.Fit) (o : UInt8) (b : Int) : (zV z o b)[274]? = some (byteV o) := by unfold zV; rw [List.getElem?_append_right (by rw [hz.len]; exact Nat.le_refl _), hz.len]; rfl
theorem zV_b {z : NodT} (hz : z.Fit) (o : UInt8) (b : Int) : (zV z o b)[275]? = some (.int .i64 b) := by unfold zV; rw [List.getElem?_append_right (by rw [hz.len]; decide), hz.len]; rfl
theorem nods_setY {T : List NodT} (hT : FitT T) {i : Nat} (hi : i < T.length) {x : NodT} (hx : x.Fit) (ys : List Value) : (nodsV T ++ ys).take (0 + i * 274) ++ x.v ++ (nodsV T ++ ys).drop (0 + i * 274 + x.v.length) = nodsV (T.set i x) ++ ys := by
 have hl := nods_len hT
 rw [hx.len, Nat.zero_add, List.take_append_of_le_length (by omega), List.drop_append_of_le_length (by omega), ← nods_set hT hi hx]
 simp only [List.append_assoc]
def zBl (k o : UInt8) (b : Int) : Int := if o.toNat % 4 = 3 then b else (mN k : Int)
set_option maxHeartbeats 4000000 in
theorem MCk_bad (k : UInt8) (q : List P2) (S : List UInt8) (a : UInt8) (z : NodT) (hz : z.Fit) (o : UInt8) (b : Int) (n : Int) (hn : zBl k o b = n) (he : chkT n (zT k q S a z) ≠ 0)  : FnM Tryz.prog 4 tabE [mD k q S, .v (byteV a), .v (aggV (zV z o b))] (.v (.bool true)) := by
 refine FnM.of Tryz.func4 rfl (by kernel_rfl) Tryz.ntmps4 (by simp) (by decide) (fun w => [(0, old w.heap.size (mD k q S)), (1, .v (byteV a)), (2, .v (aggV (zV z o b))), (1900000, tabH 0 ([errT])), (1900001, tab 1 (sizV)), (1900002, tab 2 (H8.list.map u32V)), (1900003, tab 3 (K64.map u32V))]) (fun w => (StartM.old rfl (StartM.v rfl (StartM.v rfl (StartM.m (by simp [tabE]) (by decide) (StartM.m (by simp [tabE]) (by decide) (StartM.m (by simp [tabE]) (by decide) (StartM.m (by simp [tabE]) (by decide) StartM.nil)))))))) fun w₀ hM => ?_
 have htab := tabE_hi hM
 refine A.openM (t := 0) (k₁ := 1000721) (k₂ := 1000722) rfl fun A₁ c₁ A₂ c₂ => ?_
 have hpos := mT_pos k
 have hN1 := mN1 k
 have hN2 := mN2 k
 have hTl := mT_len k q S
 have hzl := zT_len k q S a z
 have hzf := zT_fit k q S a hz
 have hat : a.toNat % (tot (mN k) (hg (mN k) + 1)) < (tot (mN k) (hg (mN k) + 1)) := Nat.mod_lt _ hpos
 have hsm := tot_small hN1 (mN4 k) (show hg (mN k) + 1 ≤ 6 by have := hg_le (mN k); omega)
 refine GS (TN 0 (RN ?_));refine ZB 1000003 rfl fun b3 ⟨hBb3, hb3⟩ => ?_
 refine TN 1 (RN ?_);refine ZB 1000005 rfl fun b5 ⟨hBb5, hb5⟩ => ?_
 refine TL (RVN 1 rfl ?_);refine GS (RunTK.newG 1 (by decide) rfl (.inl rfl) ?_);refine RL 1000003 U25 rfl rfl (size25.of rfl) ?_;refine RN ?_;refine ⟨_, _, _, eff_nameQ (n := 133) (d := 18) (k := 1000018) rfl rfl (fun B' => ok_callMBK (MTree_fnB k q S A₁ A₂ c₁ c₂) newQ_mono (SubK.cons (k := 1000721) (by decide) rfl Le.unold (SubK.cons (k := 1000722) (by decide) rfl Le.unold SubK.nil)) (A1 rfl)) (by decide) (by decide), fun x18 hx18 => ?_⟩
 obtain ⟨g18, q18, y18⟩ := x18
 have hBg18 : w₀.heap.size ≤ g18 := hx18.1
 have hmg18 := hx18.2.1
 dsimp only at hmg18
 refine TN 2 (RN ?_);refine ZN 1000007 zero32 fun b7 ⟨hBb7, hb7⟩ => ?_
 refine TF 3 (RN ?_); refine ZA 1000007 (size32.of rfl) hBb7 rfl rfl rfl (LT 1000003 rfl (LT 1000005 rfl (LT 1000018 rfl (LO 1000721 rfl (LO 1000722 rfl (LeftS.cons (t := 1900000) rfl (Surv.tabH (by omega)) (LQ 1900001 rfl (LQ 1900002 rfl (LQ 1900003 rfl (LW [1, 5, 7] rfl)))))))))) ?_;refine TL (RN (GD (TD 11 ?_)));refine RS (ok_field field32_1 (by decide) rfl) ?_;refine RLV 1000007 U30 rfl rfl rfl ?_;refine RM rfl ?_;refine RS (ok_conv U5 U3 rfl) ?_; refine RZ (nI (a.toNat)) (congrArg (Value.int .i64) (wrap_i64 (by omega) (by have := a.toNat_lt; omega))) ?_;refine RS (ok_field field32_1 (by decide) rfl) ?_;refine RLV 1000007 U30 rfl rfl rfl ?_;refine RS (ok_lenV U30 rfl) ?_;refine RS (ok_rem rfl rfl (by omega)) ?_; refine RZ (nI (a.toNat % (tot (mN k) (hg (mN k) + 1)))) (by first | (rw [tmod_nat]; done) | (rw [tmod_nat]; rfl)) ?_;refine RS (ok_field field61_0 (by decide) rfl) ?_;refine RS (ok_loadP (s := 1000005) (by decide) U57 rfl size57 rfl rfl (by rw [zV_len hz]; decide) (zV_node hz o b)) ?_;refine RS (ok_indexS (a.toNat % (tot (mN k) (hg (mN k) + 1))) U30 infoN rfl rfl rfl hat) ?_;refine RN ?_;refine ⟨_, eff_storeP (n := 133) (s := 1000018) (size57.of (hz.len)) rfl rfl (NodT.one _) hBg18 rfl (by rw [List.length_append, nods_len (mT_fit k q S), hz.len]; omega) (LT 1000003 rfl (LT 1000005 rfl (LT 1000007 rfl (LO 1000721 rfl (LO 1000722 rfl (LeftS.cons (t := 1900000) rfl (Surv.tabH (by omega)) (LQ 1900001 rfl (LQ 1900002 rfl (LQ 1900003 rfl (LW [5, 7] rfl)))))))))), ?_⟩
 refine TL (RN (A.sub (KC 5 rfl (KC 7 rfl (KC 1000003 rfl (KC 1000005 rfl (KC 1000007 rfl (KE 1000018 rfl (show _ = blk g18 57 (nodsV (zT k q S a z) ++ y18) from congrArg (blk g18 57) (nods_setY (mT_fit k q S) (by omega) hz _)) (KC 1000721 rfl (KC 1000722 rfl (KC 1900000 rfl (KC 1900001 rfl (KC 1900002 rfl (KC 1900003 rfl KN)))))))))))) ?_));refine A.seqTo [(7, .v (ptr b7)), (1000007, blk b7 32 [.int .i64 n, .slice (some ⟨g18, 0, none⟩) (zT k q S a z).length q18]), (1000018, blk g18 57 (nodsV (zT k q S a z) ++ y18)), (1900000, tabH 0 ([errT])), (1900001, tab 1 (sizV)), (1900002, tab 2 (H8.list.map u32V)), (1900003, tab 3 (K64.map u32V))] ?_ ?_
 ·refine GT (RS (ok_field field61_1 (by decide) rfl) ?_);refine RS (ok_loadV (s := 1000005) (by decide) U5 rfl rfl rfl (zV_o hz o b)) ?_;refine RS (ok_rem rfl rfl (by decide)) ?_; refine RZ (nB (o.toNat % 4)) (by rw [tmod_lit _ (by decide)]; rfl) ?_;refine RB rfl rfl rfl ?_;refine RZ (.bool (decide (o.toNat % 4 = 3))) (congrArg Value.bool (decide_eq_decide.2 (by omega))) ?_;refine RN ?_;refine A.cond rfl (fun hc33 => ?_) (fun hc33 => ?_)
  ·have ho := of_decide_eq_true hc33
   refine GE (TF 3 (RS (ok_field field61_2 (by decide) rfl) ?_));refine RS (ok_loadV (s := 1000005) (by decide) U3 rfl rfl rfl (zV_b hz o b)) ?_;refine RS (ok_field field32_0 (by decide) rfl) ?_;refine RN ?_;refine ⟨_, eff_storeS (n := 133) (s := 1000007) info3 rfl rfl rfl hBb7 rfl (by simp) (LV 7 rfl (LT 1000003 rfl (LT 1000005 rfl (LT 1000018 rfl (LO 1000721 rfl (LO 1000722 rfl (LeftS.cons (t := 1900000) rfl (Surv.tabH (by omega)) (LQ 1900001 rfl (LQ 1900002 rfl (LQ 1900003 rfl LN)))))))))), ?_⟩
   refine TL (RN ?_);exact End.normal_then (End.toEnv (SQ 7 rfl (SubL.cons (t := 1000007) rfl (by first | exact Le.eq (by rw [hzl]; exact congrArg (fun v : Int => blk b7 32 [Value.int .i64 v, .slice (some ⟨g18, 0, none⟩) (tot (mN k) (hg (mN k) + 1)) q18]) ((show zBl k o b = b from if_pos (by omega)).symm.trans hn)) | exact Le.eq (by rw [hzl]; exact congrArg (fun v : Int => blk b7 32 [Value.int .i64 v, .slice (some ⟨g18, 0, none⟩) (tot (mN k) (hg (mN k) + 1)) q18]) ((show zBl k o b = (mN k : Int) from if_neg (by omega)).symm.trans hn))) (SQ 1000018 rfl (SQ 1900000 rfl (SQ 1900001 rfl (SQ 1900002 rfl (SQ 1900003 rfl SubL.nil))))))))
  ·have ho := of_decide_eq_false hc33
   refine A.skip ?_;exact End.normal_then (End.toEnv (SQ 7 rfl (SubL.cons (t := 1000007) rfl (by first | exact Le.eq (by rw [hzl]; exact congrArg (fun v : Int => blk b7 32 [Value.int .i64 v, .slice (some ⟨g18, 0, none⟩) (tot (mN k) (hg (mN k) + 1)) q18]) ((show zBl k o b = b from if_pos (by omega)).symm.trans hn)) | exact Le.eq (by rw [hzl]; exact congrArg (fun v : Int => blk b7 32 [Value.int .i64 v, .slice (some ⟨g18, 0, none⟩) (tot (mN k) (hg (mN k) + 1)) q18]) ((show zBl k o b = (mN k : Int) from if_neg (by omega)).symm.trans hn))) (SQ 1000018 rfl (SQ 1900000 rfl (SQ 1900001 rfl (SQ 1900002 rfl (SQ 1900003 rfl SubL.nil))))))))
 ·refine GT (RS (ok_field field32_0 (by decide) rfl) ?_);refine RLV 1000007 U3 rfl rfl rfl ?_;refine RS (ok_field field32_1 (by decide) rfl) ?_;refine RLV 1000007 U30 rfl rfl rfl ?_;refine RS (ok_callMK (rCheck16_fn n (some ⟨g18, 0, none⟩) (zT k q S a z) hzf q18) (SubK.cons (k := 1000018) (by decide) rfl Le.blkR SubK.nil) (A2 rfl rfl)) ?_;refine RVN 1 rfl ?_;refine GS (TN 5 (RL 1000007 U32 rfl rfl (size32.of rfl) ?_));refine RS (ok_callMK (Root_bad n (some ⟨g18, 0, none⟩) (zT k q S a z) hzf q18 he) (SubK.app (SubK.of (Sub.cons rfl (Sub.cons rfl (Sub.cons rfl (Sub.cons rfl KN)))) tabE_v) (SubK.cons (k := 1000018) (by decide) rfl Le.blkR SubK.nil)) (A1 rfl)) ?_;refine RVN 3 rfl ?_;refine ZN 1000009 zero40 fun b9 ⟨hBb9, hb9⟩ => ?_
  refine TF 6 (RN ?_); refine ZA 1000009 (size40.of rfl) hBb9 rfl rfl rfl (LT 1000007 rfl (LT 1000018 rfl (LeftS.cons (t := 1900000) rfl (Surv.tabH (by omega)) (LQ 1900001 rfl (LQ 1900002 rfl (LQ 1900003 rfl (LW [7, 8, 9, 46] rfl))))))) ?_;refine TL (RVN 1 rfl ?_);refine GS (TN 6 (RL 1000007 U32 rfl rfl (size32.of rfl) ?_));refine RS (ok_lit [] ([.int .i64 0] ++ [.int .i64 0]) (fun _ _ => rfl) (by kernel_rfl)) ?_;refine RS (ok_callMK (At_bad n (some ⟨g18, 0, none⟩) (zT k q S a z) hzf q18 he 0 0) (SubK.app (SubK.of (Sub.cons rfl (Sub.cons rfl (Sub.cons rfl (Sub.cons rfl KN)))) tabE_v) (SubK.cons (k := 1000018) (by decide) rfl Le.blkR SubK.nil)) (A2 rfl rfl)) ?_;refine RVN 3 rfl ?_;refine ZN 1000011 zero57 fun b11 ⟨hBb11, hb11⟩ => ?_
  have hlt_g18_b11 := hb11 1000018 g18 _ _ rfl
  refine TF 7 (RN ?_);refine ⟨_, eff_storeA (n := 133) (s := 1000011) (size57.of (rfl)) rfl rfl (NodT.one _) hBb11 rfl (rfl) (LT 1000007 rfl (LT 1000009 rfl (LB 1000018 rfl (LeftS.cons (t := 1900000) rfl (Surv.tabH (by omega)) (LQ 1900001 rfl (LQ 1900002 rfl (LQ 1900003 rfl (LW [7, 8, 9, 10, 11, 52] rfl)))))))), ?_⟩
  refine TL (RVN 1 rfl ?_);refine GT (RL 1000007 U32 rfl rfl (size32.of rfl) ?_);refine RS (ok_callMK (Recs_bad n (some ⟨g18, 0, none⟩) (zT k q S a z) hzf q18 he) (SubK.app (SubK.of (Sub.cons rfl (Sub.cons rfl (Sub.cons rfl (Sub.cons rfl KN)))) tabE_v) (SubK.cons (k := 1000018) (by decide) rfl Le.blkR SubK.nil)) (A1 rfl)) ?_;refine RVN 5 rfl ?_;refine A.sub (Sv [7, 8, 9, 10, 11, 12, 13, 14, 1000007, 1000009, 1000011, 1000018, 1900000, 1900001, 1900002, 1900003] rfl) ?_;refine GS (TN 5 (RL 1000007 U32 rfl rfl (size32.of rfl) ?_));refine RS (ok_callMK (Prove_bad n (some ⟨g18, 0, none⟩) (zT k q S a z) hzf q18 he 0) (SubK.app (SubK.of (Sub.cons rfl (Sub.cons rfl (Sub.cons rfl (Sub.cons rfl KN)))) tabE_v) (SubK.cons (k := 1000018) (by decide) rfl Le.blkR SubK.nil)) (A2 rfl rfl)) ?_;refine RVN 3 rfl ?_;refine ZN 1000015 zero69 fun b15 ⟨hBb15, hb15⟩ => ?_
  refine TF 6 (RN ?_); refine ZA 1000015 (size69.of rfl) hBb15 rfl rfl rfl (LT 1000007 rfl (LT 1000009 rfl (LT 1000011 rfl (LT 1000018 rfl (LeftS.cons (t := 1900000) rfl (Surv.tabH (by omega)) (LQ 1900001 rfl (LQ 1900002 rfl (LQ 1900003 rfl (LW [7, 8, 9, 10, 11, 12, 13, 14, 15, 62] rfl))))))))) ?_;refine TL (RVN 1 rfl ?_);refine QS (GT (RL 1000007 U32 rfl rfl (size32.of rfl) ?_));refine RS (ok_callMK (Check_fn n (some ⟨g18, 0, none⟩) (zT k q S a z) hzf q18) (SubK.app (SubK.of (Sub.cons rfl (Sub.cons rfl (Sub.cons rfl (Sub.cons rfl KN)))) tabE_v) (SubK.cons (k := 1000018) (by decide) rfl Le.blkR SubK.nil)) (A1 rfl)) ?_;refine RV 2 rfl ?_;refine RZ (.bool false) (congrArg Value.bool (bne_eq_false_iff_eq.2 (by first | rfl | exact he))) ?_;refine RV 4 rfl ?_;refine RZ (.bool false) (congrArg Value.bool (bne_eq_false_iff_eq.2 (by first | rfl | exact he))) ?_;refine RP rfl rfl ?_;refine RZ (.bool false) (by rfl) ?_;refine RV 4 rfl ?_;refine RZ (.bool false) (congrArg Value.bool (bne_eq_false_iff_eq.2 (by first | rfl | exact he))) ?_;refine RP rfl rfl ?_;refine RZ (.bool false) (by rfl) ?_;refine RV 4 rfl ?_;refine RZ (.bool false) (congrArg Value.bool (bne_eq_false_iff_eq.2 (by first | rfl | exact he))) ?_;refine RP rfl rfl ?_;refine RZ (.bool false) (by rfl) ?_;refine RV 4 rfl ?_;refine RZ (.bool false) (congrArg Value.bool (bne_eq_false_iff_eq.2 (by first | rfl | exact he))) ?_;refine RP rfl rfl ?_;refine RZ (.bool false) (by rfl) ?_;refine RN (A.sub (Sv [7, 8, 9, 11, 13, 15, 86, 1000007, 1000009, 1000011, 1000015, 1000018, 1900000, 1900001, 1900002, 1900003] rfl) ?_);refine A.no rfl ?_;refine QK (QS (GT (RV 2 rfl ?_)));refine RZ (.bool true) (congrArg Value.bool (bne_iff_ne.2 he)) ?_;refine RN (A.yes rfl ?_);refine GT (RL 1000009 U40 rfl rfl (size40.of rfl) ?_);refine RS (ok_litP [] U40 info5 zero40 (by decide) trivial rfl) ?_; refine RZ (aggV (zD.map byteV)) (by rfl) ?_;refine RS (ok_eqlT (n := 4) true flat40r (by decide) (by kernel_rfl) (by kernel_rfl) rfl rfl (kinB (show zD.length = 32 from rfl)) (kinB (show zD.length = 32 from rfl)) (iff_of_true rfl (rfl))) ?_;refine RM rfl ?_;refine RQ (ok_loadA (s := 1000011) (by decide) U57 rfl (size57.of (rfl)) rfl rfl) ?_;refine RQ (ok_lit [] (NodT.v (NodT.emp 0 0)) (fun _ _ => rfl) (by kernel_rfl)) ?_;refine RQ (ok_eqlT (n := 6) true flat57 (by decide) (by kernel_rfl) (by kernel_rfl) rfl rfl (NodT.emp_fit 0 (j := 0) (by decide)).kin (NodT.emp_fit 0 (j := 0) (by decide)).kin (iff_of_true rfl rfl)) ?_;refine RP rfl rfl ?_;refine RZ (.bool true) (by rfl) ?_;refine RV 2 rfl ?_;refine RQ (ok_lenV U26 rfl) ?_;refine RQ (ok_bin rfl rfl rfl) ?_;refine RZ (.bool true) (by rfl) ?_;refine RP rfl rfl ?_;refine RZ (.bool true) (by rfl) ?_;refine RM rfl ?_;refine RQ (ok_field field69_1 (by decide) rfl) ?_;refine RQ (ok_loadV (s := 1000015) (by decide) U30 rfl rfl rfl (rfl)) ?_;refine RQ (ok_lenV U30 rfl) ?_;refine RQ (ok_bin rfl rfl rfl) ?_;refine RZ (.bool true) (by rfl) ?_;refine RP rfl rfl ?_
  refine RZ (.bool true) (by rfl) ?_;refine RM rfl ?_;refine RQ (ok_callMK lives16_fn (SubK.of (Sub.cons rfl (Sub.cons rfl (Sub.cons rfl (Sub.cons rfl KN)))) tabE_v) Args.nil) ?_;refine RP rfl rfl ?_;refine RZ (.bool true) (by rfl) ?_;refine RVN 1 rfl ?_;refine A.sub (Sv [6, 1000007, 1000009, 1000011, 1000015, 1000018, 1900000, 1900001, 1900002, 1900003] rfl) ?_;refine A.ret (End.ret_then ?_);exact End.ret1 rfl rfl (Le.refl _)
set_option maxHeartbeats 4000000 in
theorem MCk_ok (k : UInt8) (q : List P2) (S : List UInt8) (a : UInt8) (z : NodT) (hz : z.Fit) (o : UInt8) (b : Int) (n : Nat) (hn : zBl k o b = (n : Int)) (ht : Tree n (zT k q S a z))  : FnM Tryz.prog 4 tabE [mD k q S, .v (byteV a), .v (aggV (zV z o b))] (.v (.bool true)) := by
 refine FnM.of Tryz.func4 rfl (by kernel_rfl) Tryz.ntmps4 (by simp) (by decide) (fun w => [(0, old w.heap.size (mD k q S)), (1, .v (byteV a)), (2, .v (aggV (zV z o b))), (1900000, tabH 0 ([errT])), (1900001, tab 1 (sizV)), (1900002, tab 2 (H8.list.map u32V)), (1900003, tab 3 (K64.map u32V))]) (fun w => (StartM.old rfl (StartM.v rfl (StartM.v rfl (StartM.m (by simp [tabE]) (by decide) (StartM.m (by simp [tabE]) (by decide) (StartM.m (by simp [tabE]) (by decide) (StartM.m (by simp [tabE]) (by decide) StartM.nil)))))))) fun w₀ hM => ?_
 have htab := tabE_hi hM
 refine A.openM (t := 0) (k₁ := 1000721) (k₂ := 1000722) rfl fun A₁ c₁ A₂ c₂ => ?_
 have hpos := mT_pos k
 have hN1 := mN1 k
 have hN2 := mN2 k
 have hTl := mT_len k q S
 have hzl := zT_len k q S a z
 have hzf := zT_fit k q S a hz
 have hat : a.toNat % (tot (mN k) (hg (mN k) + 1)) < (tot (mN k) (hg (mN k) + 1)) := Nat.mod_lt _ hpos
 have hsm := tot_small hN1 (mN4 k) (show hg (mN k) + 1 ≤ 6 by have := hg_le (mN k); omega)
 have h1 := ht.h1
 have h2 := ht.h2
 have hhn := hg_le n
 have hlen := ht.len
 have htp := un_top h1 h2
 have he : chkT n (zT k q S a z) = 0 := ht.chkT
 refine GS (TN 0 (RN ?_));refine ZB 1000003 rfl fun b3 ⟨hBb3, hb3⟩ => ?_
 refine TN 1 (RN ?_);refine ZB 1000005 rfl fun b5 ⟨hBb5, hb5⟩ => ?_
 refine TL (RVN 1 rfl ?_);refine GS (RunTK.newG 1 (by decide) rfl (.inl rfl) ?_);refine RL 1000003 U25 rfl rfl (size25.of rfl) ?_;refine RN ?_;refine ⟨_, _, _, eff_nameQ (n := 133) (d := 18) (k := 1000018) rfl rfl (fun B' => ok_callMBK (MTree_fnB k q S A₁ A₂ c₁ c₂) newQ_mono (SubK.cons (k := 1000721) (by decide) rfl Le.unold (SubK.cons (k := 1000722) (by decide) rfl Le.unold SubK.nil)) (A1 rfl)) (by decide) (by decide), fun x18 hx18 => ?_⟩
 obtain ⟨g18, q18, y18⟩ := x18
 have hBg18 : w₀.heap.size ≤ g18 := hx18.1
 have hmg18 := hx18.2.1
 dsimp only at hmg18
 refine TN 2 (RN ?_);refine ZN 1000007 zero32 fun b7 ⟨hBb7, hb7⟩ => ?_
 refine TF 3 (RN ?_); refine ZA 1000007 (size32.of rfl) hBb7 rfl rfl rfl (LT 1000003 rfl (LT 1000005 rfl (LT 1000018 rfl (LO 1000721 rfl (LO 1000722 rfl (LeftS.cons (t := 1900000) rfl (Surv.tabH (by omega)) (LQ 1900001 rfl (LQ 1900002 rfl (LQ 1900003 rfl (LW [1, 5, 7] rfl)))))))))) ?_;refine TL (RN (GD (TD 11 ?_)));refine RS (ok_field field32_1 (by decide) rfl) ?_;refine RLV 1000007 U30 rfl rfl rfl ?_;refine RM rfl ?_;refine RS (ok_conv U5 U3 rfl) ?_; refine RZ (nI (a.toNat)) (congrArg (Value.int .i64) (wrap_i64 (by omega) (by have := a.toNat_lt; omega))) ?_;refine RS (ok_field field32_1 (by decide) rfl) ?_;refine RLV 1000007 U30 rfl rfl rfl ?_;refine RS (ok_lenV U30 rfl) ?_;refine RS (ok_rem rfl rfl (by omega)) ?_; refine RZ (nI (a.toNat % (tot (mN k) (hg (mN k) + 1)))) (by first | (rw [tmod_nat]; done) | (rw [tmod_nat]; rfl)) ?_;refine RS (ok_field field61_0 (by decide) rfl) ?_;refine RS (ok_loadP (s := 1000005) (by decide) U57 rfl size57 rfl rfl (by rw [zV_len hz]; decide) (zV_node hz o b)) ?_;refine RS (ok_indexS (a.toNat % (tot (mN k) (hg (mN k) + 1))) U30 infoN rfl rfl rfl hat) ?_;refine RN ?_;refine ⟨_, eff_storeP (n := 133) (s := 1000018) (size57.of (hz.len)) rfl rfl (NodT.one _) hBg18 rfl (by rw [List.length_append, nods_len (mT_fit k q S), hz.len]; omega) (LT 1000003 rfl (LT 1000005 rfl (LT 1000007 rfl (LO 1000721 rfl (LO 1000722 rfl (LeftS.cons (t := 1900000) rfl (Surv.tabH (by omega)) (LQ 1900001 rfl (LQ 1900002 rfl (LQ 1900003 rfl (LW [5, 7] rfl)))))))))), ?_⟩
 refine TL (RN (A.sub (KC 5 rfl (KC 7 rfl (KC 1000003 rfl (KC 1000005 rfl (KC 1000007 rfl (KE 1000018 rfl (show _ = blk g18 57 (nodsV (zT k q S a z) ++ y18) from congrArg (blk g18 57) (nods_setY (mT_fit k q S) (by omega) hz _)) (KC 1000721 rfl (KC 1000722 rfl (KC 1900000 rfl (KC 1900001 rfl (KC 1900002 rfl (KC 1900003 rfl KN)))))))))))) ?_));refine A.seqTo [(7, .v (ptr b7)), (1000007, blk b7 32 [nI n, .slice (some ⟨g18, 0, none⟩) (zT k q S a z).length q18]), (1000018, blk g18 57 (nodsV (zT k q S a z) ++ y18)), (1900000, tabH 0 ([errT])), (1900001, tab 1 (sizV)), (1900002, tab 2 (H8.list.map u32V)), (1900003, tab 3 (K64.map u32V))] ?_ ?_
 ·refine GT (RS (ok_field field61_1 (by decide) rfl) ?_);refine RS (ok_loadV (s := 1000005) (by decide) U5 rfl rfl rfl (zV_o hz o b)) ?_;refine RS (ok_rem rfl rfl (by decide)) ?_; refine RZ (nB (o.toNat % 4)) (by rw [tmod_lit _ (by decide)]; rfl) ?_;refine RB rfl rfl rfl ?_;refine RZ (.bool (decide (o.toNat % 4 = 3))) (congrArg Value.bool (decide_eq_decide.2 (by omega))) ?_;refine RN ?_;refine A.cond rfl (fun hc33 => ?_) (fun hc33 => ?_)
  ·have ho := of_decide_eq_true hc33
   refine GE (TF 3 (RS (ok_field field61_2 (by decide) rfl) ?_));refine RS (ok_loadV (s := 1000005) (by decide) U3 rfl rfl rfl (zV_b hz o b)) ?_;refine RS (ok_field field32_0 (by decide) rfl) ?_;refine RN ?_;refine ⟨_, eff_storeS (n := 133) (s := 1000007) info3 rfl rfl rfl hBb7 rfl (by simp) (LV 7 rfl (LT 1000003 rfl (LT 1000005 rfl (LT 1000018 rfl (LO 1000721 rfl (LO 1000722 rfl (LeftS.cons (t := 1900000) rfl (Surv.tabH (by omega)) (LQ 1900001 rfl (LQ 1900002 rfl (LQ 1900003 rfl LN)))))))))), ?_⟩
   refine TL (RN ?_);exact End.normal_then (End.toEnv (SQ 7 rfl (SubL.cons (t := 1000007) rfl (by first | exact Le.eq (by rw [hzl]; exact congrArg (fun v : Int => blk b7 32 [Value.int .i64 v, .slice (some ⟨g18, 0, none⟩) (tot (mN k) (hg (mN k) + 1)) q18]) ((show zBl k o b = b from if_pos (by omega)).symm.trans hn)) | exact Le.eq (by rw [hzl]; exact congrArg (fun v : Int => blk b7 32 [Value.int .i64 v, .slice (some ⟨g18, 0, none⟩) (tot (mN k) (hg (mN k) + 1)) q18]) ((show zBl k o b = (mN k : Int) from if_neg (by omega)).symm.trans hn))) (SQ 1000018 rfl (SQ 1900000 rfl (SQ 1900001 rfl (SQ 1900002 rfl (SQ 1900003 rfl SubL.nil))))))))
  ·have ho := of_decide_eq_false hc33
   refine A.skip ?_;exact End.normal_then (End.toEnv (SQ 7 rfl (SubL.cons (t := 1000007) rfl (by first | exact Le.eq (by rw [hzl]; exact congrArg (fun v : Int => blk b7 32 [Value.int .i64 v, .slice (some ⟨g18, 0, none⟩) (tot (mN k) (hg (mN k) + 1)) q18]) ((show zBl k o b = b from if_pos (by omega)).symm.trans hn)) | exact Le.eq (by rw [hzl]; exact congrArg (fun v : Int => blk b7 32 [Value.int .i64 v, .slice (some ⟨g18, 0, none⟩) (tot (mN k) (hg (mN k) + 1)) q18]) ((show zBl k o b = (mN k : Int) from if_neg (by omega)).symm.trans hn))) (SQ 1000018 rfl (SQ 1900000 rfl (SQ 1900001 rfl (SQ 1900002 rfl (SQ 1900003 rfl SubL.nil))))))))
 ·refine GT (RS (ok_field field32_0 (by decide) rfl) ?_);refine RLV 1000007 U3 rfl rfl rfl ?_;refine RS (ok_field field32_1 (by decide) rfl) ?_;refine RLV 1000007 U30 rfl rfl rfl ?_;refine RS (ok_callMK (rCheck16_fn n (some ⟨g18, 0, none⟩) (zT k q S a z) hzf q18) (SubK.cons (k := 1000018) (by decide) rfl Le.blkR SubK.nil) (A2 rfl rfl)) ?_; refine RZ (.int .i64 0) (by rw [he]) ?_;refine RVN 1 rfl ?_;refine GS (TN 5 (RL 1000007 U32 rfl rfl (size32.of rfl) ?_));refine RS (ok_callMK (Root_ok n ⟨g18, 0, none⟩ (zT k q S a z) hzf q18 ht) (SubK.app (SubK.of (Sub.cons rfl (Sub.cons rfl (Sub.cons rfl (Sub.cons rfl KN)))) tabE_v) (SubK.cons (k := 1000018) (by decide) rfl Le.blkR SubK.nil)) (A1 rfl)) ?_;refine RVN 3 rfl ?_;refine ZN 1000009 zero40 fun b9 ⟨hBb9, hb9⟩ => ?_
  refine TF 6 (RN ?_);refine ⟨_, eff_storeA (n := 133) (s := 1000009) (size40.of (by rw [List.length_map, sha_length])) rfl rfl (all_bytes _) hBb9 rfl (by rw [List.length_map, sha_length]; rfl) (LT 1000007 rfl (LT 1000018 rfl (LeftS.cons (t := 1900000) rfl (Surv.tabH (by omega)) (LQ 1900001 rfl (LQ 1900002 rfl (LQ 1900003 rfl (LW [7, 8, 9, 46] rfl))))))), ?_⟩
  refine TL (RVN 1 rfl ?_);refine GS (TN 6 (RL 1000007 U32 rfl rfl (size32.of rfl) ?_));refine RS (ok_lit [] ([.int .i64 0] ++ [.int .i64 0]) (fun _ _ => rfl) (by kernel_rfl)) ?_;refine RS (ok_callMK (At_ok n ⟨g18, 0, none⟩ (zT k q S a z) hzf q18 ht 0 0 (Nat.zero_le _) (un_pos h1 _)) (SubK.app (SubK.of (Sub.cons rfl (Sub.cons rfl (Sub.cons rfl (Sub.cons rfl KN)))) tabE_v) (SubK.cons (k := 1000018) (by decide) rfl Le.blkR SubK.nil)) (A2 rfl rfl)) ?_;refine RV 2 rfl ?_;refine RZ (aggV (ndAt (zT k q S a z) 0).v) (by rfl) ?_;refine RVN 1 rfl ?_;refine ZN 1000011 zero57 fun b11 ⟨hBb11, hb11⟩ => ?_
  have hlt_g18_b11 := hb11 1000018 g18 _ _ rfl
  refine TF 7 (RN ?_);refine ⟨_, eff_storeA (n := 133) (s := 1000011) (size57.of ((hzf.at _).len)) rfl rfl (NodT.one _) hBb11 rfl (by rw [(hzf.at _).len]; rfl) (LT 1000007 rfl (LT 1000009 rfl (LB 1000018 rfl (LeftS.cons (t := 1900000) rfl (Surv.tabH (by omega)) (LQ 1900001 rfl (LQ 1900002 rfl (LQ 1900003 rfl (LW [7, 8, 9, 10, 11, 52] rfl)))))))), ?_⟩
  refine TL (RVN 1 rfl ?_);refine GS (TN 1 (RL 1000007 U32 rfl rfl (size32.of rfl) ?_));refine RN ?_;refine ZM 1000055 (fun B' => ok_callMBK (Recs_ok n ⟨g18, 0, none⟩ (zT k q S a z) hzf q18 ht) newD_mono (SubK.app (SubK.of (Sub.cons rfl (Sub.cons rfl (Sub.cons rfl (Sub.cons rfl KN)))) tabE_v) (SubK.cons (k := 1000018) (by decide) rfl Le.blkR SubK.nil)) (A1 rfl)) rfl fun b55 ⟨hBb55, hb55⟩ => ?_
  have hlt_b7_b55 := hb55 1000007 b7 _ _ rfl
  have hlt_b9_b55 := hb55 1000009 b9 _ _ rfl
  have hlt_b11_b55 := hb55 1000011 b11 _ _ rfl
  have hlt_g18_b55 := hb55 1000018 g18 _ _ rfl
  refine TL (RVN 5 rfl ?_);refine A.sub (Sv [7, 8, 9, 10, 11, 12, 13, 14, 1000007, 1000009, 1000011, 1000018, 1000055, 1900000, 1900001, 1900002, 1900003] rfl) ?_;refine GS (RunTK.newG 1 (by decide) rfl (.inl rfl) ?_);refine RL 1000007 U32 rfl rfl (size32.of rfl) ?_;refine RN ?_;refine ⟨_, _, _, eff_nameY (n := 133) (d := 60) (k := 1000060) rfl rfl (fun B' => ok_callMBK (Prove_okB n ⟨g18, 0, none⟩ (zT k q S a z) hzf q18 ht 0 (by omega)) newY_mono (SubK.app (SubK.of (Sub.cons rfl (Sub.cons rfl (Sub.cons rfl (Sub.cons rfl KN)))) tabE_v) (SubK.cons (k := 1000018) (by decide) rfl Le.blkR SubK.nil)) (A2 rfl rfl)) (by decide) (by decide), fun x60 hx60 => ?_⟩
  obtain ⟨g60, y60⟩ := x60
  have hBg60 : w₀.heap.size ≤ g60 := hx60.1
  refine TN 5 (RVN 3 rfl ?_);refine ZN 1000015 zero69 fun b15 ⟨hBb15, hb15⟩ => ?_
  refine TF 6 (RN ?_); refine ZA 1000015 (size69.of rfl) hBb15 rfl rfl rfl (LT 1000007 rfl (LT 1000009 rfl (LT 1000011 rfl (LT 1000018 rfl (LT 1000055 rfl (LT 1000060 rfl (LeftS.cons (t := 1900000) rfl (Surv.tabH (by omega)) (LQ 1900001 rfl (LQ 1900002 rfl (LQ 1900003 rfl (LW [7, 8, 9, 10, 11, 12, 13, 14, 15, 62] rfl))))))))))) ?_;refine TL (RVN 1 rfl ?_);refine QS (GT (RL 1000007 U32 rfl rfl (size32.of rfl) ?_));refine RS (ok_callMK (Check_fn n (some ⟨g18, 0, none⟩) (zT k q S a z) hzf q18) (SubK.app (SubK.of (Sub.cons rfl (Sub.cons rfl (Sub.cons rfl (Sub.cons rfl KN)))) tabE_v) (SubK.cons (k := 1000018) (by decide) rfl Le.blkR SubK.nil)) (A1 rfl)) ?_; refine RZ (.int .i64 0) (by rw [he]) ?_;refine RV 2 rfl ?_;refine RZ (.bool false) (congrArg Value.bool (bne_eq_false_iff_eq.2 (by first | rfl | exact he))) ?_;refine RV 4 rfl ?_;refine RZ (.bool false) (congrArg Value.bool (bne_eq_false_iff_eq.2 (by first | rfl | exact he))) ?_;refine RP rfl rfl ?_;refine RZ (.bool false) (by rfl) ?_;refine RV 4 rfl ?_;refine RZ (.bool false) (congrArg Value.bool (bne_eq_false_iff_eq.2 (by first | rfl | exact he))) ?_;refine RP rfl rfl ?_;refine RZ (.bool false) (by rfl) ?_;refine RV 4 rfl ?_;refine RZ (.bool false) (congrArg Value.bool (bne_eq_false_iff_eq.2 (by first | rfl | exact he))) ?_;refine RP rfl rfl ?_;refine RZ (.bool false) (by rfl) ?_;refine RV 4 rfl ?_;refine RZ (.bool false) (congrArg Value.bool (bne_eq_false_iff_eq.2 (by first | rfl | exact he))) ?_;refine RP rfl rfl ?_;refine RZ (.bool false) (by rfl) ?_;refine RN (A.sub (Sv [7, 8, 9, 11, 13, 15, 86, 1000007, 1000009, 1000011, 1000015, 1000018, 1000055, 1000060, 1900000, 1900001, 1900002, 1900003] rfl) ?_);refine A.no rfl ?_;refine QK (QS (GT (RV 2 rfl ?_)));refine RZ (.bool false) (by rfl) ?_;refine RN (A.no rfl ?_);refine QK (GTD (RL 1000009 U40 rfl rfl (size40.of (by rw [List.length_map, sha_length])) ?_));refine RS (ok_field field32_1 (by decide) rfl) ?_;refine RLV 1000007 U30 rfl rfl rfl ?_;refine RS (ok_field field32_1 (by decide) rfl) ?_;refine RLV 1000007 U30 rfl rfl rfl ?_;refine RS (ok_lenV U30 rfl) ?_;refine RB rfl rfl rfl ?_;refine RZ (nI (tot n (hg n))) (congrArg (Value.int .i64) ((wrap_i64 (by omega) (by omega)).trans (by omega))) ?_;refine RS (ok_indexS (tot n (hg n)) U30 infoN rfl rfl rfl (by omega)) ?_;refine RS (ok_loadP (s := 1000018) (by decide) U57 rfl size57 rfl rfl (by rw [List.length_append, nods_len hzf]; omega) (nods_blk hzf (by omega) _)) ?_;refine RS (ok_call (rDigest_fn (ndAt (zT k q S a z) (tot n (hg n))) (hzf.at _) (by have := (ht.fit (l := hg n) (j := 0) (Nat.le_refl _) (un_pos h1 _)).1; rw [Nat.add_zero] at this; omega)) (A1 rfl)) ?_;refine RS (ok_eqlT (n := 4) true flat40r (by decide) (by kernel_rfl) (by kernel_rfl) rfl rfl (kinB (sha_length _)) (kinB (sha_length _)) (iff_of_true rfl (rfl))) ?_;refine RM rfl ?_;refine RQ (ok_loadA (s := 1000011) (by decide) U57 rfl (size57.of ((hzf.at _).len)) rfl rfl) ?_;refine RQ (ok_field field32_1 (by decide) rfl) ?_
  refine RQ (ok_loadV (s := 1000007) (by decide) U30 rfl rfl rfl (rfl)) ?_;refine RQ (ok_indexS 0 U30 infoN rfl rfl rfl (by omega)) ?_;refine RQ (ok_loadP (s := 1000018) (by decide) U57 rfl size57 rfl rfl (by rw [List.length_append, nods_len hzf]; omega) (nods_blk hzf (by omega) _)) ?_;refine RQ (ok_eqlT (n := 6) true flat57 (by decide) (by kernel_rfl) (by kernel_rfl) rfl rfl (hzf.at _).kin (hzf.at _).kin (iff_of_true rfl rfl)) ?_;refine RP rfl rfl ?_;refine RZ (.bool true) (by rfl) ?_;refine RM rfl ?_;refine RQ (ok_callMK lives16_fn (SubK.of (Sub.cons rfl (Sub.cons rfl (Sub.cons rfl (Sub.cons rfl KN)))) tabE_v) Args.nil) ?_;refine RP rfl rfl ?_;refine RZ (.bool true) (by rfl) ?_;refine RVN 1 rfl ?_;refine A.sub (Sv [6, 1000007, 1000009, 1000011, 1000015, 1000018, 1000055, 1000060, 1900000, 1900001, 1900002, 1900003] rfl) ?_;refine A.ret ?_;exact End.ret1 rfl rfl (Le.refl _)
theorem MerklesCheck_fn (k : UInt8) (q : List P2) (S : List UInt8) (a : UInt8) (z : NodT) (hz : z.Fit) (o : UInt8) (b : Int) : FnM Tryz.prog 4 tabE [mD k q S, .v (byteV a), .v (aggV (zV z o b))] (.v (.bool true)) := by
 by_cases he : chkT (zBl k o b) (zT k q S a z) = 0
 ·obtain ⟨n, hn, ht⟩ := chk_tree he
  exact MCk_ok k q S a z hz o b n hn ht
 ·exact MCk_bad k q S a z hz o b _ rfl he
end
section
open Go Go.RowKit Go.ChangeShapes Go.WideShapes
end
section
open Go Go.RowKit Go.ChangeShapes Go.WideShapes
set_option linter.unusedVariables false
set_option linter.unusedSimpArgs false
section
variable {H : Type} {enc : TypeId × Value → H} {P : Program} {w : World} {base : Nat} {held : Bool}
theorem flat_at {α : Type} {f : α → List Value} {sz : Nat} (hl : ∀ x, (f x).length = sz) : ∀ {l : List α} {i k : Nat}, (hi : i < l.length) → k < sz → (l.flatMap f)[i * sz + k]? = (f l[i])[k]?
 | x :: l, 0, k, _, hk => by
  simp only [List.flatMap_cons, List.getElem_cons_zero, Nat.zero_mul, Nat.zero_add]
  rw [List.getElem?_append_left (by rw [hl]; exact hk)]
 | x :: l, i + 1, k, hi, hk => by
  have ih := flat_at (f := f) hl (l := l) (i := i) (k := k) (by simpa using hi) hk
  simp only [List.flatMap_cons, List.getElem_cons_succ]
  rw [List.getElem?_append_right (by rw [hl, Nat.add_mul]; omega), hl, show (i + 1) * sz + k - sz = i * sz + k by rw [Nat.add_mul]; omega, ih]
theorem trod_rows {α : Type} {f : α → List Value} {R : α → Prop} {sz n : Nat} {ks : List IntKind} (x₀ : α) (hl : ∀ x, R x → (f x).length = sz) (h0 : (f x₀).length = sz) (hopen : ∀ ys, Kin (fun k m => (Lit.int k m).wf = true) ks ys → ∃ x, R x ∧ ys = f x)
  {t e : TypeId} {fuel : Nat} {cs : List Value} {y : DataW H × List MemPlace} (ht : P.underlying t = some (.slice e)) (hf : flat P n e = some ks) (hc : P.cellsOf e = sz) (hsz : 0 < sz) (h : DataW.trod enc P w base (fun _ => true) held fuel t cs = some y) :
  ∃ (v : Value) (l : List α), cs = [v] ∧ (∀ x ∈ l, R x) ∧ (rowD l.length (l.flatMap f)).Of w v ∧ (∃ A m c, v = .slice A m c) := by
 rcases DataW.trod_slice ht h with ⟨rfl, _⟩ | ⟨a, len, cap, elems, rest, m, _, rfl, _, hba, hlc, hm, hlen, hel, _, _⟩
 ·exact ⟨_, [], rfl, (fun x hx => by cases hx), rowD_nil.of (w := w) (x := .slice none 0 0) rfl, _, _, _, rfl⟩
 ·have each : ∀ i, ∃ x : α, (f x).length = sz ∧ (i < len → R x ∧ ∀ k, k < sz → w.cell? (a.add (i * sz + k)) = (f x)[k]?) := fun i => by
   by_cases hi : i < len
   ·have h1 := hel i hi
    rw [List.getElem?_eq_getElem (by omega), hc, Option.bind_eq_some_iff] at h1
    obtain ⟨cs', h2, h3⟩ := h1
    obtain ⟨x, hx, rfl⟩ := hopen _ (trod_flat n hf h3)
    obtain ⟨_, _, h4⟩ := World.cells?_some h2
    exact ⟨x, hl x hx, fun _ => ⟨hx, fun k hk => by rw [← add_of_add]; exact h4 k hk⟩⟩
   ·exact ⟨x₀, h0, fun h => absurd h hi⟩
  obtain ⟨g, hg⟩ := Classical.axiomOfChoice each
  have hgl : ∀ i, (f (g i)).length = sz := fun i => (hg i).1
  refine ⟨_, (List.range len).map g, rfl, fun x hx => ?_, ?_, _, _, _, rfl⟩
  ·obtain ⟨i, hi, rfl⟩ := List.mem_map.1 hx
   exact ((hg i).2 (List.mem_range.1 hi)).1
  ·refine ⟨some a, cap, by simp, fun j u hu => ⟨a, rfl, ?_, ?_⟩⟩
   all_goals
    have hfm : ((List.range len).map g).flatMap f = (List.range len).flatMap fun i => f (g i) := by rw [List.flatMap_map]
    have hj : j < len * sz := by
     have h5 := (List.getElem?_eq_some_iff.1 hu).1
     rw [hfm, List.length_flatMap] at h5
     have h6 : ((List.range len).map fun i => (f (g i)).length).sum = len * sz := by
      rw [show ((List.range len).map fun i => (f (g i)).length) = List.replicate len sz from by rw [List.eq_replicate_iff]; exact ⟨by simp, fun b hb => by obtain ⟨i, _, rfl⟩ := List.mem_map.1 hb; exact hgl i⟩]
      simp
     omega
    have hi : j / sz < len := by rw [Nat.div_lt_iff_lt_mul hsz]; exact hj
    have hk : j % sz < sz := Nat.mod_lt _ hsz
    have hjj : j / sz * sz + j % sz = j := Nat.div_add_mod' j sz
    have hcell := ((hg (j / sz)).2 hi).2 (j % sz) hk
    have h7 := flat_at (f := fun i => f (g i)) hgl (l := List.range len) (i := j / sz) (k := j % sz) (by simpa using hi) hk
    rw [hjj, List.getElem_range] at h7
    rw [hfm] at hu
    rw [hjj, ← h7, hu] at hcell
   ·have := block_of_cell hcell
    rwa [block_of_add] at this
   ·exact hcell
end
end
section
open Go Go.RowKit Go.ChangeShapes Go.WideShapes
end
section
open Go Go.RowKit Go.ChangeShapes Go.WideShapes
section
variable {H : Type} {enc : TypeId × Value → H} {P : Program} {w : World} {base : Nat} {held : Bool}
theorem rec_of_kin {xs : List Value} (h : Kin (fun k m => (Lit.int k m).wf = true) (.u8 :: .u32 :: .u64 :: List.replicate 32 .u8) xs) : ∃ r : RecT, r.Fit ∧ xs = r.v := by
 obtain ⟨n, y, rfl, h1, h2⟩ := h.cons
 obtain ⟨m, y, rfl, h3, h4⟩ := h2.cons
 obtain ⟨q, y, rfl, h5, h6⟩ := h4.cons
 obtain ⟨l, hl, rfl⟩ := h6.bytes
 obtain ⟨a, rfl, ha⟩ := nat_u8 h1
 obtain ⟨s, rfl, hs⟩ := nat_u32 h3
 obtain ⟨c, rfl, hc⟩ := nat_u64 h5
 exact ⟨⟨UInt8.ofNat a, s, c, l⟩, ⟨hl, hs, hc⟩, by rw [RecT.v, recV, byteV_nat a ha]⟩
theorem ent_of_kin {xs : List Value} (h : Kin (fun k m => (Lit.int k m).wf = true) (.u8 :: List.replicate 32 .u8) xs) : ∃ r : EntT, r.Fit ∧ xs = r.v := by
 obtain ⟨n, y, rfl, h1, h2⟩ := h.cons
 obtain ⟨l, hl, rfl⟩ := h2.bytes
 obtain ⟨a, rfl, ha⟩ := nat_u8 h1
 exact ⟨⟨UInt8.ofNat a, l⟩, ⟨hl⟩, by rw [EntT.v, entV, byteV_nat a ha]⟩
theorem rows_of_kin {α : Type} {F : α → Prop} {v : α → List Value} {ks : List IntKind} (ho : ∀ xs, Kin (fun k m => (Lit.int k m).wf = true) ks xs → ∃ r, F r ∧ xs = v r) : ∀ {n : Nat} {xs : List Value}, Kin (fun k m => (Lit.int k m).wf = true) (List.replicate n ks).flatten xs → ∃ R : List α, R.length = n ∧ (∀ r ∈ R, F r) ∧ xs = R.flatMap v
 | 0, xs, h => ⟨[], rfl, fun _ h => by (cases h), h.nil⟩
 | n + 1, xs, h => by
  rw [List.replicate_succ, List.flatten_cons] at h
  obtain ⟨x, y, rfl, h1, h2⟩ := h.append
  obtain ⟨r, hr, rfl⟩ := ho _ h1
  obtain ⟨R, hR, hf, rfl⟩ := rows_of_kin ho h2
  exact ⟨r :: R, by rw [List.length_cons, hR], fun q hq => (List.mem_cons.1 hq).elim (fun e => e ▸ hr) (hf q), by rw [List.flatMap_cons]⟩
end
end
section
open Go Go.RowKit Go.ChangeShapes Go.WideShapes
set_option linter.unusedVariables false
set_option linter.unusedSimpArgs false
section
variable {H : Type} {enc : TypeId × Value → H} {P : Program} {w : World} {base : Nat} {held : Bool}
theorem nod_of_kin {xs : List Value} (h : Kin (fun k m => (Lit.int k m).wf = true) (.u8 :: .u32 :: ((List.replicate 4 (.u8 :: .u32 :: .u64 :: List.replicate 32 .u8)).flatten ++ (List.replicate 4 (.u8 :: List.replicate 32 .u8)).flatten)) xs) : ∃ x : NodT, x.Fit ∧ xs = x.v := by
 obtain ⟨n, y, rfl, h1, h2⟩ := h.cons
 obtain ⟨m, y, rfl, h3, h4⟩ := h2.cons
 obtain ⟨a, rfl, ha⟩ := nat_u8 h1
 obtain ⟨j, rfl, hj⟩ := nat_u32 h3
 obtain ⟨x, z, rfl, h5, h6⟩ := h4.append
 obtain ⟨R, hR, hfR, rfl⟩ := rows_of_kin (fun _ => rec_of_kin) h5
 obtain ⟨E, hE, hfE, rfl⟩ := rows_of_kin (fun _ => ent_of_kin) h6
 exact ⟨⟨UInt8.ofNat a, j, R, E⟩, ⟨hj, hR, hE, hfR, hfE⟩, by rw [NodT.v, nodV, byteV_nat a ha]; rfl⟩
theorem arg_M {t e e' : TypeId} {f0 f1 f2 : Field} {v : Value} {d : DataW H} {ps : List MemPlace} (ht : P.underlying t = some (.struct #[f0, f1, f2])) (o0 : f0.offset = 0) (o1 : f1.offset = 1) (o2 : f2.offset = 2) (t0 : flat P 3 f0.type = some [.u8]) (t1 : P.underlying f1.type = some (.slice e)) (t2 : P.underlying f2.type = some (.slice e'))
  (c0 : P.cellsOf f0.type = 1) (c1 : P.cellsOf f1.type = 1) (c2 : P.cellsOf f2.type = 1) (hC : P.cellsOf t = 3) (hf : flat P 3 e = some [.u8, .u8]) (hc : P.cellsOf e = 2) (hf2 : flat P 3 e' = some [.u8]) (hc2 : P.cellsOf e' = 1) {r : Reach} {b0 : Nat} (hk : Value.okWide P w r b0 t v) (h : DataW.Trod enc P w base (fun _ => true) held t v d ps) :
  ∃ (k : UInt8) (q : List P2) (S : List UInt8), (mD k q S).Of w v := by
 obtain ⟨cs, rfl, hcs⟩ := okWide_struct ht hk
 obtain ⟨fuel, hf'⟩ := h
 obtain ⟨xs, m, _, _, hlen, hxl, hel⟩ := DataW.trod_struct ht hf'
 have hlen' : cs.toList.length = 3 := by rw [← hC]; exact hlen
 have hxl' : xs.length = 3 := by simpa using hxl
 have e0 := hel 0 f0 rfl
 have e1 := hel 1 f1 rfl
 have e2 := hel 2 f2 rfl
 rw [List.getElem?_eq_getElem (by omega)] at e0 e1 e2
 rw [o0, c0] at e0
 rw [o1, c1] at e1
 rw [o2, c2] at e2
 have k0 := trod_flat 3 t0 e0
 obtain ⟨a, h3, h4⟩ := k0.one
 obtain ⟨u, l, h1, _, ⟨A, q, hv, hrow⟩, _⟩ := trod_rows (f := p2V) (R := fun _ => True) ((0, 0) : P2) (fun _ _ => rfl) rfl (fun ys hy => by
  obtain ⟨a, y, rfl, h1, h2⟩ := hy.cons
  obtain ⟨b, rfl, h3⟩ := h2.one
  exact ⟨⟨UInt8.ofNat a.toNat, UInt8.ofNat b.toNat⟩, trivial, by rw [wf_u8 h1, wf_u8 h3]; rfl⟩) t1 hf hc (by decide) e1
 obtain ⟨u2, l2, k1, _, ⟨A2, q2, kv, krow⟩, _⟩ := trod_rows (f := fun x : UInt8 => [byteV x]) (R := fun _ => True) (0 : UInt8) (fun _ _ => rfl) rfl (fun ys hy => by
  obtain ⟨b, rfl, h3⟩ := hy.one
  exact ⟨UInt8.ofNat b.toNat, trivial, by rw [wf_u8 h3]⟩) t2 hf2 hc2 (by decide) e2
 have hm' : ∀ l : List UInt8, (l.flatMap fun x : UInt8 => [byteV x]) = l.map byteV := fun l => by
  induction l with
  | nil => rfl
  | cons a l ih => rw [List.flatMap_cons, ih]; rfl
 have hm := hm' l2
 rw [hm] at krow
 refine ⟨UInt8.ofNat a.toNat, l, l2, A, q, A2, q2, ?_, hrow, krow⟩
 have h3' : (cs.toList.drop 0).take 1 = [.int .u8 a] := h3
 have h1' : (cs.toList.drop 1).take 1 = [u] := h1
 have k1' : (cs.toList.drop 2).take 1 = [u2] := k1
 unfold aggV
 show Value.agg cs = _
 congr 1
 apply Array.ext'
 show cs.toList = _
 match hcl : cs.toList, hlen' with
 | [x, y, z], _ =>
  rw [hcl] at h3' h1' k1'
  simp at h3' h1' k1'
  rw [h3', h1', k1', hv, kv, wf_u8 h4]
theorem arg_Z16 {t : TypeId} {v : Value} {d : DataW H} {ps : List MemPlace} (hf : flat P 7 t = some ((.u8 :: .u32 :: ((List.replicate 4 (.u8 :: .u32 :: .u64 :: List.replicate 32 .u8)).flatten ++ (List.replicate 4 (.u8 :: List.replicate 32 .u8)).flatten)) ++ [.u8, .i64])) (hg : isAggT P t = true) {r : Reach} {b0 : Nat} (hk : Value.okWide P w r b0 t v)
  (h : DataW.Trod enc P w base (fun _ => true) held t v d ps) : ∃ (z : NodT) (o : UInt8) (b : Int), z.Fit ∧ v = aggV (z.v ++ [byteV o, .int .i64 b]) := by
 obtain ⟨xs, rfl, hx⟩ := arg_flat 7 hf hg hk h
 obtain ⟨x, y, rfl, h1, h2⟩ := hx.append
 obtain ⟨z, hz, rfl⟩ := nod_of_kin h1
 obtain ⟨o, y, rfl, h3, h4⟩ := h2.cons
 obtain ⟨b, rfl, h5⟩ := h4.one
 exact ⟨z, UInt8.ofNat o.toNat, b, hz, by rw [wf_u8 h3]⟩
end
end
end Go.Proofs.YtmkpekmhhbcifaaGreatDoor
