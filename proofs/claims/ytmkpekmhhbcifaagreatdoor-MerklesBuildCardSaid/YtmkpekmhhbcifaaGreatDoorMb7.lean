/-
  OWN TEXTS of this seat, put together, part 7: C16t, Law9, Law8, Law4, Law11, Law14.
-/
import Derived.Test.YtmkpekmhhbcifaaGreatDoorMb0
import Derived.Test.YtmkpekmhhbcifaaGreatDoorMb2
import Derived.Test.YtmkpekmhhbcifaaGreatDoorMb6
import Derived.Test.YtmkpekmhhbcifaaGreatDoorMb1
import Derived.Test.YtmkpekmhhbcifaaGreatDoorMb4
import Derived.Test.YtmkpekmhhbcifaaGreatDoorMb3
namespace Go.Proofs.YtmkpekmhhbcifaaGreatDoor
open Go Go.RowKit
set_option linter.unusedVariables false
set_option maxRecDepth 20000
set_option linter.unusedSimpArgs false
theorem mT_root (k : UInt8) (q : List P2) (S : List UInt8) : ndAt (mT k q S) (tot (mN k) (hg (mN k))) = nodR (mR k q) (mS k S) (hg (mN k)) 0 := by
 have hh := hg_le (mN k)
 have htp := un_top (mN1 k) (mN4 k)
 have hl := mR_len k q
 have h := treR_at (R := mR k q) (S := mS k S) (m := tot (mN k) (hg (mN k) + 1)) (l := hg (mN k)) (j := 0) (by omega) (by rw [hl, un_root (mN1 k) (mN4 k)]; decide) (by rw [hl]; omega)
 rw [hl, Nat.add_zero] at h; exact h
theorem mT_grps (k : UInt8) (q : List P2) (S : List UInt8) : GrpsOf (mR k q) (mT k q S) := treR_grps (by rw [mR_len]; exact tot_mono (by omega))
theorem mT_rec (k : UInt8) (q : List P2) (S : List UInt8) {i : Nat} (hi : i < mN k) : recT (mT k q S) i = mAt q i := by
 rw [(mT_grps k q S).recs (by rw [mR_len]; exact hi), mP_at hi]
theorem recs_blk {R : List RecT} (hR : FitR R) {i : Nat} (hi : i < R.length) (ys : List Value) : ((recsV R ++ ys).drop (0 + i * 35)).take 35 = (recAt R i).v := by
 have hl := recs_len hR
 rw [Nat.zero_add, List.drop_append_of_le_length (by omega), List.take_append_of_le_length (by rw [List.length_drop]; omega), recs_at hR hi]
theorem recs_blk0 {R : List RecT} (hR : FitR R) (hi : 0 < R.length) (ys : List Value) : (recsV R ++ ys)[0 + 0 * 35 + 0]? = some (byteV (recAt R 0).x) := by
 have hl := recs_len hR
 rw [List.getElem?_append_left (by omega)]
 exact recs_x hR hi
theorem nods_blkj {T : List NodT} (hT : FitT T) (hi : 0 < T.length) (ys : List Value) : (nodsV T ++ ys)[0 + 0 * 274 + 1]? = some (.int .u32 ((ndAt T 0).j : Int)) := by
 have hl := nods_len hT
 rw [List.getElem?_append_left (by omega)]
 exact nods_j hT hi
theorem mBack (k : UInt8) (q : List P2) (S : List UInt8) (i : Nat) (hi : i < mN k) : ((recsV (pgM (mN k) (recT (mT k q S)) (mN k))).drop (0 + i * 35)).take 35 = (mAt q i).v := by
 have hrf : ∀ k', (recT (mT k q S) k').Fit := fun k' => ((mT_fit k q S).at _).r _
 rw [Nat.zero_add, recs_at (pgM_fit hrf _ _) (by rw [pgM_len]; exact hi)]
 congr 1
 unfold recAt pgM
 rw [List.getD_eq_getElem?_getD, List.getElem?_map, List.getElem?_range hi]
 simp only [Option.map_some, Option.getD_some, if_pos hi]
 exact mT_rec k q S hi
theorem mBack0 (k : UInt8) (q : List P2) (S : List UInt8) : (recsV (pgM (mN k) (recT (mT k q S)) (mN k)))[0 + 0 * 35 + 0]? = some (byteV (recAt (pgM (mN k) (recT (mT k q S)) (mN k)) 0).x) := recs_x (i := 0) (pgM_fit (fun k' => ((mT_fit k q S).at _).r _) _ _) (by rw [pgM_len]; exact mN1 k)
theorem Build_n (n m : Nat) (h1 : 1 ≤ n) (h2 : n ≤ 4096) (R : List RecT) (hn : R.length = n) (hR : FitR R) (hO : OkR R) (S : List Nat) (hm : S.length = m) (hS : OkS S) (hSl : m = tot n (hg n + 1)) (a₁ a₂ : Addr) (c₁ c₂ : Nat) (hc : n ≤ c₁) : FnMB Tryz.prog 12 (tabN ++ [(1000801, memR (some a₁) (recsV R)), (1000701, memR (some a₂) (slotV S))]) [.v (nI n), .v (.slice (some a₁) n c₁), .v (.slice (some a₂) m c₂)] (fun B => newY B 57 (fun b => .tuple #[aggV [nI n, .slice (some ⟨b, 0, none⟩) (tot n (hg n + 1)) (tot n (hg n + 1))], .int .i64 0]) (nodsV (treR R S (tot n (hg n + 1))))) := by
 subst hn; subst hm; exact Build_okB R hR h1 h2 hO S hS hSl a₁ a₂ c₁ c₂ hc
set_option maxHeartbeats 8000000 in
theorem MerklesBuild_fn (k : UInt8) (q : List P2) (S : List UInt8)  : FnM Tryz.prog 3 tabE [mD k q S] (.v (.bool true)) := by
 refine FnM.of Tryz.func3 rfl (by kernel_rfl) Tryz.ntmps3 (by simp) (by decide) (fun w => [(0, old w.heap.size (mD k q S)), (1900000, tabH 0 ([errT])), (1900001, tab 1 (sizV)), (1900002, tab 2 (H8.list.map u32V)), (1900003, tab 3 (K64.map u32V))]) (fun w => (StartM.old rfl (StartM.m (by simp [tabE]) (by decide) (StartM.m (by simp [tabE]) (by decide) (StartM.m (by simp [tabE]) (by decide) (StartM.m (by simp [tabE]) (by decide) StartM.nil)))))) fun w₀ hM => ?_
 have htab := tabE_hi hM
 refine A.openM (t := 0) (k₁ := 1000721) (k₂ := 1000722) rfl fun A₁ c₁ A₂ c₂ => ?_
 have hpos := mT_pos k
 have hN1 := mN1 k
 have hN2 := mN2 k
 have hTl := mT_len k q S
 have hsm := tot_small hN1 (mN4 k) (show hg (mN k) + 1 ≤ 6 by have := hg_le (mN k); omega)
 refine GS (TN 0 (RN ?_));refine ZB 1000001 rfl fun b1 ⟨hBb1, hb1⟩ => ?_
 refine TL (RVN 1 rfl ?_);refine GT (RL 1000001 U25 rfl rfl (size25.of rfl) ?_);refine RS (ok_callMBK (MOf_fnB k q S A₁ A₂ c₁ c₂) (fun _ _ h => tup_le2 (ownP_mono h) (ownP_mono h)) (SubK.cons (k := 1000721) (by decide) rfl Le.unold (SubK.cons (k := 1000722) (by decide) rfl Le.unold SubK.nil)) (A1 rfl)) ?_;refine RM rfl ?_;refine RS (ok_extract rfl rfl) ?_;refine RS (ok_extract rfl rfl) ?_;refine RVN 2 rfl ?_;refine A.nameP (t := 3) (k := 1000321) rfl (fun w y h => ownP_one h) fun v3 hv3 => ?_
 refine A.openRowY (k := 1000321) (k' := 1000303) rfl (by rw [recs_len (mP_fit q _), mP_len]; have := mN1 k; omega) fun g3 q3 y3 hBg3 hq3 e3 => ?_
 subst e3
 refine A.nameP (t := 4) (k := 1000322) rfl (fun w y h => ownP_one h) fun v4 hv4 => ?_
 refine A.openRowY (k := 1000322) (k' := 1000701) rfl (by unfold slotV; rw [List.length_map, mSP_len]; exact mT_pos k) fun sd sdq ysd hBsd hsdq esd => ?_
 subst esd
 refine GS (RunTK.newG 4 (by decide) rfl (.inl rfl) ?_);refine RM rfl ?_;refine RS (ok_lenV U26 rfl) ?_;refine RVN 2 rfl ?_;refine ⟨_, _, _, eff_nameY (n := 150) (d := 23) (k := 1000023) rfl rfl (fun B' => ok_callMBK (Build_n (mN k) (tot (mN k) (hg (mN k) + 1)) (mN1 k) (mN4 k) (mR k q) (mR_len k q) (mP_fit q _) (mP_ok q _) (mS k S) (mS_len k S) (mSP_ok S _) rfl ⟨g3, 0, none⟩ ⟨sd, 0, none⟩ q3 sdq hq3) newY_mono (SubK.app (SubK.of (Sub.cons rfl (Sub.cons rfl (Sub.cons rfl KN))) tabN_v) (SubK.cons (k := 1000303) (by decide) rfl Le.blkR (SubK.cons (k := 1000701) (by decide) rfl Le.blkR SubK.nil))) (A3 rfl rfl rfl)) (by decide) (by decide), fun x23 hx23 => ?_⟩
 obtain ⟨g23, y23⟩ := x23
 have hBg23 : w₀.heap.size ≤ g23 := hx23.1
 have hlt_g3_g23 : g3 < g23 := hx23.2 1000303 _ _ _ rfl
 refine TN 8 (RV 2 rfl ?_);refine RZ (aggV [nI (mN k), .slice (some ⟨g23, 0, none⟩) (mT k q S).length (mT k q S).length]) (by rw [hTl]) ?_;refine RVN 1 rfl ?_;refine ZN 1000005 zero32 fun b5 ⟨hBb5, hb5⟩ => ?_
 refine TF 9 (RN ?_); refine ZA 1000005 (size32.of rfl) hBb5 rfl rfl rfl (LT 1000001 rfl (LT 1000023 rfl (LT 1000303 rfl (LT 1000701 rfl (LO 1000721 rfl (LO 1000722 rfl (LeftS.cons (t := 1900000) rfl (Surv.tabH (by omega)) (LQ 1900001 rfl (LQ 1900002 rfl (LQ 1900003 rfl (LW [1, 3, 4, 5, 25] rfl))))))))))) ?_;refine TL (RVN 1 rfl ?_);refine QS (GTD (RV 2 rfl ?_));refine RZ (.bool false) (by rfl) ?_;refine RM rfl ?_;refine RQ (ok_field field32_0 (by decide) rfl) ?_;refine RQ (ok_loadV (s := 1000005) (by decide) U3 rfl rfl rfl (rfl)) ?_;refine RQ (ok_move rfl) ?_;refine RQ (ok_lenV U26 rfl) ?_;refine RQ (ok_bin rfl rfl rfl) ?_;refine RZ (.bool false) (congrArg Value.bool (bne_eq_false_iff_eq.2 rfl)) ?_;refine RP rfl rfl ?_;refine RZ (.bool false) (by rfl) ?_;refine RM rfl ?_;refine RQ (ok_field field32_1 (by decide) rfl) ?_;refine RQ (ok_loadV (s := 1000005) (by decide) U30 rfl rfl rfl (rfl)) ?_;refine RV 2 rfl ?_;refine RQ (ok_callMBK (rTree_n (mN k) (tot (mN k) (hg (mN k) + 1)) (mN1 k) (mN4 k) (mR k q) (mR_len k q) (mP_fit q _) ⟨g3, 0, none⟩ q3 (mS k S) (mS_len k S) (mSP_ok S _) (Nat.le_refl _) ⟨sd, 0, none⟩ sdq) (fun _ _ h => ownP_mono h) (SubK.cons (k := 1000303) (by decide) rfl Le.blkR (SubK.cons (k := 1000701) (by decide) rfl Le.blkR SubK.nil)) (A2 rfl rfl)) ?_;refine RQ (ok_callMK (same16_rn (some ⟨g23, 0, none⟩) (mT k q S) (mT k q S) (mT_fit k q S) (mT_fit k q S) (mT k q S).length (by omega)) (SubK.cons (k := 1000023) (by decide) rfl Le.blkR SubK.nil) (Args.cons rfl (Le.refl _) (Args.cons rfl (ownP_rowD.trans (Le.eq (by rw [hTl]))) Args.nil))) ?_; refine RZ (.int .i64 1) (congrArg (Value.int .i64) (smE_y rfl rfl fun _ _ => rfl)) ?_;refine RQ (ok_bin rfl rfl rfl) ?_;refine RZ (.bool false) (by rfl) ?_;refine RP rfl rfl ?_;refine RZ (.bool false) (by rfl) ?_;refine RM rfl ?_;refine RQ (ok_loadA (s := 1000005) (by decide) U32 rfl (size32.of (rfl)) rfl rfl) ?_;refine RQ (ok_callMK (Check_fn (mN k) (some ⟨g23, 0, none⟩) (mT k q S) (mT_fit k q S) (mT k q S).length) (SubK.app (SubK.of (Sub.cons rfl (Sub.cons rfl (Sub.cons rfl (Sub.cons rfl KN)))) tabE_v) (SubK.cons (k := 1000023) (by decide) rfl Le.blkR SubK.nil)) (A1 rfl)) ?_; refine RZ (.int .i64 0) (by rw [(mT_tree k q S).chkT]) ?_;refine RQ (ok_bin rfl rfl rfl) ?_;refine RZ (.bool false) (by rfl) ?_;refine RP rfl rfl ?_;refine RZ (.bool false) (by rfl) ?_;refine RN (A.sub (Sv [1, 3, 4, 5, 48, 1000001, 1000005, 1000023, 1000303, 1000701, 1000721, 1000722, 1900000, 1900001, 1900002, 1900003] rfl) ?_);refine A.no rfl ?_;refine QK (GS (TN 5 (RL 1000005 U32 rfl rfl (size32.of rfl) ?_)));refine RS (ok_callMK (Root_ok (mN k) ⟨g23, 0, none⟩ (mT k q S) (mT_fit k q S) (mT k q S).length (mT_tree k q S)) (SubK.app (SubK.of (Sub.cons rfl (Sub.cons rfl (Sub.cons rfl (Sub.cons rfl KN)))) tabE_v) (SubK.cons (k := 1000023) (by decide) rfl Le.blkR SubK.nil)) (A1 rfl)) ?_;refine RVN 3 rfl ?_;refine ZN 1000007 zero40 fun b7 ⟨hBb7, hb7⟩ => ?_
 refine TF 6 (RN ?_);refine ⟨_, eff_storeA (n := 150) (s := 1000007) (size40.of (by rw [List.length_map, sha_length])) rfl rfl (all_bytes _) hBb7 rfl (by rw [List.length_map, sha_length]; rfl) (LT 1000001 rfl (LT 1000005 rfl (LT 1000023 rfl (LT 1000303 rfl (LT 1000701 rfl (LO 1000721 rfl (LO 1000722 rfl (LeftS.cons (t := 1900000) rfl (Surv.tabH (by omega)) (LQ 1900001 rfl (LQ 1900002 rfl (LQ 1900003 rfl (LW [1, 3, 4, 5, 7, 53] rfl)))))))))))), ?_⟩
 refine TL (RVN 1 rfl ?_);refine GS (TN 1 (RL 1000005 U32 rfl rfl (size32.of rfl) ?_));refine RN ?_;refine ZM 1000056 (fun B' => ok_callMBK (Recs_ok (mN k) ⟨g23, 0, none⟩ (mT k q S) (mT_fit k q S) (mT k q S).length (mT_tree k q S)) newD_mono (SubK.app (SubK.of (Sub.cons rfl (Sub.cons rfl (Sub.cons rfl (Sub.cons rfl KN)))) tabE_v) (SubK.cons (k := 1000023) (by decide) rfl Le.blkR SubK.nil)) (A1 rfl)) rfl fun b56 ⟨hBb56, hb56⟩ => ?_
 have hlt_b1_b56 := hb56 1000001 b1 _ _ rfl
 have hlt_b5_b56 := hb56 1000005 b5 _ _ rfl
 have hlt_b7_b56 := hb56 1000007 b7 _ _ rfl
 have hlt_g23_b56 := hb56 1000023 g23 _ _ rfl
 have hlt_g3_b56 := hb56 1000303 g3 _ _ rfl
 have hlt_sd_b56 := hb56 1000701 sd _ _ rfl
 refine TL (RVN 5 rfl ?_);refine QS (GTD (RV 2 rfl ?_));refine RZ (.bool false) (by rfl) ?_;refine RV 3 rfl ?_;refine RZ (.bool false) (by rfl) ?_;refine RP rfl rfl ?_;refine RZ (.bool false) (by rfl) ?_;refine RM rfl ?_;refine RQ (ok_loadA (s := 1000007) (by decide) U40 rfl (size40.of (by rw [List.length_map, sha_length])) rfl rfl) ?_;refine RV 2 rfl ?_;refine RQ (ok_callMK (rRoot_n (mN k) (tot (mN k) (hg (mN k) + 1)) (mN1 k) (mN4 k) (mR k q) (mR_len k q) (mP_fit q _) ⟨g3, 0, none⟩ q3 (mS k S) (mS_len k S) (mSP_ok S _) (Nat.le_refl _) ⟨sd, 0, none⟩ sdq) (SubK.cons (k := 1000303) (by decide) rfl Le.blkR (SubK.cons (k := 1000701) (by decide) rfl Le.blkR SubK.nil)) (A2 rfl rfl)) ?_;refine RQ (ok_neqT (n := 4) true flat40r (by decide) (by kernel_rfl) (by kernel_rfl) rfl rfl (kinB (sha_length _)) (kinB (sha_length _)) (iff_of_true rfl (by rw [mT_root]))) ?_; refine RZ (.bool false) (by rfl) ?_;refine RP rfl rfl ?_;refine RZ (.bool false) (by rfl) ?_;refine RV 2 rfl ?_;refine RQ (ok_lenV U26 rfl) ?_;refine RQ (ok_move rfl) ?_;refine RQ (ok_lenV U26 rfl) ?_;refine RQ (ok_bin rfl rfl rfl) ?_;refine RZ (.bool false) (congrArg Value.bool (bne_eq_false_iff_eq.2 rfl)) ?_;refine RP rfl rfl ?_;refine RZ (.bool false) (by rfl) ?_;refine RV 2 rfl ?_;refine RQ (ok_capV U26 rfl) ?_;refine RQ (ok_move rfl) ?_;refine RQ (ok_lenV U26 rfl) ?_;refine RQ (ok_bin rfl rfl rfl) ?_;refine RZ (.bool false) (congrArg Value.bool (bne_eq_false_iff_eq.2 rfl)) ?_;refine RP rfl rfl ?_;refine RZ (.bool false) (by rfl) ?_;refine RN (A.sub (Sv [1, 3, 5, 8, 85, 1000001, 1000005, 1000007, 1000023, 1000056, 1000303, 1000701, 1000721, 1000722, 1900000, 1900001, 1900002, 1900003] rfl) ?_);refine A.no rfl ?_;refine QK (QS (GV rfl (A.block ?_)));refine A.loop (ι := Nat) (fun i => i ≤ mN k) (fun i => [(1, .v (ptr b1)), (3, .v (.slice (some ⟨g3, 0, none⟩) (mN k) q3)), (5, .v (ptr b5)), (8, .v (.slice (some ⟨b56, 0, none⟩) (mN k) (mN k))), (10, .v (nI (i))), (1000001, blk b1 25 [byteV k, .slice A₁ q.length c₁, .slice A₂ S.length c₂]), (1000005, blk b5 32 [nI (mN k), .slice (some ⟨g23, 0, none⟩) (mT k q S).length (mT k q S).length]), (1000303, blk g3 51 (recsV (mR k q) ++ y3)), (1000023, blk g23 57 (nodsV (mT k q S) ++ y23)), (1000056, blk b56 51 (recsV (pgM (mN k) (recT (mT k q S)) (mN k)))), (1000721, old w₀.heap.size (memR A₁ (p2R q))), (1000722, old w₀.heap.size (memR A₂ (S.map byteV))), (1900000, tabH 0 ([errT])), (1900001, tab 1 (sizV)), (1900002, tab 2 (H8.list.map u32V)), (1900003, tab 3 (K64.map u32V))]) (fun i => mN k - i) 0 ?_ ?_ ?_
 ·exact Nat.zero_le _
 ·exact (KC 1 rfl (KC 3 rfl (KC 5 rfl (KC 8 rfl (KE 10 rfl (by rfl) (KC 1000001 rfl (KC 1000005 rfl (KC 1000303 rfl (KC 1000023 rfl (KC 1000056 rfl (KC 1000721 rfl (KC 1000722 rfl (KC 1900000 rfl (KC 1900001 rfl (KC 1900002 rfl (KC 1900003 rfl KN))))))))))))))))
 intro i hi'
 have hrf : ∀ k', (recT (mT k q S) k').Fit := fun k' => ((mT_fit k q S).at _).r _
 have hbk := mBack k q S
 have hb0 := mBack0 k q S
 refine QS (GT (RV 2 rfl ?_));refine RS (ok_lenV U26 rfl) ?_;refine RVN 1 rfl ?_;refine A.cond rfl (fun hc89 => ?_) (fun hc89 => ?_)
 ·have hi : i < mN k := by simp at hc89; omega
  refine QK (QSB (GTD (RV 2 rfl ?_)));refine RS (ok_indexS i U26 infoP51 rfl rfl rfl hi) ?_;refine RS (ok_loadP (s := 1000056) (by decide) U51 rfl size51 rfl rfl (by rw [recs_len (pgM_fit hrf _ _), pgM_len]; omega) (hbk i hi)) ?_; refine RZ (aggV (mAt q i).v) (by rfl) ?_;refine RV 2 rfl ?_;refine RS (ok_indexS i U26 infoP51 rfl rfl rfl hi) ?_;refine RS (ok_loadP (s := 1000303) (by decide) U51 rfl size51 rfl rfl (by rw [List.length_append, recs_len (mP_fit q _), mP_len]; omega) ((recs_blk (mP_fit q _) (by rw [mP_len]; exact hi) _).trans (by rw [mP_at hi]))) ?_; refine RZ (aggV (mAt q i).v) (by rfl) ?_;refine RS (ok_neqT (n := 4) true flat51 (by decide) (by kernel_rfl) (by kernel_rfl) rfl rfl (mAt_fit q i).kin (mAt_fit q i).kin (iff_of_true rfl rfl)) ?_; refine RZ (.bool false) (by rfl) ?_;refine RN (A.no rfl ?_);refine A.skip (End.normal_block (EN (GTE (RV 2 rfl ?_))));refine RZ (nI (i + 1)) (wrap_eq (by omega) (by omega)) ?_;refine RVN 1 rfl ?_;refine End.normal_then ?_;refine End.again (i + 1) ?_ ?_ ?_
  ·show _ ≤ _; omega
  ·show _ - _ < _ - _; omega
  ·exact (Sv [1, 3, 5, 8, 10, 1000001, 1000005, 1000303, 1000023, 1000056, 1000721, 1000722, 1900000, 1900001, 1900002, 1900003] rfl)
 ·skip
  refine A.exit (End.exit_then (End.exit_then (End.exit_here (EN (GS (TF 7 (RM rfl ?_)))))));refine RS (ok_indexS 0 U26 infoP51 rfl rfl rfl (by omega)) ?_;refine RS (ok_field field51_0 (by decide) rfl) ?_;refine RS (ok_loadV (s := 1000056) (by decide) U5 rfl rfl rfl (hb0)) ?_;refine RB rfl rfl rfl ?_;refine RS (ok_indexS 0 U26 infoP51 rfl rfl rfl (by omega)) ?_;refine RS (ok_field field51_0 (by decide) rfl) ?_;refine RN ?_;refine ⟨_, eff_storeS (n := 150) (s := 1000056) info5 rfl rfl rfl hBb56 rfl (by rw [recs_len (pgM_fit hrf _ _), pgM_len]; omega) (LT 1000001 rfl (LT 1000005 rfl (LT 1000023 rfl (LB 1000303 rfl (LO 1000721 rfl (LO 1000722 rfl (LeftS.cons (t := 1900000) rfl (Surv.tabH (by omega)) (LQ 1900001 rfl (LQ 1900002 rfl (LQ 1900003 rfl (LW [1, 3, 5] rfl))))))))))), ?_⟩
  refine TL (RN (GS (TF 7 (RM rfl ?_))));refine RS (ok_indexS 0 U26 infoP51 rfl rfl rfl (by omega)) ?_;refine RS (ok_field field51_0 (by decide) rfl) ?_;refine RS (ok_loadV (s := 1000303) (by decide) U5 rfl rfl rfl (recs_blk0 (mP_fit q _) (by rw [mP_len]; omega) _)) ?_;refine RB rfl rfl rfl ?_;refine RS (ok_indexS 0 U26 infoP51 rfl rfl rfl (by omega)) ?_;refine RS (ok_field field51_0 (by decide) rfl) ?_;refine RN ?_;refine ⟨_, eff_storeS (n := 150) (s := 1000303) info5 rfl rfl rfl hBg3 rfl (by rw [List.length_append, recs_len (mP_fit q _), mP_len]; omega) (LT 1000001 rfl (LT 1000005 rfl (LT 1000023 rfl (LB 1000056 rfl (LO 1000721 rfl (LO 1000722 rfl (LeftS.cons (t := 1900000) rfl (Surv.tabH (by omega)) (LQ 1900001 rfl (LQ 1900002 rfl (LQ 1900003 rfl (LW [1, 5] rfl))))))))))), ?_⟩
  refine TL (RN (GS (TF 8 (RS (ok_field field32_1 (by decide) rfl) ?_))));refine RLV 1000005 U30 rfl rfl rfl ?_;refine RS (ok_indexS 0 U30 infoN rfl rfl rfl (by omega)) ?_;refine RS (ok_field field57_1 (by decide) rfl) ?_;refine RS (ok_loadV (s := 1000023) (by decide) U46 rfl rfl rfl (nods_blkj (mT_fit k q S) (by omega) _)) ?_;refine RB rfl rfl rfl ?_;refine RS (ok_indexS 0 U30 infoN rfl rfl rfl (by omega)) ?_;refine RS (ok_field field57_1 (by decide) rfl) ?_;refine RN ?_;refine ⟨_, eff_storeS (n := 150) (s := 1000023) info46 rfl rfl rfl hBg23 rfl (by rw [List.length_append, nods_len (mT_fit k q S)]; omega) (LV 1 rfl (LT 1000001 rfl (LT 1000005 rfl (LT 1000056 rfl (LT 1000303 rfl (LO 1000721 rfl (LO 1000722 rfl (LeftS.cons (t := 1900000) rfl (Surv.tabH (by omega)) (LQ 1900001 rfl (LQ 1900002 rfl (LQ 1900003 rfl LN))))))))))), ?_⟩
  refine TL (RN (A.sub (Sv [1, 1000001, 1000005, 1000023, 1000056, 1000303, 1000721, 1000722, 1900000, 1900001, 1900002, 1900003] rfl) ?_));refine GT (RL 1000001 U25 rfl rfl (size25.of rfl) ?_);refine RS (ok_callMBK (MOf_fnB k q S A₁ A₂ c₁ c₂) (fun _ _ h => tup_le2 (ownP_mono h) (ownP_mono h)) (SubK.cons (k := 1000721) (by decide) rfl Le.unold (SubK.cons (k := 1000722) (by decide) rfl Le.unold SubK.nil)) (A1 rfl)) ?_;refine RM rfl ?_;refine RS (ok_extract rfl rfl) ?_;refine RS (ok_extract rfl rfl) ?_;refine RVN 2 rfl ?_;refine A.nameP (t := 11) (k := 1000321) rfl (fun w y h => ownP_one h) fun v11 hv11 => ?_
  refine A.openRowY (k := 1000321) (k' := 1000311) rfl (by rw [recs_len (mP_fit q _), mP_len]; have := mN1 k; omega) fun g11 q11 y11 hBg11 hq11 e11 => ?_
  subst e11
  refine A.nameP (t := 4) (k := 1000322) rfl (fun w y h => ownP_one h) fun v4 hv4 => ?_
  refine A.openRowY (k := 1000322) (k' := 1000702) rfl (by unfold slotV; rw [List.length_map, mSP_len]; exact mT_pos k) fun se seq yse hBse hseq ese => ?_
  subst ese
  refine GS (RunTK.newG 4 (by decide) rfl (.inl rfl) ?_);refine RM rfl ?_;refine RS (ok_lenV U26 rfl) ?_;refine RVN 2 rfl ?_;refine ⟨_, _, _, eff_nameY (n := 150) (d := 133) (k := 1000133) rfl rfl (fun B' => ok_callMBK (Build_n (mN k) (tot (mN k) (hg (mN k) + 1)) (mN1 k) (mN4 k) (mR k q) (mR_len k q) (mP_fit q _) (mP_ok q _) (mS k S) (mS_len k S) (mSP_ok S _) rfl ⟨g11, 0, none⟩ ⟨se, 0, none⟩ q11 seq hq11) newY_mono (SubK.app (SubK.of (Sub.cons rfl (Sub.cons rfl (Sub.cons rfl KN))) tabN_v) (SubK.cons (k := 1000311) (by decide) rfl Le.blkR (SubK.cons (k := 1000702) (by decide) rfl Le.blkR SubK.nil))) (A3 rfl rfl rfl)) (by decide) (by decide), fun x133 hx133 => ?_⟩
  obtain ⟨g133, y133⟩ := x133
  have hBg133 : w₀.heap.size ≤ g133 := hx133.1
  refine TN 8 (RV 2 rfl ?_);refine RZ (aggV [nI (mN k), .slice (some ⟨g133, 0, none⟩) (mT k q S).length (mT k q S).length]) (by rw [hTl]) ?_;refine RVN 1 rfl ?_;refine ZN 1000012 zero32 fun b12 ⟨hBb12, hb12⟩ => ?_
  have hlt_b5_b12 := hb12 1000005 b5 _ _ rfl
  refine TF 9 (RN ?_); refine ZA 1000012 (size32.of rfl) hBb12 rfl rfl rfl (LT 1000001 rfl (LB 1000005 rfl (LT 1000023 rfl (LT 1000056 rfl (LT 1000133 rfl (LT 1000303 rfl (LT 1000311 rfl (LT 1000702 rfl (LO 1000721 rfl (LO 1000722 rfl (LeftS.cons (t := 1900000) rfl (Surv.tabH (by omega)) (LQ 1900001 rfl (LQ 1900002 rfl (LQ 1900003 rfl (LW [4, 11, 12, 135] rfl))))))))))))))) ?_;refine TL (RVN 1 rfl ?_);refine GTD (RV 2 rfl ?_);refine RZ (.bool true) (by rfl) ?_;refine RM rfl ?_;refine RQ (ok_field field32_1 (by decide) rfl) ?_;refine RQ (ok_loadV (s := 1000012) (by decide) U30 rfl rfl rfl (rfl)) ?_;refine RV 2 rfl ?_;refine RQ (ok_callMBK (rTree_n (mN k) (tot (mN k) (hg (mN k) + 1)) (mN1 k) (mN4 k) (mR k q) (mR_len k q) (mP_fit q _) ⟨g11, 0, none⟩ q11 (mS k S) (mS_len k S) (mSP_ok S _) (Nat.le_refl _) ⟨se, 0, none⟩ seq) (fun _ _ h => ownP_mono h) (SubK.cons (k := 1000311) (by decide) rfl Le.blkR (SubK.cons (k := 1000702) (by decide) rfl Le.blkR SubK.nil)) (A2 rfl rfl)) ?_;refine RQ (ok_callMK (same16_rn (some ⟨g133, 0, none⟩) (mT k q S) (mT k q S) (mT_fit k q S) (mT_fit k q S) (mT k q S).length (by omega)) (SubK.cons (k := 1000133) (by decide) rfl Le.blkR SubK.nil) (Args.cons rfl (Le.refl _) (Args.cons rfl (ownP_rowD.trans (Le.eq (by rw [hTl]))) Args.nil))) ?_; refine RZ (.int .i64 1) (congrArg (Value.int .i64) (smE_y rfl rfl fun _ _ => rfl)) ?_;refine RQ (ok_bin rfl rfl rfl) ?_;refine RZ (.bool true) (by rfl) ?_;refine RP rfl rfl ?_;refine RZ (.bool true) (by rfl) ?_;refine RM rfl ?_;refine RQ (ok_callMK lives16_fn (SubK.of (Sub.cons rfl (Sub.cons rfl (Sub.cons rfl (Sub.cons rfl KN)))) tabE_v) Args.nil) ?_;refine RP rfl rfl ?_;refine RZ (.bool true) (by rfl) ?_;refine RVN 1 rfl ?_;refine A.sub (Sv [2, 1000001, 1000005, 1000012, 1000023, 1000056, 1000133, 1000303, 1000311, 1000702, 1000721, 1000722, 1900000, 1900001, 1900002, 1900003] rfl) ?_;refine A.ret ?_;exact End.ret1 rfl rfl (Le.refl _)
section
open Go Go.RowKit Go.ChangeShapes Go.WideShapes
end
section
open Go Go.RowKit Go.ChangeShapes Go.WideShapes
set_option linter.unusedVariables false
set_option linter.unusedSimpArgs false
section
variable {H : Type} {enc : TypeId × Value → H} {P : Program} {w : World} {base : Nat} {held : Bool}
theorem flat_at {α : Type} {f : α → List Value} {sz : Nat} (hl : ∀ x, (f x).length = sz) : ∀ {l : List α} {i k : Nat}, (hi : i < l.length) → k < sz → (l.flatMap f)[i * sz + k]? = (f l[i])[k]?
 | x :: l, 0, k, _, hk => by
  simp only [List.flatMap_cons, List.getElem_cons_zero, Nat.zero_mul, Nat.zero_add]
  rw [List.getElem?_append_left (by rw [hl]; exact hk)]
 | x :: l, i + 1, k, hi, hk => by
  have ih := flat_at (f := f) hl (l := l) (i := i) (k := k) (by simpa using hi) hk
  simp only [List.flatMap_cons, List.getElem_cons_succ]
  rw [List.getElem?_append_right (by rw [hl, Nat.add_mul]; omega), hl, show (i + 1) * sz + k - sz = i * sz + k by rw [Nat.add_mul]; omega, ih]
theorem trod_rows {α : Type} {f : α → List Value} {R : α → Prop} {sz n : Nat} {ks : List IntKind} (x₀ : α) (hl : ∀ x, R x → (f x).length = sz) (h0 : (f x₀).length = sz) (hopen : ∀ ys, Kin (fun k m => (Lit.int k m).wf = true) ks ys → ∃ x, R x ∧ ys = f x)
  {t e : TypeId} {fuel : Nat} {cs : List Value} {y : DataW H × List MemPlace} (ht : P.underlying t = some (.slice e)) (hf : flat P n e = some ks) (hc : P.cellsOf e = sz) (hsz : 0 < sz) (h : DataW.trod enc P w base (fun _ => true) held fuel t cs = some y) :
  ∃ (v : Value) (l : List α), cs = [v] ∧ (∀ x ∈ l, R x) ∧ (rowD l.length (l.flatMap f)).Of w v ∧ (∃ A m c, v = .slice A m c) := by
 rcases DataW.trod_slice ht h with ⟨rfl, _⟩ | ⟨a, len, cap, elems, rest, m, _, rfl, _, hba, hlc, hm, hlen, hel, _, _⟩
 ·exact ⟨_, [], rfl, (fun x hx => by cases hx), rowD_nil.of (w := w) (x := .slice none 0 0) rfl, _, _, _, rfl⟩
 ·have each : ∀ i, ∃ x : α, (f x).length = sz ∧ (i < len → R x ∧ ∀ k, k < sz → w.cell? (a.add (i * sz + k)) = (f x)[k]?) := fun i => by
   by_cases hi : i < len
   ·have h1 := hel i hi
    rw [List.getElem?_eq_getElem (by omega), hc, Option.bind_eq_some_iff] at h1
    obtain ⟨cs', h2, h3⟩ := h1
    obtain ⟨x, hx, rfl⟩ := hopen _ (trod_flat n hf h3)
    obtain ⟨_, _, h4⟩ := World.cells?_some h2
    exact ⟨x, hl x hx, fun _ => ⟨hx, fun k hk => by rw [← add_of_add]; exact h4 k hk⟩⟩
   ·exact ⟨x₀, h0, fun h => absurd h hi⟩
  obtain ⟨g, hg⟩ := Classical.axiomOfChoice each
  have hgl : ∀ i, (f (g i)).length = sz := fun i => (hg i).1
  refine ⟨_, (List.range len).map g, rfl, fun x hx => ?_, ?_, _, _, _, rfl⟩
  ·obtain ⟨i, hi, rfl⟩ := List.mem_map.1 hx
   exact ((hg i).2 (List.mem_range.1 hi)).1
  ·refine ⟨some a, cap, by simp, fun j u hu => ⟨a, rfl, ?_, ?_⟩⟩
   all_goals
    have hfm : ((List.range len).map g).flatMap f = (List.range len).flatMap fun i => f (g i) := by rw [List.flatMap_map]
    have hj : j < len * sz := by
     have h5 := (List.getElem?_eq_some_iff.1 hu).1
     rw [hfm, List.length_flatMap] at h5
     have h6 : ((List.range len).map fun i => (f (g i)).length).sum = len * sz := by
      rw [show ((List.range len).map fun i => (f (g i)).length) = List.replicate len sz from by rw [List.eq_replicate_iff]; exact ⟨by simp, fun b hb => by obtain ⟨i, _, rfl⟩ := List.mem_map.1 hb; exact hgl i⟩]
      simp
     omega
    have hi : j / sz < len := by rw [Nat.div_lt_iff_lt_mul hsz]; exact hj
    have hk : j % sz < sz := Nat.mod_lt _ hsz
    have hjj : j / sz * sz + j % sz = j := Nat.div_add_mod' j sz
    have hcell := ((hg (j / sz)).2 hi).2 (j % sz) hk
    have h7 := flat_at (f := fun i => f (g i)) hgl (l := List.range len) (i := j / sz) (k := j % sz) (by simpa using hi) hk
    rw [hjj, List.getElem_range] at h7
    rw [hfm] at hu
    rw [hjj, ← h7, hu] at hcell
   ·have := block_of_cell hcell
    rwa [block_of_add] at this
   ·exact hcell
end
end
section
open Go Go.RowKit Go.ChangeShapes Go.WideShapes
end
section
open Go Go.RowKit Go.ChangeShapes Go.WideShapes
end
section
open Go Go.RowKit Go.ChangeShapes Go.WideShapes
set_option linter.unusedVariables false
set_option linter.unusedSimpArgs false
section
variable {H : Type} {enc : TypeId × Value → H} {P : Program} {w : World} {base : Nat} {held : Bool}
theorem arg_M {t e e' : TypeId} {f0 f1 f2 : Field} {v : Value} {d : DataW H} {ps : List MemPlace} (ht : P.underlying t = some (.struct #[f0, f1, f2])) (o0 : f0.offset = 0) (o1 : f1.offset = 1) (o2 : f2.offset = 2) (t0 : flat P 3 f0.type = some [.u8]) (t1 : P.underlying f1.type = some (.slice e)) (t2 : P.underlying f2.type = some (.slice e'))
  (c0 : P.cellsOf f0.type = 1) (c1 : P.cellsOf f1.type = 1) (c2 : P.cellsOf f2.type = 1) (hC : P.cellsOf t = 3) (hf : flat P 3 e = some [.u8, .u8]) (hc : P.cellsOf e = 2) (hf2 : flat P 3 e' = some [.u8]) (hc2 : P.cellsOf e' = 1) {r : Reach} {b0 : Nat} (hk : Value.okWide P w r b0 t v) (h : DataW.Trod enc P w base (fun _ => true) held t v d ps) :
  ∃ (k : UInt8) (q : List P2) (S : List UInt8), (mD k q S).Of w v := by
 obtain ⟨cs, rfl, hcs⟩ := okWide_struct ht hk
 obtain ⟨fuel, hf'⟩ := h
 obtain ⟨xs, m, _, _, hlen, hxl, hel⟩ := DataW.trod_struct ht hf'
 have hlen' : cs.toList.length = 3 := by rw [← hC]; exact hlen
 have hxl' : xs.length = 3 := by simpa using hxl
 have e0 := hel 0 f0 rfl
 have e1 := hel 1 f1 rfl
 have e2 := hel 2 f2 rfl
 rw [List.getElem?_eq_getElem (by omega)] at e0 e1 e2
 rw [o0, c0] at e0
 rw [o1, c1] at e1
 rw [o2, c2] at e2
 have k0 := trod_flat 3 t0 e0
 obtain ⟨a, h3, h4⟩ := k0.one
 obtain ⟨u, l, h1, _, ⟨A, q, hv, hrow⟩, _⟩ := trod_rows (f := p2V) (R := fun _ => True) ((0, 0) : P2) (fun _ _ => rfl) rfl (fun ys hy => by
  obtain ⟨a, y, rfl, h1, h2⟩ := hy.cons
  obtain ⟨b, rfl, h3⟩ := h2.one
  exact ⟨⟨UInt8.ofNat a.toNat, UInt8.ofNat b.toNat⟩, trivial, by rw [wf_u8 h1, wf_u8 h3]; rfl⟩) t1 hf hc (by decide) e1
 obtain ⟨u2, l2, k1, _, ⟨A2, q2, kv, krow⟩, _⟩ := trod_rows (f := fun x : UInt8 => [byteV x]) (R := fun _ => True) (0 : UInt8) (fun _ _ => rfl) rfl (fun ys hy => by
  obtain ⟨b, rfl, h3⟩ := hy.one
  exact ⟨UInt8.ofNat b.toNat, trivial, by rw [wf_u8 h3]⟩) t2 hf2 hc2 (by decide) e2
 have hm' : ∀ l : List UInt8, (l.flatMap fun x : UInt8 => [byteV x]) = l.map byteV := fun l => by
  induction l with
  | nil => rfl
  | cons a l ih => rw [List.flatMap_cons, ih]; rfl
 have hm := hm' l2
 rw [hm] at krow
 refine ⟨UInt8.ofNat a.toNat, l, l2, A, q, A2, q2, ?_, hrow, krow⟩
 have h3' : (cs.toList.drop 0).take 1 = [.int .u8 a] := h3
 have h1' : (cs.toList.drop 1).take 1 = [u] := h1
 have k1' : (cs.toList.drop 2).take 1 = [u2] := k1
 unfold aggV
 show Value.agg cs = _
 congr 1
 apply Array.ext'
 show cs.toList = _
 match hcl : cs.toList, hlen' with
 | [x, y, z], _ =>
  rw [hcl] at h3' h1' k1'
  simp at h3' h1' k1'
  rw [h3', h1', k1', hv, kv, wf_u8 h4]
end
end
end Go.Proofs.YtmkpekmhhbcifaaGreatDoor
