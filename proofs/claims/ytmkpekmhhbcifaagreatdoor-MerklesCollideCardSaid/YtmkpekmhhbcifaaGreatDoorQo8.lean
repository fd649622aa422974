/-
  OWN TEXTS of this seat, put together, part 8: C16q, Law9, Law8, Law4, Law11, Law14.
-/
import Derived.Test.YtmkpekmhhbcifaaGreatDoorQo0
import Derived.Test.YtmkpekmhhbcifaaGreatDoorQo2
import Derived.Test.YtmkpekmhhbcifaaGreatDoorQo7
import Derived.Test.YtmkpekmhhbcifaaGreatDoorQo1
import Derived.Test.YtmkpekmhhbcifaaGreatDoorQo5
import Derived.Test.YtmkpekmhhbcifaaGreatDoorQo3
namespace Go.Proofs.YtmkpekmhhbcifaaGreatDoor
set_option linter.unusedVariables false
set_option linter.unusedSimpArgs false
set_option maxRecDepth 20000
open Go Go.RowKit
set_option maxHeartbeats 2000000 in
theorem MCol_big (n : Int) (d : List UInt8) (hd : d.length = 32) (x y : Int) (T W : List NodT) (hT : FitT T) (hW : FitT W) (h8 : ¬ (T.length ≤ 8 ∧ W.length ≤ 8))  : FnM Tryz.prog 7 tabE [.v (.int .i64 (n)), .v (aggV (d.map byteV)), pfD2 x T y W] (.v (.bool true)) := by
 refine FnM.of Tryz.func7 rfl (by kernel_rfl) Tryz.ntmps7 (by simp) (by decide) (fun w => [(0, .v (.int .i64 (n))), (1, .v (aggV (d.map byteV))), (2, old w.heap.size (pfD2 x T y W)), (1900000, tabH 0 ([errT])), (1900001, tab 1 (sizV)), (1900002, tab 2 (H8.list.map u32V)), (1900003, tab 3 (K64.map u32V))]) (fun w => (StartM.v rfl (StartM.v rfl (StartM.old rfl (StartM.m (by simp [tabE]) (by decide) (StartM.m (by simp [tabE]) (by decide) (StartM.m (by simp [tabE]) (by decide) (StartM.m (by simp [tabE]) (by decide) StartM.nil)))))))) fun w₀ hM => ?_
 have htab := tabE_hi hM
 refine A.openP2 (t := 2) (k₁ := 1000501) (k₂ := 1000502) rfl fun A₀ c B₀ c' => ?_
 refine GS (TN 0 (RN ?_));refine ZB 1000004 rfl fun b4 ⟨hBb4, hb4⟩ => ?_
 refine TN 1 (RN ?_);refine ZB 1000005 rfl fun b5 ⟨hBb5, hb5⟩ => ?_
 refine TL (RVN 1 rfl ?_);refine QS ?_
 rcases (show 8 < T.length ∨ (T.length ≤ 8 ∧ 8 < W.length) by omega) with ha | ⟨ha, hb⟩
 ·refine GT (RS (ok_indexN (0) U84 size69 rfl rfl (rfl) (by decide)) ?_);refine RS (ok_field field69_1 (by decide) rfl) ?_;refine RLV 1000005 U30 rfl rfl rfl ?_;refine RS (ok_lenV U30 rfl) ?_;refine RB rfl rfl rfl ?_;refine RZ (.bool true) (congrArg Value.bool (decide_eq_true (by omega))) ?_;refine RV 7 rfl ?_;refine RT ?_;refine RN (A.yes rfl ?_);refine GT (RS (ok_callMK lives16_fn (SubK.of (Sub.cons rfl (Sub.cons rfl (Sub.cons rfl (Sub.cons rfl KN)))) tabE_v) Args.nil) ?_);refine RVN 1 rfl ?_;refine A.ret (End.ret_then ?_);exact ER rfl rfl
 ·refine GT (RS (ok_indexN (0) U84 size69 rfl rfl (rfl) (by decide)) ?_);refine RS (ok_field field69_1 (by decide) rfl) ?_;refine RLV 1000005 U30 rfl rfl rfl ?_;refine RS (ok_lenV U30 rfl) ?_;refine RB rfl rfl rfl ?_;refine RZ (.bool false) (congrArg Value.bool (decide_eq_false (by omega))) ?_;refine RM rfl ?_;refine RQ (ok_indexN (1) U84 size69 rfl rfl (rfl) (by decide)) ?_;refine RQ (ok_field field69_1 (by decide) rfl) ?_;refine RQ (ok_loadV (s := 1000005) (by decide) U30 rfl rfl rfl (rfl)) ?_;refine RQ (ok_lenV U30 rfl) ?_;refine RQ (ok_bin rfl rfl rfl) ?_;refine RZ (.bool true) (congrArg Value.bool (decide_eq_true (by omega))) ?_;refine RP rfl rfl ?_;refine RT ?_;refine RN (A.yes rfl ?_);refine GT (RS (ok_callMK lives16_fn (SubK.of (Sub.cons rfl (Sub.cons rfl (Sub.cons rfl (Sub.cons rfl KN)))) tabE_v) Args.nil) ?_);refine RVN 1 rfl ?_;refine A.ret (End.ret_then ?_);exact ER rfl rfl
set_option maxHeartbeats 2000000 in
theorem MCol_a (n : Int) (d : List UInt8) (hd : d.length = 32) (x y : Int) (T W : List NodT) (hT : FitT T) (hW : FitT W) (h8 : T.length ≤ 8) (h8' : W.length ≤ 8) (ha : ver n d x T ≠ 0)  : FnM Tryz.prog 7 tabE [.v (.int .i64 (n)), .v (aggV (d.map byteV)), pfD2 x T y W] (.v (.bool true)) := by
 refine FnM.of Tryz.func7 rfl (by kernel_rfl) Tryz.ntmps7 (by simp) (by decide) (fun w => [(0, .v (.int .i64 (n))), (1, .v (aggV (d.map byteV))), (2, old w.heap.size (pfD2 x T y W)), (1900000, tabH 0 ([errT])), (1900001, tab 1 (sizV)), (1900002, tab 2 (H8.list.map u32V)), (1900003, tab 3 (K64.map u32V))]) (fun w => (StartM.v rfl (StartM.v rfl (StartM.old rfl (StartM.m (by simp [tabE]) (by decide) (StartM.m (by simp [tabE]) (by decide) (StartM.m (by simp [tabE]) (by decide) (StartM.m (by simp [tabE]) (by decide) StartM.nil)))))))) fun w₀ hM => ?_
 have htab := tabE_hi hM
 refine A.openP2 (t := 2) (k₁ := 1000501) (k₂ := 1000502) rfl fun A₀ c B₀ c' => ?_
 refine GS (TN 0 (RN ?_));refine ZB 1000004 rfl fun b4 ⟨hBb4, hb4⟩ => ?_
 refine TN 1 (RN ?_);refine ZB 1000005 rfl fun b5 ⟨hBb5, hb5⟩ => ?_
 refine TL (RVN 1 rfl ?_);refine QS (GT (RS (ok_indexN (0) U84 size69 rfl rfl (rfl) (by decide)) ?_));refine RS (ok_field field69_1 (by decide) rfl) ?_;refine RLV 1000005 U30 rfl rfl rfl ?_;refine RS (ok_lenV U30 rfl) ?_;refine RB rfl rfl rfl ?_;refine RZ (.bool false) (congrArg Value.bool (decide_eq_false (by omega))) ?_;refine RM rfl ?_;refine RQ (ok_indexN (1) U84 size69 rfl rfl (rfl) (by decide)) ?_;refine RQ (ok_field field69_1 (by decide) rfl) ?_;refine RQ (ok_loadV (s := 1000005) (by decide) U30 rfl rfl rfl (rfl)) ?_;refine RQ (ok_lenV U30 rfl) ?_;refine RQ (ok_bin rfl rfl rfl) ?_;refine RZ (.bool false) (congrArg Value.bool (decide_eq_false (by omega))) ?_;refine RP rfl rfl ?_;refine RF ?_;refine RN (A.no rfl ?_);refine QK (GS (TN 12 (RM rfl ?_)));refine RL 1000004 U40 rfl rfl (size40.of (by rw [List.length_map, hd])) ?_;refine RS (ok_indexN (0) U84 size69 rfl rfl (rfl) (by decide)) ?_;refine RS (ok_field field69_0 (by decide) rfl) ?_;refine RLV 1000005 U3 rfl rfl rfl ?_;refine RS (ok_indexN (0) U84 size69 rfl rfl (rfl) (by decide)) ?_;refine RS (ok_field field69_1 (by decide) rfl) ?_;refine RLV 1000005 U30 rfl rfl rfl ?_;refine RS (ok_callMK (rVerify_fn n x d hd A₀ T hT c) (SubK.cons (k := 1000501) (by decide) rfl Le.unold SubK.nil) (Args.cons rfl (Le.refl _) (A3 rfl rfl rfl))) ?_;refine RVN 3 rfl ?_;refine ZN 1000007 zero51 fun b7 ⟨hBb7, hb7⟩ => ?_
 refine TF 13 (RN ?_);refine ⟨_, eff_storeA (n := 102) (s := 1000007) (size51.of ((verR_fit hT).len)) rfl rfl (RecT.one _) hBb7 rfl (by rw [(verR_fit hT).len]; rfl) (LT 1000004 rfl (LT 1000005 rfl (LO 1000501 rfl (LO 1000502 rfl (LeftS.cons (t := 1900000) rfl (Surv.tabH (by omega)) (LQ 1900001 rfl (LQ 1900002 rfl (LQ 1900003 rfl (LW [0,4,5,7,39] rfl))))))))), ?_⟩
 refine TL (RVN 1 rfl ?_);refine A.sub (Sv [0,4,5,7,8,1000004,1000005,1000007,1000501,1000502,1900000,1900001,1900002,1900003] rfl) ?_;refine GS (TN 12 (RM rfl ?_));refine RL 1000004 U40 rfl rfl (size40.of (by rw [List.length_map, hd])) ?_;refine RS (ok_indexN (1) U84 size69 rfl rfl (rfl) (by decide)) ?_;refine RS (ok_field field69_0 (by decide) rfl) ?_;refine RLV 1000005 U3 rfl rfl rfl ?_;refine RS (ok_indexN (1) U84 size69 rfl rfl (rfl) (by decide)) ?_;refine RS (ok_field field69_1 (by decide) rfl) ?_;refine RLV 1000005 U30 rfl rfl rfl ?_;refine RS (ok_callMK (rVerify_fn n y d hd B₀ W hW c') (SubK.cons (k := 1000502) (by decide) rfl Le.unold SubK.nil) (Args.cons rfl (Le.refl _) (A3 rfl rfl rfl))) ?_;refine RVN 3 rfl ?_;refine ZN 1000009 zero51 fun b9 ⟨hBb9, hb9⟩ => ?_
 have hlt_b7_b9 := hb9 1000007 b7 _ _ rfl
 refine TF 13 (RN ?_);refine ⟨_, eff_storeA (n := 102) (s := 1000009) (size51.of ((verR_fit hW).len)) rfl rfl (RecT.one _) hBb9 rfl (by rw [(verR_fit hW).len]; rfl) (LT 1000004 rfl (LT 1000005 rfl (LB 1000007 rfl (LO 1000501 rfl (LO 1000502 rfl (LeftS.cons (t := 1900000) rfl (Surv.tabH (by omega)) (LQ 1900001 rfl (LQ 1900002 rfl (LQ 1900003 rfl (LW [0,4,5,7,8,9,51] rfl)))))))))), ?_⟩
 refine TL (RVN 1 rfl ?_);refine GT (RM rfl ?_);refine RL 1000004 U40 rfl rfl (size40.of (by rw [List.length_map, hd])) ?_;refine RS (ok_indexN (0) U84 size69 rfl rfl (rfl) (by decide)) ?_;refine RS (ok_loadP (s := 1000005) (by decide) U69 rfl size69 rfl rfl (by simp) (rfl)) ?_;refine RS (ok_indexN (1) U84 size69 rfl rfl (rfl) (by decide)) ?_;refine RS (ok_loadP (s := 1000005) (by decide) U69 rfl size69 rfl rfl (by simp) (rfl)) ?_;refine RS (ok_callMK (Coll_a n x y d hd A₀ B₀ T W hT hW c c' ha) (SubK.app (SubK.of (Sub.cons rfl (Sub.cons rfl (Sub.cons rfl (Sub.cons rfl KN)))) tabE_v) (SubK.cons (k := 1000501) (by decide) rfl Le.unold (SubK.cons (k := 1000502) (by decide) rfl Le.unold SubK.nil))) (Args.cons rfl (Le.refl _) (A3 rfl rfl rfl))) ?_;refine RVN 7 rfl ?_;refine A.sub (Sv [5,7,8,9,10,11,12,13,1000004,1000005,1000007,1000009,1000501,1000502,1900000,1900001,1900002,1900003] rfl) ?_;refine GV rfl ?_;refine A.seqTo [(5, .v (ptr b5)), (8, .v (.int .i64 (ver n d x T))), (10, .v (.int .i64 (ver n d y W))), (11, .v (.slice none 0 0)), (12, .v (.slice none 0 0)), (13, .v (.int .i64 (ver n d x T))), (1000005, blk b5 84 [.int .i64 x, .slice A₀ T.length c, .int .i64 y, .slice B₀ W.length c']), (1900000, tabH 0 ([errT])), (1900001, tab 1 (sizV)), (1900002, tab 2 (H8.list.map u32V)), (1900003, tab 3 (K64.map u32V))] ?_ ?_
 ·refine GT (RL 1000007 U51 rfl rfl (size51.of ((verR_fit hT).len)) ?_);refine RL 1000009 U51 rfl rfl (size51.of ((verR_fit hW).len)) ?_;refine RS (ok_eqlT (n := 4) (decide (verR n d x T = verR n d y W)) flat51 (by decide) (by kernel_rfl) (by kernel_rfl) rfl rfl (verR_fit hT).kin (verR_fit hW).kin (RecT.eq_v)) ?_;refine RN ?_;refine A.cond rfl (fun hc65 => ?_) (fun hc65 => ?_)
  ·skip
   refine GVE rfl ?_;exact End.normal_then (End.toEnv (SQ 5 rfl (SQ 8 rfl (SQ 10 rfl (SQ 11 rfl (SQ 12 rfl (SQ 13 rfl (SQ 1000005 rfl (SQ 1900000 rfl (SQ 1900001 rfl (SQ 1900002 rfl (SQ 1900003 rfl SubL.nil))))))))))))
  ·skip
   refine A.skip ?_;exact End.normal_then (End.toEnv (SQ 5 rfl (SQ 8 rfl (SQ 10 rfl (SQ 11 rfl (SQ 12 rfl (SQ 13 rfl (SQ 1000005 rfl (SQ 1900000 rfl (SQ 1900001 rfl (SQ 1900002 rfl (SQ 1900003 rfl SubL.nil))))))))))))
 ·refine A.seqTo [(5, .v (ptr b5)), (8, .v (.int .i64 (ver n d x T))), (10, .v (.int .i64 (ver n d y W))), (11, .v (.slice none 0 0)), (12, .v (.slice none 0 0)), (13, .v (.int .i64 (ver n d x T))), (1000005, blk b5 84 [.int .i64 x, .slice A₀ T.length c, .int .i64 y, .slice B₀ W.length c']), (1900000, tabH 0 ([errT])), (1900001, tab 1 (sizV)), (1900002, tab 2 (H8.list.map u32V)), (1900003, tab 3 (K64.map u32V))] ?_ ?_
  ·refine GT (RS (ok_indexN (0) U84 size69 rfl rfl (rfl) (by decide)) ?_);refine RS (ok_field field69_0 (by decide) rfl) ?_;refine RLV 1000005 U3 rfl rfl rfl ?_;refine RS (ok_indexN (1) U84 size69 rfl rfl (rfl) (by decide)) ?_;refine RS (ok_field field69_0 (by decide) rfl) ?_;refine RLV 1000005 U3 rfl rfl rfl ?_;refine RVN 1 rfl ?_;refine A.cond rfl (fun hc72 => ?_) (fun hc72 => ?_)
   ·skip
    refine GVE rfl ?_;exact End.normal_then (End.toEnv (SQ 5 rfl (SQ 8 rfl (SQ 10 rfl (SQ 11 rfl (SQ 12 rfl (SQ 13 rfl (SQ 1000005 rfl (SQ 1900000 rfl (SQ 1900001 rfl (SQ 1900002 rfl (SQ 1900003 rfl SubL.nil))))))))))))
   ·skip
    refine A.skip ?_;exact End.normal_then (End.toEnv (SQ 5 rfl (SQ 8 rfl (SQ 10 rfl (SQ 11 rfl (SQ 12 rfl (SQ 13 rfl (SQ 1000005 rfl (SQ 1900000 rfl (SQ 1900001 rfl (SQ 1900002 rfl (SQ 1900003 rfl SubL.nil))))))))))))
  ·refine A.seqTo [(5, .v (ptr b5)), (8, .v (.int .i64 (ver n d x T))), (10, .v (.int .i64 (ver n d y W))), (11, .v (.slice none 0 0)), (12, .v (.slice none 0 0)), (13, .v (.int .i64 (ver n d x T))), (1000005, blk b5 84 [.int .i64 x, .slice A₀ T.length c, .int .i64 y, .slice B₀ W.length c']), (1900000, tabH 0 ([errT])), (1900001, tab 1 (sizV)), (1900002, tab 2 (H8.list.map u32V)), (1900003, tab 3 (K64.map u32V))] ?_ ?_
   ·refine GV rfl ?_;refine A.cond rfl (fun hc74 => ?_) (fun hc74 => ?_)
    ·skip
     refine GVE rfl ?_;exact End.normal_then (End.toEnv (SQ 5 rfl (SQ 8 rfl (SQ 10 rfl (SQ 11 rfl (SQ 12 rfl (SQ 13 rfl (SQ 1000005 rfl (SQ 1900000 rfl (SQ 1900001 rfl (SQ 1900002 rfl (SQ 1900003 rfl SubL.nil))))))))))))
    ·skip
     refine A.skip ?_;exact End.normal_then (End.toEnv (SQ 5 rfl (SQ 8 rfl (SQ 10 rfl (SQ 11 rfl (SQ 12 rfl (SQ 13 rfl (SQ 1000005 rfl (SQ 1900000 rfl (SQ 1900001 rfl (SQ 1900002 rfl (SQ 1900003 rfl SubL.nil))))))))))))
   ·refine QS (GT (RV 2 rfl ?_));refine RZ (.bool true) (congrArg Value.bool (by simpa using ha)) ?_;refine RN (A.yes rfl ?_);refine GVE rfl (EN (QS (GT (RV 3 rfl ?_))));refine RZ (.bool false) (congrArg Value.bool (by simp)) ?_;refine RN (A.no rfl ?_);refine QK (QS (GT (RV 2 rfl ?_)));refine RZ (.bool true) (congrArg Value.bool (by simpa using ha)) ?_;refine RN (A.yes rfl ?_);refine GT (RM rfl ?_);refine RS (ok_lenV U23 rfl) ?_;refine RB rfl rfl rfl ?_;refine RT ?_;refine RV 2 rfl ?_;refine RQ (ok_lenV U23 rfl) ?_;refine RQ (ok_bin rfl rfl rfl) ?_;refine RT ?_;refine RP rfl rfl ?_;refine RT ?_;refine RM rfl ?_;refine RQ (ok_callMK lives16_fn (SubK.of (Sub.cons rfl (Sub.cons rfl (Sub.cons rfl (Sub.cons rfl KN)))) tabE_v) Args.nil) ?_;refine RP rfl rfl ?_;refine RT ?_;refine RVN 1 rfl ?_;refine A.ret (End.ret_then ?_);exact ER rfl rfl
set_option maxHeartbeats 2000000 in
theorem MCol_b (n : Int) (d : List UInt8) (hd : d.length = 32) (x y : Int) (T W : List NodT) (hT : FitT T) (hW : FitT W) (h8 : T.length ≤ 8) (h8' : W.length ≤ 8) (ha : ver n d x T = 0) (hb : ver n d y W ≠ 0)  : FnM Tryz.prog 7 tabE [.v (.int .i64 (n)), .v (aggV (d.map byteV)), pfD2 x T y W] (.v (.bool true)) := by
 refine FnM.of Tryz.func7 rfl (by kernel_rfl) Tryz.ntmps7 (by simp) (by decide) (fun w => [(0, .v (.int .i64 (n))), (1, .v (aggV (d.map byteV))), (2, old w.heap.size (pfD2 x T y W)), (1900000, tabH 0 ([errT])), (1900001, tab 1 (sizV)), (1900002, tab 2 (H8.list.map u32V)), (1900003, tab 3 (K64.map u32V))]) (fun w => (StartM.v rfl (StartM.v rfl (StartM.old rfl (StartM.m (by simp [tabE]) (by decide) (StartM.m (by simp [tabE]) (by decide) (StartM.m (by simp [tabE]) (by decide) (StartM.m (by simp [tabE]) (by decide) StartM.nil)))))))) fun w₀ hM => ?_
 have htab := tabE_hi hM
 refine A.openP2 (t := 2) (k₁ := 1000501) (k₂ := 1000502) rfl fun A₀ c B₀ c' => ?_
 refine GS (TN 0 (RN ?_));refine ZB 1000004 rfl fun b4 ⟨hBb4, hb4⟩ => ?_
 refine TN 1 (RN ?_);refine ZB 1000005 rfl fun b5 ⟨hBb5, hb5⟩ => ?_
 refine TL (RVN 1 rfl ?_);refine QS (GT (RS (ok_indexN (0) U84 size69 rfl rfl (rfl) (by decide)) ?_));refine RS (ok_field field69_1 (by decide) rfl) ?_;refine RLV 1000005 U30 rfl rfl rfl ?_;refine RS (ok_lenV U30 rfl) ?_;refine RB rfl rfl rfl ?_;refine RZ (.bool false) (congrArg Value.bool (decide_eq_false (by omega))) ?_;refine RM rfl ?_;refine RQ (ok_indexN (1) U84 size69 rfl rfl (rfl) (by decide)) ?_;refine RQ (ok_field field69_1 (by decide) rfl) ?_;refine RQ (ok_loadV (s := 1000005) (by decide) U30 rfl rfl rfl (rfl)) ?_;refine RQ (ok_lenV U30 rfl) ?_;refine RQ (ok_bin rfl rfl rfl) ?_;refine RZ (.bool false) (congrArg Value.bool (decide_eq_false (by omega))) ?_;refine RP rfl rfl ?_;refine RF ?_;refine RN (A.no rfl ?_);refine QK (GS (TN 12 (RM rfl ?_)));refine RL 1000004 U40 rfl rfl (size40.of (by rw [List.length_map, hd])) ?_;refine RS (ok_indexN (0) U84 size69 rfl rfl (rfl) (by decide)) ?_;refine RS (ok_field field69_0 (by decide) rfl) ?_;refine RLV 1000005 U3 rfl rfl rfl ?_;refine RS (ok_indexN (0) U84 size69 rfl rfl (rfl) (by decide)) ?_;refine RS (ok_field field69_1 (by decide) rfl) ?_;refine RLV 1000005 U30 rfl rfl rfl ?_;refine RS (ok_callMK (rVerify_fn n x d hd A₀ T hT c) (SubK.cons (k := 1000501) (by decide) rfl Le.unold SubK.nil) (Args.cons rfl (Le.refl _) (A3 rfl rfl rfl))) ?_;refine RVN 3 rfl ?_;refine ZN 1000007 zero51 fun b7 ⟨hBb7, hb7⟩ => ?_
 refine TF 13 (RN ?_);refine ⟨_, eff_storeA (n := 102) (s := 1000007) (size51.of ((verR_fit hT).len)) rfl rfl (RecT.one _) hBb7 rfl (by rw [(verR_fit hT).len]; rfl) (LT 1000004 rfl (LT 1000005 rfl (LO 1000501 rfl (LO 1000502 rfl (LeftS.cons (t := 1900000) rfl (Surv.tabH (by omega)) (LQ 1900001 rfl (LQ 1900002 rfl (LQ 1900003 rfl (LW [0,4,5,7,39] rfl))))))))), ?_⟩
 refine TL (RVN 1 rfl ?_);refine A.sub (Sv [0,4,5,7,8,1000004,1000005,1000007,1000501,1000502,1900000,1900001,1900002,1900003] rfl) ?_;refine GS (TN 12 (RM rfl ?_));refine RL 1000004 U40 rfl rfl (size40.of (by rw [List.length_map, hd])) ?_;refine RS (ok_indexN (1) U84 size69 rfl rfl (rfl) (by decide)) ?_;refine RS (ok_field field69_0 (by decide) rfl) ?_;refine RLV 1000005 U3 rfl rfl rfl ?_;refine RS (ok_indexN (1) U84 size69 rfl rfl (rfl) (by decide)) ?_;refine RS (ok_field field69_1 (by decide) rfl) ?_;refine RLV 1000005 U30 rfl rfl rfl ?_;refine RS (ok_callMK (rVerify_fn n y d hd B₀ W hW c') (SubK.cons (k := 1000502) (by decide) rfl Le.unold SubK.nil) (Args.cons rfl (Le.refl _) (A3 rfl rfl rfl))) ?_;refine RVN 3 rfl ?_;refine ZN 1000009 zero51 fun b9 ⟨hBb9, hb9⟩ => ?_
 have hlt_b7_b9 := hb9 1000007 b7 _ _ rfl
 refine TF 13 (RN ?_);refine ⟨_, eff_storeA (n := 102) (s := 1000009) (size51.of ((verR_fit hW).len)) rfl rfl (RecT.one _) hBb9 rfl (by rw [(verR_fit hW).len]; rfl) (LT 1000004 rfl (LT 1000005 rfl (LB 1000007 rfl (LO 1000501 rfl (LO 1000502 rfl (LeftS.cons (t := 1900000) rfl (Surv.tabH (by omega)) (LQ 1900001 rfl (LQ 1900002 rfl (LQ 1900003 rfl (LW [0,4,5,7,8,9,51] rfl)))))))))), ?_⟩
 refine TL (RVN 1 rfl ?_);refine GT (RM rfl ?_);refine RL 1000004 U40 rfl rfl (size40.of (by rw [List.length_map, hd])) ?_;refine RS (ok_indexN (0) U84 size69 rfl rfl (rfl) (by decide)) ?_;refine RS (ok_loadP (s := 1000005) (by decide) U69 rfl size69 rfl rfl (by simp) (rfl)) ?_;refine RS (ok_indexN (1) U84 size69 rfl rfl (rfl) (by decide)) ?_;refine RS (ok_loadP (s := 1000005) (by decide) U69 rfl size69 rfl rfl (by simp) (rfl)) ?_;refine RS (ok_callMK (Coll_b n x y d hd A₀ B₀ T W hT hW c c' ha hb) (SubK.app (SubK.of (Sub.cons rfl (Sub.cons rfl (Sub.cons rfl (Sub.cons rfl KN)))) tabE_v) (SubK.cons (k := 1000501) (by decide) rfl Le.unold (SubK.cons (k := 1000502) (by decide) rfl Le.unold SubK.nil))) (Args.cons rfl (Le.refl _) (A3 rfl rfl rfl))) ?_;refine RVN 7 rfl ?_;refine A.sub (Sv [5,7,8,9,10,11,12,13,1000004,1000005,1000007,1000009,1000501,1000502,1900000,1900001,1900002,1900003] rfl) ?_;refine GV rfl ?_;refine A.seqTo [(5, .v (ptr b5)), (8, .v (.int .i64 (ver n d x T))), (10, .v (.int .i64 (ver n d y W))), (11, .v (.slice none 0 0)), (12, .v (.slice none 0 0)), (13, .v (.int .i64 (ver n d y W))), (1000005, blk b5 84 [.int .i64 x, .slice A₀ T.length c, .int .i64 y, .slice B₀ W.length c']), (1900000, tabH 0 ([errT])), (1900001, tab 1 (sizV)), (1900002, tab 2 (H8.list.map u32V)), (1900003, tab 3 (K64.map u32V))] ?_ ?_
 ·refine GT (RL 1000007 U51 rfl rfl (size51.of ((verR_fit hT).len)) ?_);refine RL 1000009 U51 rfl rfl (size51.of ((verR_fit hW).len)) ?_;refine RS (ok_eqlT (n := 4) (decide (verR n d x T = verR n d y W)) flat51 (by decide) (by kernel_rfl) (by kernel_rfl) rfl rfl (verR_fit hT).kin (verR_fit hW).kin (RecT.eq_v)) ?_;refine RN ?_;refine A.cond rfl (fun hc65 => ?_) (fun hc65 => ?_)
  ·skip
   refine GVE rfl ?_;exact End.normal_then (End.toEnv (SQ 5 rfl (SQ 8 rfl (SQ 10 rfl (SQ 11 rfl (SQ 12 rfl (SQ 13 rfl (SQ 1000005 rfl (SQ 1900000 rfl (SQ 1900001 rfl (SQ 1900002 rfl (SQ 1900003 rfl SubL.nil))))))))))))
  ·skip
   refine A.skip ?_;exact End.normal_then (End.toEnv (SQ 5 rfl (SQ 8 rfl (SQ 10 rfl (SQ 11 rfl (SQ 12 rfl (SQ 13 rfl (SQ 1000005 rfl (SQ 1900000 rfl (SQ 1900001 rfl (SQ 1900002 rfl (SQ 1900003 rfl SubL.nil))))))))))))
 ·refine A.seqTo [(5, .v (ptr b5)), (8, .v (.int .i64 (ver n d x T))), (10, .v (.int .i64 (ver n d y W))), (11, .v (.slice none 0 0)), (12, .v (.slice none 0 0)), (13, .v (.int .i64 (ver n d y W))), (1000005, blk b5 84 [.int .i64 x, .slice A₀ T.length c, .int .i64 y, .slice B₀ W.length c']), (1900000, tabH 0 ([errT])), (1900001, tab 1 (sizV)), (1900002, tab 2 (H8.list.map u32V)), (1900003, tab 3 (K64.map u32V))] ?_ ?_
  ·refine GT (RS (ok_indexN (0) U84 size69 rfl rfl (rfl) (by decide)) ?_);refine RS (ok_field field69_0 (by decide) rfl) ?_;refine RLV 1000005 U3 rfl rfl rfl ?_;refine RS (ok_indexN (1) U84 size69 rfl rfl (rfl) (by decide)) ?_;refine RS (ok_field field69_0 (by decide) rfl) ?_;refine RLV 1000005 U3 rfl rfl rfl ?_;refine RVN 1 rfl ?_;refine A.cond rfl (fun hc72 => ?_) (fun hc72 => ?_)
   ·skip
    refine GVE rfl ?_;exact End.normal_then (End.toEnv (SQ 5 rfl (SQ 8 rfl (SQ 10 rfl (SQ 11 rfl (SQ 12 rfl (SQ 13 rfl (SQ 1000005 rfl (SQ 1900000 rfl (SQ 1900001 rfl (SQ 1900002 rfl (SQ 1900003 rfl SubL.nil))))))))))))
   ·skip
    refine A.skip ?_;exact End.normal_then (End.toEnv (SQ 5 rfl (SQ 8 rfl (SQ 10 rfl (SQ 11 rfl (SQ 12 rfl (SQ 13 rfl (SQ 1000005 rfl (SQ 1900000 rfl (SQ 1900001 rfl (SQ 1900002 rfl (SQ 1900003 rfl SubL.nil))))))))))))
  ·refine QS (GT (RV 2 rfl ?_));refine RZ (.bool true) (congrArg Value.bool (by simpa using hb)) ?_;refine RN (A.yes rfl ?_);refine GVE rfl (EN (QS (GT (RV 2 rfl ?_))));refine RZ (.bool false) (congrArg Value.bool (by simp [ha])) ?_;refine RN (A.no rfl ?_);refine QK (QS (GT (RV 3 rfl ?_)));refine RZ (.bool false) (congrArg Value.bool (by simp)) ?_;refine RN (A.no rfl ?_);refine QK (QS (GT (RV 2 rfl ?_)));refine RZ (.bool true) (congrArg Value.bool (by simpa using hb)) ?_;refine RN (A.yes rfl ?_);refine GT (RM rfl ?_);refine RS (ok_lenV U23 rfl) ?_;refine RB rfl rfl rfl ?_;refine RT ?_;refine RV 2 rfl ?_;refine RQ (ok_lenV U23 rfl) ?_;refine RQ (ok_bin rfl rfl rfl) ?_;refine RT ?_;refine RP rfl rfl ?_;refine RT ?_;refine RM rfl ?_;refine RQ (ok_callMK lives16_fn (SubK.of (Sub.cons rfl (Sub.cons rfl (Sub.cons rfl (Sub.cons rfl KN)))) tabE_v) Args.nil) ?_;refine RP rfl rfl ?_;refine RT ?_;refine RVN 1 rfl ?_;refine A.ret (End.ret_then ?_);exact ER rfl rfl
set_option maxHeartbeats 2000000 in
theorem MCol_x (n : Int) (d : List UInt8) (hd : d.length = 32) (x y : Int) (T W : List NodT) (hT : FitT T) (hW : FitT W) (h8 : T.length ≤ 8) (h8' : W.length ≤ 8) (ha : ver n d x T = 0) (hb : ver n d y W = 0) (h : x ≠ y)  : FnM Tryz.prog 7 tabE [.v (.int .i64 (n)), .v (aggV (d.map byteV)), pfD2 x T y W] (.v (.bool true)) := by
 refine FnM.of Tryz.func7 rfl (by kernel_rfl) Tryz.ntmps7 (by simp) (by decide) (fun w => [(0, .v (.int .i64 (n))), (1, .v (aggV (d.map byteV))), (2, old w.heap.size (pfD2 x T y W)), (1900000, tabH 0 ([errT])), (1900001, tab 1 (sizV)), (1900002, tab 2 (H8.list.map u32V)), (1900003, tab 3 (K64.map u32V))]) (fun w => (StartM.v rfl (StartM.v rfl (StartM.old rfl (StartM.m (by simp [tabE]) (by decide) (StartM.m (by simp [tabE]) (by decide) (StartM.m (by simp [tabE]) (by decide) (StartM.m (by simp [tabE]) (by decide) StartM.nil)))))))) fun w₀ hM => ?_
 have htab := tabE_hi hM
 refine A.openP2 (t := 2) (k₁ := 1000501) (k₂ := 1000502) rfl fun A₀ c B₀ c' => ?_
 refine GS (TN 0 (RN ?_));refine ZB 1000004 rfl fun b4 ⟨hBb4, hb4⟩ => ?_
 refine TN 1 (RN ?_);refine ZB 1000005 rfl fun b5 ⟨hBb5, hb5⟩ => ?_
 refine TL (RVN 1 rfl ?_);refine QS (GT (RS (ok_indexN (0) U84 size69 rfl rfl (rfl) (by decide)) ?_));refine RS (ok_field field69_1 (by decide) rfl) ?_;refine RLV 1000005 U30 rfl rfl rfl ?_;refine RS (ok_lenV U30 rfl) ?_;refine RB rfl rfl rfl ?_;refine RZ (.bool false) (congrArg Value.bool (decide_eq_false (by omega))) ?_;refine RM rfl ?_;refine RQ (ok_indexN (1) U84 size69 rfl rfl (rfl) (by decide)) ?_;refine RQ (ok_field field69_1 (by decide) rfl) ?_;refine RQ (ok_loadV (s := 1000005) (by decide) U30 rfl rfl rfl (rfl)) ?_;refine RQ (ok_lenV U30 rfl) ?_;refine RQ (ok_bin rfl rfl rfl) ?_;refine RZ (.bool false) (congrArg Value.bool (decide_eq_false (by omega))) ?_;refine RP rfl rfl ?_;refine RF ?_;refine RN (A.no rfl ?_);refine QK (GS (TN 12 (RM rfl ?_)));refine RL 1000004 U40 rfl rfl (size40.of (by rw [List.length_map, hd])) ?_;refine RS (ok_indexN (0) U84 size69 rfl rfl (rfl) (by decide)) ?_;refine RS (ok_field field69_0 (by decide) rfl) ?_;refine RLV 1000005 U3 rfl rfl rfl ?_;refine RS (ok_indexN (0) U84 size69 rfl rfl (rfl) (by decide)) ?_;refine RS (ok_field field69_1 (by decide) rfl) ?_;refine RLV 1000005 U30 rfl rfl rfl ?_;refine RS (ok_callMK (rVerify_fn n x d hd A₀ T hT c) (SubK.cons (k := 1000501) (by decide) rfl Le.unold SubK.nil) (Args.cons rfl (Le.refl _) (A3 rfl rfl rfl))) ?_;refine RVN 3 rfl ?_;refine ZN 1000007 zero51 fun b7 ⟨hBb7, hb7⟩ => ?_
 refine TF 13 (RN ?_);refine ⟨_, eff_storeA (n := 102) (s := 1000007) (size51.of ((verR_fit hT).len)) rfl rfl (RecT.one _) hBb7 rfl (by rw [(verR_fit hT).len]; rfl) (LT 1000004 rfl (LT 1000005 rfl (LO 1000501 rfl (LO 1000502 rfl (LeftS.cons (t := 1900000) rfl (Surv.tabH (by omega)) (LQ 1900001 rfl (LQ 1900002 rfl (LQ 1900003 rfl (LW [0,4,5,7,39] rfl))))))))), ?_⟩
 refine TL (RVN 1 rfl ?_);refine A.sub (Sv [0,4,5,7,8,1000004,1000005,1000007,1000501,1000502,1900000,1900001,1900002,1900003] rfl) ?_;refine GS (TN 12 (RM rfl ?_));refine RL 1000004 U40 rfl rfl (size40.of (by rw [List.length_map, hd])) ?_;refine RS (ok_indexN (1) U84 size69 rfl rfl (rfl) (by decide)) ?_;refine RS (ok_field field69_0 (by decide) rfl) ?_;refine RLV 1000005 U3 rfl rfl rfl ?_;refine RS (ok_indexN (1) U84 size69 rfl rfl (rfl) (by decide)) ?_;refine RS (ok_field field69_1 (by decide) rfl) ?_;refine RLV 1000005 U30 rfl rfl rfl ?_;refine RS (ok_callMK (rVerify_fn n y d hd B₀ W hW c') (SubK.cons (k := 1000502) (by decide) rfl Le.unold SubK.nil) (Args.cons rfl (Le.refl _) (A3 rfl rfl rfl))) ?_;refine RVN 3 rfl ?_;refine ZN 1000009 zero51 fun b9 ⟨hBb9, hb9⟩ => ?_
 have hlt_b7_b9 := hb9 1000007 b7 _ _ rfl
 refine TF 13 (RN ?_);refine ⟨_, eff_storeA (n := 102) (s := 1000009) (size51.of ((verR_fit hW).len)) rfl rfl (RecT.one _) hBb9 rfl (by rw [(verR_fit hW).len]; rfl) (LT 1000004 rfl (LT 1000005 rfl (LB 1000007 rfl (LO 1000501 rfl (LO 1000502 rfl (LeftS.cons (t := 1900000) rfl (Surv.tabH (by omega)) (LQ 1900001 rfl (LQ 1900002 rfl (LQ 1900003 rfl (LW [0,4,5,7,8,9,51] rfl)))))))))), ?_⟩
 refine TL (RVN 1 rfl ?_);refine GT (RM rfl ?_);refine RL 1000004 U40 rfl rfl (size40.of (by rw [List.length_map, hd])) ?_;refine RS (ok_indexN (0) U84 size69 rfl rfl (rfl) (by decide)) ?_;refine RS (ok_loadP (s := 1000005) (by decide) U69 rfl size69 rfl rfl (by simp) (rfl)) ?_;refine RS (ok_indexN (1) U84 size69 rfl rfl (rfl) (by decide)) ?_;refine RS (ok_loadP (s := 1000005) (by decide) U69 rfl size69 rfl rfl (by simp) (rfl)) ?_;refine RS (ok_callMK (Coll_x n x y d hd A₀ B₀ T W hT hW c c' ha hb h) (SubK.app (SubK.of (Sub.cons rfl (Sub.cons rfl (Sub.cons rfl (Sub.cons rfl KN)))) tabE_v) (SubK.cons (k := 1000501) (by decide) rfl Le.unold (SubK.cons (k := 1000502) (by decide) rfl Le.unold SubK.nil))) (Args.cons rfl (Le.refl _) (A3 rfl rfl rfl))) ?_;refine RVN 7 rfl ?_;refine A.sub (Sv [5,7,8,9,10,11,12,13,1000004,1000005,1000007,1000009,1000501,1000502,1900000,1900001,1900002,1900003] rfl) ?_;refine GV rfl ?_;refine A.seqTo [(5, .v (ptr b5)), (8, .v (.int .i64 (ver n d x T))), (10, .v (.int .i64 (ver n d y W))), (11, .v (.slice none 0 0)), (12, .v (.slice none 0 0)), (13, .v (.int .i64 1)), (1000005, blk b5 84 [.int .i64 x, .slice A₀ T.length c, .int .i64 y, .slice B₀ W.length c']), (1900000, tabH 0 ([errT])), (1900001, tab 1 (sizV)), (1900002, tab 2 (H8.list.map u32V)), (1900003, tab 3 (K64.map u32V))] ?_ ?_
 ·refine GT (RL 1000007 U51 rfl rfl (size51.of ((verR_fit hT).len)) ?_);refine RL 1000009 U51 rfl rfl (size51.of ((verR_fit hW).len)) ?_;refine RS (ok_eqlT (n := 4) (decide (verR n d x T = verR n d y W)) flat51 (by decide) (by kernel_rfl) (by kernel_rfl) rfl rfl (verR_fit hT).kin (verR_fit hW).kin (RecT.eq_v)) ?_;refine RN ?_;refine A.cond rfl (fun hc65 => ?_) (fun hc65 => ?_)
  ·skip
   refine GVE rfl ?_;exact End.normal_then (End.toEnv (SQ 5 rfl (SQ 8 rfl (SQ 10 rfl (SQ 11 rfl (SQ 12 rfl (SQ 13 rfl (SQ 1000005 rfl (SQ 1900000 rfl (SQ 1900001 rfl (SQ 1900002 rfl (SQ 1900003 rfl SubL.nil))))))))))))
  ·skip
   refine A.skip ?_;exact End.normal_then (End.toEnv (SQ 5 rfl (SQ 8 rfl (SQ 10 rfl (SQ 11 rfl (SQ 12 rfl (SQ 13 rfl (SQ 1000005 rfl (SQ 1900000 rfl (SQ 1900001 rfl (SQ 1900002 rfl (SQ 1900003 rfl SubL.nil))))))))))))
 ·refine QS (GT (RS (ok_indexN (0) U84 size69 rfl rfl (rfl) (by decide)) ?_));refine RS (ok_field field69_0 (by decide) rfl) ?_;refine RLV 1000005 U3 rfl rfl rfl ?_;refine RS (ok_indexN (1) U84 size69 rfl rfl (rfl) (by decide)) ?_;refine RS (ok_field field69_0 (by decide) rfl) ?_;refine RLV 1000005 U3 rfl rfl rfl ?_;refine RB rfl rfl rfl ?_;refine RZ (.bool true) (congrArg Value.bool (by simp [h])) ?_;refine RN (A.yes rfl ?_);refine GVE rfl (EN (QS (GT (RV 2 rfl ?_))));refine RZ (.bool false) (congrArg Value.bool (by simp [hb])) ?_;refine RN (A.no rfl ?_);refine QK (QS (GT (RV 2 rfl ?_)));refine RZ (.bool false) (congrArg Value.bool (by simp [ha])) ?_;refine RN (A.no rfl ?_);refine QK (QS (GT (RV 3 rfl ?_)));refine RZ (.bool false) (congrArg Value.bool (by simp)) ?_;refine RN (A.no rfl ?_);refine QK (QS (GT (RV 2 rfl ?_)));refine RT ?_;refine RN (A.yes rfl ?_);refine GT (RM rfl ?_);refine RS (ok_lenV U23 rfl) ?_;refine RB rfl rfl rfl ?_;refine RT ?_;refine RV 2 rfl ?_;refine RQ (ok_lenV U23 rfl) ?_;refine RQ (ok_bin rfl rfl rfl) ?_;refine RT ?_;refine RP rfl rfl ?_;refine RT ?_;refine RM rfl ?_;refine RQ (ok_callMK lives16_fn (SubK.of (Sub.cons rfl (Sub.cons rfl (Sub.cons rfl (Sub.cons rfl KN)))) tabE_v) Args.nil) ?_;refine RP rfl rfl ?_;refine RT ?_;refine RVN 1 rfl ?_;refine A.sub (Sv [6,1000005,1900000,1900001,1900002,1900003] rfl) ?_;refine A.ret (End.ret_then ?_);exact ER rfl rfl
set_option maxHeartbeats 2000000 in
theorem MCol_r (n : Int) (d : List UInt8) (hd : d.length = 32) (x : Int) (T W : List NodT) (hT : FitT T) (hW : FitT W) (h8 : T.length ≤ 8) (h8' : W.length ≤ 8) (ha : ver n d x T = 0) (hb : ver n d x W = 0) (h : verR n d x T = verR n d x W)  : FnM Tryz.prog 7 tabE [.v (.int .i64 (n)), .v (aggV (d.map byteV)), pfD2 x T x W] (.v (.bool true)) := by
 refine FnM.of Tryz.func7 rfl (by kernel_rfl) Tryz.ntmps7 (by simp) (by decide) (fun w => [(0, .v (.int .i64 (n))), (1, .v (aggV (d.map byteV))), (2, old w.heap.size (pfD2 x T x W)), (1900000, tabH 0 ([errT])), (1900001, tab 1 (sizV)), (1900002, tab 2 (H8.list.map u32V)), (1900003, tab 3 (K64.map u32V))]) (fun w => (StartM.v rfl (StartM.v rfl (StartM.old rfl (StartM.m (by simp [tabE]) (by decide) (StartM.m (by simp [tabE]) (by decide) (StartM.m (by simp [tabE]) (by decide) (StartM.m (by simp [tabE]) (by decide) StartM.nil)))))))) fun w₀ hM => ?_
 have htab := tabE_hi hM
 refine A.openP2 (t := 2) (k₁ := 1000501) (k₂ := 1000502) rfl fun A₀ c B₀ c' => ?_
 refine GS (TN 0 (RN ?_));refine ZB 1000004 rfl fun b4 ⟨hBb4, hb4⟩ => ?_
 refine TN 1 (RN ?_);refine ZB 1000005 rfl fun b5 ⟨hBb5, hb5⟩ => ?_
 refine TL (RVN 1 rfl ?_);refine QS (GT (RS (ok_indexN (0) U84 size69 rfl rfl (rfl) (by decide)) ?_));refine RS (ok_field field69_1 (by decide) rfl) ?_;refine RLV 1000005 U30 rfl rfl rfl ?_;refine RS (ok_lenV U30 rfl) ?_;refine RB rfl rfl rfl ?_;refine RZ (.bool false) (congrArg Value.bool (decide_eq_false (by omega))) ?_;refine RM rfl ?_;refine RQ (ok_indexN (1) U84 size69 rfl rfl (rfl) (by decide)) ?_;refine RQ (ok_field field69_1 (by decide) rfl) ?_;refine RQ (ok_loadV (s := 1000005) (by decide) U30 rfl rfl rfl (rfl)) ?_;refine RQ (ok_lenV U30 rfl) ?_;refine RQ (ok_bin rfl rfl rfl) ?_;refine RZ (.bool false) (congrArg Value.bool (decide_eq_false (by omega))) ?_;refine RP rfl rfl ?_;refine RF ?_;refine RN (A.no rfl ?_);refine QK (GS (TN 12 (RM rfl ?_)));refine RL 1000004 U40 rfl rfl (size40.of (by rw [List.length_map, hd])) ?_;refine RS (ok_indexN (0) U84 size69 rfl rfl (rfl) (by decide)) ?_;refine RS (ok_field field69_0 (by decide) rfl) ?_;refine RLV 1000005 U3 rfl rfl rfl ?_;refine RS (ok_indexN (0) U84 size69 rfl rfl (rfl) (by decide)) ?_;refine RS (ok_field field69_1 (by decide) rfl) ?_;refine RLV 1000005 U30 rfl rfl rfl ?_;refine RS (ok_callMK (rVerify_fn n x d hd A₀ T hT c) (SubK.cons (k := 1000501) (by decide) rfl Le.unold SubK.nil) (Args.cons rfl (Le.refl _) (A3 rfl rfl rfl))) ?_;refine RVN 3 rfl ?_;refine ZN 1000007 zero51 fun b7 ⟨hBb7, hb7⟩ => ?_
 refine TF 13 (RN ?_);refine ⟨_, eff_storeA (n := 102) (s := 1000007) (size51.of ((verR_fit hT).len)) rfl rfl (RecT.one _) hBb7 rfl (by rw [(verR_fit hT).len]; rfl) (LT 1000004 rfl (LT 1000005 rfl (LO 1000501 rfl (LO 1000502 rfl (LeftS.cons (t := 1900000) rfl (Surv.tabH (by omega)) (LQ 1900001 rfl (LQ 1900002 rfl (LQ 1900003 rfl (LW [0,4,5,7,39] rfl))))))))), ?_⟩
 refine TL (RVN 1 rfl ?_);refine A.sub (Sv [0,4,5,7,8,1000004,1000005,1000007,1000501,1000502,1900000,1900001,1900002,1900003] rfl) ?_;refine GS (TN 12 (RM rfl ?_));refine RL 1000004 U40 rfl rfl (size40.of (by rw [List.length_map, hd])) ?_;refine RS (ok_indexN (1) U84 size69 rfl rfl (rfl) (by decide)) ?_;refine RS (ok_field field69_0 (by decide) rfl) ?_;refine RLV 1000005 U3 rfl rfl rfl ?_;refine RS (ok_indexN (1) U84 size69 rfl rfl (rfl) (by decide)) ?_;refine RS (ok_field field69_1 (by decide) rfl) ?_;refine RLV 1000005 U30 rfl rfl rfl ?_;refine RS (ok_callMK (rVerify_fn n x d hd B₀ W hW c') (SubK.cons (k := 1000502) (by decide) rfl Le.unold SubK.nil) (Args.cons rfl (Le.refl _) (A3 rfl rfl rfl))) ?_;refine RVN 3 rfl ?_;refine ZN 1000009 zero51 fun b9 ⟨hBb9, hb9⟩ => ?_
 have hlt_b7_b9 := hb9 1000007 b7 _ _ rfl
 refine TF 13 (RN ?_);refine ⟨_, eff_storeA (n := 102) (s := 1000009) (size51.of ((verR_fit hW).len)) rfl rfl (RecT.one _) hBb9 rfl (by rw [(verR_fit hW).len]; rfl) (LT 1000004 rfl (LT 1000005 rfl (LB 1000007 rfl (LO 1000501 rfl (LO 1000502 rfl (LeftS.cons (t := 1900000) rfl (Surv.tabH (by omega)) (LQ 1900001 rfl (LQ 1900002 rfl (LQ 1900003 rfl (LW [0,4,5,7,8,9,51] rfl)))))))))), ?_⟩
 refine TL (RVN 1 rfl ?_);refine GT (RM rfl ?_);refine RL 1000004 U40 rfl rfl (size40.of (by rw [List.length_map, hd])) ?_;refine RS (ok_indexN (0) U84 size69 rfl rfl (rfl) (by decide)) ?_;refine RS (ok_loadP (s := 1000005) (by decide) U69 rfl size69 rfl rfl (by simp) (rfl)) ?_;refine RS (ok_indexN (1) U84 size69 rfl rfl (rfl) (by decide)) ?_;refine RS (ok_loadP (s := 1000005) (by decide) U69 rfl size69 rfl rfl (by simp) (rfl)) ?_;refine RS (ok_callMK (Coll_r n x d hd A₀ B₀ T W hT hW c c' ha hb h) (SubK.app (SubK.of (Sub.cons rfl (Sub.cons rfl (Sub.cons rfl (Sub.cons rfl KN)))) tabE_v) (SubK.cons (k := 1000501) (by decide) rfl Le.unold (SubK.cons (k := 1000502) (by decide) rfl Le.unold SubK.nil))) (Args.cons rfl (Le.refl _) (A3 rfl rfl rfl))) ?_;refine RVN 7 rfl ?_;refine A.sub (Sv [5,7,8,9,10,11,12,13,1000004,1000005,1000007,1000009,1000501,1000502,1900000,1900001,1900002,1900003] rfl) ?_;refine GV rfl (QS (GT (RL 1000007 U51 rfl rfl (size51.of ((verR_fit hT).len)) ?_)));refine RL 1000009 U51 rfl rfl (size51.of ((verR_fit hW).len)) ?_;refine RS (ok_eqlT (n := 4) (decide (verR n d x T = verR n d x W)) flat51 (by decide) (by kernel_rfl) (by kernel_rfl) rfl rfl (verR_fit hT).kin (verR_fit hW).kin (RecT.eq_v)) ?_;refine RZ (.bool true) (by rw [decide_eq_true h]) ?_;refine RN (A.yes rfl ?_);refine GVE rfl (EN (QS (GT (RS (ok_indexN (0) U84 size69 rfl rfl (rfl) (by decide)) ?_))));refine RS (ok_field field69_0 (by decide) rfl) ?_;refine RLV 1000005 U3 rfl rfl rfl ?_;refine RS (ok_indexN (1) U84 size69 rfl rfl (rfl) (by decide)) ?_;refine RS (ok_field field69_0 (by decide) rfl) ?_;refine RLV 1000005 U3 rfl rfl rfl ?_;refine RB rfl rfl rfl ?_;refine RZ (.bool false) (congrArg Value.bool (by simp)) ?_;refine RN (A.no rfl ?_);refine QK (QS (GT (RV 2 rfl ?_)));refine RZ (.bool false) (congrArg Value.bool (by simp [hb])) ?_;refine RN (A.no rfl ?_);refine QK (QS (GT (RV 2 rfl ?_)));refine RZ (.bool false) (congrArg Value.bool (by simp [ha])) ?_;refine RN (A.no rfl ?_);refine QK (QS (GT (RV 3 rfl ?_)));refine RZ (.bool false) (congrArg Value.bool (by simp)) ?_;refine RN (A.no rfl ?_);refine QK (QS (GT (RV 2 rfl ?_)));refine RT ?_;refine RN (A.yes rfl ?_);refine GT (RM rfl ?_);refine RS (ok_lenV U23 rfl) ?_;refine RB rfl rfl rfl ?_;refine RT ?_;refine RV 2 rfl ?_;refine RQ (ok_lenV U23 rfl) ?_;refine RQ (ok_bin rfl rfl rfl) ?_;refine RT ?_;refine RP rfl rfl ?_;refine RT ?_;refine RM rfl ?_;refine RQ (ok_callMK lives16_fn (SubK.of (Sub.cons rfl (Sub.cons rfl (Sub.cons rfl (Sub.cons rfl KN)))) tabE_v) Args.nil) ?_;refine RP rfl rfl ?_;refine RT ?_;refine RVN 1 rfl ?_;refine A.sub (Sv [6,1000004,1000005,1000007,1000009,1000501,1000502,1900000,1900001,1900002,1900003] rfl) ?_;refine A.ret (End.ret_then ?_);exact ER rfl rfl
set_option maxHeartbeats 2000000 in
theorem MCol_at (n : Int) (d : List UInt8) (hd : d.length = 32) (x : Int) (T W : List NodT) (hT : FitT T) (hW : FitT W) (h8 : T.length ≤ 8) (h8' : W.length ≤ 8) (ha : ver n d x T = 0) (hb : ver n d x W = 0) (hrs : verR n d x T ≠ verR n d x W) (k : Nat) (hk1 : k < T.length) (hk2 : k < W.length) (hk : ∀ i, i < k → ndAt T i = ndAt W i) (hne : ndAt T k ≠ ndAt W k) (hcT : (ndAt T k).ck = 0) (hcW : (ndAt W k).ck = 0) (hs : sha (ndAt T k).bl = sha (ndAt W k).bl)  : FnM Tryz.prog 7 tabE [.v (.int .i64 (n)), .v (aggV (d.map byteV)), pfD2 x T x W] (.v (.bool true)) := by
 refine FnM.of Tryz.func7 rfl (by kernel_rfl) Tryz.ntmps7 (by simp) (by decide) (fun w => [(0, .v (.int .i64 (n))), (1, .v (aggV (d.map byteV))), (2, old w.heap.size (pfD2 x T x W)), (1900000, tabH 0 ([errT])), (1900001, tab 1 (sizV)), (1900002, tab 2 (H8.list.map u32V)), (1900003, tab 3 (K64.map u32V))]) (fun w => (StartM.v rfl (StartM.v rfl (StartM.old rfl (StartM.m (by simp [tabE]) (by decide) (StartM.m (by simp [tabE]) (by decide) (StartM.m (by simp [tabE]) (by decide) (StartM.m (by simp [tabE]) (by decide) StartM.nil)))))))) fun w₀ hM => ?_
 have htab := tabE_hi hM
 refine A.openP2 (t := 2) (k₁ := 1000501) (k₂ := 1000502) rfl fun A₀ c B₀ c' => ?_
 refine GS (TN 0 (RN ?_));refine ZB 1000004 rfl fun b4 ⟨hBb4, hb4⟩ => ?_
 refine TN 1 (RN ?_);refine ZB 1000005 rfl fun b5 ⟨hBb5, hb5⟩ => ?_
 refine TL (RVN 1 rfl ?_);refine QS (GT (RS (ok_indexN (0) U84 size69 rfl rfl (rfl) (by decide)) ?_));refine RS (ok_field field69_1 (by decide) rfl) ?_;refine RLV 1000005 U30 rfl rfl rfl ?_;refine RS (ok_lenV U30 rfl) ?_;refine RB rfl rfl rfl ?_;refine RZ (.bool false) (congrArg Value.bool (decide_eq_false (by omega))) ?_;refine RM rfl ?_;refine RQ (ok_indexN (1) U84 size69 rfl rfl (rfl) (by decide)) ?_;refine RQ (ok_field field69_1 (by decide) rfl) ?_;refine RQ (ok_loadV (s := 1000005) (by decide) U30 rfl rfl rfl (rfl)) ?_;refine RQ (ok_lenV U30 rfl) ?_;refine RQ (ok_bin rfl rfl rfl) ?_;refine RZ (.bool false) (congrArg Value.bool (decide_eq_false (by omega))) ?_;refine RP rfl rfl ?_;refine RF ?_;refine RN (A.no rfl ?_);refine QK (GS (TN 12 (RM rfl ?_)));refine RL 1000004 U40 rfl rfl (size40.of (by rw [List.length_map, hd])) ?_;refine RS (ok_indexN (0) U84 size69 rfl rfl (rfl) (by decide)) ?_;refine RS (ok_field field69_0 (by decide) rfl) ?_;refine RLV 1000005 U3 rfl rfl rfl ?_;refine RS (ok_indexN (0) U84 size69 rfl rfl (rfl) (by decide)) ?_;refine RS (ok_field field69_1 (by decide) rfl) ?_;refine RLV 1000005 U30 rfl rfl rfl ?_;refine RS (ok_callMK (rVerify_fn n x d hd A₀ T hT c) (SubK.cons (k := 1000501) (by decide) rfl Le.unold SubK.nil) (Args.cons rfl (Le.refl _) (A3 rfl rfl rfl))) ?_;refine RVN 3 rfl ?_;refine ZN 1000007 zero51 fun b7 ⟨hBb7, hb7⟩ => ?_
 refine TF 13 (RN ?_);refine ⟨_, eff_storeA (n := 102) (s := 1000007) (size51.of ((verR_fit hT).len)) rfl rfl (RecT.one _) hBb7 rfl (by rw [(verR_fit hT).len]; rfl) (LT 1000004 rfl (LT 1000005 rfl (LO 1000501 rfl (LO 1000502 rfl (LeftS.cons (t := 1900000) rfl (Surv.tabH (by omega)) (LQ 1900001 rfl (LQ 1900002 rfl (LQ 1900003 rfl (LW [0,4,5,7,39] rfl))))))))), ?_⟩
 refine TL (RVN 1 rfl ?_);refine A.sub (Sv [0,4,5,7,8,1000004,1000005,1000007,1000501,1000502,1900000,1900001,1900002,1900003] rfl) ?_;refine GS (TN 12 (RM rfl ?_));refine RL 1000004 U40 rfl rfl (size40.of (by rw [List.length_map, hd])) ?_;refine RS (ok_indexN (1) U84 size69 rfl rfl (rfl) (by decide)) ?_;refine RS (ok_field field69_0 (by decide) rfl) ?_;refine RLV 1000005 U3 rfl rfl rfl ?_;refine RS (ok_indexN (1) U84 size69 rfl rfl (rfl) (by decide)) ?_;refine RS (ok_field field69_1 (by decide) rfl) ?_;refine RLV 1000005 U30 rfl rfl rfl ?_;refine RS (ok_callMK (rVerify_fn n x d hd B₀ W hW c') (SubK.cons (k := 1000502) (by decide) rfl Le.unold SubK.nil) (Args.cons rfl (Le.refl _) (A3 rfl rfl rfl))) ?_;refine RVN 3 rfl ?_;refine ZN 1000009 zero51 fun b9 ⟨hBb9, hb9⟩ => ?_
 have hlt_b7_b9 := hb9 1000007 b7 _ _ rfl
 refine TF 13 (RN ?_);refine ⟨_, eff_storeA (n := 102) (s := 1000009) (size51.of ((verR_fit hW).len)) rfl rfl (RecT.one _) hBb9 rfl (by rw [(verR_fit hW).len]; rfl) (LT 1000004 rfl (LT 1000005 rfl (LB 1000007 rfl (LO 1000501 rfl (LO 1000502 rfl (LeftS.cons (t := 1900000) rfl (Surv.tabH (by omega)) (LQ 1900001 rfl (LQ 1900002 rfl (LQ 1900003 rfl (LW [0,4,5,7,8,9,51] rfl)))))))))), ?_⟩
 refine TL (RVN 1 rfl ?_);refine GT (RM rfl ?_);refine RL 1000004 U40 rfl rfl (size40.of (by rw [List.length_map, hd])) ?_;refine RS (ok_indexN (0) U84 size69 rfl rfl (rfl) (by decide)) ?_;refine RS (ok_loadP (s := 1000005) (by decide) U69 rfl size69 rfl rfl (by simp) (rfl)) ?_;refine RS (ok_indexN (1) U84 size69 rfl rfl (rfl) (by decide)) ?_;refine RS (ok_loadP (s := 1000005) (by decide) U69 rfl size69 rfl rfl (by simp) (rfl)) ?_;refine RS (ok_callMK (Coll_at n x d hd A₀ B₀ T W hT hW c c' ha hb hrs (by omega) k hk1 hk2 hk hne hcT hcW) (SubK.app (SubK.of (Sub.cons rfl (Sub.cons rfl (Sub.cons rfl (Sub.cons rfl KN)))) tabE_v) (SubK.cons (k := 1000501) (by decide) rfl Le.unold (SubK.cons (k := 1000502) (by decide) rfl Le.unold SubK.nil))) (Args.cons rfl (Le.refl _) (A3 rfl rfl rfl))) ?_;refine RM rfl ?_;refine RS (ok_extract rfl rfl) ?_;refine RS (ok_extract rfl rfl) ?_;refine RS (ok_extract rfl rfl) ?_;refine RVN 3 rfl ?_;refine A.sub (Sv [5,7,8,9,10,11,12,13,1000004,1000005,1000007,1000009,1000501,1000502,1900000,1900001,1900002,1900003] rfl) ?_;refine GV rfl (QS (GT (RL 1000007 U51 rfl rfl (size51.of ((verR_fit hT).len)) ?_)));refine RL 1000009 U51 rfl rfl (size51.of ((verR_fit hW).len)) ?_;refine RS (ok_eqlT (n := 4) (decide (verR n d x T = verR n d x W)) flat51 (by decide) (by kernel_rfl) (by kernel_rfl) rfl rfl (verR_fit hT).kin (verR_fit hW).kin (RecT.eq_v)) ?_;refine RZ (.bool false) (by rw [decide_eq_false hrs]) ?_;refine RN (A.no rfl ?_);refine QK (QS (GT (RS (ok_indexN (0) U84 size69 rfl rfl (rfl) (by decide)) ?_)));refine RS (ok_field field69_0 (by decide) rfl) ?_;refine RLV 1000005 U3 rfl rfl rfl ?_;refine RS (ok_indexN (1) U84 size69 rfl rfl (rfl) (by decide)) ?_;refine RS (ok_field field69_0 (by decide) rfl) ?_;refine RLV 1000005 U3 rfl rfl rfl ?_;refine RB rfl rfl rfl ?_;refine RZ (.bool false) (congrArg Value.bool (by simp)) ?_;refine RN (A.no rfl ?_);refine QK (QS (GT (RV 2 rfl ?_)));refine RZ (.bool false) (congrArg Value.bool (by simp [hb])) ?_;refine RN (A.no rfl ?_);refine QK (QS (GT (RV 2 rfl ?_)));refine RZ (.bool false) (congrArg Value.bool (by simp [ha])) ?_;refine RN (A.no rfl ?_);refine QK (QS (GT (RV 3 rfl ?_)));refine RF ?_;refine RN (A.no rfl ?_);refine QK (QS (GT (RV 2 rfl ?_)));refine RF ?_;refine RN (A.no rfl ?_);refine QK (GT (RV 2 rfl ?_));refine RS (ok_call (col16_fn (ndAt T k).bl (ndAt W k).bl _ _ (fun h => hne (nod_inj (hT.at _) (hW.at _) hcT hcW h)) (by rw [(hT.at k).bl_length]; have := sz_le (ndAt T k).l.toNat; omega) (by rw [(hW.at k).bl_length]; have := sz_le (ndAt W k).l.toNat; omega) (by rw [(hT.at k).bl_length]; have := sz_le (ndAt T k).l.toNat; omega) (by rw [(hW.at k).bl_length]; have := sz_le (ndAt W k).l.toNat; omega) hs) (A2 rfl rfl)) ?_;refine RB rfl rfl rfl ?_;refine RT ?_;refine RM rfl ?_;refine RQ (ok_callMK lives16_fn (SubK.of (Sub.cons rfl (Sub.cons rfl (Sub.cons rfl (Sub.cons rfl KN)))) tabE_v) Args.nil) ?_;refine RP rfl rfl ?_;refine RT ?_;refine RVN 1 rfl ?_
 refine A.sub (Sv [6,1000004,1000005,1000007,1000009,1000501,1000502,1900000,1900001,1900002,1900003] rfl) ?_;refine A.ret ?_;exact ER rfl rfl
theorem MerklesCollide_fn (n : Int) (d : List UInt8) (hd : d.length = 32) (x y : Int) (T W : List NodT) (hT : FitT T) (hW : FitT W) : FnM Tryz.prog 7 tabE [.v (.int .i64 (n)), .v (aggV (d.map byteV)), pfD2 x T y W] (.v (.bool true)) := by
 by_cases h8 : T.length ≤ 8 ∧ W.length ≤ 8
 ·by_cases ha : ver n d x T = 0
  ·by_cases hb : ver n d y W = 0
   ·by_cases hx : x = y
    ·subst hx
     by_cases hr : verR n d x T = verR n d x W
     ·exact MCol_r n d hd x T W hT hW h8.1 h8.2 ha hb hr
     ·obtain ⟨a, b, rfl, rfl, hp⟩ := ver_prf ha
      obtain ⟨a', b', ea, eb, hp'⟩ := ver_prf hb
      obtain rfl : a = a' := by omega
      obtain rfl : b = b' := by omega
      obtain ⟨i, h1, h2, h3, h4, h5⟩ := hp.coll hp' hr
      exact MCol_at a d hd b T W hT hW h8.1 h8.2 ha hb hr i h1 h2 h3 h4 (hp.ck h1) (hp'.ck h2) h5
    ·exact MCol_x n d hd x y T W hT hW h8.1 h8.2 ha hb hx
   ·exact MCol_b n d hd x y T W hT hW h8.1 h8.2 ha hb
  ·exact MCol_a n d hd x y T W hT hW h8.1 h8.2 ha
 ·exact MCol_big n d hd x y T W hT hW h8
section
open Go Go.RowKit Go.ChangeShapes Go.WideShapes
end
section
open Go Go.RowKit Go.ChangeShapes Go.WideShapes
section
variable {H : Type} {enc : TypeId × Value → H} {P : Program} {w : World} {base : Nat} {held : Bool}
theorem flat_at {α : Type} {f : α → List Value} {sz : Nat} (hl : ∀ x, (f x).length = sz) : ∀ {l : List α} {i k : Nat}, (hi : i < l.length) → k < sz → (l.flatMap f)[i * sz + k]? = (f l[i])[k]?
 | x :: l, 0, k, _, hk => by
  simp only [List.flatMap_cons, List.getElem_cons_zero, Nat.zero_mul, Nat.zero_add]
  rw [List.getElem?_append_left (by rw [hl]; exact hk)]
 | x :: l, i + 1, k, hi, hk => by
  have ih := flat_at (f := f) hl (l := l) (i := i) (k := k) (by simpa using hi) hk
  simp only [List.flatMap_cons, List.getElem_cons_succ]
  rw [List.getElem?_append_right (by rw [hl, Nat.add_mul]; omega), hl, show (i + 1) * sz + k - sz = i * sz + k by rw [Nat.add_mul]; omega, ih]
theorem trod_rows {α : Type} {f : α → List Value} {R : α → Prop} {sz n : Nat} {ks : List IntKind} (x₀ : α) (hl : ∀ x, R x → (f x).length = sz) (h0 : (f x₀).length = sz) (hopen : ∀ ys, Kin (fun k m => (Lit.int k m).wf = true) ks ys → ∃ x, R x ∧ ys = f x)
  {t e : TypeId} {fuel : Nat} {cs : List Value} {y : DataW H × List MemPlace} (ht : P.underlying t = some (.slice e)) (hf : flat P n e = some ks) (hc : P.cellsOf e = sz) (hsz : 0 < sz) (h : DataW.trod enc P w base (fun _ => true) held fuel t cs = some y) :
  ∃ (v : Value) (l : List α), cs = [v] ∧ (∀ x ∈ l, R x) ∧ (rowD l.length (l.flatMap f)).Of w v ∧ (∃ A m c, v = .slice A m c) := by
 rcases DataW.trod_slice ht h with ⟨rfl, _⟩ | ⟨a, len, cap, elems, rest, m, _, rfl, _, hba, hlc, hm, hlen, hel, _, _⟩
 ·exact ⟨_, [], rfl, (fun x hx => by cases hx), rowD_nil.of (w := w) (x := .slice none 0 0) rfl, _, _, _, rfl⟩
 ·have each : ∀ i, ∃ x : α, (f x).length = sz ∧ (i < len → R x ∧ ∀ k, k < sz → w.cell? (a.add (i * sz + k)) = (f x)[k]?) := fun i => by
   by_cases hi : i < len
   ·have h1 := hel i hi
    rw [List.getElem?_eq_getElem (by omega), hc, Option.bind_eq_some_iff] at h1
    obtain ⟨cs', h2, h3⟩ := h1
    obtain ⟨x, hx, rfl⟩ := hopen _ (trod_flat n hf h3)
    obtain ⟨_, _, h4⟩ := World.cells?_some h2
    exact ⟨x, hl x hx, fun _ => ⟨hx, fun k hk => by rw [← add_of_add]; exact h4 k hk⟩⟩
   ·exact ⟨x₀, h0, fun h => absurd h hi⟩
  obtain ⟨g, hg⟩ := Classical.axiomOfChoice each
  have hgl : ∀ i, (f (g i)).length = sz := fun i => (hg i).1
  refine ⟨_, (List.range len).map g, rfl, fun x hx => ?_, ?_, _, _, _, rfl⟩
  ·obtain ⟨i, hi, rfl⟩ := List.mem_map.1 hx
   exact ((hg i).2 (List.mem_range.1 hi)).1
  ·refine ⟨some a, cap, by simp, fun j u hu => ⟨a, rfl, ?_, ?_⟩⟩
   all_goals
    have hfm : ((List.range len).map g).flatMap f = (List.range len).flatMap fun i => f (g i) := by rw [List.flatMap_map]
    have hj : j < len * sz := by
     have h5 := (List.getElem?_eq_some_iff.1 hu).1
     rw [hfm, List.length_flatMap] at h5
     have h6 : ((List.range len).map fun i => (f (g i)).length).sum = len * sz := by
      rw [show ((List.range len).map fun i => (f (g i)).length) = List.replicate len sz from by rw [List.eq_replicate_iff]; exact ⟨by simp, fun b hb => by obtain ⟨i, _, rfl⟩ := List.mem_map.1 hb; exact hgl i⟩]
      simp
     omega
    have hi : j / sz < len := by rw [Nat.div_lt_iff_lt_mul hsz]; exact hj
    have hk : j % sz < sz := Nat.mod_lt _ hsz
    have hjj : j / sz * sz + j % sz = j := Nat.div_add_mod' j sz
    have hcell := ((hg (j / sz)).2 hi).2 (j % sz) hk
    have h7 := flat_at (f := fun i => f (g i)) hgl (l := List.range len) (i := j / sz) (k := j % sz) (by simpa using hi) hk
    rw [hjj, List.getElem_range] at h7
    rw [hfm] at hu
    rw [hjj, ← h7, hu] at hcell
   ·have := block_of_cell hcell
    rwa [block_of_add] at this
   ·exact hcell
end
end
section
open Go Go.RowKit Go.ChangeShapes Go.WideShapes
end
section
open Go Go.RowKit Go.ChangeShapes Go.WideShapes
section
variable {H : Type} {enc : TypeId × Value → H} {P : Program} {w : World} {base : Nat} {held : Bool}
theorem rec_of_kin {xs : List Value} (h : Kin (fun k m => (Lit.int k m).wf = true) (.u8 :: .u32 :: .u64 :: List.replicate 32 .u8) xs) : ∃ r : RecT, r.Fit ∧ xs = r.v := by
 obtain ⟨n, y, rfl, h1, h2⟩ := h.cons
 obtain ⟨m, y, rfl, h3, h4⟩ := h2.cons
 obtain ⟨q, y, rfl, h5, h6⟩ := h4.cons
 obtain ⟨l, hl, rfl⟩ := h6.bytes
 obtain ⟨a, rfl, ha⟩ := nat_u8 h1
 obtain ⟨s, rfl, hs⟩ := nat_u32 h3
 obtain ⟨c, rfl, hc⟩ := nat_u64 h5
 exact ⟨⟨UInt8.ofNat a, s, c, l⟩, ⟨hl, hs, hc⟩, by rw [RecT.v, recV, byteV_nat a ha]⟩
theorem ent_of_kin {xs : List Value} (h : Kin (fun k m => (Lit.int k m).wf = true) (.u8 :: List.replicate 32 .u8) xs) : ∃ r : EntT, r.Fit ∧ xs = r.v := by
 obtain ⟨n, y, rfl, h1, h2⟩ := h.cons
 obtain ⟨l, hl, rfl⟩ := h2.bytes
 obtain ⟨a, rfl, ha⟩ := nat_u8 h1
 exact ⟨⟨UInt8.ofNat a, l⟩, ⟨hl⟩, by rw [EntT.v, entV, byteV_nat a ha]⟩
theorem rows_of_kin {α : Type} {F : α → Prop} {v : α → List Value} {ks : List IntKind} (ho : ∀ xs, Kin (fun k m => (Lit.int k m).wf = true) ks xs → ∃ r, F r ∧ xs = v r) : ∀ {n : Nat} {xs : List Value}, Kin (fun k m => (Lit.int k m).wf = true) (List.replicate n ks).flatten xs → ∃ R : List α, R.length = n ∧ (∀ r ∈ R, F r) ∧ xs = R.flatMap v
 | 0, xs, h => ⟨[], rfl, fun _ h => by (cases h), h.nil⟩
 | n + 1, xs, h => by
  rw [List.replicate_succ, List.flatten_cons] at h
  obtain ⟨x, y, rfl, h1, h2⟩ := h.append
  obtain ⟨r, hr, rfl⟩ := ho _ h1
  obtain ⟨R, hR, hf, rfl⟩ := rows_of_kin ho h2
  exact ⟨r :: R, by rw [List.length_cons, hR], fun q hq => (List.mem_cons.1 hq).elim (fun e => e ▸ hr) (hf q), by rw [List.flatMap_cons]⟩
end
end
section
open Go Go.RowKit Go.ChangeShapes Go.WideShapes
section
variable {H : Type} {enc : TypeId × Value → H} {P : Program} {w : World} {base : Nat} {held : Bool}
theorem nod_of_kin {xs : List Value} (h : Kin (fun k m => (Lit.int k m).wf = true) (.u8 :: .u32 :: ((List.replicate 4 (.u8 :: .u32 :: .u64 :: List.replicate 32 .u8)).flatten ++ (List.replicate 4 (.u8 :: List.replicate 32 .u8)).flatten)) xs) : ∃ x : NodT, x.Fit ∧ xs = x.v := by
 obtain ⟨n, y, rfl, h1, h2⟩ := h.cons
 obtain ⟨m, y, rfl, h3, h4⟩ := h2.cons
 obtain ⟨a, rfl, ha⟩ := nat_u8 h1
 obtain ⟨j, rfl, hj⟩ := nat_u32 h3
 obtain ⟨x, z, rfl, h5, h6⟩ := h4.append
 obtain ⟨R, hR, hfR, rfl⟩ := rows_of_kin (fun _ => rec_of_kin) h5
 obtain ⟨E, hE, hfE, rfl⟩ := rows_of_kin (fun _ => ent_of_kin) h6
 exact ⟨⟨UInt8.ofNat a, j, R, E⟩, ⟨hj, hR, hE, hfR, hfE⟩, by rw [NodT.v, nodV, byteV_nat a ha]; rfl⟩
theorem trod_pf {t e : TypeId} {f0 f1 : Field} {fuel : Nat} {cs : List Value} {y : DataW H × List MemPlace} (ht : P.underlying t = some (.struct #[f0, f1])) (o0 : f0.offset = 0) (o1 : f1.offset = 1) (t0 : flat P 3 f0.type = some [.i64]) (t1 : P.underlying f1.type = some (.slice e)) (c0 : P.cellsOf f0.type = 1) (c1 : P.cellsOf f1.type = 1) (hC : P.cellsOf t = 2)
  (hf : flat P 6 e = some (.u8 :: .u32 :: ((List.replicate 4 (.u8 :: .u32 :: .u64 :: List.replicate 32 .u8)).flatten ++ (List.replicate 4 (.u8 :: List.replicate 32 .u8)).flatten))) (hc : P.cellsOf e = 274) (h : DataW.trod enc P w base (fun _ => true) held fuel t cs = some y) :
  ∃ (x : Int) (T : List NodT) (A : Option Addr) (c : Nat), FitT T ∧ cs = [.int .i64 x, .slice A T.length c] ∧ RowIn w.heap.size w A (nodsV T) := by
 obtain ⟨xs, m, _, _, hlen, hxl, hel⟩ := DataW.trod_struct ht h
 have hlen' : cs.length = 2 := by rw [← hC]; exact hlen
 have hxl' : xs.length = 2 := by simpa using hxl
 have e0 := hel 0 f0 rfl
 have e1 := hel 1 f1 rfl
 rw [List.getElem?_eq_getElem (by omega)] at e0 e1
 rw [o0, c0] at e0
 rw [o1, c1] at e1
 have k0 := trod_flat 3 t0 e0
 obtain ⟨a, h3, h4⟩ := k0.one
 obtain ⟨u, l, h1, h2, ⟨A, q, hv, hrow⟩, _⟩ := trod_rows (f := NodT.v) (R := NodT.Fit) (NodT.emp 0 0) (fun _ h => h.len) (NodT.emp_fit 0 (j := 0) (by decide)).len (fun _ => nod_of_kin) t1 hf hc (by decide) e1
 refine ⟨a, l, A, q, h2, ?_, hrow⟩
 match hcl : cs, hlen' with
 | [x, y], _ =>
  simp at h3 h1
  rw [h3, h1, hv]
theorem arg_pf2 {tt t e : TypeId} {f0 f1 : Field} {v : Value} {d : DataW H} {ps : List MemPlace} (hT : P.underlying tt = some (.array 2 t)) (hCT : P.cellsOf tt = 4) (ht : P.underlying t = some (.struct #[f0, f1])) (o0 : f0.offset = 0) (o1 : f1.offset = 1) (t0 : flat P 3 f0.type = some [.i64]) (t1 : P.underlying f1.type = some (.slice e)) (c0 : P.cellsOf f0.type = 1) (c1 : P.cellsOf f1.type = 1) (hC : P.cellsOf t = 2)
  (hf : flat P 6 e = some (.u8 :: .u32 :: ((List.replicate 4 (.u8 :: .u32 :: .u64 :: List.replicate 32 .u8)).flatten ++ (List.replicate 4 (.u8 :: List.replicate 32 .u8)).flatten))) (hc : P.cellsOf e = 274) {r : Reach} {b0 : Nat} (hk : Value.okWide P w r b0 tt v) (h : DataW.Trod enc P w base (fun _ => true) held tt v d ps) :
  ∃ (x : Int) (T : List NodT) (y : Int) (W : List NodT), FitT T ∧ FitT W ∧ (pfD2 x T y W).Of w v := by
 obtain ⟨cs, rfl⟩ := okWide_arr' hT hk
 obtain ⟨fuel, hf'⟩ := h
 obtain ⟨xs, q, _, _, hlen, hxl, hel⟩ := DataW.trod_array hT hf'
 have hlen' : cs.toList.length = 4 := by rw [← hCT]; exact hlen
 have e0 := hel 0 (by decide)
 have e1 := hel 1 (by decide)
 rw [List.getElem?_eq_getElem (by omega), hC] at e0 e1
 obtain ⟨x, T, A, c, h1, h2, h3⟩ := trod_pf ht o0 o1 t0 t1 c0 c1 hC hf hc e0
 obtain ⟨y, W, A', c', k1, k2, k3⟩ := trod_pf ht o0 o1 t0 t1 c0 c1 hC hf hc e1
 have h2' : (cs.toList.drop (0 * 2)).take 2 = _ := h2
 have k2' : (cs.toList.drop (1 * 2)).take 2 = _ := k2
 refine ⟨x, T, y, W, h1, k1, A, c, A', c', ?_, h3, k3⟩
 unfold aggV
 congr 1
 apply Array.ext'
 show cs.toList = _
 match hcs : cs.toList, hlen' with
 | [a, b, a', b'], _ =>
  rw [hcs] at h2' k2'
  simp at h2' k2'
  rw [h2'.1, h2'.2, k2'.1, k2'.2]
end
end
end Go.Proofs.YtmkpekmhhbcifaaGreatDoor
