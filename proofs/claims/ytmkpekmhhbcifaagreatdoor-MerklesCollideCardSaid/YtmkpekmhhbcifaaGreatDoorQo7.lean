/-
  OWN TEXTS of this seat, put together, part 7: C13d, C16l, C16m, Vars, C16n, MerkL, C16o, C16p.
-/
import Derived.Test.YtmkpekmhhbcifaaGreatDoorQo0
import Derived.Test.YtmkpekmhhbcifaaGreatDoorQo2
import Derived.Test.YtmkpekmhhbcifaaGreatDoorQo4
import Derived.Test.YtmkpekmhhbcifaaGreatDoorQo6
import Derived.Test.YtmkpekmhhbcifaaGreatDoorQo3
namespace Go.Proofs.YtmkpekmhhbcifaaGreatDoor
set_option linter.unusedVariables false
set_option linter.unusedSimpArgs false
set_option maxRecDepth 20000
open Go Go.RowKit
theorem be4 (v : Nat) : be 4 v = [UInt8.ofNat (v / 16777216), UInt8.ofNat (v / 65536), UInt8.ofNat (v / 256), UInt8.ofNat v] := by simp [be, List.range, List.range.loop]
theorem z_upto {Z : Nat → Prop} {i : Nat} (hG : i ≤ 4 ∧ ∀ j, j < i → Z j) (hi : i < 4) (hz : Z i) : i + 1 ≤ 4 ∧ ∀ j, j < i + 1 → Z j := ⟨by omega, fun j hj => (Nat.lt_or_ge j i).elim (hG.2 j) fun h => by rw [show j = i from by omega]; exact hz⟩
theorem add_u8 (s : UInt8) (n : Nat) : Value.int .u8 (IntKind.u8.wrap (((s.toNat : Nat) : Int) + (((UInt8.ofNat n).toNat : Nat) : Int))) = byteV (UInt8.ofNat (s.toNat + n)) := by
 rw [← Int.natCast_add, wrap_u8_nat, byteV]
 congr 3
 apply UInt8.toNat_inj.1
 rw [UInt8.toNat_ofNat', UInt8.toNat_ofNat', UInt8.toNat_ofNat', Nat.add_mod_mod]
theorem rCheck_hi (x : NodT) (hx : x.Fit) (h5 : 5 < x.l.toNat) : Fn Tryz.prog 35 [.v (aggV x.v)] (.v (.int .i64 (1))) := by
 refine FV Tryz.func35 rfl Tryz.ntmps35 rfl fun w₀ => ?_
 refine GS (TN 0 (RN ?_));refine ZB 1000001 rfl fun b1 ⟨hBb1, hb1⟩ => ?_
 refine TL (RVN 1 rfl ?_);refine QS (GT (RS (ok_field field57_0 (by decide) rfl) ?_));refine RLV 1000001 U5 rfl rfl rfl ?_;refine RB rfl rfl rfl ?_;refine RT ?_;refine RN (A.yes rfl ?_);refine GV rfl (A.ret (End.ret_then ?_));exact ER rfl rfl
set_option maxHeartbeats 2000000 in
theorem rCheck_R (x : NodT) (hx : x.Fit) (h0 : x.l.toNat = 0) : Fn Tryz.prog 35 [.v (aggV x.v)] (.v (.int .i64 (x.ck))) := by
 refine FV Tryz.func35 rfl Tryz.ntmps35 rfl fun w₀ => ?_
 refine GS (TN 0 (RN ?_));refine ZB 1000001 rfl fun b1 ⟨hBb1, hb1⟩ => ?_
 refine TL (RVN 1 rfl ?_);refine QS (GT (RS (ok_field field57_0 (by decide) rfl) ?_));refine RLV 1000001 U5 rfl rfl rfl ?_;refine RB rfl rfl rfl ?_;refine RF ?_;refine RN (A.no rfl ?_);refine QK (QS (GV rfl (A.block ?_)));refine A.loop (ι := Nat) (fun i => i ≤ 4 ∧ ∀ j, j < i → (x.e j).Z) (fun i => [(1, .v (ptr b1)), (3, .v (nI (i))), (1000001, blk b1 57 x.v)]) (fun i => 4 - i) 0 ?_ ?_ ?_
 ·exact ⟨Nat.zero_le _, fun j h => absurd h (Nat.not_lt_zero _)⟩
 ·exact (KC 1 rfl (KE 3 rfl (by rfl) (KC 1000001 rfl KN)))
 intro i hG
 refine QS (GV rfl ?_);refine A.cond rfl (fun hc10 => ?_) (fun hc10 => ?_)
 ·have hi : i < 4 := by simp at hc10; omega
  refine QK (QSB ?_)
  by_cases hz : (x.e i).Z
  ·refine GT (RS (ok_field field57_0 (by decide) rfl) ?_);refine RLV 1000001 U5 rfl rfl rfl ?_;refine RB rfl rfl rfl ?_;refine RZ (.bool true) (by simp [h0]) ?_;refine RV 2 rfl ?_;refine RQ (ok_field field57_3 (by decide) rfl) ?_;refine RQ (ok_indexN (i) U55 size54 rfl rfl (rfl) (hi)) ?_;refine RQ (ok_loadP (s := 1000001) (by decide) U54 rfl size54 rfl rfl (by rw [hx.len]; omega) (hx.ent_at hi)) ?_;refine RQ (ok_lit [] (EntT.v EntT.zero) (fun _ _ => rfl) (by kernel_rfl)) ?_;refine RQ (ok_neqT (n := 4) (decide (x.e i).Z) flat54 (by decide) (by kernel_rfl) (by kernel_rfl) rfl rfl (hx.e i).kin EntT.zero_fit.kin (EntT.dz _)) ?_;refine RZ (.bool false) (by rw [decide_eq_true hz]; rfl) ?_;refine RV 2 rfl ?_;refine RQ (ok_field field57_0 (by decide) rfl) ?_;refine RQ (ok_loadV (s := 1000001) (by decide) U5 rfl rfl rfl (rfl)) ?_;refine RQ (ok_bin rfl rfl rfl) ?_;refine RZ (.bool false) (by simp [h0]) ?_;refine RVN 9 rfl ?_;refine A.sub (Sv [1,3,36,1000001] rfl) ?_;refine A.no rfl ?_;refine A.skip (End.normal_block (EN (GTE (RV 2 rfl ?_))));refine RZ (nI (i + 1)) (wrap_eq (by omega) (by omega)) ?_;refine RVN 1 rfl ?_;refine End.normal_then ?_;refine End.again (i + 1) ?_ ?_ ?_
   ·exact z_upto hG hi hz
   ·show _ - _ < _ - _; omega
   ·exact (Sv [1,3,1000001] rfl)
  ·refine GT (RS (ok_field field57_0 (by decide) rfl) ?_);refine RLV 1000001 U5 rfl rfl rfl ?_;refine RB rfl rfl rfl ?_;refine RZ (.bool true) (by simp [h0]) ?_;refine RV 2 rfl ?_;refine RQ (ok_field field57_3 (by decide) rfl) ?_;refine RQ (ok_indexN (i) U55 size54 rfl rfl (rfl) (hi)) ?_;refine RQ (ok_loadP (s := 1000001) (by decide) U54 rfl size54 rfl rfl (by rw [hx.len]; omega) (hx.ent_at hi)) ?_;refine RQ (ok_lit [] (EntT.v EntT.zero) (fun _ _ => rfl) (by kernel_rfl)) ?_;refine RQ (ok_neqT (n := 4) (decide (x.e i).Z) flat54 (by decide) (by kernel_rfl) (by kernel_rfl) rfl rfl (hx.e i).kin EntT.zero_fit.kin (EntT.dz _)) ?_;refine RZ (.bool true) (by rw [decide_eq_false hz]; rfl) ?_;refine RV 6 rfl ?_;refine RunK.skippedU rfl rfl rfl rfl ?_;refine RunK.skippedU rfl rfl rfl rfl ?_;refine RunK.skippedU rfl rfl rfl rfl ?_;refine RunK.skippedU rfl rfl rfl rfl ?_;refine RunK.skippedU rfl rfl rfl rfl ?_;refine RunK.skippedU rfl rfl rfl rfl ?_;refine RVN 2 rfl ?_;refine A.sub (Sv [1,3,36,1000001] rfl) ?_;refine A.yes rfl ?_;refine GV rfl (A.ret (End.ret_block (End.ret_then (End.ret_then (End.ret_block (End.ret_then ?_))))))
   first | exact End.ret1 rfl rfl (Le.v (congrArg (Value.int .i64) (NodT.ck_Rz h0 fun h => hz (h i hi)).symm)) | exact End.ret1 rfl rfl (Le.v (congrArg (Value.int .i64) ((fst4_at (f := (fun i => (x.r i).ck)) hi hK.2 hk).trans (NodT.ck_R h0 hzs).symm))) | exact End.ret1 rfl rfl (Le.v (congrArg (Value.int .i64) ((NodT.ck_R h0 hzs).trans (fst4_no (f := (fun i => (x.r i).ck)) fun j hj => hK.2 j (by omega))).symm))
 ·have hi2 : i = 4 := by have := hG.1; simp at hc10; omega
  have hzs : ∀ j, j < 4 → (x.e j).Z := fun j hj => hG.2 j (by omega)
  refine A.exit (End.exit_then (End.exit_then (End.exit_here (EN (QS (GV rfl (A.block ?_)))))));refine A.loop (ι := Nat) (fun i => i ≤ 4 ∧ ∀ j, j < i → (x.r j).ck = 0) (fun i => [(1, .v (ptr b1)), (4, .v (nI (i))), (1000001, blk b1 57 x.v)]) (fun i => 4 - i) 0 ?_ ?_ ?_
  ·exact ⟨Nat.zero_le _, fun j h => absurd h (Nat.not_lt_zero _)⟩
  ·exact (KC 1 rfl (KE 4 rfl (by rfl) (KC 1000001 rfl KN)))
  intro i hK
  refine QS (GV rfl ?_);refine A.cond rfl (fun hc38 => ?_) (fun hc38 => ?_)
  ·have hi : i < 4 := by simp at hc38; omega
   refine QK (QSB (GT (RM rfl ?_)));refine RS (ok_field field57_2 (by decide) rfl) ?_;refine RS (ok_indexN (i) U52 size51 rfl rfl (rfl) (hi)) ?_;refine RS (ok_loadP (s := 1000001) (by decide) U51 rfl size51 rfl rfl (by rw [hx.len]; omega) (hx.rec_at hi)) ?_;refine RS (ok_call (refCheckR_fn (x.r i).x (x.r i).s (x.r i).c (x.r i).t (hx.r i).t) (A1 rfl)) ?_;refine RZ (.int .i64 (x.r i).ck) (rfl) ?_;refine RVN 1 rfl ?_;refine QS (GT (RS (ok_field field57_0 (by decide) rfl) ?_));refine RLV 1000001 U5 rfl rfl rfl ?_;refine RB rfl rfl rfl ?_;refine RZ (.bool false) (by simp [h0]) ?_;refine RN (A.no rfl ?_);refine QK (GV rfl ?_);refine A.cond rfl (fun hc55 => ?_) (fun hc55 => ?_)
   ·have hk : (x.r i).ck ≠ 0 := by simpa using hc55
    refine GV rfl (A.ret (End.ret_block (End.ret_then (End.ret_then (End.ret_block (End.ret_then ?_))))))
    first | exact End.ret1 rfl rfl (Le.v (congrArg (Value.int .i64) (NodT.ck_Rz h0 fun h => hz (h i hi)).symm)) | exact End.ret1 rfl rfl (Le.v (congrArg (Value.int .i64) ((fst4_at (f := (fun i => (x.r i).ck)) hi hK.2 hk).trans (NodT.ck_R h0 hzs).symm))) | exact End.ret1 rfl rfl (Le.v (congrArg (Value.int .i64) ((NodT.ck_R h0 hzs).trans (fst4_no (f := (fun i => (x.r i).ck)) fun j hj => hK.2 j (by omega))).symm))
   ·have hk : (x.r i).ck = 0 := by simpa using hc55
    refine A.skip (End.normal_block (EN (GTE (RV 2 rfl ?_))));refine RZ (nI (i + 1)) (wrap_eq (by omega) (by omega)) ?_;refine RVN 1 rfl ?_;refine End.normal_then ?_;refine End.again (i + 1) ?_ ?_ ?_
    ·exact z_upto hK hi hk
    ·show _ - _ < _ - _; omega
    ·exact (Sv [1,4,1000001] rfl)
  ·have hi3 : i = 4 := by have := hK.1; simp at hc38; omega
   refine A.exit (End.exit_then (End.exit_then (End.exit_here (EN (GV rfl (A.ret ?_))))))
   first | exact End.ret1 rfl rfl (Le.v (congrArg (Value.int .i64) (NodT.ck_Rz h0 fun h => hz (h i hi)).symm)) | exact End.ret1 rfl rfl (Le.v (congrArg (Value.int .i64) ((fst4_at (f := (fun i => (x.r i).ck)) hi hK.2 hk).trans (NodT.ck_R h0 hzs).symm))) | exact End.ret1 rfl rfl (Le.v (congrArg (Value.int .i64) ((NodT.ck_R h0 hzs).trans (fst4_no (f := (fun i => (x.r i).ck)) fun j hj => hK.2 j (by omega))).symm))
set_option maxHeartbeats 2000000 in
theorem rCheck_E (x : NodT) (hx : x.Fit) (h5 : ¬ 5 < x.l.toNat) (h0 : ¬ x.l.toNat = 0) : Fn Tryz.prog 35 [.v (aggV x.v)] (.v (.int .i64 (x.ck))) := by
 refine FV Tryz.func35 rfl Tryz.ntmps35 rfl fun w₀ => ?_
 refine GS (TN 0 (RN ?_));refine ZB 1000001 rfl fun b1 ⟨hBb1, hb1⟩ => ?_
 refine TL (RVN 1 rfl ?_);refine QS (GT (RS (ok_field field57_0 (by decide) rfl) ?_));refine RLV 1000001 U5 rfl rfl rfl ?_;refine RB rfl rfl rfl ?_;refine RF ?_;refine RN (A.no rfl ?_);refine QK (QS (GV rfl (A.block ?_)));refine A.loop (ι := Nat) (fun i => i ≤ 4 ∧ ∀ j, j < i → (x.r j).Z) (fun i => [(1, .v (ptr b1)), (3, .v (nI (i))), (1000001, blk b1 57 x.v)]) (fun i => 4 - i) 0 ?_ ?_ ?_
 ·exact ⟨Nat.zero_le _, fun j h => absurd h (Nat.not_lt_zero _)⟩
 ·exact (KC 1 rfl (KE 3 rfl (by rfl) (KC 1000001 rfl KN)))
 intro i hG
 refine QS (GV rfl ?_);refine A.cond rfl (fun hc10 => ?_) (fun hc10 => ?_)
 ·have hi : i < 4 := by simp at hc10; omega
  refine QK (QSB ?_)
  by_cases hz : (x.r i).Z
  ·refine GT (RS (ok_field field57_0 (by decide) rfl) ?_);refine RLV 1000001 U5 rfl rfl rfl ?_;refine RB rfl rfl rfl ?_;refine RZ (.bool false) (by simp; omega) ?_;refine RV 9 rfl ?_;refine RQ (ok_field field57_0 (by decide) rfl) ?_;refine RQ (ok_loadV (s := 1000001) (by decide) U5 rfl rfl rfl (rfl)) ?_;refine RQ (ok_bin rfl rfl rfl) ?_;refine RZ (.bool true) (by simp; omega) ?_;refine RV 2 rfl ?_;refine RQ (ok_field field57_2 (by decide) rfl) ?_;refine RQ (ok_indexN (i) U52 size51 rfl rfl (rfl) (hi)) ?_;refine RQ (ok_loadP (s := 1000001) (by decide) U51 rfl size51 rfl rfl (by rw [hx.len]; omega) (hx.rec_at hi)) ?_;refine RQ (ok_lit [] (RecT.v RecT.zero) (fun _ _ => rfl) (by kernel_rfl)) ?_;refine RQ (ok_neqT (n := 4) (decide (x.r i).Z) flat51 (by decide) (by kernel_rfl) (by kernel_rfl) rfl rfl (hx.r i).kin RecT.zero_fit.kin (RecT.dz _)) ?_;refine RZ (.bool false) (by rw [decide_eq_true hz]; rfl) ?_;refine RVN 2 rfl ?_;refine A.sub (Sv [1,3,36,1000001] rfl) ?_;refine A.no rfl ?_;refine A.skip (End.normal_block (EN (GTE (RV 2 rfl ?_))));refine RZ (nI (i + 1)) (wrap_eq (by omega) (by omega)) ?_;refine RVN 1 rfl ?_;refine End.normal_then ?_;refine End.again (i + 1) ?_ ?_ ?_
   ·exact z_upto hG hi hz
   ·show _ - _ < _ - _; omega
   ·exact (Sv [1,3,1000001] rfl)
  ·refine GT (RS (ok_field field57_0 (by decide) rfl) ?_);refine RLV 1000001 U5 rfl rfl rfl ?_;refine RB rfl rfl rfl ?_;refine RZ (.bool false) (by simp; omega) ?_;refine RV 9 rfl ?_;refine RQ (ok_field field57_0 (by decide) rfl) ?_;refine RQ (ok_loadV (s := 1000001) (by decide) U5 rfl rfl rfl (rfl)) ?_;refine RQ (ok_bin rfl rfl rfl) ?_;refine RZ (.bool true) (by simp; omega) ?_;refine RV 2 rfl ?_;refine RQ (ok_field field57_2 (by decide) rfl) ?_;refine RQ (ok_indexN (i) U52 size51 rfl rfl (rfl) (hi)) ?_;refine RQ (ok_loadP (s := 1000001) (by decide) U51 rfl size51 rfl rfl (by rw [hx.len]; omega) (hx.rec_at hi)) ?_;refine RQ (ok_lit [] (RecT.v RecT.zero) (fun _ _ => rfl) (by kernel_rfl)) ?_;refine RQ (ok_neqT (n := 4) (decide (x.r i).Z) flat51 (by decide) (by kernel_rfl) (by kernel_rfl) rfl rfl (hx.r i).kin RecT.zero_fit.kin (RecT.dz _)) ?_;refine RZ (.bool true) (by rw [decide_eq_false hz]; rfl) ?_;refine RVN 2 rfl ?_;refine A.sub (Sv [1,3,36,1000001] rfl) ?_;refine A.yes rfl ?_;refine GV rfl (A.ret (End.ret_block (End.ret_then (End.ret_then (End.ret_block (End.ret_then ?_))))))
   first | exact End.ret1 rfl rfl (Le.v (congrArg (Value.int .i64) (NodT.ck_Ez h5 h0 fun h => hz (h i hi)).symm)) | exact End.ret1 rfl rfl (Le.v (congrArg (Value.int .i64) ((fst4_at (f := (fun i => (x.e i).ck)) hi hK.2 hk).trans (NodT.ck_E h5 h0 hzs).symm))) | exact End.ret1 rfl rfl (Le.v (congrArg (Value.int .i64) ((NodT.ck_E h5 h0 hzs).trans (fst4_no (f := (fun i => (x.e i).ck)) fun j hj => hK.2 j (by omega))).symm))
 ·have hi2 : i = 4 := by have := hG.1; simp at hc10; omega
  have hzs : ∀ j, j < 4 → (x.r j).Z := fun j hj => hG.2 j (by omega)
  refine A.exit (End.exit_then (End.exit_then (End.exit_here (EN (QS (GV rfl (A.block ?_)))))));refine A.loop (ι := Nat) (fun i => i ≤ 4 ∧ ∀ j, j < i → (x.e j).ck = 0) (fun i => [(1, .v (ptr b1)), (4, .v (nI (i))), (1000001, blk b1 57 x.v)]) (fun i => 4 - i) 0 ?_ ?_ ?_
  ·exact ⟨Nat.zero_le _, fun j h => absurd h (Nat.not_lt_zero _)⟩
  ·exact (KC 1 rfl (KE 4 rfl (by rfl) (KC 1000001 rfl KN)))
  intro i hK
  refine QS (GV rfl ?_);refine A.cond rfl (fun hc38 => ?_) (fun hc38 => ?_)
  ·have hi : i < 4 := by simp at hc38; omega
   refine QK (QSB (GT (RM rfl ?_)));refine RS (ok_field field57_2 (by decide) rfl) ?_;refine RS (ok_indexN (i) U52 size51 rfl rfl (rfl) (hi)) ?_;refine RS (ok_loadP (s := 1000001) (by decide) U51 rfl size51 rfl rfl (by rw [hx.len]; omega) (hx.rec_at hi)) ?_;refine RS (ok_call (refCheckR_fn (x.r i).x (x.r i).s (x.r i).c (x.r i).t (hx.r i).t) (A1 rfl)) ?_;refine RZ (.int .i64 (x.r i).ck) (rfl) ?_;refine RVN 1 rfl ?_;refine QS (GT (RS (ok_field field57_0 (by decide) rfl) ?_));refine RLV 1000001 U5 rfl rfl rfl ?_;refine RB rfl rfl rfl ?_;refine RZ (.bool true) (by simp; omega) ?_;refine RN (A.yes rfl ?_);refine GTE (RM rfl ?_);refine RS (ok_field field57_3 (by decide) rfl) ?_;refine RS (ok_indexN (i) U55 size54 rfl rfl (rfl) (hi)) ?_;refine RS (ok_loadP (s := 1000001) (by decide) U54 rfl size54 rfl rfl (by rw [hx.len]; omega) (hx.ent_at hi)) ?_;refine RS (ok_call (refCheckE_fn (x.e i).x (x.e i).t (hx.e i).t) (A1 rfl)) ?_;refine RZ (.int .i64 (x.e i).ck) (rfl) ?_;refine RVN 1 rfl ?_;refine EN (GV rfl ?_);refine A.cond rfl (fun hc55 => ?_) (fun hc55 => ?_)
   ·have hk : (x.e i).ck ≠ 0 := by simpa using hc55
    refine GV rfl (A.ret (End.ret_block (End.ret_then (End.ret_then (End.ret_block (End.ret_then ?_))))))
    first | exact End.ret1 rfl rfl (Le.v (congrArg (Value.int .i64) (NodT.ck_Ez h5 h0 fun h => hz (h i hi)).symm)) | exact End.ret1 rfl rfl (Le.v (congrArg (Value.int .i64) ((fst4_at (f := (fun i => (x.e i).ck)) hi hK.2 hk).trans (NodT.ck_E h5 h0 hzs).symm))) | exact End.ret1 rfl rfl (Le.v (congrArg (Value.int .i64) ((NodT.ck_E h5 h0 hzs).trans (fst4_no (f := (fun i => (x.e i).ck)) fun j hj => hK.2 j (by omega))).symm))
   ·have hk : (x.e i).ck = 0 := by simpa using hc55
    refine A.skip (End.normal_block (EN (GTE (RV 2 rfl ?_))));refine RZ (nI (i + 1)) (wrap_eq (by omega) (by omega)) ?_;refine RVN 1 rfl ?_;refine End.normal_then ?_;refine End.again (i + 1) ?_ ?_ ?_
    ·exact z_upto hK hi hk
    ·show _ - _ < _ - _; omega
    ·exact (Sv [1,4,1000001] rfl)
  ·have hi3 : i = 4 := by have := hK.1; simp at hc38; omega
   refine A.exit (End.exit_then (End.exit_then (End.exit_here (EN (GV rfl (A.ret ?_))))))
   first | exact End.ret1 rfl rfl (Le.v (congrArg (Value.int .i64) (NodT.ck_Ez h5 h0 fun h => hz (h i hi)).symm)) | exact End.ret1 rfl rfl (Le.v (congrArg (Value.int .i64) ((fst4_at (f := (fun i => (x.e i).ck)) hi hK.2 hk).trans (NodT.ck_E h5 h0 hzs).symm))) | exact End.ret1 rfl rfl (Le.v (congrArg (Value.int .i64) ((NodT.ck_E h5 h0 hzs).trans (fst4_no (f := (fun i => (x.e i).ck)) fun j hj => hK.2 j (by omega))).symm))
theorem rCheck_fn (x : NodT) (hx : x.Fit) : Fn Tryz.prog 35 [.v (aggV x.v)] (.v (.int .i64 (x.ck))) := by
 by_cases h5 : 5 < x.l.toNat
 ·rw [NodT.ck_hi h5]; exact rCheck_hi x hx h5
 by_cases h : x.l.toNat = 0
 ·exact rCheck_R x hx h
 ·exact rCheck_E x hx h5 h
set_option maxHeartbeats 2000000 in
theorem rBytes_R (x : NodT) (hx : x.Fit) (h0 : x.l.toNat = 0) : Fn Tryz.prog 57 [.v (aggV x.v)] (byt x.bl) := by
 refine FV Tryz.func57 rfl Tryz.ntmps57 rfl fun w₀ => ?_
 refine GS (TN 0 (RN ?_));refine ZB 1000001 rfl fun b1 ⟨hBb1, hb1⟩ => ?_
 refine TL (RVN 1 rfl ?_);refine GT (RS (ok_field field57_0 (by decide) rfl) ?_);refine RLV 1000001 U5 rfl rfl rfl ?_;refine RS (ok_field field57_1 (by decide) rfl) ?_;refine RLV 1000001 U46 rfl rfl rfl ?_;refine RS (ok_shr rfl rfl (by decide)) ?_;refine RZ (nW (x.j / 16777216)) (by rw [show min (24 : Int).toNat IntKind.u32.bits = 24 from rfl, shr_nat]) ?_;refine RS (ok_conv U46 U5 rfl) ?_;refine RZ (byteV (UInt8.ofNat (x.j / 16777216))) (by rw [wrap_u8_nat]; rfl) ?_;refine RS (ok_field field57_1 (by decide) rfl) ?_;refine RLV 1000001 U46 rfl rfl rfl ?_;refine RS (ok_shr rfl rfl (by decide)) ?_;refine RZ (nW (x.j / 65536)) (by rw [show min (16 : Int).toNat IntKind.u32.bits = 16 from rfl, shr_nat]) ?_;refine RS (ok_conv U46 U5 rfl) ?_;refine RZ (byteV (UInt8.ofNat (x.j / 65536))) (by rw [wrap_u8_nat]; rfl) ?_;refine RS (ok_field field57_1 (by decide) rfl) ?_;refine RLV 1000001 U46 rfl rfl rfl ?_;refine RS (ok_shr rfl rfl (by decide)) ?_;refine RZ (nW (x.j / 256)) (by rw [show min (8 : Int).toNat IntKind.u32.bits = 8 from rfl, shr_nat]) ?_;refine RS (ok_conv U46 U5 rfl) ?_;refine RZ (byteV (UInt8.ofNat (x.j / 256))) (by rw [wrap_u8_nat]; rfl) ?_;refine RS (ok_field field57_1 (by decide) rfl) ?_;refine RLV 1000001 U46 rfl rfl rfl ?_;refine RS (ok_conv U46 U5 rfl) ?_;refine RZ (byteV (UInt8.ofNat (x.j))) (by rw [wrap_u8_nat]; rfl) ?_;refine RS (ok_buildOwn [byteV x.l, byteV (UInt8.ofNat (x.j / 16777216)), byteV (UInt8.ofNat (x.j / 65536)), byteV (UInt8.ofNat (x.j / 256)), byteV (UInt8.ofNat x.j)] U23 info5 rfl (by decide) (by decide) rfl ⟨rfl, rfl, rfl, rfl, rfl, rfl, rfl, rfl, rfl, rfl, trivial⟩ (fun d hd => by simp only [List.mem_cons, List.not_mem_nil, or_false] at hd; rcases hd with rfl | rfl | rfl | rfl | rfl <;> rfl)) ?_;refine RVN 1 rfl ?_;refine QS (GV rfl (A.block ?_));refine A.loop (ι := Nat) (fun i => i ≤ 4) (fun i => [(1, .v (ptr b1)), (3, own w₀.heap.size 5 (5 + 45 * i) (((x.l :: be 4 x.j) ++ (x.R.take i).flatMap RecT.l).map byteV)), (4, .v (nI (i))), (1000001, blk b1 57 x.v)]) (fun i => 4 - i) 0 ?_ ?_ ?_
 ·exact Nat.zero_le _
 ·exact (KC 1 rfl (KE 3 rfl (show own _ _ _ _ = own _ _ _ _ from congrArg _ (by rw [List.take_zero, List.flatMap_nil, List.append_nil, be4]; rfl)) (KE 4 rfl (by rfl) (KC 1000001 rfl KN))))
 intro i hG
 refine QS (GV rfl ?_);refine A.cond rfl (fun hc24 => ?_) (fun hc24 => ?_)
 ·have hi : i < 4 := by simp at hc24; omega
  refine QK (QSB (GT (RS (ok_field field57_0 (by decide) rfl) ?_)));refine RLV 1000001 U5 rfl rfl rfl ?_;refine RB rfl rfl rfl ?_;refine RZ (.bool true) (by simp [h0]) ?_;refine RN (A.yes rfl ?_);refine GE (TF 6 (RV 2 rfl ?_));refine RS (ok_field field57_2 (by decide) rfl) ?_;refine RS (ok_indexN (i) U52 size51 rfl rfl (rfl) (hi)) ?_;refine RS (ok_loadP (s := 1000001) (by decide) U51 rfl size51 rfl rfl (by rw [hx.len]; omega) (hx.rec_at hi)) ?_;refine RS (ok_call (refRecord_fn (x.r i).x (x.r i).s (x.r i).c (x.r i).t (hx.r i).t (hx.r i).s (hx.r i).c) (A1 rfl)) ?_;refine RN ?_;refine ⟨_, eff_appendS (vs := ((x.r i).l.map byteV)) U23 info5 (by decide) rfl rfl rfl (Le.eq (byt_vals _)) (by simp [byteV, Value.oneCell']) (by rw [List.length_map, (hx.r i).lenL]; omega) (by decide) (fun g hg => (LT 1000001 rfl (LW [1,4] rfl))), ?_⟩
  refine TL (RVN 1 rfl ?_);refine End.normal_block (EN (GTE (RV 2 rfl ?_)));refine RZ (nI (i + 1)) (wrap_eq (by omega) (by omega)) ?_;refine RVN 1 rfl ?_;refine End.normal_then ?_;refine End.again (i + 1) ?_ ?_ ?_
  ·show _ ≤ _; omega
  ·show _ - _ < _ - _; omega
  ·exact (KC 1 rfl (KE 3 rfl (show own _ _ _ _ = own _ _ _ _ from by rw [List.length_map, (hx.r i).lenL, take_flat hx.lr hi (z := RecT.zero), ← List.append_assoc, List.map_append (l₁ := (x.l :: be 4 x.j) ++ _), show 5 + 45 * (i + 1) = 5 + 45 * i + 45 from by omega]; rfl) (KC 4 rfl (KC 1000001 rfl KN))))
 ·have hi2 : i = 4 := by simp at hc24; omega
  refine A.exit (End.exit_then (End.exit_then (End.exit_here (EN (GV rfl (A.ret ?_))))))
  subst hi2
  exact End.ret1 rfl rfl ((own_byt (by rw [List.take_of_length_le (Nat.le_of_eq hx.lr), List.length_append, flat_length (RecT.lensL hx.fr), hx.lr, List.length_cons, be_length])).trans (Le.eq (congrArg byt (by rw [List.take_of_length_le (Nat.le_of_eq hx.lr)]; unfold NodT.bl; rw [if_pos h0]; rfl))))
set_option maxHeartbeats 2000000 in
theorem rBytes_E (x : NodT) (hx : x.Fit) (h0 : ¬ x.l.toNat = 0) : Fn Tryz.prog 57 [.v (aggV x.v)] (byt x.bl) := by
 refine FV Tryz.func57 rfl Tryz.ntmps57 rfl fun w₀ => ?_
 refine GS (TN 0 (RN ?_));refine ZB 1000001 rfl fun b1 ⟨hBb1, hb1⟩ => ?_
 refine TL (RVN 1 rfl ?_);refine GT (RS (ok_field field57_0 (by decide) rfl) ?_);refine RLV 1000001 U5 rfl rfl rfl ?_;refine RS (ok_field field57_1 (by decide) rfl) ?_;refine RLV 1000001 U46 rfl rfl rfl ?_;refine RS (ok_shr rfl rfl (by decide)) ?_;refine RZ (nW (x.j / 16777216)) (by rw [show min (24 : Int).toNat IntKind.u32.bits = 24 from rfl, shr_nat]) ?_;refine RS (ok_conv U46 U5 rfl) ?_;refine RZ (byteV (UInt8.ofNat (x.j / 16777216))) (by rw [wrap_u8_nat]; rfl) ?_;refine RS (ok_field field57_1 (by decide) rfl) ?_;refine RLV 1000001 U46 rfl rfl rfl ?_;refine RS (ok_shr rfl rfl (by decide)) ?_;refine RZ (nW (x.j / 65536)) (by rw [show min (16 : Int).toNat IntKind.u32.bits = 16 from rfl, shr_nat]) ?_;refine RS (ok_conv U46 U5 rfl) ?_;refine RZ (byteV (UInt8.ofNat (x.j / 65536))) (by rw [wrap_u8_nat]; rfl) ?_;refine RS (ok_field field57_1 (by decide) rfl) ?_;refine RLV 1000001 U46 rfl rfl rfl ?_;refine RS (ok_shr rfl rfl (by decide)) ?_;refine RZ (nW (x.j / 256)) (by rw [show min (8 : Int).toNat IntKind.u32.bits = 8 from rfl, shr_nat]) ?_;refine RS (ok_conv U46 U5 rfl) ?_;refine RZ (byteV (UInt8.ofNat (x.j / 256))) (by rw [wrap_u8_nat]; rfl) ?_;refine RS (ok_field field57_1 (by decide) rfl) ?_;refine RLV 1000001 U46 rfl rfl rfl ?_;refine RS (ok_conv U46 U5 rfl) ?_;refine RZ (byteV (UInt8.ofNat (x.j))) (by rw [wrap_u8_nat]; rfl) ?_;refine RS (ok_buildOwn [byteV x.l, byteV (UInt8.ofNat (x.j / 16777216)), byteV (UInt8.ofNat (x.j / 65536)), byteV (UInt8.ofNat (x.j / 256)), byteV (UInt8.ofNat x.j)] U23 info5 rfl (by decide) (by decide) rfl ⟨rfl, rfl, rfl, rfl, rfl, rfl, rfl, rfl, rfl, rfl, trivial⟩ (fun d hd => by simp only [List.mem_cons, List.not_mem_nil, or_false] at hd; rcases hd with rfl | rfl | rfl | rfl | rfl <;> rfl)) ?_;refine RVN 1 rfl ?_;refine QS (GV rfl (A.block ?_));refine A.loop (ι := Nat) (fun i => i ≤ 4) (fun i => [(1, .v (ptr b1)), (3, own w₀.heap.size 5 (5 + 33 * i) (((x.l :: be 4 x.j) ++ (x.E.take i).flatMap EntT.l).map byteV)), (4, .v (nI (i))), (1000001, blk b1 57 x.v)]) (fun i => 4 - i) 0 ?_ ?_ ?_
 ·exact Nat.zero_le _
 ·exact (KC 1 rfl (KE 3 rfl (show own _ _ _ _ = own _ _ _ _ from congrArg _ (by rw [List.take_zero, List.flatMap_nil, List.append_nil, be4]; rfl)) (KE 4 rfl (by rfl) (KC 1000001 rfl KN))))
 intro i hG
 refine QS (GV rfl ?_);refine A.cond rfl (fun hc24 => ?_) (fun hc24 => ?_)
 ·have hi : i < 4 := by simp at hc24; omega
  refine QK (QSB (GT (RS (ok_field field57_0 (by decide) rfl) ?_)));refine RLV 1000001 U5 rfl rfl rfl ?_;refine RB rfl rfl rfl ?_;refine RZ (.bool false) (by simp; omega) ?_;refine RN (A.no rfl ?_);refine GE (TF 6 (RV 2 rfl ?_));refine RS (ok_field field57_3 (by decide) rfl) ?_;refine RS (ok_indexN (i) U55 size54 rfl rfl (rfl) (hi)) ?_;refine RS (ok_loadP (s := 1000001) (by decide) U54 rfl size54 rfl rfl (by rw [hx.len]; omega) (hx.ent_at hi)) ?_;refine RS (ok_call (refEntry_fn (x.e i).x (x.e i).t (hx.e i).t) (A1 rfl)) ?_;refine RN ?_;refine ⟨_, eff_appendS (vs := ((x.e i).l.map byteV)) U23 info5 (by decide) rfl rfl rfl (Le.eq (byt_vals _)) (by simp [byteV, Value.oneCell']) (by rw [List.length_map, (hx.e i).lenL]; omega) (by decide) (fun g hg => (LT 1000001 rfl (LW [1,4] rfl))), ?_⟩
  refine TL (RVN 1 rfl ?_);refine End.normal_block (EN (GTE (RV 2 rfl ?_)));refine RZ (nI (i + 1)) (wrap_eq (by omega) (by omega)) ?_;refine RVN 1 rfl ?_;refine End.normal_then ?_;refine End.again (i + 1) ?_ ?_ ?_
  ·show _ ≤ _; omega
  ·show _ - _ < _ - _; omega
  ·exact (KC 1 rfl (KE 3 rfl (show own _ _ _ _ = own _ _ _ _ from by rw [List.length_map, (hx.e i).lenL, take_flat hx.le hi (z := EntT.zero), ← List.append_assoc, List.map_append (l₁ := (x.l :: be 4 x.j) ++ _), show 5 + 33 * (i + 1) = 5 + 33 * i + 33 from by omega]; rfl) (KC 4 rfl (KC 1000001 rfl KN))))
 ·have hi2 : i = 4 := by simp at hc24; omega
  refine A.exit (End.exit_then (End.exit_then (End.exit_here (EN (GV rfl (A.ret ?_))))))
  subst hi2
  exact End.ret1 rfl rfl ((own_byt (by rw [List.take_of_length_le (Nat.le_of_eq hx.le), List.length_append, flat_length (EntT.lensL hx.fe), hx.le, List.length_cons, be_length])).trans (Le.eq (congrArg byt (by rw [List.take_of_length_le (Nat.le_of_eq hx.le)]; unfold NodT.bl; rw [if_neg h0]; rfl))))
theorem rBytes_fn (x : NodT) (hx : x.Fit) : Fn Tryz.prog 57 [.v (aggV x.v)] (byt x.bl) := by
 by_cases h : x.l.toNat = 0
 ·exact rBytes_R x hx h
 ·exact rBytes_E x hx h
theorem rDigest_fn (x : NodT) (hx : x.Fit) (h5 : x.l.toNat ≤ 5) : Fn Tryz.prog 24 [.v (aggV x.v)] (.v (aggV ((sha x.bl).map byteV))) := by
 refine FV Tryz.func24 rfl Tryz.ntmps24 rfl fun w₀ => ?_
 refine GS (TN 0 (RN ?_));refine ZB 1000001 rfl fun b1 ⟨hBb1, hb1⟩ => ?_
 refine TN 1 (RN ?_);refine ZN 1000002 zero40 fun b2 ⟨hBb2, hb2⟩ => ?_
 refine TL (RN (GS (TF 3 (RL 1000001 U57 rfl rfl (size57.of (hx.len)) ?_))));refine RS (ok_call (rBytes_fn x hx) (A1 rfl)) ?_;refine RS (ok_call (refSum_fn x.bl (by rw [hx.bl_length]; have := sz_le x.l.toNat; omega)) (Args.cons rfl LA Args.nil)) ?_;refine RN ?_;refine ⟨_, eff_storeA (n := 6) (s := 1000002) (size40.of (by rw [List.length_map, sha_length])) rfl rfl (all_bytes _) hBb2 rfl (by rw [List.length_map, sha_length]; rfl) (LV 2 rfl (LT 1000001 rfl LN)), ?_⟩
 refine TL (RN (A.ret ?_));exact End.cell1 (s := 1000002) rfl U40 rfl (size40.of (by rw [List.length_map, sha_length])) rfl rfl (Le.refl _)
theorem rFits_lo (n : Int) (h : n < 1) (x : NodT) (hx : x.Fit)  : Fn Tryz.prog 52 [.v (.int .i64 (n)), .v (aggV x.v)] (.v (.int .i64 (1))) := by
 refine FV Tryz.func52 rfl Tryz.ntmps52 rfl fun w₀ => ?_
 refine GS (TN 0 (RN ?_));refine ZB 1000003 rfl fun b3 ⟨hBb3, hb3⟩ => ?_
 refine TL (RVN 1 rfl ?_);refine QS (GT (RV 2 rfl ?_));refine RT ?_;refine RVN 4 rfl ?_;refine A.yes rfl ?_;refine GV rfl (A.ret (End.ret_then ?_));exact ER rfl rfl
theorem rFits_hi (n : Int) (h : 4096 < n) (x : NodT) (hx : x.Fit)  : Fn Tryz.prog 52 [.v (.int .i64 (n)), .v (aggV x.v)] (.v (.int .i64 (1))) := by
 refine FV Tryz.func52 rfl Tryz.ntmps52 rfl fun w₀ => ?_
 refine GS (TN 0 (RN ?_));refine ZB 1000003 rfl fun b3 ⟨hBb3, hb3⟩ => ?_
 refine TL (RVN 1 rfl ?_);refine QS (GT (RV 2 rfl ?_));refine RF ?_;refine RV 3 rfl ?_;refine RT ?_;refine RVN 1 rfl ?_;refine A.yes rfl ?_;refine GV rfl (A.ret (End.ret_then ?_));exact ER rfl rfl
theorem rFits_ck (n : Nat) (h1 : 1 ≤ n) (h2 : n ≤ 4096) (x : NodT) (hx : x.Fit) (hk : x.ck ≠ 0) : Fn Tryz.prog 52 [.v (nI (n)), .v (aggV x.v)] (.v (.int .i64 (x.ck))) := by
 refine FV Tryz.func52 rfl Tryz.ntmps52 rfl fun w₀ => ?_
 refine GS (TN 0 (RN ?_));refine ZB 1000003 rfl fun b3 ⟨hBb3, hb3⟩ => ?_
 refine TL (RVN 1 rfl ?_);refine QS (GT (RV 2 rfl ?_));refine RF ?_;refine RV 3 rfl ?_;refine RF ?_;refine RVN 1 rfl ?_;refine A.no rfl ?_;refine QK (GT (RL 1000003 U57 rfl rfl (size57.of (hx.len)) ?_));refine RS (ok_call (rCheck_fn x hx) (A1 rfl)) ?_;refine RVN 1 rfl ?_;refine QS (GT (RV 2 rfl ?_));refine RZ (.bool true) (by simp [hk]) ?_;refine RN (A.yes rfl ?_);refine GV rfl (A.ret (End.ret_then ?_));exact ER rfl rfl
theorem rFits_no (n : Nat) (h1 : 1 ≤ n) (h2 : n ≤ 4096) (x : NodT) (hx : x.Fit) (hk : x.ck = 0) (hp : ¬ IsP n x.l.toNat x.j) : Fn Tryz.prog 52 [.v (nI (n)), .v (aggV x.v)] (.v (.int .i64 (17))) := by
 refine FV Tryz.func52 rfl Tryz.ntmps52 rfl fun w₀ => ?_
 refine GS (TN 0 (RN ?_));refine ZB 1000003 rfl fun b3 ⟨hBb3, hb3⟩ => ?_
 refine TL (RVN 1 rfl ?_);refine QS (GT (RV 2 rfl ?_));refine RF ?_;refine RV 3 rfl ?_;refine RF ?_;refine RVN 1 rfl ?_;refine A.no rfl ?_;refine QK (GT (RL 1000003 U57 rfl rfl (size57.of (hx.len)) ?_));refine RS (ok_call (rCheck_fn x hx) (A1 rfl)) ?_;refine RVN 1 rfl ?_;refine QS (GT (RV 2 rfl ?_));refine RZ (.bool false) (by simp [hk]) ?_;refine RN (A.no rfl ?_);refine QK (QS (GT (RM rfl ?_)));refine RS (ok_field field57_0 (by decide) rfl) ?_;refine RLV 1000003 U5 rfl rfl rfl ?_;refine RS (ok_conv U5 U3 rfl) ?_;refine RZ (nI (x.l.toNat)) (wrap_eq rfl (by have := x.l.toNat_lt; omega)) ?_;refine RS (ok_field field57_1 (by decide) rfl) ?_;refine RLV 1000003 U46 rfl rfl rfl ?_;refine RS (ok_conv U46 U3 rfl) ?_;refine RZ (nI (x.j)) (wrap_eq rfl (by have := hx.j; omega)) ?_;refine RS (ok_call (rIs_n n h1 h2 x.l.toNat x.j hp) (A3 rfl rfl rfl)) ?_;refine RVN 1 rfl ?_;refine A.yes rfl ?_;refine GV rfl (A.ret (End.ret_then ?_));exact ER rfl rfl
set_option maxHeartbeats 2000000 in
theorem rFits_p (n : Nat) (h1 : 1 ≤ n) (h2 : n ≤ 4096) (x : NodT) (hx : x.Fit) (hk : x.ck = 0) (hl : x.l.toNat ≤ hg n) (hj : x.j < un n (x.l.toNat + 1)) (hp : IsP n x.l.toNat x.j) : Fn Tryz.prog 52 [.v (nI (n)), .v (aggV x.v)] (.v (.int .i64 (ftN n x))) := by
 have hb := pts_pos hj
 refine FV Tryz.func52 rfl Tryz.ntmps52 rfl fun w₀ => ?_
 refine GS (TN 0 (RN ?_));refine ZB 1000003 rfl fun b3 ⟨hBb3, hb3⟩ => ?_
 refine TL (RVN 1 rfl ?_);refine QS (GT (RV 2 rfl ?_));refine RF ?_;refine RV 3 rfl ?_;refine RF ?_;refine RVN 1 rfl ?_;refine A.no rfl ?_;refine QK (GT (RL 1000003 U57 rfl rfl (size57.of (hx.len)) ?_));refine RS (ok_call (rCheck_fn x hx) (A1 rfl)) ?_;refine RVN 1 rfl ?_;refine QS (GT (RV 2 rfl ?_));refine RZ (.bool false) (by simp [hk]) ?_;refine RN (A.no rfl ?_);refine QK (QS (GT (RM rfl ?_)));refine RS (ok_field field57_0 (by decide) rfl) ?_;refine RLV 1000003 U5 rfl rfl rfl ?_;refine RS (ok_conv U5 U3 rfl) ?_;refine RZ (nI (x.l.toNat)) (wrap_eq rfl (by have := x.l.toNat_lt; omega)) ?_;refine RS (ok_field field57_1 (by decide) rfl) ?_;refine RLV 1000003 U46 rfl rfl rfl ?_;refine RS (ok_conv U46 U3 rfl) ?_;refine RZ (nI (x.j)) (wrap_eq rfl (by have := hx.j; omega)) ?_;refine RS (ok_call (rIs_y n h1 h2 x.l.toNat x.j hl hj) (A3 rfl rfl rfl)) ?_;refine RVN 1 rfl ?_;refine A.no rfl ?_;refine QK (QS (GT (RM rfl ?_)));refine RS (ok_field field57_0 (by decide) rfl) ?_;refine RLV 1000003 U5 rfl rfl rfl ?_;refine RS (ok_conv U5 U3 rfl) ?_;refine RZ (nI (x.l.toNat)) (wrap_eq rfl (by have := x.l.toNat_lt; omega)) ?_;refine RS (ok_field field57_1 (by decide) rfl) ?_;refine RLV 1000003 U46 rfl rfl rfl ?_;refine RS (ok_conv U46 U3 rfl) ?_;refine RZ (nI (x.j)) (wrap_eq rfl (by have := hx.j; omega)) ?_;refine RS (ok_call (rParts_fn n h1 h2 x.l.toNat x.j hl hj) (A3 rfl rfl rfl)) ?_;refine RVN 1 rfl ?_;refine A.sub (Sv [3,6,1000003] rfl) ?_;refine A.block ?_;refine A.loop (ι := Nat) (fun i => pts n x.l.toNat x.j ≤ i ∧ i ≤ 4 ∧ ∀ j, pts n x.l.toNat x.j ≤ j → j < i → (x.r j).Z ∧ (x.e j).Z) (fun i => [(3, .v (ptr b3)), (6, .v (nI (i))), (1000003, blk b3 57 x.v)]) (fun i => 4 - i) (pts n x.l.toNat x.j) ?_ ?_ ?_
 ·exact ⟨Nat.le_refl _, hb.2.1, fun j h h' => absurd h' (Nat.not_lt.2 h)⟩
 ·exact (KC 3 rfl (KE 6 rfl (by rfl) (KC 1000003 rfl KN)))
 intro i hG
 refine QS (GV rfl ?_);refine A.cond rfl (fun hc36 => ?_) (fun hc36 => ?_)
 ·have hi : i < 4 := by simp at hc36; omega
  refine QK (QSB ?_)
  by_cases hr : (x.r i).Z
  ·refine GT (RM rfl ?_);refine RS (ok_field field57_2 (by decide) rfl) ?_;refine RS (ok_indexN (i) U52 size51 rfl rfl (rfl) (hi)) ?_;refine RS (ok_loadP (s := 1000003) (by decide) U51 rfl size51 rfl rfl (by rw [hx.len]; omega) (hx.rec_at hi)) ?_;refine RS (ok_lit [] (RecT.v RecT.zero) (fun _ _ => rfl) (by kernel_rfl)) ?_;refine RS (ok_neqT (n := 4) (decide (x.r i).Z) flat51 (by decide) (by kernel_rfl) (by kernel_rfl) rfl rfl (hx.r i).kin RecT.zero_fit.kin (RecT.dz _)) ?_;refine RZ (.bool false) (by rw [decide_eq_true hr]; rfl) ?_;refine RV 2 rfl ?_;refine RQ (ok_field field57_3 (by decide) rfl) ?_;refine RQ (ok_indexN (i) U55 size54 rfl rfl (rfl) (hi)) ?_;refine RQ (ok_loadP (s := 1000003) (by decide) U54 rfl size54 rfl rfl (by rw [hx.len]; omega) (hx.ent_at hi)) ?_;refine RQ (ok_lit [] (EntT.v EntT.zero) (fun _ _ => rfl) (by kernel_rfl)) ?_;refine RQ (ok_neqT (n := 4) (decide (x.e i).Z) flat54 (by decide) (by kernel_rfl) (by kernel_rfl) rfl rfl (hx.e i).kin EntT.zero_fit.kin (EntT.dz _)) ?_;refine RVN 1 rfl ?_;refine A.cond rfl (fun hc52 => ?_) (fun hc52 => ?_)
   ·have he : ¬ (x.e i).Z := by simpa using hc52
    refine GV rfl (A.ret (End.ret_block (End.ret_then (End.ret_then (End.ret_block (End.ret_then ?_))))))
    first | exact End.ret1 rfl rfl (Le.v (congrArg (Value.int .i64) (ft_part h1 h2 hk hp fun h => hr (h i hG.1 hi).1).symm)) | exact End.ret1 rfl rfl (Le.v (congrArg (Value.int .i64) (ft_part h1 h2 hk hp fun h => he (h i hG.1 hi).2).symm)) | exact End.ret1 rfl rfl (Le.v (congrArg (Value.int .i64) (ft_ok h1 h2 hk hp fun j hj hj' => hG.2.2 j hj (by omega)).symm))
   ·have he : (x.e i).Z := by simpa using hc52
    refine A.skip (End.normal_block (EN (GTE (RV 2 rfl ?_))));refine RZ (nI (i + 1)) (wrap_eq (by omega) (by omega)) ?_;refine RVN 1 rfl ?_;refine End.normal_then ?_;refine End.again (i + 1) ?_ ?_ ?_
    ·exact ⟨by omega, by omega, fun j hj hj' => (Nat.lt_or_ge j i).elim (hG.2.2 j hj) fun h => by rw [show j = i from by omega]; exact ⟨hr, he⟩⟩
    ·show _ - _ < _ - _; omega
    ·exact (Sv [3,6,1000003] rfl)
  ·refine GT (RM rfl ?_);refine RS (ok_field field57_2 (by decide) rfl) ?_;refine RS (ok_indexN (i) U52 size51 rfl rfl (rfl) (hi)) ?_;refine RS (ok_loadP (s := 1000003) (by decide) U51 rfl size51 rfl rfl (by rw [hx.len]; omega) (hx.rec_at hi)) ?_;refine RS (ok_lit [] (RecT.v RecT.zero) (fun _ _ => rfl) (by kernel_rfl)) ?_;refine RS (ok_neqT (n := 4) (decide (x.r i).Z) flat51 (by decide) (by kernel_rfl) (by kernel_rfl) rfl rfl (hx.r i).kin RecT.zero_fit.kin (RecT.dz _)) ?_;refine RZ (.bool true) (by rw [decide_eq_false hr]; rfl) ?_;refine RVN 8 rfl ?_;refine A.yes rfl ?_;refine GV rfl (A.ret (End.ret_block (End.ret_then (End.ret_then (End.ret_block (End.ret_then ?_))))))
   first | exact End.ret1 rfl rfl (Le.v (congrArg (Value.int .i64) (ft_part h1 h2 hk hp fun h => hr (h i hG.1 hi).1).symm)) | exact End.ret1 rfl rfl (Le.v (congrArg (Value.int .i64) (ft_part h1 h2 hk hp fun h => he (h i hG.1 hi).2).symm)) | exact End.ret1 rfl rfl (Le.v (congrArg (Value.int .i64) (ft_ok h1 h2 hk hp fun j hj hj' => hG.2.2 j hj (by omega)).symm))
 ·have hi2 : i = 4 := by have := hG.2.1; simp at hc36; omega
  refine A.exit (End.exit_then (End.exit_then (End.exit_here (EN (GV rfl (A.ret ?_))))))
  first | exact End.ret1 rfl rfl (Le.v (congrArg (Value.int .i64) (ft_part h1 h2 hk hp fun h => hr (h i hG.1 hi).1).symm)) | exact End.ret1 rfl rfl (Le.v (congrArg (Value.int .i64) (ft_part h1 h2 hk hp fun h => he (h i hG.1 hi).2).symm)) | exact End.ret1 rfl rfl (Le.v (congrArg (Value.int .i64) (ft_ok h1 h2 hk hp fun j hj hj' => hG.2.2 j hj (by omega)).symm))
theorem rFits_fn (n : Int) (x : NodT) (hx : x.Fit) : Fn Tryz.prog 52 [.v (.int .i64 (n)), .v (aggV x.v)] (.v (.int .i64 (ftN n x))) := by
 by_cases hn : 1 ≤ n ∧ n ≤ 4096
 ·obtain ⟨m, rfl⟩ : ∃ m : Nat, n = (m : Int) := ⟨n.toNat, by omega⟩
  have h1 : 1 ≤ m := by omega
  have h2 : m ≤ 4096 := by omega
  by_cases hk : x.ck = 0
  ·by_cases hp : IsP m x.l.toNat x.j
   ·obtain ⟨hl, hj⟩ := isP_nat.1 hp
    exact rFits_p m h1 h2 x hx hk hl hj hp
   ·rw [ft_no h1 h2 hk hp]; exact rFits_no m h1 h2 x hx hk hp
  ·rw [ft_ck h1 h2 hk]; exact rFits_ck m h1 h2 x hx hk
 ·rw [ft_bad hn]
  by_cases h : n < 1
  ·exact rFits_lo n h x hx
  ·exact rFits_hi n (by omega) x hx
def digS (s : UInt8) : List UInt8 := (List.range 32).map fun i => UInt8.ofNat (s.toNat + 7 * i)
theorem digS_len (s : UInt8) : (digS s).length = 32 := by simp [digS]
theorem digS_get {s : UInt8} {i : Nat} (h : i < 32) : (digS s)[i]? = some (UInt8.ofNat (s.toNat + 7 * i)) := by simp [digS, h]
def recOf (a b : UInt8) : RecT := if a.toNat % 3 = 0 then RecT.zero else ⟨UInt8.ofNat (a.toNat % 3), b.toNat % 8, b.toNat * 257, digS b⟩
theorem mod3 {a : UInt8} (h : ¬ a.toNat % 3 = 0) : (UInt8.ofNat (a.toNat % 3)).toNat = a.toNat % 3 := by rw [UInt8.toNat_ofNat', Nat.mod_eq_of_lt (by omega)]
theorem recOf_fit (a b : UInt8) : (recOf a b).Fit := by
 unfold recOf
 have := b.toNat_lt
 split
 ·exact RecT.zero_fit
 ·exact ⟨digS_len b, by show b.toNat % 8 < _; omega, by show b.toNat * 257 < _; omega⟩
theorem recOf_ok (a b : UInt8) : ¬ (recOf a b).Bad := by
 unfold recOf
 split
 ·exact RecT.zero_ok
 ·rename_i h
  unfold RecT.Bad BadR
  simp only [mod3 h]
  omega
theorem lDigest_fn (s : UInt8) : Fn Tryz.prog 64 [.v (byteV s)] (.v (aggV ((digS s).map byteV))) := by
 refine FV Tryz.func64 rfl Tryz.ntmps64 rfl fun w₀ => ?_
 refine GS (TN 0 (RN ?_));refine ZN 1000002 zero40 fun b2 ⟨hBb2, hb2⟩ => ?_
 refine TL (RN (GS (TN 0 (RN ?_))));refine ZN 1000003 zero40 fun b3 ⟨hBb3, hb3⟩ => ?_
 have hlt_b2_b3 := hb3 1000002 b2 _ _ rfl
 refine TL (RN (QS (GV rfl (A.block ?_))));refine A.loop (ι := Nat) (fun i => i ≤ 32) (fun i => [(0, .v (byteV s)), (2, .v (ptr b2)), (3, .v (ptr b3)), (4, .v (nI (i))), (1000002, blk b2 40 (List.replicate 32 (.int .u8 0))), (1000003, blk b3 40 (((digS s).take i).map byteV ++ List.replicate ((digS s).length - i) (.int .u8 0)))]) (fun i => 32 - i) 0 ?_ ?_ ?_
 ·exact Nat.zero_le _
 ·exact (KC 0 rfl (KC 2 rfl (KC 3 rfl (KE 4 rfl (by rfl) (KC 1000002 rfl (KE 1000003 rfl (by rw [digS_len]; rfl) KN))))))
 intro i hG
 refine QS (GV rfl ?_);refine A.cond rfl (fun hc6 => ?_) (fun hc6 => ?_)
 ·have hi : i < 32 := by simp at hc6; omega
  refine QK (QSB (GE (TF 7 (RV 4 rfl ?_))));refine RZ (nI (7 * i)) (wrap_eq (by omega) (by omega)) ?_;refine RS (ok_conv U3 U5 rfl) ?_;refine RZ (byteV (UInt8.ofNat (7 * i))) (by rw [wrap_u8_nat]; rfl) ?_;refine RB rfl rfl rfl ?_;refine RZ (byteV (UInt8.ofNat (s.toNat + 7 * i))) (add_u8 s (7 * i)) ?_;refine RS (ok_index0 (i) U40 info5 rfl rfl (rfl) (hi)) ?_;refine RN ?_;refine ⟨_, eff_storeS (n := 17) (s := 1000003) info5 rfl rfl rfl hBb3 rfl (by simp [digS_len]; omega) (LB 1000002 rfl (LW [0,2,3,4] rfl)), ?_⟩
  refine TL (RN (End.normal_block (EN (GTE (RV 2 rfl ?_)))));refine RZ (nI (i + 1)) (wrap_eq (by omega) (by omega)) ?_;refine RVN 1 rfl ?_;refine End.normal_then ?_;refine End.again (i + 1) ?_ ?_ ?_
  ·show _ ≤ _; omega
  ·show _ - _ < _ - _; omega
  ·exact (KC 0 rfl (KC 2 rfl (KC 3 rfl (KC 4 rfl (KC 1000002 rfl (KE 1000003 rfl (congrArg _ (fill_step (digS_get hi))) KN))))))
 ·have hi2 : i = 32 := by simp at hc6; omega
  refine A.exit (End.exit_then (End.exit_then (End.exit_here (EN (GS (TF 1 (RL 1000003 U40 rfl rfl (size40.of (by rw [List.length_append, List.length_map, List.length_take, List.length_replicate, digS_len]; omega)) ?_)))))));refine RZ (aggV ((digS s).map byteV)) (by subst hi2; rw [digS_len, Nat.sub_self, List.replicate_zero, List.append_nil, List.take_of_length_le (by rw [digS_len]; exact Nat.le_refl _)]) ?_;refine RN ?_;refine ⟨_, eff_storeA (n := 17) (s := 1000002) (size40.of (by rw [List.length_map, digS_len])) rfl rfl (all_bytes _) hBb2 rfl (by rw [List.length_map, digS_len]; rfl) (LV 2 rfl (LB 1000003 rfl LN)), ?_⟩
  refine TL (RN (A.ret ?_));exact End.cell1 (s := 1000002) rfl U40 rfl (size40.of (by rw [List.length_map, digS_len])) rfl rfl (Le.refl _)
theorem lRecord_z (a b : UInt8) (h : a.toNat % 3 = 0) : Fn Tryz.prog 37 [.v (byteV a), .v (byteV b)] (.v (aggV RecT.zero.v)) := by
 refine FV Tryz.func37 rfl Tryz.ntmps37 rfl fun w₀ => ?_
 refine GS (TN 0 (RN ?_));refine ZN 1000004 zero51 fun b4 ⟨hBb4, hb4⟩ => ?_
 refine TL (RN (QS (GT (RM rfl ?_))));refine RS (ok_rem rfl rfl (by decide)) ?_;refine RZ (nB (a.toNat % 3)) (by rw [tmod_lit _ (by decide)]; rfl) ?_;refine RB rfl rfl rfl ?_;refine RZ (.bool true) (by simp [h]) ?_;refine RN (A.yes rfl ?_);refine GS (TF 1 (RS (ok_lit [] (RecT.v RecT.zero) (fun _ _ => rfl) (by kernel_rfl)) ?_));refine RN ?_;refine ⟨_, eff_storeA (n := 21) (s := 1000004) (size51.of (rfl)) rfl rfl (by first | exact NodT.one _ | exact RecT.one _ | exact EntT.one _ | exact RecT.all1 _ | exact EntT.all1 _ | exact all_byte _ | exact all_bytes _) hBb4 rfl (by first | rfl | (rw [rfl]; rfl)) (LV 4 rfl LN), ?_⟩
 refine TL (RN (A.ret (End.ret_then ?_)));exact End.cell1 (s := 1000004) rfl U51 rfl (size51.of (rfl)) rfl rfl (Le.refl _)
theorem buildRec {x : Nat} {a : UInt8} (s c : Nat) (t : List UInt8) (hx : a.toNat = x) (ht : t.length = 32) : Tryz.prog.built 51 [(0, .int .u8 (x : Int)), (1, aggV [.int .u32 (s : Int), .int .u64 (c : Int)]), (2, aggV (t.map byteV))] = some (RecT.v ⟨a, s, c, t⟩).toArray := by
 subst hx
 match t, ht with
 | [a0, a1, a2, a3, a4, a5, a6, a7, a8, a9, b0, b1, b2, b3, b4, b5, b6, b7, b8, b9, c0, c1, c2, c3, c4, c5, c6, c7, c8, c9, d0, d1], _ => show _ = _; kernel_rfl
theorem lRecord_n (a b : UInt8) (h : ¬ a.toNat % 3 = 0) : Fn Tryz.prog 37 [.v (byteV a), .v (byteV b)] (.v (aggV (RecT.v ⟨UInt8.ofNat (a.toNat % 3), b.toNat % 8, b.toNat * 257, digS b⟩))) := by
 refine FV Tryz.func37 rfl Tryz.ntmps37 rfl fun w₀ => ?_
 refine GS (TN 0 (RN ?_));refine ZN 1000004 zero51 fun b4 ⟨hBb4, hb4⟩ => ?_
 refine TL (RN (QS (GT (RM rfl ?_))));refine RS (ok_rem rfl rfl (by decide)) ?_;refine RZ (nB (a.toNat % 3)) (by rw [tmod_lit _ (by decide)]; rfl) ?_;refine RB rfl rfl rfl ?_;refine RZ (.bool false) (by simp; omega) ?_;refine RN (A.no rfl ?_);refine QK (GS (TF 12 (RM rfl ?_)));refine RS (ok_rem rfl rfl (by decide)) ?_;refine RZ (nB (a.toNat % 3)) (by rw [tmod_lit _ (by decide)]; rfl) ?_;refine RM rfl ?_;refine RS (ok_rem rfl rfl (by decide)) ?_;refine RZ (nB (b.toNat % 8)) (by rw [tmod_lit _ (by decide)]; rfl) ?_;refine RS (ok_conv U5 U46 rfl) ?_;refine RZ (nW (b.toNat % 8)) (congrArg _ (wrap_u32 (by omega) (by omega))) ?_;refine RM rfl ?_;refine RS (ok_conv U5 U47 rfl) ?_;refine RZ (.int .u64 (b.toNat : Int)) (congrArg _ (wrap_u64 (by omega) (by have := b.toNat_lt; omega))) ?_;refine RB rfl rfl rfl ?_;refine RZ (nQ (b.toNat * 257)) (by rw [show ((b.toNat : Int) * 257) = ((b.toNat * 257 : Nat) : Int) from by omega]; exact congrArg _ (wrap_u64 (by omega) (by have := b.toNat_lt; omega))) ?_;refine RS (ok_litS [(0, nW (b.toNat % 8)), (1, nQ (b.toNat * 257))] [nW (b.toNat % 8), nQ (b.toNat * 257)] ⟨rfl, rfl, rfl, rfl, trivial⟩ (buildN _ _)) ?_;refine RM rfl ?_;refine RS (ok_call (lDigest_fn b) (A1 rfl)) ?_;refine RS (ok_litS [(0, nB (a.toNat % 3)), (1, aggV [nW (b.toNat % 8), nQ (b.toNat * 257)]), (2, aggV ((digS b).map byteV))] (RecT.v ⟨UInt8.ofNat (a.toNat % 3), b.toNat % 8, b.toNat * 257, digS b⟩) ⟨rfl, rfl, rfl, rfl, rfl, rfl, trivial⟩ (buildRec _ _ _ (mod3 h) (digS_len b))) ?_;refine RN ?_;refine ⟨_, eff_storeA (n := 21) (s := 1000004) (size51.of (by have h9 := (recOf_fit a b).len; rw [show recOf a b = _ from if_neg h] at h9; exact h9)) rfl rfl (RecT.one _) hBb4 rfl (by have h9 := (recOf_fit a b).len; rw [show recOf a b = _ from if_neg h] at h9; rw [h9]; rfl) (LV 4 rfl LN), ?_⟩
 refine TL (RN (A.ret ?_));exact End.cell1 (s := 1000004) rfl U51 rfl (size51.of (by have h9 := (recOf_fit a b).len; rw [show recOf a b = _ from if_neg h] at h9; exact h9)) rfl rfl (Le.refl _)
theorem lRecord_fn (a b : UInt8) : Fn Tryz.prog 37 [.v (byteV a), .v (byteV b)] (.v (aggV (recOf a b).v)) := by
 by_cases h : a.toNat % 3 = 0
 ·rw [show recOf a b = RecT.zero from if_pos h]; exact lRecord_z a b h
 ·rw [show recOf a b = _ from if_neg h]; exact lRecord_n a b h
section
theorem emF_false {n : Nat} {f : Nat → RecT} {l j i : Nat} (hi : i < n) (hij : i / 4 ^ (l + 1) = j) (h : (f i).x.toNat ≠ 0) : emF n f l j = false := by
 unfold emF
 exact decide_eq_false fun hh => h (hh i hi hij)
theorem emF_true {n : Nat} {f : Nat → RecT} {l j : Nat} (h : ∀ i, i < n → i / 4 ^ (l + 1) = j → (f i).x.toNat = 0) : emF n f l j = true := emF_iff.2 h
theorem recs_x {R : List RecT} (hR : FitR R) {i : Nat} (hi : i < R.length) : (recsV R)[i * 35 + 0]? = some (byteV (recAt R i).x) := by
 have h := recs_at hR hi
 have h2 : (((recsV R).drop (i * 35)).take 35)[0]? = some (byteV (recAt R i).x) := by rw [h]; rfl
 rwa [List.getElem?_take, if_pos (by decide), List.getElem?_drop] at h2
abbrev srM (rd : Addr) (R : List RecT) (sd : Addr) (S : List Nat) : Env := [(1000801, memR (some rd) (recsV R)), (1000701, memR (some sd) (slotV S))]
def grpW (R : List RecT) (j w : Nat) : NodT := ⟨0, j, pg RecT.zero (fun v => recAt R (4 * j + v)) w, zerosE⟩
theorem grpW_fit {R : List RecT} (hR : FitR R) {j : Nat} (hj : j < 4294967296) (w : Nat) : (grpW R j w).Fit := ⟨hj, pg_length _ _ _, rfl, pg_fitR fun i => hR.at _, NodT.ze_fit⟩
theorem grpW_zero (R : List RecT) (j : Nat) : grpW R j 0 = NodT.emp 0 j := by unfold grpW NodT.emp; rw [pg_zero]; rfl
theorem grpW_full (R : List RecT) (j : Nat) : grpW R j (pts R.length 0 j) = grpR R j := rfl
theorem grpW_set {R : List RecT} (hR : FitR R) {j : Nat} (hj : j < 4294967296) {w : Nat} (hw : w < 4) : (grpW R j w).v.take (2 + w * 35) ++ (recAt R (4 * j + w)).v ++ (grpW R j w).v.drop (2 + w * 35 + (recAt R (4 * j + w)).v.length) = (grpW R j (w + 1)).v := by
 rw [(grpW_fit hR hj w).set_rec hw (hR.at _)]
 unfold grpW
 dsimp only
 rw [pg_set RecT.zero (fun v => recAt R (4 * j + v)) hw]
def entD (R : List RecT) (S : List Nat) (l k : Nat) : EntT := if emF R.length (recAt R) l k then EntT.zero else entR (S.getD (tot R.length l + k) 0) (nodR R S l k)
theorem entD_fit (R : List RecT) (S : List Nat) (l k : Nat) : (entD R S l k).Fit := by
 unfold entD
 split
 ·exact EntT.zero_fit
 ·exact entR_fit _ _
theorem entD_no {R : List RecT} {S : List Nat} {l k : Nat} (h : emF R.length (recAt R) l k = false) : entD R S l k = ⟨UInt8.ofNat (S.getD (tot R.length l + k) 0 + 1), sha (nodR R S l k).bl⟩ := by unfold entD; rw [h]; rfl
def nodD (R : List RecT) (S : List Nat) (l j w : Nat) : NodT := ⟨UInt8.ofNat (l + 1), j, zerosR, pg EntT.zero (fun v => entD R S l (4 * j + v)) w⟩
theorem nodD_fit (R : List RecT) (S : List Nat) (l : Nat) {j : Nat} (hj : j < 4294967296) (w : Nat) : (nodD R S l j w).Fit := ⟨hj, rfl, pg_length _ _ _, NodT.zr_fit, pg_fitE fun i => entD_fit _ _ _ _⟩
theorem nodD_zero (R : List RecT) (S : List Nat) (l j : Nat) : nodD R S l j 0 = NodT.emp (UInt8.ofNat (l + 1)) j := by unfold nodD NodT.emp; rw [pg_zero]; rfl
theorem nodD_full (R : List RecT) (S : List Nat) (l j : Nat) : nodD R S l j (pts R.length (l + 1) j) = nodR R S (l + 1) j := by rw [nodR_succ]; rfl
theorem nodD_set (R : List RecT) (S : List Nat) (l : Nat) {j : Nat} (hj : j < 4294967296) {w : Nat} (hw : w < 4) {e : EntT} (he : e = entD R S l (4 * j + w)) : (nodD R S l j w).v.take (142 + w * 33) ++ e.v ++ (nodD R S l j w).v.drop (142 + w * 33 + e.v.length) = (nodD R S l j (w + 1)).v := by
 subst he
 rw [(nodD_fit R S l hj w).set_ent hw (entD_fit _ _ _ _)]
 unfold nodD
 dsimp only
 rw [pg_set EntT.zero (fun v => entD R S l (4 * j + v)) hw]
theorem nodD_skip {R : List RecT} {S : List Nat} {l j w : Nat} (hj : j < 4294967296) (hw : w < 4) (he : emF R.length (recAt R) l (4 * j + w) = true) : (nodD R S l j w).v = (nodD R S l j (w + 1)).v := by
 have hz : entD R S l (4 * j + w) = EntT.zero := by unfold entD; rw [he]; rfl
 rw [← nodD_set R S l hj hw rfl, (nodD_fit R S l hj w).set_ent hw (entD_fit _ _ _ _), hz]
 have hl : (pg EntT.zero (fun v => entD R S l (4 * j + v)) w).length = 4 := pg_length _ _ _
 have hg : (pg EntT.zero (fun v => entD R S l (4 * j + v)) w).getD w EntT.zero = EntT.zero := by rw [pg_getD _ _ _ hw, if_neg (by omega)]
 unfold nodD
 dsimp only
 congr 2
 apply ext4 hl (by simpa using hl) EntT.zero
 intro i hi
 by_cases h : w = i
 ·subst h
  rw [hg, List.getD_eq_getElem?_getD, List.getElem?_set_self (by rw [hl]; exact hw)]; rfl
 ·rw [List.getD_eq_getElem?_getD, List.getD_eq_getElem?_getD, List.getElem?_set_ne h]
theorem rNumber_fn (n : Nat) (h1 : 1 ≤ n) (h2 : n ≤ 4096) (l j : Nat) (hl : l ≤ hg n) (hj : j < 100000)  : Fn Tryz.prog 51 [.v (nI (n)), .v (nI (l)), .v (nI (j))] (.v (nI (tot n l + j))) := by
 have hh := hg_le n
 refine FV Tryz.func51 rfl Tryz.ntmps51 rfl fun w₀ => ?_
 refine GV rfl (GV rfl (QS (GV rfl (A.block ?_))));refine A.loop (ι := Nat) (fun i => i ≤ l) (fun i => [(0, .v (nI (n))), (1, .v (nI (l))), (7, .v (nI (tot n i + j))), (8, .v (nI (i)))]) (fun i => l - i) 0 ?_ ?_ ?_
 ·exact Nat.zero_le _
 ·exact (KC 0 rfl (KC 1 rfl (KE 7 rfl (by rw [tot_zero, Nat.zero_add]) (KE 8 rfl (by rfl) KN))))
 intro i hi'
 refine QS (GV rfl ?_);refine A.cond rfl (fun hc12 => ?_) (fun hc12 => ?_)
 ·have hi2 : i < l := by simp at hc12; omega
  refine QK (QSB (GTE (RV 3 rfl ?_)));refine RS (ok_call (rCount_fn n h1 h2 i (by omega)) (A2 rfl rfl)) ?_;refine RB rfl rfl rfl ?_;refine RZ (nI (tot n (i + 1) + j)) (by rw [show ((tot n i + j : Nat) : Int) + ((un n (i + 1) : Nat) : Int) = ((tot n (i + 1) + j : Nat) : Int) from by rw [tot_succ]; omega]; exact wrap_eq rfl (by have := tot_small h1 h2 (show i + 1 ≤ 6 by omega); omega)) ?_;refine RVN 1 rfl ?_;refine End.normal_block (EN (GTE (RV 2 rfl ?_)));refine RZ (nI (i + 1)) (wrap_eq (by omega) (by omega)) ?_;refine RVN 1 rfl ?_;refine End.normal_then ?_;refine End.again (i + 1) ?_ ?_ ?_
  ·show _ ≤ _; omega
  ·show _ - _ < _ - _; omega
  ·exact (Sv [0,1,7,8] rfl)
 ·have hi2 : i = l := by simp at hc12; omega
  refine A.exit (End.exit_then (End.exit_then (End.exit_here (EN (GV rfl (A.ret ?_))))));exact End.ret1 rfl rfl (Le.eq (by rw [hi2]))
set_option maxHeartbeats 1000000 in
theorem rEmpty_fn (R : List RecT) (hR : FitR R) (h1 : 1 ≤ R.length) (h2 : R.length ≤ 4096) (rd : Addr) (rc : Nat) (l j : Nat) (hl : l ≤ 5)  : FnM Tryz.prog 27 (recM rd R) [.v (.slice (some rd) R.length rc), .v (nI (l)), .v (nI (j))] (.v (.bool (emF R.length (recAt R) l j))) := by
 refine FnM.ofO Tryz.func27 rfl (by kernel_rfl) Tryz.ntmps27 (by simp) (by decide) (fun w => [(0, .v (.slice (some rd) R.length rc)), (1, .v (nI (l))), (2, .v (nI (j))), (1000801, old w.heap.size (memR (some rd) (recsV R)))]) (fun w => (StartMO.v rfl (StartMO.v rfl (StartMO.v rfl (StartMO.mo (by simp [recM]) (by decide) StartMO.nil))))) fun w₀ hM => ?_
 skip
 refine GV rfl (QS (GV rfl (A.block ?_)));refine A.loop (ι := Nat) (fun i => i ≤ R.length ∧ ∀ k, k < i → k / 4 ^ (l + 1) = j → (recAt R k).x.toNat = 0) (fun i => [(0, .v (.slice (some rd) R.length rc)), (1, .v (nI (l))), (2, .v (nI (j))), (7, .v (nI (i))), (1000801, old w₀.heap.size (memR (some rd) (recsV R)))]) (fun i => R.length - i) 0 ?_ ?_ ?_
 ·exact ⟨Nat.zero_le _, fun k h => absurd h (Nat.not_lt_zero _)⟩
 ·exact (KC 0 rfl (KC 1 rfl (KC 2 rfl (KE 7 rfl (by rfl) (KC 1000801 rfl KN)))))
 intro i hG
 refine QS (GT (RV 2 rfl ?_));refine RS (ok_lenV U26 rfl) ?_;refine RVN 1 rfl ?_;refine A.cond rfl (fun hc11 => ?_) (fun hc11 => ?_)
 ·have hi : i < R.length := by simp at hc11; omega
  refine QK (QSB ?_)
  by_cases hq : (i / 4 ^ (l + 1) = j)
  ·refine GT (RV 2 rfl ?_);refine RS (ok_call (rIndex_fn i l (by omega) hl) (A2 rfl rfl)) ?_;refine RV 2 rfl ?_;refine RZ (.bool true) (congrArg Value.bool (decide_eq_true (by omega))) ?_;refine RV 3 rfl ?_;refine RQ (ok_indexRX i U26 infoP51 rfl rfl hi) ?_;refine RQ (ok_fieldRX field51_0 (by decide) rfl) ?_;refine RQ (ok_loadRX (u := byteV (recAt R i).x) (s := 1000801) U5 rfl rfl (by decide) rfl (recs_x hR hi)) ?_;refine RVN 2 rfl ?_;refine A.cond rfl (fun hc26 => ?_) (fun hc26 => ?_)
   ·have hb : (recAt R i).x.toNat ≠ 0 := by simpa using hc26
    refine GV rfl (A.ret (End.ret_block (End.ret_then (End.ret_then (End.ret_block (End.ret_then ?_))))))
    first | exact End.ret1 rfl rfl (Le.v (congrArg Value.bool (emF_false hi hq hb).symm)) | exact End.ret1 rfl rfl (Le.v (congrArg Value.bool (emF_true fun k hk hkj => hG.2 k (by omega) hkj).symm))
   ·have hb : (recAt R i).x.toNat = 0 := by simpa using hc26
    refine A.skip (End.normal_block (EN (GTE (RV 2 rfl ?_))));refine RZ (nI (i + 1)) (wrap_eq (by omega) (by omega)) ?_;refine RVN 1 rfl ?_;refine End.normal_then ?_;refine End.again (i + 1) ?_ ?_ ?_
    ·first | exact ⟨by omega, fun k hk hkj => (Nat.lt_or_ge k i).elim (fun h => hG.2 k h hkj) fun h => by rw [show k = i from by omega]; exact hb⟩ | exact ⟨by omega, fun k hk hkj => (Nat.lt_or_ge k i).elim (fun h => hG.2 k h hkj) fun h => absurd (by rw [show k = i from by omega] at hkj; exact hkj) hq⟩
    ·show _ - _ < _ - _; omega
    ·exact (Sv [0,1,2,7,1000801] rfl)
  ·refine GT (RV 2 rfl ?_);refine RS (ok_call (rIndex_fn i l (by omega) hl) (A2 rfl rfl)) ?_;refine RV 2 rfl ?_;refine RZ (.bool false) (congrArg Value.bool (decide_eq_false (by omega))) ?_;refine RVN 8 rfl ?_;refine A.no rfl ?_;refine A.skip (End.normal_block (EN (GTE (RV 2 rfl ?_))));refine RZ (nI (i + 1)) (wrap_eq (by omega) (by omega)) ?_;refine RVN 1 rfl ?_;refine End.normal_then ?_;refine End.again (i + 1) ?_ ?_ ?_
   ·first | exact ⟨by omega, fun k hk hkj => (Nat.lt_or_ge k i).elim (fun h => hG.2 k h hkj) fun h => by rw [show k = i from by omega]; exact hb⟩ | exact ⟨by omega, fun k hk hkj => (Nat.lt_or_ge k i).elim (fun h => hG.2 k h hkj) fun h => absurd (by rw [show k = i from by omega] at hkj; exact hkj) hq⟩
   ·show _ - _ < _ - _; omega
   ·exact (Sv [0,1,2,7,1000801] rfl)
 ·have hi2 : i = R.length := by have := hG.1; simp at hc11; omega
  refine A.exit (End.exit_then (End.exit_then (End.exit_here (EN (GV rfl (A.ret ?_))))))
  first | exact End.ret1 rfl rfl (Le.v (congrArg Value.bool (emF_false hi hq hb).symm)) | exact End.ret1 rfl rfl (Le.v (congrArg Value.bool (emF_true fun k hk hkj => hG.2 k (by omega) hkj).symm))
set_option maxHeartbeats 2000000 in
theorem rNode_leaf (R : List RecT) (hR : FitR R) (h1 : 1 ≤ R.length) (h2 : R.length ≤ 4096) (rd : Addr) (rc : Nat) (S : List Nat) (hS : OkS S) (hSl : tot R.length (hg R.length + 1) ≤ S.length) (sd : Addr) (sc : Nat) (j : Nat) (hj : j < un R.length (0 + 1))  : FnM Tryz.prog 29 (srM rd R sd S) [.v (.slice (some rd) R.length rc), .v (.slice (some sd) S.length sc), .v (nI (0)), .v (nI (j))] (.v (aggV (nodR R S 0 j).v)) := by
 have hh := hg_le R.length
 have hun := un_le h1 (0 + 1)
 have hj6 : j < 4294967296 := by omega
 have hl : 0 ≤ hg R.length := Nat.zero_le _
 refine FnM.ofO Tryz.func29 rfl (by kernel_rfl) Tryz.ntmps29 (by simp) (by decide) (fun w => [(0, .v (.slice (some rd) R.length rc)), (1, .v (.slice (some sd) S.length sc)), (2, .v (nI (0))), (3, .v (nI (j))), (1000801, old w.heap.size (memR (some rd) (recsV R))), (1000701, old w.heap.size (memR (some sd) (slotV S)))]) (fun w => (StartMO.v rfl (StartMO.v rfl (StartMO.v rfl (StartMO.v rfl (StartMO.mo (by simp [srM]) (by decide) (StartMO.mo (by simp [srM]) (by decide) StartMO.nil))))))) fun w₀ hM => ?_
 skip
 refine GS (TN 0 (RN ?_));refine ZN 1000008 zero57 fun b8 ⟨hBb8, hb8⟩ => ?_
 refine TL (RN (GT (RM rfl ?_)));refine RS (ok_lenV U26 rfl) ?_;refine RVN 1 rfl ?_;refine GS (TN 5 (RM rfl ?_));refine RS (ok_conv U3 U5 rfl) ?_;refine RZ (byteV (UInt8.ofNat (0))) (by rw [wrap_u8_nat]; rfl) ?_;refine RM rfl ?_;refine RS (ok_conv U3 U46 rfl) ?_;refine RZ (nW j) (congrArg (Value.int .u32) (wrap_u32 (by omega) (by omega))) ?_;refine RS (ok_litS [(0, byteV (UInt8.ofNat (0))), (1, nW j)] (NodT.emp (UInt8.ofNat (0)) j).v ⟨rfl, rfl, rfl, rfl, trivial⟩ (buildX _ _)) ?_;refine RN ?_;refine ZN 1000010 zero57 fun b10 ⟨hBb10, hb10⟩ => ?_
 have hlt_b8_b10 := hb10 1000008 b8 _ _ rfl
 refine TF 6 (RN ?_);refine ⟨_, eff_storeA (n := 69) (s := 1000010) (size57.of ((NodT.emp_fit 0 (j := j) hj6).len)) rfl rfl (NodT.one _) hBb10 rfl (by rw [(NodT.emp_fit 0 (j := j) hj6).len]; rfl) (LB 1000008 rfl (LO 1000701 rfl (LO 1000801 rfl (LW [0,1,2,3,8,9,10] rfl)))), ?_⟩
 refine TL (RN (QS (GV rfl (A.block ?_))));refine A.loop (ι := Nat) (fun w => w ≤ pts R.length 0 j) (fun w => [(0, .v (.slice (some rd) R.length rc)), (1, .v (.slice (some sd) S.length sc)), (2, .v (nI (0))), (3, .v (nI (j))), (8, .v (ptr b8)), (9, .v (nI (R.length))), (10, .v (ptr b10)), (11, .v (nI (w))), (1000008, blk b8 57 (NodT.emp 0 0).v), (1000010, blk b10 57 (grpW R j w).v), (1000801, old w₀.heap.size (memR (some rd) (recsV R))), (1000701, old w₀.heap.size (memR (some sd) (slotV S)))]) (fun w => pts R.length 0 j - w) 0 ?_ ?_ ?_
 ·exact Nat.zero_le _
 ·exact (KC 0 rfl (KC 1 rfl (KC 2 rfl (KC 3 rfl (KC 8 rfl (KC 9 rfl (KC 10 rfl (KE 11 rfl (by rfl) (KC 1000008 rfl (KE 1000010 rfl (by rw [grpW_zero]) (KC 1000801 rfl (KC 1000701 rfl KN))))))))))))
 intro w hw'
 refine QS (GT (RV 4 rfl ?_));refine RS (ok_call (rParts_fn R.length h1 h2 (0) j hl hj) (A3 rfl rfl rfl)) ?_;refine RVN 1 rfl ?_;refine A.cond rfl (fun hc25 => ?_) (fun hc25 => ?_)
 ·have hw : w < pts R.length (0) j := by simp at hc25; omega
  have hw4 : w < 4 := by have := pts_le R.length (0) j; omega
  have hk : (4 * j + w) < R.length := by unfold pts un at hw; omega
  refine QK (QSB (GT (RV 2 rfl ?_)));refine RZ (nI (4 * j)) (wrap_eq (by omega) (by omega)) ?_;refine RV 2 rfl ?_;refine RZ (nI (4 * j + w)) (wrap_eq (by omega) (by omega)) ?_;refine RVN 1 rfl ?_;refine GT (RV 2 rfl ?_);refine RT ?_;refine RN (A.yes rfl ?_);refine GE (TF 7 (RV 3 rfl ?_));refine RS (ok_indexR (s := 1000801) (4 * j + w) U26 infoP51 rfl rfl (by decide) rfl hk (by rw [recs_len hR]; omega)) ?_;refine RS (ok_loadElemT 35 U51 rfl size51 (by rw [recs_at hR hk, (hR.at _).len]; exact Nat.le_refl _) rfl) ?_;refine RZ (aggV (recAt R (4 * j + w)).v) (congrArg aggV (by rw [recs_at hR hk]; exact List.take_of_length_le (Nat.le_of_eq (hR.at _).len))) ?_;refine RS (ok_field field57_2 (by decide) rfl) ?_;refine RS (ok_indexN (w) U52 size51 rfl rfl (rfl) (hw4)) ?_;refine RN ?_;refine ⟨_, eff_storeP (n := 69) (s := 1000010) (size51.of ((hR.at _).len)) rfl rfl (RecT.one _) hBb10 rfl (by rw [(grpW_fit hR hj6 w).len, (hR.at _).len]; omega) (LB 1000008 rfl (LO 1000701 rfl (LO 1000801 rfl (LW [0,1,2,3,8,9,10,11] rfl)))), ?_⟩
  refine TL (RN (End.sub (KC 0 rfl (KC 1 rfl (KC 2 rfl (KC 3 rfl (KC 8 rfl (KC 9 rfl (KC 10 rfl (KC 11 rfl (KC 1000008 rfl (KE 1000010 rfl (show _ = blk b10 57 (grpW R j (w + 1)).v from congrArg (blk b10 57) (grpW_set hR hj6 hw4)) (KC 1000701 rfl (KC 1000801 rfl KN)))))))))))) ?_));refine End.normal_block (EN (GTE (RV 2 rfl ?_)));refine RZ (nI (w + 1)) (wrap_eq (by omega) (by omega)) ?_;refine RVN 1 rfl ?_;refine End.normal_then ?_;refine End.again (w + 1) ?_ ?_ ?_
  ·show _ ≤ _; omega
  ·show _ - _ < _ - _; omega
  ·exact (Sv [0,1,2,3,8,9,10,11,1000008,1000010,1000801,1000701] rfl)
 ·have hw2 : w = pts R.length (0) j := by simp at hc25; omega
  refine A.exit (End.exit_then (End.exit_then (End.exit_here (EN (GS (TF 1 (RL 1000010 U57 rfl rfl (size57.of ((grpW_fit hR hj6 _).len)) ?_)))))));refine RN ?_;refine ⟨_, eff_storeA (n := 69) (s := 1000008) (size57.of ((grpW_fit hR hj6 _).len)) rfl rfl (NodT.one _) hBb8 rfl (by rw [(grpW_fit hR hj6 _).len]; rfl) (LV 8 rfl (LB 1000010 rfl (LO 1000701 rfl (LO 1000801 rfl LN)))), ?_⟩
  refine TL (RN (A.ret ?_));exact End.cell1 (s := 1000008) rfl U57 rfl (size57.of ((grpW_fit hR hj6 _).len)) rfl rfl (Le.v (by rw [hw2, grpW_full, nodR_zero]))
set_option maxHeartbeats 4000000 in
theorem rNode_step (R : List RecT) (hR : FitR R) (h1 : 1 ≤ R.length) (h2 : R.length ≤ 4096) (rd : Addr) (rc : Nat) (S : List Nat) (hS : OkS S) (hSl : tot R.length (hg R.length + 1) ≤ S.length) (sd : Addr) (sc : Nat) (l j : Nat) (hl : l + 1 ≤ hg R.length) (hj : j < un R.length (l + 1 + 1)) (ih : ∀ k, k < un R.length (l + 1) → FnM Tryz.prog 29 (srM rd R sd S) [.v (.slice (some rd) R.length rc), .v (.slice (some sd) S.length sc), .v (nI (l)), .v (nI (k))] (.v (aggV (nodR R S l k).v)))  : FnM Tryz.prog 29 (srM rd R sd S) [.v (.slice (some rd) R.length rc), .v (.slice (some sd) S.length sc), .v (nI (l + 1)), .v (nI (j))] (.v (aggV (nodR R S (l + 1) j).v)) := by
 have hh := hg_le R.length
 have hun := un_le h1 (l + 1 + 1)
 have hj6 : j < 4294967296 := by omega
 refine FnM.ofO Tryz.func29 rfl (by kernel_rfl) Tryz.ntmps29 (by simp) (by decide) (fun w => [(0, .v (.slice (some rd) R.length rc)), (1, .v (.slice (some sd) S.length sc)), (2, .v (nI (l + 1))), (3, .v (nI (j))), (1000801, old w.heap.size (memR (some rd) (recsV R))), (1000701, old w.heap.size (memR (some sd) (slotV S)))]) (fun w => (StartMO.v rfl (StartMO.v rfl (StartMO.v rfl (StartMO.v rfl (StartMO.mo (by simp [srM]) (by decide) (StartMO.mo (by simp [srM]) (by decide) StartMO.nil))))))) fun w₀ hM => ?_
 skip
 refine GS (TN 0 (RN ?_));refine ZN 1000008 zero57 fun b8 ⟨hBb8, hb8⟩ => ?_
 refine TL (RN (GT (RM rfl ?_)));refine RS (ok_lenV U26 rfl) ?_;refine RVN 1 rfl ?_;refine GS (TN 5 (RM rfl ?_));refine RS (ok_conv U3 U5 rfl) ?_;refine RZ (byteV (UInt8.ofNat (l + 1))) (by rw [wrap_u8_nat]; rfl) ?_;refine RM rfl ?_;refine RS (ok_conv U3 U46 rfl) ?_;refine RZ (nW j) (congrArg (Value.int .u32) (wrap_u32 (by omega) (by omega))) ?_;refine RS (ok_litS [(0, byteV (UInt8.ofNat (l + 1))), (1, nW j)] (NodT.emp (UInt8.ofNat (l + 1)) j).v ⟨rfl, rfl, rfl, rfl, trivial⟩ (buildX _ _)) ?_;refine RN ?_;refine ZN 1000010 zero57 fun b10 ⟨hBb10, hb10⟩ => ?_
 have hlt_b8_b10 := hb10 1000008 b8 _ _ rfl
 refine TF 6 (RN ?_);refine ⟨_, eff_storeA (n := 69) (s := 1000010) (size57.of ((NodT.emp_fit (UInt8.ofNat (l + 1)) (j := j) hj6).len)) rfl rfl (NodT.one _) hBb10 rfl (by rw [(NodT.emp_fit (UInt8.ofNat (l + 1)) (j := j) hj6).len]; rfl) (LB 1000008 rfl (LO 1000701 rfl (LO 1000801 rfl (LW [0,1,2,3,8,9,10] rfl)))), ?_⟩
 refine TL (RN (QS (GV rfl (A.block ?_))));refine A.loop (ι := Nat) (fun w => w ≤ pts R.length (l + 1) j) (fun w => [(0, .v (.slice (some rd) R.length rc)), (1, .v (.slice (some sd) S.length sc)), (2, .v (nI (l + 1))), (3, .v (nI (j))), (8, .v (ptr b8)), (9, .v (nI (R.length))), (10, .v (ptr b10)), (11, .v (nI (w))), (1000008, blk b8 57 (NodT.emp 0 0).v), (1000010, blk b10 57 (nodD R S l j w).v), (1000801, old w₀.heap.size (memR (some rd) (recsV R))), (1000701, old w₀.heap.size (memR (some sd) (slotV S)))]) (fun w => pts R.length (l + 1) j - w) 0 ?_ ?_ ?_
 ·exact Nat.zero_le _
 ·exact (KC 0 rfl (KC 1 rfl (KC 2 rfl (KC 3 rfl (KC 8 rfl (KC 9 rfl (KC 10 rfl (KE 11 rfl (by rfl) (KC 1000008 rfl (KE 1000010 rfl (by rw [nodD_zero]) (KC 1000801 rfl (KC 1000701 rfl KN))))))))))))
 intro w hw'
 refine QS (GT (RV 4 rfl ?_));refine RS (ok_call (rParts_fn R.length h1 h2 (l + 1) j hl hj) (A3 rfl rfl rfl)) ?_;refine RVN 1 rfl ?_;refine A.cond rfl (fun hc25 => ?_) (fun hc25 => ?_)
 ·have hw : w < pts R.length (l + 1) j := by simp at hc25; omega
  have hw4 : w < 4 := by have := pts_le R.length (l + 1) j; omega
  have hkS : tot R.length l + (4 * j + w) < S.length := by have := numP_lt (n := R.length) (l := l) (j := (4 * j + w)) (by omega) (kid_ok hw); omega
  have hku := kid_ok hw
  have hul := un_le h1 (l + 1)
  refine QK (QSB (GT (RV 2 rfl ?_)));refine RZ (nI (4 * j)) (wrap_eq (by omega) (by omega)) ?_;refine RV 2 rfl ?_;refine RZ (nI (4 * j + w)) (wrap_eq (by omega) (by omega)) ?_;refine RVN 1 rfl ?_;refine GT (RV 2 rfl ?_);refine RZ (.bool false) (congrArg Value.bool (decide_eq_false (by omega))) ?_;refine RN (A.no rfl ?_);refine GT (RV 3 rfl ?_);refine RZ (nI (l)) (wrap_eq (by omega) (by omega)) ?_;refine RM rfl ?_;refine RS (ok_callMK (rEmpty_fn R hR h1 h2 rd rc l (4 * j + w) (by omega)) (SubK.cons (k := 1000801) (by decide) rfl Le.unold SubK.nil) (A3 rfl rfl rfl)) ?_;refine RVN 1 rfl ?_;refine A.cond rfl (fun hc46 => ?_) (fun hc46 => ?_)
  ·have he : emF R.length (recAt R) l (4 * j + w) = false := by simpa using hc46
   refine A.reg (by kernel_rfl) (by kernel_rfl) (.inr (by kernel_rfl)) ?_;refine TD 21 ?_;refine RV 5 rfl ?_;refine RZ (nI (l)) (wrap_eq (by omega) (by omega)) ?_;refine RM rfl ?_;refine RS (ok_call (rNumber_fn R.length h1 h2 l (4 * j + w) (by omega) (by omega)) (A3 rfl rfl rfl)) ?_;refine RS (ok_indexRX (tot R.length l + (4 * j + w)) U27 infoPI rfl rfl hkS) ?_;refine RS (ok_loadRX (u := nI (S.getD (tot R.length l + (4 * j + w)) 0)) (s := 1000701) U3 rfl rfl (by decide) rfl (slotV_at hkS)) ?_;refine RB rfl rfl rfl ?_;refine RZ (nI ((S.getD (tot R.length l + (4 * j + w)) 0) + 1)) (wrap_eq (by omega) (by have := hS.at (tot R.length l + (4 * j + w)); omega)) ?_;refine RS (ok_conv U3 U5 rfl) ?_;refine RZ (byteV (UInt8.ofNat ((S.getD (tot R.length l + (4 * j + w)) 0) + 1))) (by rw [wrap_u8_nat]; rfl) ?_;refine RV 4 rfl ?_;refine RZ (nI (l)) (wrap_eq (by omega) (by omega)) ?_;refine RM rfl ?_;refine RS (ok_callMK (ih (4 * j + w) (kid_ok hw)) (SubK.cons (k := 1000801) (by decide) rfl Le.unold (SubK.cons (k := 1000701) (by decide) rfl Le.unold SubK.nil)) (Args.cons rfl (Le.refl _) (A3 rfl rfl rfl))) ?_;refine RS (ok_call (rDigest_fn (nodR R S l (4 * j + w)) (nodR_fit hR S (by omega)) (by rw [nodR_l (by omega)]; omega)) (A1 rfl)) ?_;refine RS (ok_litS [(0, byteV (UInt8.ofNat ((S.getD (tot R.length l + (4 * j + w)) 0) + 1))), (1, aggV ((sha (nodR R S l (4 * j + w)).bl).map byteV))] (EntT.v ⟨UInt8.ofNat ((S.getD (tot R.length l + (4 * j + w)) 0) + 1), sha (nodR R S l (4 * j + w)).bl⟩) ⟨rfl, rfl, rfl, rfl, trivial⟩ (buildEntB _ _ (sha_length _))) ?_;refine RS (ok_field field57_3 (by decide) rfl) ?_;refine RS (ok_indexN (w) U55 size54 rfl rfl (rfl) (hw4)) ?_;refine RN ?_;refine ⟨_, eff_storeP (n := 69) (s := 1000010) (size54.of (by show _ = 33; rw [EntT.Fit.len ⟨sha_length _⟩])) rfl rfl (EntT.one _) hBb10 rfl (by rw [(nodD_fit R S l hj6 w).len, EntT.Fit.len ⟨sha_length _⟩]; omega) (LB 1000008 rfl (LO 1000701 rfl (LO 1000801 rfl (LW [0,1,2,3,8,9,10,11] rfl)))), ?_⟩
   refine TL (RN (End.sub (KC 0 rfl (KC 1 rfl (KC 2 rfl (KC 3 rfl (KC 8 rfl (KC 9 rfl (KC 10 rfl (KC 11 rfl (KC 1000008 rfl (KE 1000010 rfl (show _ = blk b10 57 (nodD R S l j (w + 1)).v from congrArg (blk b10 57) (nodD_set R S l hj6 hw4 (entD_no he).symm)) (KC 1000701 rfl (KC 1000801 rfl KN)))))))))))) ?_));refine End.normal_block (EN (GTE (RV 2 rfl ?_)));refine RZ (nI (w + 1)) (wrap_eq (by omega) (by omega)) ?_;refine RVN 1 rfl ?_;refine End.normal_then ?_;refine End.again (w + 1) ?_ ?_ ?_
   ·show _ ≤ _; omega
   ·show _ - _ < _ - _; omega
   ·exact (KC 0 rfl (KC 1 rfl (KC 2 rfl (KC 3 rfl (KC 8 rfl (KC 9 rfl (KC 10 rfl (KC 11 rfl (KC 1000008 rfl (KE 1000010 rfl (by first | rfl | (rw [nodD_skip hj6 hw4 he])) (KC 1000801 rfl (KC 1000701 rfl KN))))))))))))
  ·have he : emF R.length (recAt R) l (4 * j + w) = true := by simpa using hc46
   refine A.skip (End.normal_block (EN (GTE (RV 2 rfl ?_))));refine RZ (nI (w + 1)) (wrap_eq (by omega) (by omega)) ?_;refine RVN 1 rfl ?_;refine End.normal_then ?_;refine End.again (w + 1) ?_ ?_ ?_
   ·show _ ≤ _; omega
   ·show _ - _ < _ - _; omega
   ·exact (KC 0 rfl (KC 1 rfl (KC 2 rfl (KC 3 rfl (KC 8 rfl (KC 9 rfl (KC 10 rfl (KC 11 rfl (KC 1000008 rfl (KE 1000010 rfl (by first | rfl | (rw [nodD_skip hj6 hw4 he])) (KC 1000801 rfl (KC 1000701 rfl KN))))))))))))
 ·have hw2 : w = pts R.length (l + 1) j := by simp at hc25; omega
  refine A.exit (End.exit_then (End.exit_then (End.exit_here (EN (GS (TF 1 (RL 1000010 U57 rfl rfl (size57.of ((nodD_fit R S l hj6 _).len)) ?_)))))));refine RN ?_;refine ⟨_, eff_storeA (n := 69) (s := 1000008) (size57.of ((nodD_fit R S l hj6 _).len)) rfl rfl (NodT.one _) hBb8 rfl (by rw [(nodD_fit R S l hj6 _).len]; rfl) (LV 8 rfl (LB 1000010 rfl (LO 1000701 rfl (LO 1000801 rfl LN)))), ?_⟩
  refine TL (RN (A.ret ?_));exact End.cell1 (s := 1000008) rfl U57 rfl (size57.of ((nodD_fit R S l hj6 _).len)) rfl rfl (Le.v (by rw [hw2, nodD_full]))
theorem rNode_fn (R : List RecT) (hR : FitR R) (h1 : 1 ≤ R.length) (h2 : R.length ≤ 4096) (rd : Addr) (rc : Nat) (S : List Nat) (hS : OkS S) (hSl : tot R.length (hg R.length + 1) ≤ S.length) (sd : Addr) (sc : Nat) : ∀ (l j : Nat), l ≤ hg R.length → j < un R.length (l + 1) → FnM Tryz.prog 29 (srM rd R sd S) [.v (.slice (some rd) R.length rc), .v (.slice (some sd) S.length sc), .v (nI (l)), .v (nI (j))] (.v (aggV (nodR R S l j).v))
 | 0, j, _, hj => rNode_leaf R hR h1 h2 rd rc S hS hSl sd sc j hj
 | l + 1, j, hl, hj => rNode_step R hR h1 h2 rd rc S hS hSl sd sc l j hl hj fun k hk => rNode_fn R hR h1 h2 rd rc S hS hSl sd sc l k (by omega) hk
end
section
theorem fit3 (x : NodT) (L X : Nat) : x.l.toNat ≠ L ∨ (x.l.toNat = L ∧ x.j ≠ X) ∨ (x.l.toNat = L ∧ x.j = X) := by
 by_cases h : x.l.toNat = L
 ·by_cases h2 : x.j = X
  ·exact .inr (.inr ⟨h, h2⟩)
  ·exact .inr (.inl ⟨h, h2⟩)
 ·exact .inl h
theorem fit_eZ {n : Nat} {x : NodT} (h1 : 1 ≤ n) (h2 : n ≤ 4096) (hf : ftN n x = 0) (h0 : x.l.toNat ≠ 0) {w : Nat} (hw : w < 4) : (x.e w).Z ↔ (x.e w).x.toNat = 0 := by
 have hb := ((NodT.ck_ok (ft_zero h1 h2 hf).1).2.2 h0).2 w hw
 unfold EntT.Bad BadE at hb
 unfold EntT.Z
 constructor
 ·exact fun h => h.1
 ·exact fun h => ⟨h, Classical.byContradiction fun hh => hb (.inr ⟨h, hh⟩)⟩
end
section
structure VarN where
 a : Nat
 t : Nat
 T : TypeId
 zs : List Value
 s : Nat
 ys : List Value
inductive FromV (ops : Array Oper) (vals : List (Option Value)) (E0 : Env) (o : Oper) : Env → Prop
 | nil : FromV ops vals E0 o []
 | all : FromV ops vals E0 o E0
 | op {t : Nat} {v : Value} {E : Env} (j : Nat) (he : (o.after.any fun e => Region.binds .any e && e.on == j) = true) (hd : (ops[j]?).bind (·.dst) = some t) (hv : vals[j]? = some (some v)) (hr : FromV ops vals E0 o E) : FromV ops vals E0 o ((t, .v v) :: E)
inductive FromW (ops : Array Oper) (vals : List (Option Value)) (E0 : Env) : Env → Prop
 | all : FromW ops vals E0 E0
 | op {t : Nat} {v : Value} {E : Env} (j : Nat) (hd : (ops[j]?).bind (·.dst) = some t) (hv : vals[j]? = some (some v)) (hr : FromW ops vals E0 E) : FromW ops vals E0 ((t, .v v) :: E)
inductive KopOk (P : Program) (ops : Array Oper) (vals : List (Option Value)) (vs : List VarN) (E0 : Env) (i : Nat) : Oper → Prop
 | pure {o : Oper} {t : Nat} {v : Value} (E : Env) (hv : vals[i]? = some (some v)) (hd : o.dst = some t) (h0 : E0.look t = none ∨ E0.look t = some (.v v)) (hf : FromV ops vals E0 o E) (hok : ∀ B', OpOk P B' o E (.v v)) : KopOk P ops vals vs E0 i o
 | alloc {t : Tmp} {T ty : TypeId} {pos : String} {after : Array Edge} {V : VarN} (j : Nat) (hV : vs[j]? = some V) (ha : V.a = i) (hT : V.T = T) (ht : V.t = t) (hz : ZeroIs P T V.zs) (h0 : E0.look t = none) : KopOk P ops vals vs E0 i ⟨some t, .alloc T, ty, pos, after, none⟩
 | store {t T ty : TypeId} {x : Operand} {pos : String} {after : Array Edge} {V : VarN} (j : Nat) (E : Env) (hV : vs[j]? = some V) (hs : V.s = i) (hT : V.T = T) (ht : V.t = t) (he : (after.any fun e => Region.binds .any e && e.on == V.a) = true) (hf : FromV ops vals E0 ⟨none, .store T (.tmp t) x, ty, pos, after, none⟩ E) (hx : E.at x = some (.v (aggV V.ys)))
   (hsz : SizeIs P T V.ys.length) (hl : V.zs.length = V.ys.length) (h1 : V.ys.all (·.oneCell') = true) : KopOk P ops vals vs E0 i ⟨none, .store T (.tmp t) x, ty, pos, after, none⟩
inductive Kops (P : Program) (ops : Array Oper) (vals : List (Option Value)) (vs : List VarN) (E0 : Env) : Nat → List Oper → Prop
 | nil {i : Nat} : Kops P ops vals vs E0 i []
 | cons {i : Nat} {o : Oper} {rest : List Oper} (h : KopOk P ops vals vs E0 i o) (hr : Kops P ops vals vs E0 (i + 1) rest) : Kops P ops vals vs E0 i (o :: rest)
def varsOk (ops : Array Oper) (vals : List (Option Value)) (vs : List VarN) : Bool := (List.range vs.length).all fun j => match vs[j]? with
 | none => false
 | some V => ((ops[V.a]?).bind (·.dst) == some V.t) && (match vals[V.a]? with | some none => true | _ => false) && (match vals[V.s]? with | some none => true | _ => false) && decide (V.a < ops.size) && decide (V.s < ops.size) && V.a != V.s && (List.range vs.length).all fun j' => match vs[j']? with
  | none => false
  | some V' => j == j' || (V.a != V'.a && V.s != V'.s && V.a != V'.s && V.s != V'.a)
section
variable {P : Program} {n B : Nat} {ops : Array Oper} {κ : Cx} {Q : Exit → Act → World → Prop} {vals : List (Option Value)} {vs : List VarN} {E0 : Env}
theorem Kops.nth {k : Nat} {l : List Oper} (h : Kops P ops vals vs E0 k l) : ∀ {i : Nat} {o : Oper}, l[i]? = some o → KopOk P ops vals vs E0 (k + i) o := by
 induction h with
 | nil => intro i o hi; simp at hi
 | @cons k o0 rest h _ ih =>
  intro i o hi
  cases i with
  | zero => simp at hi; subst hi; exact h
  | succ i =>
   have := ih (i := i) (by simpa using hi)
   rwa [show k + (i + 1) = k + 1 + i from by omega]
theorem varsOk_get (h : varsOk ops vals vs = true) {j : Nat} {V : VarN} (hj : vs[j]? = some V) : (ops[V.a]?).bind (·.dst) = some V.t ∧ vals[V.a]? = some none ∧ vals[V.s]? = some none ∧ V.a < ops.size ∧ V.s < ops.size ∧ V.a ≠ V.s ∧ ∀ j' V', vs[j']? = some V' → j ≠ j' → V.a ≠ V'.a ∧ V.s ≠ V'.s ∧ V.a ≠ V'.s ∧ V.s ≠ V'.a := by
 have hlt : j < vs.length := (List.getElem?_eq_some_iff.1 hj).1
 have h1 := List.all_eq_true.1 h j (List.mem_range.2 hlt)
 simp only [hj, Bool.and_eq_true] at h1
 obtain ⟨⟨⟨⟨⟨⟨h2, h3⟩, h4⟩, h5⟩, h6⟩, h7⟩, h8⟩ := h1
 refine ⟨by simpa using h2, ?_, ?_, by simpa using h5, by simpa using h6, by simpa using h7, fun j' V' hj' hne => ?_⟩
 ·cases hx : vals[V.a]? with
  | none => rw [hx] at h3; cases h3
  | some x => rw [hx] at h3; cases x with
   | none => rfl
   | some _ => cases h3
 ·cases hx : vals[V.s]? with
  | none => rw [hx] at h4; cases h4
  | some x => rw [hx] at h4; cases x with
   | none => rfl
   | some _ => cases h4
 ·have h9 := List.all_eq_true.1 h8 j' (List.mem_range.2 (List.getElem?_eq_some_iff.1 hj').1)
  simp only [hj', Bool.or_eq_true, beq_iff_eq, Bool.and_eq_true, bne_iff_ne, ne_eq] at h9
  rcases h9 with h9 | h9
  ·exact absurd h9 hne
  ·exact ⟨h9.1.1.1, h9.1.1.2, h9.1.2, h9.2⟩
structure InvV (κ : Cx) (n B : Nat) (ops : Array Oper) (vals : List (Option Value)) (vs : List VarN) (E0 : Env) (w1 : World) (listed : Array Bool) (a : Act) (w : World) : Prop where
 base : B ≤ w1.heap.size
 bel : Below w1.heap.size w1 w
 defers : a.defers = κ.df
 size : a.tmps.size = n
 facts : ∀ t d, E0.look t = some d → d.OfB w1.heap.size w (a.tmps.getD t undef)
 lsize : listed.size = ops.size
 got : ∀ (i : Nat) (o : Oper) (t : Nat) (v : Value), ops[i]? = some o → listed.getD i false = true → o.dst = some t → vals[i]? = some (some v) → a.tmps.getD t undef = v
 cl : ∀ (j : Nat) (V : VarN), vs[j]? = some V → listed.getD V.s false = true → listed.getD V.a false = true
 var : ∃ bs : Nat → Nat, (∀ (j : Nat) (V : VarN), vs[j]? = some V → listed.getD V.a false = true → w1.heap.size ≤ bs j ∧ bs j < w.heap.size ∧ a.tmps.getD V.t undef = .pointer (some ⟨bs j, 0, none⟩) ∧ w.heap[bs j]? = some (.cells (if listed.getD V.s false = true then V.ys else V.zs).toArray V.T (0,0))) ∧
  ∀ (j j' : Nat) (V V' : VarN), vs[j]? = some V → vs[j']? = some V' → listed.getD V.a false = true → listed.getD V'.a false = true → j ≠ j' → bs j ≠ bs j'
theorem InvV.st {w1 : World} {listed : Array Bool} {a : Act} {w : World} (I : InvV κ n B ops vals vs E0 w1 listed a w) : St κ n B E0 a w :=
 ⟨Nat.le_trans I.base I.bel.size, I.defers, I.size, fun t d hl => D.OfB.up (I.facts t d hl) I.bel.size⟩
theorem setD_self {listed : Array Bool} {i : Nat} (h : i < listed.size) : (listed.setIfInBounds i true).getD i false = true := by simp [h]
theorem wp_vars (hn0 : n ≤ vbase) (hfit : fits n ops = true) (hd : downsN ops = true) (hv : varsOk ops vals vs = true) (hn : Kops P ops vals vs E0 0 ops.toList) {w1 : World}
  (hQ : ∀ l a' w', InvV κ n B ops vals vs E0 w1 l a' w' → (∀ i, i < ops.size → l.getD i false = true) → Q .normal a' w') :
  ∀ (fuel : Nat) (listed : Array Bool) (a : Act) (w : World), unlisted ops listed ≤ fuel → InvV κ n B ops vals vs E0 w1 listed a w → wpAnyIn (FR κ.rd) 0 P .any ops Q fuel listed a w := by
 have hmin : ∀ (listed : Array Bool), listed.size = ops.size → Region.ready .any ops listed = [] → ∀ i, i < ops.size → listed.getD i false = true := by
  intro listed hl hr i
  induction i using Nat.strongRecOn with
  | _ i ih =>
   intro hi
   rcases hb : listed.getD i false with _ | _
   ·exfalso
    have hdi := (downs_get hd (Array.getElem?_eq_getElem hi)).2.1
    have : i ∈ Region.ready .any ops listed := by
     rw [mem_ready]
     refine ⟨?_, ops[i], Array.getElem?_eq_getElem hi, fun e he hbd => ih e.on (hdi e he hbd) (Nat.lt_trans (hdi e he hbd) hi)⟩
     have : i < listed.size := by rw [hl]; exact hi
     simp [this] at hb ⊢
     exact hb
    rw [hr] at this
    cases this
   ·rfl
 intro fuel
 induction fuel with
 | zero =>
  intro listed a w hc I
  have hr : Region.ready .any ops listed = [] := by
   rcases hr : Region.ready .any ops listed with _ | ⟨i, l⟩
   ·rfl
   ·exfalso
    have hi : i ∈ Region.ready .any ops listed := by rw [hr]; exact List.mem_cons_self
    obtain ⟨hu, o, ho, _⟩ := mem_ready.1 hi
    have hpos : 0 < unlisted ops listed := List.countP_pos_iff.2 ⟨i, List.mem_range.2 (Array.getElem?_eq_some_iff.1 ho).1, by simp only [hu]; rfl⟩
    omega
  exact ⟨hr, hQ listed a w I (hmin listed I.lsize hr)⟩
 | succ fuel ih =>
  intro listed a w hc I
  refine ⟨fun hr => hQ listed a w I (hmin listed I.lsize hr), fun i hi => ?_⟩
  obtain ⟨hu, o, ho, hall⟩ := mem_ready.1 hi
  have hlt : i < ops.size := (Array.getElem?_eq_some_iff.1 ho).1
  have hli : i < listed.size := by rw [I.lsize]; exact hlt
  have huf : listed.getD i false = false := by
   have h1 : listed.getD i true = false := hu
   simp [hli] at h1 ⊢
   exact h1
  have hk := hn.nth (i := i) (o := o) (by simpa using ho)
  rw [Nat.zero_add] at hk
  obtain ⟨hg, _, hdis⟩ := downs_get hd ho
  have hst : ∀ {E : Env}, FromV ops vals E0 o E → ∀ t d, E.look t = some d → d.OfB w1.heap.size w (a.tmps.getD t undef) := fun {E} h => by
   induction h with
   | nil => intro t d hl; cases hl
   | all => exact I.facts
   | @op s v E j he hdj hvj _ ih =>
    intro t d hl
    by_cases hts : s = t
    ·subst hts; rw [look_here] at hl; injection hl with hl; subst hl
     obtain ⟨e, he1, he2⟩ := Array.any_eq_true'.1 he
     simp only [Bool.and_eq_true, beq_iff_eq] at he2
     have hl := hall e he1 he2.1
     rw [he2.2] at hl
     cases hq : ops[j]? with
     | none => rw [hq] at hdj; cases hdj
     | some q =>
      rw [hq] at hdj
      exact I.got j q _ _ hq hl hdj hvj
    ·rw [look_past _ _ hts] at hl; exact ih t d hl
  have hE : ∀ {E : Env}, FromV ops vals E0 o E → St κ n B E a w := fun h => ⟨Nat.le_trans I.base I.bel.size, I.defers, I.size, fun t d hl => D.OfB.up (hst h t d hl) I.bel.size⟩
  refine wpOpR_step ho fun K hK => ?_
  rw [if_pos (by simp [Region.wanted, hg])]
  have hcl : unlisted ops (listed.setIfInBounds i true) ≤ fuel := by
   have : unlisted ops (listed.setIfInBounds i true) < unlisted ops listed := by
    refine countP_lt (x := i) (fun y hy => ?_) (List.mem_range.2 hlt) (by simp only [hu]; rfl) ?_
    ·by_cases hyi : i = y
     ·subst hyi
      simp [hli] at hy
     ·rw [getD_set_ne true hyi] at hy; exact hy
    ·simp [hli]
   omega
  have hset : ∀ j, (listed.setIfInBounds i true).getD j false = true → j = i ∨ listed.getD j false = true := fun j hj => by
   by_cases hji : i = j
   ·exact .inl hji.symm
   ·rw [getD_set_ne false hji] at hj; exact .inr hj
  have hfar : ∀ j, j ≠ i → (listed.setIfInBounds i true).getD j false = listed.getD j false := fun j hj => getD_set_ne false (fun h => hj h.symm)
  obtain ⟨bs, hb1, hb2⟩ := I.var
  cases hk with
  | @pure _ t v E hvi hdt h0 hf hok =>
   have htn : t < n := (fits_mem hfit (o := o) (by simpa using Array.mem_of_getElem? ho)).2 t hdt
   have hnot : ∀ (j : Nat) (V : VarN), vs[j]? = some V → V.a ≠ i ∧ V.s ≠ i ∧ V.t ≠ t := fun j V hj => by
    obtain ⟨h1, h2, h3, _⟩ := varsOk_get hv hj
    have hai : V.a ≠ i := fun e => by rw [e, hvi] at h2; cases h2
    refine ⟨hai, fun e => (by rw [e, hvi] at h3; cases h3), fun e => ?_⟩
    cases hq : ops[V.a]? with
    | none => rw [hq] at h1; cases h1
    | some q =>
     rw [hq] at h1
     exact hdis V.a q hq hai (by rw [hdt]; simp) (by rw [hdt, show q.dst = some V.t from h1, e])
   have hs := hE hf
   refine wp_of_out hdt ((hok w.heap.size a.eval w (Nat.le_refl _) (hs.virt hn0) fun x _ u hu => hs.at_ x _ hu).mono ?_)
   rintro x w' ⟨hgr, hx⟩
   have hx : x = v := hx
   subst hx
   refine hK _ _ (ih _ _ _ hcl ⟨I.base, I.bel.trans (Below.mono hgr I.bel.size), I.defers, by simp [Act.put, I.size], fun s d hs' => ?_, by simp [I.lsize], fun j q s u hj hl hds hvs => ?_, fun j V hj hl => ?_, bs, fun j V hj hl => ?_, fun j j' V V' hj hj' hl hl' => ?_⟩)
   ·by_cases hts : t = s
    ·subst hts
     rw [getD_put_here _ _ (by rw [I.size]; exact htn)]
     rcases h0 with h | h
     ·rw [h] at hs'; cases hs'
     ·rw [h] at hs'; injection hs' with hs'; subst hs'; rfl
    ·rw [getD_put_past _ _ hts]; exact (I.facts s d hs').keep (Below.mono hgr I.bel.size)
   ·rcases hset j hl with rfl | hl
    ·rw [ho] at hj; injection hj with hj; subst hj
     rw [hdt] at hds; injection hds with hds; subst hds
     rw [hvi] at hvs; injection hvs with hvs; injection hvs with hvs; subst hvs
     rw [getD_put_here _ _ (by rw [I.size]; exact htn)]
    ·by_cases hji : j = i
     ·subst hji
      rw [ho] at hj; injection hj with hj; subst hj
      rw [hdt] at hds; injection hds with hds; subst hds
      rw [hvi] at hvs; injection hvs with hvs; injection hvs with hvs; subst hvs
      rw [getD_put_here _ _ (by rw [I.size]; exact htn)]
     ·have hne : t ≠ s := fun he => hdis j q hj hji (by rw [hdt]; simp) (by rw [hdt, hds, he])
      rw [getD_put_past _ _ hne]
      exact I.got j q s u hj hl hds hvs
   ·obtain ⟨h1, h2, _⟩ := hnot j V hj
    rw [hfar _ h2] at hl
    rw [hfar _ h1]; exact I.cl j V hj hl
   ·obtain ⟨h1, h2, h3⟩ := hnot j V hj
    rw [hfar _ h1] at hl
    obtain ⟨g1, g2, g3, g4⟩ := hb1 j V hj hl
    rw [hfar _ h2]
    exact ⟨g1, Nat.lt_of_lt_of_le g2 hgr.size, by rw [getD_put_past _ _ (fun e => h3 e.symm)]; exact g3, by rw [hgr.block _ g2]; exact g4⟩
   ·rw [hfar _ (hnot j V hj).1] at hl
    rw [hfar _ (hnot j' V' hj').1] at hl'
    exact hb2 j j' V V' hj hj' hl hl'
  | @alloc t T ty pos after V j0 hV ha hT ht hz h0 =>
   subst ha hT ht
   have hds := (varsOk_get hv hV).2.2.2.2.2.2
   have hns : V.s ≠ V.a := fun e => (varsOk_get hv hV).2.2.2.2.2.1 e.symm
   have htn : V.t < n := (fits_mem hfit (o := ⟨some V.t, .alloc V.T, ty, pos, after, none⟩) (by simpa using Array.mem_of_getElem? ho)).2 V.t rfl
   have hrun : (execOp a.eval ⟨some V.t, .alloc V.T, ty, pos, after, none⟩).run P w = .ok (.value (.pointer (some ⟨w.heap.size, 0, none⟩))) (w.alloc (.cells V.zs.toArray V.T)) := by
    obtain ⟨i, z, hi, hz, hc⟩ := hz.get
    simp [execOp, Instr.alloc, zeroValue, typeInfo, hi, hz, newVar, newRow, hc]
   refine opR (not_defer hrun) ?_
   unfold Oper.wp
   rw [hrun, Oper.upon_value]
   have hgr : Grow w (w.alloc (.cells V.zs.toArray V.T)) := Grow.alloc w _
   have hlt1 : w.heap.size < (w.alloc (.cells V.zs.toArray V.T)).heap.size := by simp
   have hother : ∀ (j : Nat) (V' : VarN), vs[j]? = some V' → j ≠ j0 → V'.a ≠ V.a ∧ V'.s ≠ V.a ∧ V'.t ≠ V.t := fun j V' hj hne => by
    obtain ⟨h1, h2, h3, h4⟩ := hds j V' hj (fun e => hne e.symm)
    refine ⟨fun e => h1 e.symm, fun e => h3 e.symm, fun e => ?_⟩
    obtain ⟨g1, _⟩ := varsOk_get hv hj
    cases hq : ops[V'.a]? with
    | none => rw [hq] at g1; cases g1
    | some q =>
     rw [hq] at g1
     exact hdis V'.a q hq (fun e => h1 e.symm) (by simp) (by rw [show q.dst = some V'.t from g1, e])
   have hsu : listed.getD V.s false = false := by
    rcases hb : listed.getD V.s false with _ | _
    ·rfl
    ·rw [I.cl j0 V hV hb] at huf; cases huf
   refine hK _ _ (ih _ _ _ hcl ⟨I.base, I.bel.trans (Below.mono hgr I.bel.size), I.defers, by simp [Act.put, I.size], fun s d hs' => ?_, by simp [I.lsize], fun j q s u hj hl hds hvs => ?_, fun j V' hj hl => ?_, fun j => if j = j0 then w.heap.size else bs j, fun j V' hj hl => ?_, fun j j' V' V'' hj hj' hl hl' hne => ?_⟩)
   ·have hts : V.t ≠ s := fun e => by subst e; rw [h0] at hs'; cases hs'
    rw [getD_put_past _ _ hts]; exact (I.facts s d hs').keep (Below.mono hgr I.bel.size)
   ·have hji : j ≠ V.a := fun e => by
     subst e
     rw [(varsOk_get hv hV).2.1] at hvs; cases hvs
    rw [hfar _ hji] at hl
    have hne : V.t ≠ s := fun he => hdis j q hj hji (by simp) (by rw [hds, he])
    rw [getD_put_past _ _ hne]
    exact I.got j q s u hj hl hds hvs
   ·by_cases hj0 : j = j0
    ·subst hj0; rw [hV] at hj; injection hj with hj; subst hj
     exact setD_self hli
    ·obtain ⟨h1, h2, _⟩ := hother j V' hj hj0
     rw [hfar _ h2] at hl
     rw [hfar _ h1]; exact I.cl j V' hj hl
   ·by_cases hj0 : j = j0
    ·subst hj0; rw [hV] at hj; injection hj with hj; subst hj
     dsimp only
     rw [if_pos rfl, hfar _ hns, hsu]
     exact ⟨I.bel.size, hlt1, by rw [getD_put_here _ _ (by rw [I.size]; exact htn)], by simpa using heap_alloc_new w _⟩
    ·obtain ⟨h1, h2, h3⟩ := hother j V' hj hj0
     rw [hfar _ h1] at hl
     obtain ⟨g1, g2, g3, g4⟩ := hb1 j V' hj hl
     dsimp only
     rw [if_neg hj0, hfar _ h2]
     exact ⟨g1, Nat.lt_of_lt_of_le g2 hgr.size, by rw [getD_put_past _ _ (fun e => h3 e.symm)]; exact g3, by rw [hgr.block _ g2]; exact g4⟩
   ·show (if j = j0 then w.heap.size else bs j) ≠ if j' = j0 then w.heap.size else bs j'
    by_cases hj0 : j = j0
    ·rw [if_pos hj0, if_neg (fun e => hne (by rw [hj0, e]))]
     rw [hfar _ (hother j' V'' hj' (fun e => hne (by rw [hj0, e]))).1] at hl'
     have := (hb1 j' V'' hj' hl').2.1
     omega
    ·rw [if_neg hj0]
     rw [hfar _ (hother j V' hj hj0).1] at hl
     by_cases hj0' : j' = j0
     ·rw [if_pos hj0']
      have := (hb1 j V' hj hl).2.1
      omega
     ·rw [if_neg hj0']
      rw [hfar _ (hother j' V'' hj' hj0').1] at hl'
      exact hb2 j j' V' V'' hj hj' hl hl' hne
  | @store t T ty x pos after V j0 E hV hs hT ht he hf hx hsz hl0 h1 =>
   subst hs hT ht
   have hds := (varsOk_get hv hV).2.2.2.2.2.2
   have hna : V.a ≠ V.s := (varsOk_get hv hV).2.2.2.2.2.1
   have hla : listed.getD V.a false = true := by
    obtain ⟨e, he1, he2⟩ := Array.any_eq_true'.1 he
    simp only [Bool.and_eq_true, beq_iff_eq] at he2
    have hl := hall e he1 he2.1
    rwa [he2.2] at hl
   obtain ⟨g1, g2, g3, g4⟩ := hb1 j0 V hV hla
   rw [huf] at g4
   simp only [Bool.false_eq_true, if_false] at g4
   have hp' : a.eval (.tmp V.t) = .pointer (some ⟨bs j0,0, none⟩) := g3
   have hx' : a.eval x = aggV V.ys := (hE hf).at_ x _ hx
   have hrun : (execOp a.eval ⟨none, .store V.T (.tmp V.t) x, ty, pos, after, none⟩).run P w = .ok .skip (w.setRow (bs j0) V.ys.toArray) := by
    have := run_storeVar_row (P := P) w (bs j0) V.T V.T V.zs.toArray V.ys.toArray g4 (by simpa [SizeIs] using hsz) (by simpa using hl0) (by simpa using h1)
    simp [execOp, hp', hx', Instr.storeAt, Instr.sureAddr, aggV, this]
   refine opR (by nofun) ?_
   unfold Oper.wp
   rw [hrun, Oper.upon_skip]
   have hput : a.put (none : Option Tmp) undef = a := rfl
   try rw [hput]
   have hwr := Wrote.setRow (B := w1.heap.size) g1 g4 V.ys.toArray
   have hbw : Below w1.heap.size w (w.setRow (bs j0) V.ys.toArray) := hwr.below I.bel.size
   have hsame : ∀ k, k ≠ bs j0 → (w.setRow (bs j0) V.ys.toArray).heap[k]? = w.heap[k]? := fun k hk => setRow_other w (bs j0) k V.ys.toArray hk
   have hhere : (w.setRow (bs j0) V.ys.toArray).heap[bs j0]? = some (.cells V.ys.toArray V.T (0,0)) := by simp [World.setRow, Array.getElem?_modify, g4]
   have hsz' : (w.setRow (bs j0) V.ys.toArray).heap.size = w.heap.size := by simp [World.setRow]
   have hother : ∀ (j : Nat) (V' : VarN), vs[j]? = some V' → j ≠ j0 → V'.a ≠ V.s ∧ V'.s ≠ V.s := fun j V' hj hne => by
    obtain ⟨h1, h2, h3, h4⟩ := hds j V' hj (fun e => hne e.symm)
    exact ⟨fun e => h4 e.symm, fun e => h2 e.symm⟩
   refine hK _ _ (ih _ _ _ hcl ⟨I.base, I.bel.trans hbw, I.defers, I.size, fun s d hs' => (I.facts s d hs').keep hbw, by simp [I.lsize], fun j q s u hj hl hds hvs => ?_, fun j V' hj hl => ?_, bs, fun j V' hj hl => ?_, fun j j' V' V'' hj hj' hl hl' hne => ?_⟩)
   ·have hji : j ≠ V.s := fun e => by
     subst e
     rw [(varsOk_get hv hV).2.2.1] at hvs; cases hvs
    rw [hfar _ hji] at hl
    exact I.got j q s u hj hl hds hvs
   ·by_cases hj0 : j = j0
    ·subst hj0; rw [hV] at hj; injection hj with hj; subst hj
     rw [hfar _ hna]; exact hla
    ·obtain ⟨h1, h2⟩ := hother j V' hj hj0
     rw [hfar _ h2] at hl
     rw [hfar _ h1]; exact I.cl j V' hj hl
   ·by_cases hj0 : j = j0
    ·subst hj0; rw [hV] at hj; injection hj with hj; subst hj
     rw [setD_self hli, if_pos rfl]
     exact ⟨g1, by rw [hsz']; exact g2, g3, hhere⟩
    ·obtain ⟨h1, h2⟩ := hother j V' hj hj0
     rw [hfar _ h1] at hl
     obtain ⟨k1, k2, k3, k4⟩ := hb1 j V' hj hl
     rw [hfar _ h2]
     exact ⟨k1, by rw [hsz']; exact k2, k3, by rw [hsame _ (hb2 j j0 V' V hj hV hl hla hj0)]; exact k4⟩
   ·have e1 : ∀ {j : Nat} {V' : VarN}, vs[j]? = some V' → (listed.setIfInBounds V.s true).getD V'.a false = true → listed.getD V'.a false = true := fun {j V'} hj hl => by
     by_cases hj0 : j = j0
     ·subst hj0; rw [hV] at hj; injection hj with hj; subst hj; exact hla
     ·rwa [hfar _ (hother j V' hj hj0).1] at hl
    exact hb2 j j' V' V'' hj hj' (e1 hj hl) (e1 hj' hl') hne
def varEnv (bs : Nat → Nat) : Nat → List VarN → Env → Env
 | _, [], E => E
 | j, V :: r, E => (V.t, .v (.pointer (some ⟨bs j, 0, none⟩))) :: (1000000 + V.t, blk (bs j) V.T V.ys) :: varEnv bs (j + 1) r E
theorem varEnv_look {bs : Nat → Nat} {E : Env} {t : Nat} {d : D} : ∀ {l : List VarN} {j : Nat}, (varEnv bs j l E).look t = some d → (∃ k V, l[k]? = some V ∧ ((t = V.t ∧ d = .v (.pointer (some ⟨bs (j + k), 0, none⟩))) ∨ (t = 1000000 + V.t ∧ d = blk (bs (j + k)) V.T V.ys))) ∨ E.look t = some d
 | [], _, h => .inr h
 | V :: r, j, h => by
  unfold varEnv at h
  by_cases h1 : V.t = t
  ·subst h1; rw [look_here] at h; injection h with h
   exact .inl ⟨0, V, rfl, .inl ⟨rfl, h.symm⟩⟩
  ·rw [look_past _ _ h1] at h
   by_cases h2 : 1000000 + V.t = t
   ·subst h2; rw [look_here] at h; injection h with h
    exact .inl ⟨0, V, rfl, .inr ⟨rfl, h.symm⟩⟩
   ·rw [look_past _ _ h2] at h
    rcases varEnv_look h with ⟨k, V', h3, h4⟩ | h3
    ·exact .inl ⟨k + 1, V', by simpa using h3, by rw [show j + (k + 1) = j + 1 + k from by omega]; exact h4⟩
    ·exact .inr h3
theorem A.regsV {w₀ : World} {y : Code} {E1 : Env} {id : Nat} (vals : List (Option Value)) (vs : List VarN) (hm : P.follows .mixedOrders = true) (hfit : fits n ops = true) (hd : downsN ops = true) (hv : varsOk ops vals vs = true) (hn : Kops P ops vals vs E0 0 ops.toList) (hf : FromW ops vals E0 E1)
  (h : ∀ bs : Nat → Nat, (∀ j, j < vs.length → NewB w₀.heap.size E0 (bs j)) → (∀ j j', j < vs.length → j' < vs.length → j ≠ j' → bs j ≠ bs j') → A κ P w₀ n y (varEnv bs 0 vs E1) Q) : A κ P w₀ n (.seq (.region id ops true) y) E0 Q := A.seq fun a w hg hst => by
 have hdr : Below w₀.heap.size w w.drew := (Below.refl _ w).drew
 have hn0 := fits_base hfit
 have hst' := hst.grow (Grow.refl w).drew
 have hfin : ∀ l a' w', InvV κ n w₀.heap.size ops vals vs E0 w.drew l a' w' → (∀ i, i < ops.size → l.getD i false = true) → Exit.then (y.wpIn (FR κ.rd) 0 P Q) Q .normal a' w' := fun l a' w' I hall => by
  have key : ∀ t d, E1.look t = some d → d.Of w' (a'.tmps.getD t undef) := by
   clear h
   induction hf with
   | all => exact I.st.of
   | @op s v E j hdj hvj _ ih =>
    intro t d hl
    by_cases hts : s = t
    ·subst hts; rw [look_here] at hl; injection hl with hl; subst hl
     cases hq : ops[j]? with
     | none => rw [hq] at hdj; cases hdj
     | some q =>
      rw [hq] at hdj
      exact I.got j q _ _ hq (hall j (Array.getElem?_eq_some_iff.1 hq).1) hdj hvj
    ·rw [look_past _ _ hts] at hl; exact ih t d hl
  obtain ⟨bs, hb1, hb2⟩ := I.var
  have hla : ∀ (j : Nat) (V : VarN), vs[j]? = some V → l.getD V.a false = true := fun j V hj => hall _ (varsOk_get hv hj).2.2.2.1
  have hls : ∀ (j : Nat) (V : VarN), vs[j]? = some V → l.getD V.s false = true := fun j V hj => hall _ (varsOk_get hv hj).2.2.2.2.1
  refine h bs (fun j hj => ?_) (fun j j' hj hj' hne => hb2 j j' _ _ (List.getElem?_eq_getElem hj) (List.getElem?_eq_getElem hj') (hla _ _ (List.getElem?_eq_getElem hj)) (hla _ _ (List.getElem?_eq_getElem hj')) hne) a' w' (hg.trans (hdr.trans (Below.mono I.bel I.base))) ⟨Nat.le_trans I.base I.bel.size, I.defers, I.size, fun t d hl => ?_⟩
  ·have hk := (hb1 j _ (List.getElem?_eq_getElem hj) (hla _ _ (List.getElem?_eq_getElem hj))).1
   exact ⟨Nat.le_trans I.base hk, fun s b' e xs hs => Nat.lt_of_lt_of_le (hst'.of s _ hs).1 hk⟩
  ·rcases varEnv_look hl with ⟨k, V, hk, hd'⟩ | hl
   ·rw [Nat.zero_add] at hd'
    obtain ⟨g1, g2, g3, g4⟩ := hb1 k V hk (hla k V hk)
    rw [hls k V hk, if_pos rfl] at g4
    rcases hd' with ⟨rfl, rfl⟩ | ⟨rfl, rfl⟩
    ·exact g3
    ·exact ⟨g2, g4⟩
   ·exact key t d hl
 refine wpIn_region_any hm (wp_vars hn0 hfit hd hv hn hfin _ _ _ _ ?_ ⟨hst'.base, Below.refl _ _, hst'.defers, hst'.size, fun t d hl => hst'.of t d hl, by simp, fun i o t v hi hl => ?_, fun j V hj hl => ?_, fun _ => 0, fun j V hj hl => ?_, fun j j' V V' hj _ hl => ?_⟩)
 ·refine Nat.le_trans List.countP_le_length ?_
  simp
 ·simp [(Array.getElem?_eq_some_iff.1 hi).1] at hl
 ·simp [(varsOk_get hv hj).2.2.2.2.1] at hl
 ·simp [(varsOk_get hv hj).2.2.2.1] at hl
 ·simp [(varsOk_get hv hj).2.2.2.1] at hl
theorem FromV.more {vals : List (Option Value)} {o : Oper} {E : Env} {pre : List (Option Value)} (hp : ∀ (j : Nat) (v : Option Value), pre[j]? = some v → vals[j]? = some v) (h : FromV ops pre E0 o E) : FromV ops vals E0 o E := by
 induction h with
 | nil => exact .nil
 | all => exact .all
 | op j he hd hv _ ih => exact .op j he hd (hp _ _ hv) ih
def KopsK (P : Program) (ops : Array Oper) (vs : List VarN) (E0 : Env) (rest : List Oper) (pre : List (Option Value)) (C : List (Option Value) → Prop) : Prop :=
 ∃ vals : List (Option Value), (∀ (j : Nat) (v : Option Value), pre[j]? = some v → vals[j]? = some v) ∧ Kops P ops vals vs E0 pre.length rest ∧ C vals
theorem pre_snoc {α : Type} {pre vals : List α} {v : α} (h : ∀ (j : Nat) (u : α), (pre ++ [v])[j]? = some u → vals[j]? = some u) : (∀ (j : Nat) (u : α), pre[j]? = some u → vals[j]? = some u) ∧ vals[pre.length]? = some v :=
 ⟨fun j u hu => h j u (by rw [List.getElem?_append_left (List.getElem?_eq_some_iff.1 hu).1]; exact hu), h _ _ (by simp)⟩
theorem KopsK.nil {pre : List (Option Value)} {C : List (Option Value) → Prop} (h : C pre) : KopsK P ops vs E0 [] pre C := ⟨pre, fun _ _ h => h, .nil, h⟩
theorem KopsK.pure {o : Oper} {rest : List Oper} {pre : List (Option Value)} {C : List (Option Value) → Prop} {t : Nat} {v : Value} (E : Env) (hd : o.dst = some t) (h0 : E0.look t = none ∨ E0.look t = some (.v v)) (hf : FromV ops pre E0 o E) (hok : ∀ B', OpOk P B' o E (.v v))
  (hr : KopsK P ops vs E0 rest (pre ++ [some v]) C) : KopsK P ops vs E0 (o :: rest) pre C := by
 obtain ⟨vals, h1, h2, h3⟩ := hr
 obtain ⟨h4, h5⟩ := pre_snoc h1
 exact ⟨vals, h4, .cons (.pure E h5 hd h0 (hf.more h4) hok) (by simpa using h2), h3⟩
theorem KopsK.alloc {rest : List Oper} {pre : List (Option Value)} {C : List (Option Value) → Prop} {t : Tmp} {T ty : TypeId} {pos : String} {after : Array Edge} {V : VarN} (j : Nat) (hV : vs[j]? = some V) (ha : V.a = pre.length) (hT : V.T = T) (ht : V.t = t) (hz : ZeroIs P T V.zs) (h0 : E0.look t = none)
  (hr : KopsK P ops vs E0 rest (pre ++ [none]) C) : KopsK P ops vs E0 (⟨some t, .alloc T, ty, pos, after, none⟩ :: rest) pre C := by
 obtain ⟨vals, h1, h2, h3⟩ := hr
 obtain ⟨h4, _⟩ := pre_snoc h1
 exact ⟨vals, h4, .cons (.alloc j hV ha hT ht hz h0) (by simpa using h2), h3⟩
theorem KopsK.store {rest : List Oper} {pre : List (Option Value)} {C : List (Option Value) → Prop} {t T ty : TypeId} {x : Operand} {pos : String} {after : Array Edge} {V : VarN} (j : Nat) (E : Env) (hV : vs[j]? = some V) (hs : V.s = pre.length) (hT : V.T = T) (ht : V.t = t) (he : (after.any fun e => Region.binds .any e && e.on == V.a) = true)
  (hf : FromV ops pre E0 ⟨none, .store T (.tmp t) x, ty, pos, after, none⟩ E) (hx : E.at x = some (.v (aggV V.ys))) (hsz : SizeIs P T V.ys.length) (hl : V.zs.length = V.ys.length) (h1 : V.ys.all (·.oneCell') = true)
  (hr : KopsK P ops vs E0 rest (pre ++ [none]) C) : KopsK P ops vs E0 (⟨none, .store T (.tmp t) x, ty, pos, after, none⟩ :: rest) pre C := by
 obtain ⟨vals, g1, g2, g3⟩ := hr
 obtain ⟨g4, _⟩ := pre_snoc g1
 exact ⟨vals, g4, .cons (.store j E hV hs hT ht he (hf.more g4) hx hsz hl h1) (by simpa using g2), g3⟩
theorem A.regsK {w₀ : World} {y : Code} {id : Nat} (vs : List VarN) (hm : P.follows .mixedOrders = true) (hfit : fits n ops = true) (hd : downsN ops = true)
  (h : KopsK P ops vs E0 ops.toList [] fun vals => varsOk ops vals vs = true ∧ ∃ E1, FromW ops vals E0 E1 ∧ ∀ bs : Nat → Nat, (∀ j, j < vs.length → NewB w₀.heap.size E0 (bs j)) → (∀ j j', j < vs.length → j' < vs.length → j ≠ j' → bs j ≠ bs j') → A κ P w₀ n y (varEnv bs 0 vs E1) Q) : A κ P w₀ n (.seq (.region id ops true) y) E0 Q := by
 obtain ⟨vals, _, h2, h3, E1, h4, h5⟩ := h
 exact A.regsV vals vs hm hfit hd h3 h2 h4 h5
end
end
section
theorem nods_l {T : List NodT} (hT : FitT T) {i : Nat} (hi : i < T.length) : (nodsV T)[i * 274 + 0]? = some (byteV (ndAt T i).l) := by
 have h := nods_at hT hi
 have h2 : (((nodsV T).drop (i * 274)).take 274)[0]? = some (byteV (ndAt T i).l) := by rw [h]; rfl
 rwa [List.getElem?_take, if_pos (by decide), List.getElem?_drop] at h2
theorem nods_j {T : List NodT} (hT : FitT T) {i : Nat} (hi : i < T.length) : (nodsV T)[i * 274 + 1]? = some (.int .u32 ((ndAt T i).j : Int)) := by
 have h := nods_at hT hi
 have h2 : (((nodsV T).drop (i * 274)).take 274)[1]? = some (.int .u32 ((ndAt T i).j : Int)) := by rw [h]; rfl
 rwa [List.getElem?_take, if_pos (by decide), List.getElem?_drop] at h2
theorem nods_ent {T : List NodT} (h : FitT T) {k j : Nat} (hk : k < T.length) (hj : j < 4) : ((nodsV T).drop (k * 274 + 142 + j * 33)).take 33 = ((ndAt T k).e j).v := by
 have h1 := nods_at h hk
 have h2 := (h.at k).ent_at hj
 rw [← h1, List.drop_take, List.drop_drop, List.take_take, Nat.min_eq_left (by omega)] at h2
 rw [Nat.add_assoc]; exact h2
theorem nods_tag {T : List NodT} (h : FitT T) {k j : Nat} (hk : k < T.length) (hj : j < 4) : ((nodsV T).drop (k * 274 + 142 + j * 33 + 1)).take 32 = ((ndAt T k).e j).t.map byteV := by
 have h1 := nods_ent h hk hj
 have h2 := ent_t ((h.at k).e j)
 rw [← h1, List.drop_take, List.drop_drop, List.take_take, Nat.min_eq_left (by omega)] at h2
 exact h2
theorem wantV_pos {n x i : Nat} {d : List UInt8} {T : List NodT} (h : 0 < i) : wantV n d x T i = ((ndAt T (i - 1)).e (pidx n x i % 4)).t := by
 obtain ⟨k, rfl⟩ : ∃ k, i = k + 1 := ⟨i - 1, by omega⟩
 rfl
theorem ver_at {n x i : Nat} {d : List UInt8} {T : List NodT} {e : Int} (h1 : 1 ≤ n) (h2 : n ≤ 4096) (hx : x < n) (hl0 : 0 < T.length) (hlh : T.length ≤ hg n + 1) (hz : ∀ k, k < i → verE n d x T k = 0) (hi : i < T.length) (he : verE n d x T i = e) (h0 : e ≠ 0) : ver n d x T = e ∧ verR n d x T = RecT.zero := by
 have hv := ver_ok (d := d) h1 h2 hx (T := T) (by omega)
 have hf := fstN_at hz (by rw [he]; exact h0) hi
 rw [hf, he] at hv
 exact ⟨hv, verR_no (by rw [hv]; exact h0)⟩
theorem ver_part {n x : Nat} {d : List UInt8} {T : List NodT} (h1 : 1 ≤ n) (h2 : n ≤ 4096) (hx : x < n) (hl0 : 0 < T.length) (hlh : T.length ≤ hg n) (hz : ∀ k, k < T.length → verE n d x T k = 0) : ver n d x T = 0 ∧ verR n d x T = RecT.zero := by
 have hv := ver_ok (d := d) h1 h2 hx (T := T) (by omega)
 rw [fstN_zero.2 hz] at hv
 exact ⟨hv, verR_part (by omega)⟩
theorem ver_all {n x : Nat} {d : List UInt8} {T : List NodT} (h1 : 1 ≤ n) (h2 : n ≤ 4096) (hx : x < n) (hl : T.length = hg n + 1) (hz : ∀ k, k < T.length → verE n d x T k = 0) : ver n d x T = 0 ∧ verR n d x T = (ndAt T (hg n)).r (x % 4) := by
 have hv := ver_ok (d := d) h1 h2 hx (T := T) (by omega)
 rw [fstN_zero.2 hz] at hv
 exact ⟨hv, verR_all hv hl⟩
theorem vz4 {i m : Nat} (k : Nat) (h : i < m) : (k = 0 ∧ i + 1 < m) ∨ (k = 0 ∧ i + 1 = m) ∨ (k ≠ 0 ∧ i + 1 < m) ∨ (k ≠ 0 ∧ i + 1 = m) := by omega
theorem hz_step {n x i : Nat} {d : List UInt8} {T : List NodT} (hG : ∀ k, k < i → verE n d x T k = 0) (h : verE n d x T i = 0) : ∀ k, k < i + 1 → verE n d x T k = 0 := fun k hk => (Nat.lt_or_ge k i).elim (hG k) fun hh => by rw [show k = i from by omega]; exact h
theorem rVer_lo (n x : Int) (h : n < 1) (d : List UInt8) (hd : d.length = 32) (A₀ : Option Addr) (T : List NodT) (hT : FitT T) (c : Nat)  : FnM Tryz.prog 31 (trO A₀ T) [.v (.int .i64 (n)), .v (aggV (d.map byteV)), .v (.int .i64 (x)), .v (.slice A₀ T.length c)] (.v (.tuple #[aggV RecT.zero.v, .int .i64 1])) := by
 refine FnM.ofO Tryz.func31 rfl (by kernel_rfl) Tryz.ntmps31 (by simp) (by decide) (fun w => [(0, .v (.int .i64 (n))), (1, .v (aggV (d.map byteV))), (2, .v (.int .i64 (x))), (3, .v (.slice A₀ T.length c)), (1000501, old w.heap.size (memR A₀ (nodsV T)))]) (fun w => (StartMO.v rfl (StartMO.v rfl (StartMO.v rfl (StartMO.v rfl (StartMO.mo (by simp [trO]) (by decide) StartMO.nil)))))) fun w₀ hM => ?_
 skip
 refine GS (TN 0 (RN ?_));refine ZB 1000005 rfl fun b5 ⟨hBb5, hb5⟩ => ?_
 refine TN 1 (RN ?_);refine ZN 1000008 zero51 fun b8 ⟨hBb8, hb8⟩ => ?_
 refine TL (RVN 1 rfl ?_);refine QS (GT (RV 2 rfl ?_));refine RZ (.bool true) (congrArg Value.bool (decide_eq_true (by omega))) ?_;refine RV 4 rfl ?_;refine RT ?_;refine RV 4 rfl ?_;refine RT ?_;refine RV 5 rfl ?_;refine RT ?_;refine RV 5 rfl ?_;refine RT ?_;refine RV 8 rfl ?_;refine RT ?_;refine RN (A.sub (Sv [0,2,3,5,8,41,1000005,1000008,1000501] rfl) ?_);refine A.yes rfl ?_;refine GS (TF 1 (RS (ok_lit [] (RecT.v RecT.zero) (fun _ _ => rfl) (by kernel_rfl)) ?_));refine RN ?_;refine ⟨_, eff_storeA (n := 158) (s := 1000008) (size51.of (RecT.zero_fit.len)) rfl rfl (RecT.one _) hBb8 rfl (by rw [RecT.zero_fit.len]; rfl) (LV 8 rfl (LT 1000005 rfl (LO 1000501 rfl LN))), ?_⟩
 refine TL (RVN 1 rfl ?_);refine A.ret (End.ret_then ?_);exact End.cellV (s := 1000008) rfl U51 rfl (size51.of (RecT.zero_fit.len)) rfl rfl rfl
theorem rVer_hi (n x : Int) (h : 4096 < n) (d : List UInt8) (hd : d.length = 32) (A₀ : Option Addr) (T : List NodT) (hT : FitT T) (c : Nat)  : FnM Tryz.prog 31 (trO A₀ T) [.v (.int .i64 (n)), .v (aggV (d.map byteV)), .v (.int .i64 (x)), .v (.slice A₀ T.length c)] (.v (.tuple #[aggV RecT.zero.v, .int .i64 1])) := by
 refine FnM.ofO Tryz.func31 rfl (by kernel_rfl) Tryz.ntmps31 (by simp) (by decide) (fun w => [(0, .v (.int .i64 (n))), (1, .v (aggV (d.map byteV))), (2, .v (.int .i64 (x))), (3, .v (.slice A₀ T.length c)), (1000501, old w.heap.size (memR A₀ (nodsV T)))]) (fun w => (StartMO.v rfl (StartMO.v rfl (StartMO.v rfl (StartMO.v rfl (StartMO.mo (by simp [trO]) (by decide) StartMO.nil)))))) fun w₀ hM => ?_
 skip
 refine GS (TN 0 (RN ?_));refine ZB 1000005 rfl fun b5 ⟨hBb5, hb5⟩ => ?_
 refine TN 1 (RN ?_);refine ZN 1000008 zero51 fun b8 ⟨hBb8, hb8⟩ => ?_
 refine TL (RVN 1 rfl ?_);refine QS (GT (RV 2 rfl ?_));refine RZ (.bool false) (congrArg Value.bool (decide_eq_false (by omega))) ?_;refine RV 3 rfl ?_;refine RZ (.bool true) (congrArg Value.bool (decide_eq_true (by omega))) ?_;refine RP rfl rfl ?_;refine RT ?_;refine RV 4 rfl ?_;refine RT ?_;refine RV 5 rfl ?_;refine RT ?_;refine RV 5 rfl ?_;refine RT ?_;refine RV 8 rfl ?_;refine RT ?_;refine RN (A.sub (Sv [0,2,3,5,8,41,1000005,1000008,1000501] rfl) ?_);refine A.yes rfl ?_;refine GS (TF 1 (RS (ok_lit [] (RecT.v RecT.zero) (fun _ _ => rfl) (by kernel_rfl)) ?_));refine RN ?_;refine ⟨_, eff_storeA (n := 158) (s := 1000008) (size51.of (RecT.zero_fit.len)) rfl rfl (RecT.one _) hBb8 rfl (by rw [RecT.zero_fit.len]; rfl) (LV 8 rfl (LT 1000005 rfl (LO 1000501 rfl LN))), ?_⟩
 refine TL (RVN 1 rfl ?_);refine A.ret (End.ret_then ?_);exact End.cellV (s := 1000008) rfl U51 rfl (size51.of (RecT.zero_fit.len)) rfl rfl rfl
theorem rVer_neg (n : Nat) (h1 : 1 ≤ n) (h2 : n ≤ 4096) (x : Int) (h : x < 0) (d : List UInt8) (hd : d.length = 32) (A₀ : Option Addr) (T : List NodT) (hT : FitT T) (c : Nat)  : FnM Tryz.prog 31 (trO A₀ T) [.v (nI (n)), .v (aggV (d.map byteV)), .v (.int .i64 (x)), .v (.slice A₀ T.length c)] (.v (.tuple #[aggV RecT.zero.v, .int .i64 1])) := by
 have hh := hg_le n
 refine FnM.ofO Tryz.func31 rfl (by kernel_rfl) Tryz.ntmps31 (by simp) (by decide) (fun w => [(0, .v (nI (n))), (1, .v (aggV (d.map byteV))), (2, .v (.int .i64 (x))), (3, .v (.slice A₀ T.length c)), (1000501, old w.heap.size (memR A₀ (nodsV T)))]) (fun w => (StartMO.v rfl (StartMO.v rfl (StartMO.v rfl (StartMO.v rfl (StartMO.mo (by simp [trO]) (by decide) StartMO.nil)))))) fun w₀ hM => ?_
 skip
 refine GS (TN 0 (RN ?_));refine ZB 1000005 rfl fun b5 ⟨hBb5, hb5⟩ => ?_
 refine TN 1 (RN ?_);refine ZN 1000008 zero51 fun b8 ⟨hBb8, hb8⟩ => ?_
 refine TL (RVN 1 rfl ?_);refine QS (GT (RV 2 rfl ?_));refine RZ (.bool false) (congrArg Value.bool (decide_eq_false (by omega))) ?_;refine RV 3 rfl ?_;refine RZ (.bool false) (congrArg Value.bool (decide_eq_false (by omega))) ?_;refine RP rfl rfl ?_;refine RF ?_;refine RV 3 rfl ?_;refine RZ (.bool true) (congrArg Value.bool (decide_eq_true (by omega))) ?_;refine RP rfl rfl ?_;refine RT ?_;refine RV 5 rfl ?_;refine RT ?_;refine RV 5 rfl ?_;refine RT ?_;refine RV 8 rfl ?_;refine RT ?_;refine RN (A.sub (Sv [0,2,3,5,8,41,1000005,1000008,1000501] rfl) ?_);refine A.yes rfl ?_;refine GS (TF 1 (RS (ok_lit [] (RecT.v RecT.zero) (fun _ _ => rfl) (by kernel_rfl)) ?_));refine RN ?_;refine ⟨_, eff_storeA (n := 158) (s := 1000008) (size51.of (RecT.zero_fit.len)) rfl rfl (RecT.one _) hBb8 rfl (by rw [RecT.zero_fit.len]; rfl) (LV 8 rfl (LT 1000005 rfl (LO 1000501 rfl LN))), ?_⟩
 refine TL (RVN 1 rfl ?_);refine A.ret (End.ret_then ?_);exact End.cellV (s := 1000008) rfl U51 rfl (size51.of (RecT.zero_fit.len)) rfl rfl rfl
theorem rVer_big (n : Nat) (h1 : 1 ≤ n) (h2 : n ≤ 4096) (x : Int) (h0 : 0 ≤ x) (h : n ≤ x) (d : List UInt8) (hd : d.length = 32) (A₀ : Option Addr) (T : List NodT) (hT : FitT T) (c : Nat)  : FnM Tryz.prog 31 (trO A₀ T) [.v (nI (n)), .v (aggV (d.map byteV)), .v (.int .i64 (x)), .v (.slice A₀ T.length c)] (.v (.tuple #[aggV RecT.zero.v, .int .i64 1])) := by
 have hh := hg_le n
 refine FnM.ofO Tryz.func31 rfl (by kernel_rfl) Tryz.ntmps31 (by simp) (by decide) (fun w => [(0, .v (nI (n))), (1, .v (aggV (d.map byteV))), (2, .v (.int .i64 (x))), (3, .v (.slice A₀ T.length c)), (1000501, old w.heap.size (memR A₀ (nodsV T)))]) (fun w => (StartMO.v rfl (StartMO.v rfl (StartMO.v rfl (StartMO.v rfl (StartMO.mo (by simp [trO]) (by decide) StartMO.nil)))))) fun w₀ hM => ?_
 skip
 refine GS (TN 0 (RN ?_));refine ZB 1000005 rfl fun b5 ⟨hBb5, hb5⟩ => ?_
 refine TN 1 (RN ?_);refine ZN 1000008 zero51 fun b8 ⟨hBb8, hb8⟩ => ?_
 refine TL (RVN 1 rfl ?_);refine QS (GT (RV 2 rfl ?_));refine RZ (.bool false) (congrArg Value.bool (decide_eq_false (by omega))) ?_;refine RV 3 rfl ?_;refine RZ (.bool false) (congrArg Value.bool (decide_eq_false (by omega))) ?_;refine RP rfl rfl ?_;refine RF ?_;refine RV 3 rfl ?_;refine RZ (.bool false) (congrArg Value.bool (decide_eq_false (by omega))) ?_;refine RP rfl rfl ?_;refine RF ?_;refine RV 4 rfl ?_;refine RZ (.bool true) (congrArg Value.bool (decide_eq_true (by omega))) ?_;refine RP rfl rfl ?_;refine RT ?_;refine RV 5 rfl ?_;refine RT ?_;refine RV 8 rfl ?_;refine RT ?_;refine RN (A.sub (Sv [0,2,3,5,8,41,1000005,1000008,1000501] rfl) ?_);refine A.yes rfl ?_;refine GS (TF 1 (RS (ok_lit [] (RecT.v RecT.zero) (fun _ _ => rfl) (by kernel_rfl)) ?_));refine RN ?_;refine ⟨_, eff_storeA (n := 158) (s := 1000008) (size51.of (RecT.zero_fit.len)) rfl rfl (RecT.one _) hBb8 rfl (by rw [RecT.zero_fit.len]; rfl) (LV 8 rfl (LT 1000005 rfl (LO 1000501 rfl LN))), ?_⟩
 refine TL (RVN 1 rfl ?_);refine A.ret (End.ret_then ?_);exact End.cellV (s := 1000008) rfl U51 rfl (size51.of (RecT.zero_fit.len)) rfl rfl rfl
theorem rVer_0 (n : Nat) (h1 : 1 ≤ n) (h2 : n ≤ 4096) (x : Nat) (hx : x < n) (d : List UInt8) (hd : d.length = 32) (A₀ : Option Addr) (T : List NodT) (hT : FitT T) (c : Nat) (h : T.length = 0)  : FnM Tryz.prog 31 (trO A₀ T) [.v (nI (n)), .v (aggV (d.map byteV)), .v (nI (x)), .v (.slice A₀ T.length c)] (.v (.tuple #[aggV RecT.zero.v, .int .i64 1])) := by
 have hh := hg_le n
 refine FnM.ofO Tryz.func31 rfl (by kernel_rfl) Tryz.ntmps31 (by simp) (by decide) (fun w => [(0, .v (nI (n))), (1, .v (aggV (d.map byteV))), (2, .v (nI (x))), (3, .v (.slice A₀ T.length c)), (1000501, old w.heap.size (memR A₀ (nodsV T)))]) (fun w => (StartMO.v rfl (StartMO.v rfl (StartMO.v rfl (StartMO.v rfl (StartMO.mo (by simp [trO]) (by decide) StartMO.nil)))))) fun w₀ hM => ?_
 skip
 refine GS (TN 0 (RN ?_));refine ZB 1000005 rfl fun b5 ⟨hBb5, hb5⟩ => ?_
 refine TN 1 (RN ?_);refine ZN 1000008 zero51 fun b8 ⟨hBb8, hb8⟩ => ?_
 refine TL (RVN 1 rfl ?_);refine QS (GT (RV 2 rfl ?_));refine RZ (.bool false) (congrArg Value.bool (decide_eq_false (by omega))) ?_;refine RV 3 rfl ?_;refine RZ (.bool false) (congrArg Value.bool (decide_eq_false (by omega))) ?_;refine RP rfl rfl ?_;refine RF ?_;refine RV 3 rfl ?_;refine RZ (.bool false) (congrArg Value.bool (decide_eq_false (by omega))) ?_;refine RP rfl rfl ?_;refine RF ?_;refine RV 4 rfl ?_;refine RZ (.bool false) (congrArg Value.bool (decide_eq_false (by omega))) ?_;refine RP rfl rfl ?_;refine RF ?_;refine RV 2 rfl ?_;refine RQ (ok_lenV U30 rfl) ?_;refine RQ (ok_bin rfl rfl rfl) ?_;refine RZ (.bool true) (congrArg Value.bool (decide_eq_true (by omega))) ?_;refine RP rfl rfl ?_;refine RT ?_;refine RV 8 rfl ?_;refine RT ?_;refine RN (A.sub (Sv [0,2,3,5,8,41,1000005,1000008,1000501] rfl) ?_);refine A.yes rfl ?_;refine GS (TF 1 (RS (ok_lit [] (RecT.v RecT.zero) (fun _ _ => rfl) (by kernel_rfl)) ?_));refine RN ?_;refine ⟨_, eff_storeA (n := 158) (s := 1000008) (size51.of (RecT.zero_fit.len)) rfl rfl (RecT.one _) hBb8 rfl (by rw [RecT.zero_fit.len]; rfl) (LV 8 rfl (LT 1000005 rfl (LO 1000501 rfl LN))), ?_⟩
 refine TL (RVN 1 rfl ?_);refine A.ret (End.ret_then ?_);exact End.cellV (s := 1000008) rfl U51 rfl (size51.of (RecT.zero_fit.len)) rfl rfl rfl
theorem rVer_l (n : Nat) (h1 : 1 ≤ n) (h2 : n ≤ 4096) (x : Nat) (hx : x < n) (d : List UInt8) (hd : d.length = 32) (A₀ : Option Addr) (T : List NodT) (hT : FitT T) (c : Nat) (h0 : T.length ≠ 0) (h : hg n + 1 < T.length)  : FnM Tryz.prog 31 (trO A₀ T) [.v (nI (n)), .v (aggV (d.map byteV)), .v (nI (x)), .v (.slice A₀ T.length c)] (.v (.tuple #[aggV RecT.zero.v, .int .i64 1])) := by
 have hh := hg_le n
 refine FnM.ofO Tryz.func31 rfl (by kernel_rfl) Tryz.ntmps31 (by simp) (by decide) (fun w => [(0, .v (nI (n))), (1, .v (aggV (d.map byteV))), (2, .v (nI (x))), (3, .v (.slice A₀ T.length c)), (1000501, old w.heap.size (memR A₀ (nodsV T)))]) (fun w => (StartMO.v rfl (StartMO.v rfl (StartMO.v rfl (StartMO.v rfl (StartMO.mo (by simp [trO]) (by decide) StartMO.nil)))))) fun w₀ hM => ?_
 skip
 refine GS (TN 0 (RN ?_));refine ZB 1000005 rfl fun b5 ⟨hBb5, hb5⟩ => ?_
 refine TN 1 (RN ?_);refine ZN 1000008 zero51 fun b8 ⟨hBb8, hb8⟩ => ?_
 refine TL (RVN 1 rfl ?_);refine QS (GT (RV 2 rfl ?_));refine RZ (.bool false) (congrArg Value.bool (decide_eq_false (by omega))) ?_;refine RV 3 rfl ?_;refine RZ (.bool false) (congrArg Value.bool (decide_eq_false (by omega))) ?_;refine RP rfl rfl ?_;refine RF ?_;refine RV 3 rfl ?_;refine RZ (.bool false) (congrArg Value.bool (decide_eq_false (by omega))) ?_;refine RP rfl rfl ?_;refine RF ?_;refine RV 4 rfl ?_;refine RZ (.bool false) (congrArg Value.bool (decide_eq_false (by omega))) ?_;refine RP rfl rfl ?_;refine RF ?_;refine RV 2 rfl ?_;refine RQ (ok_lenV U30 rfl) ?_;refine RQ (ok_bin rfl rfl rfl) ?_;refine RZ (.bool false) (congrArg Value.bool (decide_eq_false (by omega))) ?_;refine RP rfl rfl ?_;refine RF ?_;refine RV 2 rfl ?_;refine RQ (ok_lenV U30 rfl) ?_;refine RQ (ok_move rfl) ?_;refine RQ (ok_call (rHeight_fn n h1 h2) (A1 rfl)) ?_;refine RQ (ok_bin rfl rfl rfl) ?_;refine RZ (nI (hg n + 1)) (wrap_eq (by omega) (by omega)) ?_;refine RQ (ok_bin rfl rfl rfl) ?_;refine RZ (.bool true) (congrArg Value.bool (decide_eq_true (by omega))) ?_;refine RP rfl rfl ?_;refine RT ?_;refine RN (A.sub (Sv [0,2,3,5,8,41,1000005,1000008,1000501] rfl) ?_);refine A.yes rfl ?_;refine GS (TF 1 (RS (ok_lit [] (RecT.v RecT.zero) (fun _ _ => rfl) (by kernel_rfl)) ?_));refine RN ?_;refine ⟨_, eff_storeA (n := 158) (s := 1000008) (size51.of (RecT.zero_fit.len)) rfl rfl (RecT.one _) hBb8 rfl (by rw [RecT.zero_fit.len]; rfl) (LV 8 rfl (LT 1000005 rfl (LO 1000501 rfl LN))), ?_⟩
 refine TL (RVN 1 rfl ?_);refine A.ret (End.ret_then ?_);exact End.cellV (s := 1000008) rfl U51 rfl (size51.of (RecT.zero_fit.len)) rfl rfl rfl
set_option maxHeartbeats 8000000 in
theorem rVer_ok (n : Nat) (h1 : 1 ≤ n) (h2 : n ≤ 4096) (x : Nat) (hx : x < n) (d : List UInt8) (hd : d.length = 32) (ad : Addr) (T : List NodT) (hT : FitT T) (c : Nat) (hl0 : 0 < T.length) (hlh : T.length ≤ hg n + 1)  : FnM Tryz.prog 31 (trM ad T) [.v (nI (n)), .v (aggV (d.map byteV)), .v (nI (x)), .v (.slice (some ad) T.length c)] (.v (.tuple #[aggV (verR n d x T).v, .int .i64 (ver n d x T)])) := by
 have hh := hg_le n
 have hx4 : x % 4 < 4 := Nat.mod_lt _ (by decide)
 refine FnM.ofO Tryz.func31 rfl (by kernel_rfl) Tryz.ntmps31 (by simp) (by decide) (fun w => [(0, .v (nI (n))), (1, .v (aggV (d.map byteV))), (2, .v (nI (x))), (3, .v (.slice (some ad) T.length c)), (1000501, old w.heap.size (memR (some ad) (nodsV T)))]) (fun w => (StartMO.v rfl (StartMO.v rfl (StartMO.v rfl (StartMO.v rfl (StartMO.mo (by simp [trM]) (by decide) StartMO.nil)))))) fun w₀ hM => ?_
 skip
 refine GS (TN 0 (RN ?_));refine ZB 1000005 rfl fun b5 ⟨hBb5, hb5⟩ => ?_
 refine TN 1 (RN ?_);refine ZN 1000008 zero51 fun b8 ⟨hBb8, hb8⟩ => ?_
 refine TL (RVN 1 rfl ?_);refine QS (GT (RV 2 rfl ?_));refine RZ (.bool false) (congrArg Value.bool (decide_eq_false (by omega))) ?_;refine RV 3 rfl ?_;refine RZ (.bool false) (congrArg Value.bool (decide_eq_false (by omega))) ?_;refine RP rfl rfl ?_;refine RF ?_;refine RV 3 rfl ?_;refine RZ (.bool false) (congrArg Value.bool (decide_eq_false (by omega))) ?_;refine RP rfl rfl ?_;refine RF ?_;refine RV 4 rfl ?_;refine RZ (.bool false) (congrArg Value.bool (decide_eq_false (by omega))) ?_;refine RP rfl rfl ?_;refine RF ?_;refine RV 2 rfl ?_;refine RQ (ok_lenV U30 rfl) ?_;refine RQ (ok_bin rfl rfl rfl) ?_;refine RZ (.bool false) (congrArg Value.bool (decide_eq_false (by omega))) ?_;refine RP rfl rfl ?_;refine RF ?_;refine RV 2 rfl ?_;refine RQ (ok_lenV U30 rfl) ?_;refine RQ (ok_move rfl) ?_;refine RQ (ok_call (rHeight_fn n h1 h2) (A1 rfl)) ?_;refine RQ (ok_bin rfl rfl rfl) ?_;refine RZ (nI (hg n + 1)) (wrap_eq (by omega) (by omega)) ?_;refine RQ (ok_bin rfl rfl rfl) ?_;refine RZ (.bool false) (congrArg Value.bool (decide_eq_false (by omega))) ?_;refine RP rfl rfl ?_;refine RF ?_;refine RN (A.sub (Sv [0,2,3,5,8,41,1000005,1000008,1000501] rfl) ?_);refine A.no rfl ?_;refine QK (GT (RM rfl ?_));refine RS (ok_call (rHeight_fn n h1 h2) (A1 rfl)) ?_;refine RVN 1 rfl ?_;refine QS (GV rfl (A.block ?_));refine A.loop (ι := Nat) (fun i => i ≤ T.length ∧ i ≤ hg n ∧ ∀ k, k < i → verE n d x T k = 0) (fun i => [(0, .v (nI (n))), (2, .v (nI (x))), (3, .v (.slice (some ad) T.length c)), (5, .v (ptr b5)), (8, .v (ptr b8)), (10, .v (nI (hg n))), (11, .v (nI (i))), (1000005, blk b5 40 (d.map byteV)), (1000008, blk b8 51 RecT.zero.v), (1000501, old w₀.heap.size (memR (some ad) (nodsV T)))]) (fun i => T.length - i) 0 ?_ ?_ ?_
 ·exact ⟨Nat.zero_le _, Nat.zero_le _, fun k h => absurd h (Nat.not_lt_zero _)⟩
 ·exact (KC 0 rfl (KC 2 rfl (KC 3 rfl (KC 5 rfl (KC 8 rfl (KC 10 rfl (KE 11 rfl (by rfl) (KC 1000005 rfl (KE 1000008 rfl (by rfl) (KC 1000501 rfl KN))))))))))
 intro i hG
 refine QS (GT (RV 2 rfl ?_));refine RS (ok_lenV U30 rfl) ?_;refine RVN 1 rfl ?_;refine A.cond rfl (fun hc48 => ?_) (fun hc48 => ?_)
 ·have hi : i < T.length := by simp at hc48; omega
  refine QK (QSB (QS ?_))
  rcases fit3 (ndAt T i) (hg n - i) (pidx n x i) with ha | ⟨ha, hb⟩ | ⟨ha, hb⟩
  ·refine GTD (RV 2 rfl ?_);refine RS (ok_indexRX (i) U30 infoN rfl rfl hi) ?_;refine RS (ok_fieldRX field57_0 (by decide) rfl) ?_;refine RS (ok_loadRX (u := byteV (ndAt T i).l) (s := 1000501) U5 rfl rfl (by decide) rfl (nods_l hT hi)) ?_;refine RS (ok_conv U5 U3 rfl) ?_;refine RZ (nI ((ndAt T i).l.toNat)) (congrArg (Value.int .i64) (wrap_i64 (by omega) (by have := (ndAt T i).l.toNat_lt; omega))) ?_;refine RV 3 rfl ?_;refine RZ (nI ((hg n - i))) (wrap_eq (by omega) (by omega)) ?_;refine RB rfl rfl rfl ?_;refine RZ (.bool true) (by simp; omega) ?_;refine RV 14 rfl ?_;refine RT ?_;refine RV 9 rfl ?_;refine RT ?_;refine RN (A.sub (Sv [0,2,3,5,8,10,11,83,1000005,1000008,1000501] rfl) ?_);refine A.yes rfl ?_;refine GS (TF 1 (RS (ok_lit [] (RecT.v RecT.zero) (fun _ _ => rfl) (by kernel_rfl)) ?_));refine RN ?_;refine ⟨_, eff_storeA (n := 158) (s := 1000008) (size51.of (by first | exact RecT.zero_fit.len | exact ((hT.at _).r _).len)) rfl rfl (RecT.one _) hBb8 rfl (by first | rfl | (rw [((hT.at _).r _).len]; rfl) | (rw [RecT.zero_fit.len]; rfl)) (LV 8 rfl (LT 1000005 rfl (LO 1000501 rfl LN))), ?_⟩
   refine TL (RVN 1 rfl ?_);refine A.ret (End.ret_then (End.ret_block (End.ret_then (End.ret_then (End.ret_block (End.ret_then ?_))))))
   first | (rw [hres.1, hres.2]; exact End.cellV (s := 1000008) rfl U51 rfl (size51.of (by first | exact RecT.zero_fit.len | exact ((hT.at _).r _).len)) rfl rfl rfl) | (have hres := ver_at (e := 17) (d := d) h1 h2 hx hl0 hlh hG.2.2 hi (verE_17 (by simpa using fun h => ha (fitA_iff.1 h).1)) (by decide); rw [hres.1, hres.2]; exact End.cellV (s := 1000008) rfl U51 rfl (size51.of RecT.zero_fit.len) rfl rfl rfl) | (have hres := ver_at (e := 17) (d := d) h1 h2 hx hl0 hlh hG.2.2 hi (verE_17 (by simpa using fun h => hb (fitA_iff.1 h).2.1)) (by decide); rw [hres.1, hres.2]; exact End.cellV (s := 1000008) rfl U51 rfl (size51.of RecT.zero_fit.len) rfl rfl rfl) | (have hres := ver_at (e := 9) (d := d) h1 h2 hx hl0 hlh hG.2.2 hi (verE_9z hfa heq hlt (fun h => by have hh2 := heZ.symm.trans (decide_eq_decide.1 h); omega)) (by decide); rw [hres.1, hres.2]; exact End.cellV (s := 1000008) rfl U51 rfl (size51.of RecT.zero_fit.len) rfl rfl rfl)
  ·refine GTD (RV 2 rfl ?_);refine RS (ok_indexRX (i) U30 infoN rfl rfl hi) ?_;refine RS (ok_fieldRX field57_0 (by decide) rfl) ?_;refine RS (ok_loadRX (u := byteV (ndAt T i).l) (s := 1000501) U5 rfl rfl (by decide) rfl (nods_l hT hi)) ?_;refine RS (ok_conv U5 U3 rfl) ?_;refine RZ (nI ((ndAt T i).l.toNat)) (congrArg (Value.int .i64) (wrap_i64 (by omega) (by have := (ndAt T i).l.toNat_lt; omega))) ?_;refine RV 3 rfl ?_;refine RZ (nI ((hg n - i))) (wrap_eq (by omega) (by omega)) ?_;refine RB rfl rfl rfl ?_;refine RZ (.bool false) (by simp [ha]) ?_;refine RV 3 rfl ?_;refine RQ (ok_indexRX (i) U30 infoN rfl rfl hi) ?_;refine RQ (ok_fieldRX field57_1 (by decide) rfl) ?_;refine RQ (ok_loadRX (u := .int .u32 ((ndAt T i).j : Int)) (s := 1000501) U46 rfl rfl (by decide) rfl (nods_j hT hi)) ?_;refine RQ (ok_conv U46 U3 rfl) ?_;refine RZ (nI ((ndAt T i).j)) (congrArg (Value.int .i64) (wrap_i64 (by omega) (by have := (hT.at i).j; omega))) ?_;refine RV 4 rfl ?_;refine RZ (nI ((hg n - i))) (wrap_eq (by omega) (by omega)) ?_;refine RQ (ok_call (rIndex_fn x (hg n - i) (by omega) (by omega)) (A2 rfl rfl)) ?_;refine RZ (nI ((pidx n x i))) (by rfl) ?_;refine RQ (ok_bin rfl rfl rfl) ?_;refine RZ (.bool true) (by simp; omega) ?_;refine RP rfl rfl ?_;refine RT ?_;refine RV 9 rfl ?_;refine RT ?_;refine RN (A.sub (Sv [0,2,3,5,8,10,11,83,1000005,1000008,1000501] rfl) ?_);refine A.yes rfl ?_;refine GS (TF 1 (RS (ok_lit [] (RecT.v RecT.zero) (fun _ _ => rfl) (by kernel_rfl)) ?_));refine RN ?_;refine ⟨_, eff_storeA (n := 158) (s := 1000008) (size51.of (by first | exact RecT.zero_fit.len | exact ((hT.at _).r _).len)) rfl rfl (RecT.one _) hBb8 rfl (by first | rfl | (rw [((hT.at _).r _).len]; rfl) | (rw [RecT.zero_fit.len]; rfl)) (LV 8 rfl (LT 1000005 rfl (LO 1000501 rfl LN))), ?_⟩
   refine TL (RVN 1 rfl ?_);refine A.ret (End.ret_then (End.ret_block (End.ret_then (End.ret_then (End.ret_block (End.ret_then ?_))))))
   first | (rw [hres.1, hres.2]; exact End.cellV (s := 1000008) rfl U51 rfl (size51.of (by first | exact RecT.zero_fit.len | exact ((hT.at _).r _).len)) rfl rfl rfl) | (have hres := ver_at (e := 17) (d := d) h1 h2 hx hl0 hlh hG.2.2 hi (verE_17 (by simpa using fun h => ha (fitA_iff.1 h).1)) (by decide); rw [hres.1, hres.2]; exact End.cellV (s := 1000008) rfl U51 rfl (size51.of RecT.zero_fit.len) rfl rfl rfl) | (have hres := ver_at (e := 17) (d := d) h1 h2 hx hl0 hlh hG.2.2 hi (verE_17 (by simpa using fun h => hb (fitA_iff.1 h).2.1)) (by decide); rw [hres.1, hres.2]; exact End.cellV (s := 1000008) rfl U51 rfl (size51.of RecT.zero_fit.len) rfl rfl rfl) | (have hres := ver_at (e := 9) (d := d) h1 h2 hx hl0 hlh hG.2.2 hi (verE_9z hfa heq hlt (fun h => by have hh2 := heZ.symm.trans (decide_eq_decide.1 h); omega)) (by decide); rw [hres.1, hres.2]; exact End.cellV (s := 1000008) rfl U51 rfl (size51.of RecT.zero_fit.len) rfl rfl rfl)
  ·refine GTD (RV 2 rfl ?_);refine RS (ok_indexRX (i) U30 infoN rfl rfl hi) ?_;refine RS (ok_fieldRX field57_0 (by decide) rfl) ?_;refine RS (ok_loadRX (u := byteV (ndAt T i).l) (s := 1000501) U5 rfl rfl (by decide) rfl (nods_l hT hi)) ?_;refine RS (ok_conv U5 U3 rfl) ?_;refine RZ (nI ((ndAt T i).l.toNat)) (congrArg (Value.int .i64) (wrap_i64 (by omega) (by have := (ndAt T i).l.toNat_lt; omega))) ?_;refine RV 3 rfl ?_;refine RZ (nI ((hg n - i))) (wrap_eq (by omega) (by omega)) ?_;refine RB rfl rfl rfl ?_;refine RZ (.bool false) (by simp [ha]) ?_;refine RV 3 rfl ?_;refine RQ (ok_indexRX (i) U30 infoN rfl rfl hi) ?_;refine RQ (ok_fieldRX field57_1 (by decide) rfl) ?_;refine RQ (ok_loadRX (u := .int .u32 ((ndAt T i).j : Int)) (s := 1000501) U46 rfl rfl (by decide) rfl (nods_j hT hi)) ?_;refine RQ (ok_conv U46 U3 rfl) ?_;refine RZ (nI ((ndAt T i).j)) (congrArg (Value.int .i64) (wrap_i64 (by omega) (by have := (hT.at i).j; omega))) ?_;refine RV 4 rfl ?_;refine RZ (nI ((hg n - i))) (wrap_eq (by omega) (by omega)) ?_;refine RQ (ok_call (rIndex_fn x (hg n - i) (by omega) (by omega)) (A2 rfl rfl)) ?_;refine RZ (nI ((pidx n x i))) (by rfl) ?_;refine RQ (ok_bin rfl rfl rfl) ?_;refine RZ (.bool false) (by simp [hb]) ?_;refine RP rfl rfl ?_;refine RF ?_;refine RV 4 rfl ?_;refine RQ (ok_indexRX (i) U30 infoN rfl rfl hi) ?_;refine RQ (ok_loadRXT (ys := (ndAt T i).v) (s := 1000501) U57 rfl (size57.of (hT.at _).len) rfl (by decide) rfl (by rw [(hT.at _).len]; exact nods_at hT hi)) ?_;refine RQ (ok_call (rFits_fn n (ndAt T i) (hT.at _)) (A2 rfl rfl)) ?_;refine RVN 2 rfl ?_;refine A.sub (Sv [0,2,3,5,8,10,11,83,1000005,1000008,1000501] rfl) ?_;refine A.cond rfl (fun hc83 => ?_) (fun hc83 => ?_)
   ·have hne : ftN n (ndAt T i) ≠ 0 := by simpa using hc83
    have hres := ver_at (e := 17) h1 h2 hx hl0 hlh hG.2.2 hi (verE_17 (by simpa using fun h => hne (fitA_iff.1 h).2.2)) (by decide)
    refine GS (TF 1 (RS (ok_lit [] (RecT.v RecT.zero) (fun _ _ => rfl) (by kernel_rfl)) ?_));refine RN ?_;refine ⟨_, eff_storeA (n := 158) (s := 1000008) (size51.of (by first | exact RecT.zero_fit.len | exact ((hT.at _).r _).len)) rfl rfl (RecT.one _) hBb8 rfl (by first | rfl | (rw [((hT.at _).r _).len]; rfl) | (rw [RecT.zero_fit.len]; rfl)) (LV 8 rfl (LT 1000005 rfl (LO 1000501 rfl LN))), ?_⟩
    refine TL (RVN 1 rfl ?_);refine A.ret (End.ret_then (End.ret_block (End.ret_then (End.ret_then (End.ret_block (End.ret_then ?_))))))
    first | (rw [hres.1, hres.2]; exact End.cellV (s := 1000008) rfl U51 rfl (size51.of (by first | exact RecT.zero_fit.len | exact ((hT.at _).r _).len)) rfl rfl rfl) | (have hres := ver_at (e := 17) (d := d) h1 h2 hx hl0 hlh hG.2.2 hi (verE_17 (by simpa using fun h => ha (fitA_iff.1 h).1)) (by decide); rw [hres.1, hres.2]; exact End.cellV (s := 1000008) rfl U51 rfl (size51.of RecT.zero_fit.len) rfl rfl rfl) | (have hres := ver_at (e := 17) (d := d) h1 h2 hx hl0 hlh hG.2.2 hi (verE_17 (by simpa using fun h => hb (fitA_iff.1 h).2.1)) (by decide); rw [hres.1, hres.2]; exact End.cellV (s := 1000008) rfl U51 rfl (size51.of RecT.zero_fit.len) rfl rfl rfl) | (have hres := ver_at (e := 9) (d := d) h1 h2 hx hl0 hlh hG.2.2 hi (verE_9z hfa heq hlt (fun h => by have hh2 := heZ.symm.trans (decide_eq_decide.1 h); omega)) (by decide); rw [hres.1, hres.2]; exact End.cellV (s := 1000008) rfl U51 rfl (size51.of RecT.zero_fit.len) rfl rfl rfl)
   ·have hfz : ftN n (ndAt T i) = 0 := by simpa using hc83
    have hf : (ndAt T i).l.toNat = (hg n - i) ∧ (ndAt T i).j = (pidx n x i) ∧ ftN n (ndAt T i) = 0 := ⟨ha, hb, hfz⟩
    have hfa := fitA_iff.2 hf
    refine QK (GS (TN 1 (RL 1000005 U40 rfl rfl (size40.of (by rw [List.length_map, hd])) ?_)));refine RN ?_;refine ZN 1000012 zero40 fun b12 ⟨hBb12, hb12⟩ => ?_
    have hlt_b5_b12 := hb12 1000005 b5 _ _ rfl
    refine TF 2 (RN ?_);refine ⟨_, eff_storeA (n := 158) (s := 1000012) (size40.of (by first | (rw [List.length_map, hd]; done) | (rw [List.length_map, ((hT.at _).e _).t]; done))) rfl rfl (all_bytes _) hBb12 rfl (by first | (rw [List.length_map, hd]; rfl) | exact (List.length_map _).trans (hd.trans (((hT.at _).e _).t.symm.trans (List.length_map _).symm)) | exact (List.length_map _).trans (((hT.at _).e _).t.trans (hd.symm.trans (List.length_map _).symm))) (LB 1000005 rfl (LT 1000008 rfl (LO 1000501 rfl (LW [0,2,3,5,8,10,11,12] rfl)))), ?_⟩
    refine TL (RN ?_);refine A.seqTo [(0, .v (nI (n))), (2, .v (nI (x))), (3, .v (.slice (some ad) T.length c)), (5, .v (ptr b5)), (8, .v (ptr b8)), (10, .v (nI (hg n))), (11, .v (nI (i))), (12, .v (ptr b12)), (1000005, blk b5 40 (d.map byteV)), (1000008, blk b8 51 RecT.zero.v), (1000012, blk b12 40 ((wantV n d x T i).map byteV)), (1000501, old w₀.heap.size (memR (some ad) (nodsV T)))] ?_ ?_
    ·refine GV rfl ?_;refine A.cond rfl (fun hc87 => ?_) (fun hc87 => ?_)
     ·have hi0 : 0 < i := by have := of_decide_eq_true hc87; omega
      refine A.reg (by kernel_rfl) (by kernel_rfl) (.inr (by kernel_rfl)) ?_;refine TD 14 ?_;refine RV 3 rfl ?_;refine RZ (nI (i - 1)) (wrap_eq (by omega) (by omega)) ?_;refine RV 2 rfl ?_;refine RS (ok_indexRX (i) U30 infoN rfl rfl hi) ?_;refine RS (ok_fieldRX field57_1 (by decide) rfl) ?_;refine RS (ok_loadRX (u := .int .u32 ((ndAt T i).j : Int)) (s := 1000501) U46 rfl rfl (by decide) rfl (nods_j hT hi)) ?_;refine RS (ok_rem rfl rfl (by decide)) ?_;refine RZ (nW (pidx n x i % 4)) (by rw [hf.2.1]; first | rfl | (rw [tmod_lit _ (by decide)]; rfl) | exact congrArg (Value.int .u32) (by omega)) ?_;refine RS (ok_indexRX (i - 1) U30 infoN rfl rfl (by omega)) ?_;refine RS (ok_fieldRX field57_3 (by decide) rfl) ?_;refine RS (ok_indexAX (pidx n x i % 4) U55 size54 rfl rfl (Nat.mod_lt _ (by decide))) ?_;refine RS (ok_fieldRX field54_1 (by decide) rfl) ?_;refine RS (ok_loadRXT (ys := ((ndAt T (i - 1)).e (pidx n x i % 4)).t.map byteV) (s := 1000501) U40 rfl (size40.of (by rw [List.length_map, ((hT.at _).e _).t])) rfl (by decide) rfl (by rw [List.length_map, ((hT.at _).e _).t]; exact nods_tag hT (by omega) (Nat.mod_lt _ (by decide)))) ?_;refine RN ?_;refine ⟨_, eff_storeA (n := 158) (s := 1000012) (size40.of (by first | (rw [List.length_map, hd]; done) | (rw [List.length_map, ((hT.at _).e _).t]; done))) rfl rfl (all_bytes _) hBb12 rfl (by first | (rw [List.length_map, hd]; rfl) | exact (List.length_map _).trans (hd.trans (((hT.at _).e _).t.symm.trans (List.length_map _).symm)) | exact (List.length_map _).trans (((hT.at _).e _).t.trans (hd.symm.trans (List.length_map _).symm))) (LB 1000005 rfl (LT 1000008 rfl (LO 1000501 rfl (LW [0,2,3,5,8,10,11,12] rfl)))), ?_⟩
      refine TL (RN ?_);exact End.normal_then (End.toEnv (SQ 0 rfl (SQ 2 rfl (SQ 3 rfl (SQ 5 rfl (SQ 8 rfl (SQ 10 rfl (SQ 11 rfl (SQ 12 rfl (SQ 1000005 rfl (SQ 1000008 rfl (QX 1000012 rfl (by first | exact Le.eq (by rw [wantV_pos hi0]) | exact Le.eq (by obtain rfl : i = 0 := (by omega); rfl)) (SQ 1000501 rfl SubL.nil)))))))))))))
     ·have hi0 : ¬ 0 < i := by have := of_decide_eq_false hc87; omega
      refine A.skip ?_;exact End.normal_then (End.toEnv (SQ 0 rfl (SQ 2 rfl (SQ 3 rfl (SQ 5 rfl (SQ 8 rfl (SQ 10 rfl (SQ 11 rfl (SQ 12 rfl (SQ 1000005 rfl (SQ 1000008 rfl (QX 1000012 rfl (by first | exact Le.eq (by rw [wantV_pos hi0]) | exact Le.eq (by obtain rfl : i = 0 := (by omega); rfl)) (SQ 1000501 rfl SubL.nil)))))))))))))
    ·refine QS (GTD (RV 2 rfl ?_));refine RS (ok_indexRX (i) U30 infoN rfl rfl hi) ?_;refine RS (ok_loadRXT (ys := (ndAt T i).v) (s := 1000501) U57 rfl (size57.of (hT.at _).len) rfl (by decide) rfl (by rw [(hT.at _).len]; exact nods_at hT hi)) ?_;refine RS (ok_call (rDigest_fn (ndAt T i) (hT.at _) (by rw [hf.1]; omega)) (A1 rfl)) ?_;refine RL 1000012 U40 rfl rfl (size40.of (by rw [List.length_map, wantV_len hd hT])) ?_;refine RS (ok_neqT (n := 4) (decide (sha (ndAt T i).bl = wantV n d x T i)) flat40r (by decide) (by kernel_rfl) (by kernel_rfl) rfl rfl (kinB (sha_length _)) (kinB (wantV_len hd hT i)) (by rw [decide_eq_true_iff]; exact ⟨fun h => congrArg _ h, fun h => bytes_inj h⟩)) ?_;refine RN ?_;refine A.cond rfl (fun hc108 => ?_) (fun hc108 => ?_)
     ·have hne : sha (ndAt T i).bl ≠ wantV n d x T i := by simpa using hc108
      have hres := ver_at (e := 9) h1 h2 hx hl0 hlh hG.2.2 hi (verE_9 hfa hne) (by decide)
      refine GS (TF 1 (RS (ok_lit [] (RecT.v RecT.zero) (fun _ _ => rfl) (by kernel_rfl)) ?_));refine RN ?_;refine ⟨_, eff_storeA (n := 158) (s := 1000008) (size51.of (by first | exact RecT.zero_fit.len | exact ((hT.at _).r _).len)) rfl rfl (RecT.one _) hBb8 rfl (by first | rfl | (rw [((hT.at _).r _).len]; rfl) | (rw [RecT.zero_fit.len]; rfl)) (LV 8 rfl (LT 1000005 rfl (LT 1000012 rfl (LO 1000501 rfl LN)))), ?_⟩
      refine TL (RVN 1 rfl ?_);refine A.ret (End.ret_then (End.ret_block (End.ret_then (End.ret_then (End.ret_block (End.ret_then ?_))))))
      first | (rw [hres.1, hres.2]; exact End.cellV (s := 1000008) rfl U51 rfl (size51.of (by first | exact RecT.zero_fit.len | exact ((hT.at _).r _).len)) rfl rfl rfl) | (have hres := ver_at (e := 17) (d := d) h1 h2 hx hl0 hlh hG.2.2 hi (verE_17 (by simpa using fun h => ha (fitA_iff.1 h).1)) (by decide); rw [hres.1, hres.2]; exact End.cellV (s := 1000008) rfl U51 rfl (size51.of RecT.zero_fit.len) rfl rfl rfl) | (have hres := ver_at (e := 17) (d := d) h1 h2 hx hl0 hlh hG.2.2 hi (verE_17 (by simpa using fun h => hb (fitA_iff.1 h).2.1)) (by decide); rw [hres.1, hres.2]; exact End.cellV (s := 1000008) rfl U51 rfl (size51.of RecT.zero_fit.len) rfl rfl rfl) | (have hres := ver_at (e := 9) (d := d) h1 h2 hx hl0 hlh hG.2.2 hi (verE_9z hfa heq hlt (fun h => by have hh2 := heZ.symm.trans (decide_eq_decide.1 h); omega)) (by decide); rw [hres.1, hres.2]; exact End.cellV (s := 1000008) rfl U51 rfl (size51.of RecT.zero_fit.len) rfl rfl rfl)
     ·have heq : sha (ndAt T i).bl = wantV n d x T i := by simpa using hc108
      refine QK (QS (GT (RV 3 rfl ?_)));refine RZ (.bool (decide (i = hg n))) (congrArg Value.bool (decide_eq_decide.2 (by omega))) ?_;refine RN ?_;refine A.cond rfl (fun hc112 => ?_) (fun hc112 => ?_)
      ·have hlast : i = hg n := of_decide_eq_true hc112
       have hres := ver_all (d := d) h1 h2 hx (by omega) (fun k hk => hz_step hG.2.2 (verE_0 hfa heq fun hlt => absurd hlt (by omega)) k (by omega))
       rw [← hlast] at hres
       refine GS (TF 8 (RV 3 rfl ?_));refine RS (ok_rem rfl rfl (by decide)) ?_;refine RZ (nI (x % 4)) (by first | rfl | (rw [tmod_lit _ (by decide)]; rfl)) ?_;refine RS (ok_indexRX (i) U30 infoN rfl rfl hi) ?_;refine RS (ok_fieldRX field57_2 (by decide) rfl) ?_;refine RS (ok_indexAX (x % 4) U52 size51 rfl rfl hx4) ?_;refine RS (ok_loadRXT (ys := ((ndAt T i).r (x % 4)).v) (s := 1000501) U51 rfl (size51.of ((hT.at _).r _).len) rfl (by decide) rfl (by rw [((hT.at _).r _).len]; exact nods_rec hT hi hx4)) ?_;refine RN ?_;refine ⟨_, eff_storeA (n := 158) (s := 1000008) (size51.of (by first | exact RecT.zero_fit.len | exact ((hT.at _).r _).len)) rfl rfl (RecT.one _) hBb8 rfl (by first | rfl | (rw [((hT.at _).r _).len]; rfl) | (rw [RecT.zero_fit.len]; rfl)) (LV 8 rfl (LT 1000005 rfl (LT 1000012 rfl (LO 1000501 rfl LN)))), ?_⟩
       refine TL (RVN 1 rfl ?_);refine A.ret (End.ret_then (End.ret_block (End.ret_then (End.ret_then (End.ret_block (End.ret_then ?_))))))
       first | (rw [hres.1, hres.2]; exact End.cellV (s := 1000008) rfl U51 rfl (size51.of (by first | exact RecT.zero_fit.len | exact ((hT.at _).r _).len)) rfl rfl rfl) | (have hres := ver_at (e := 17) (d := d) h1 h2 hx hl0 hlh hG.2.2 hi (verE_17 (by simpa using fun h => ha (fitA_iff.1 h).1)) (by decide); rw [hres.1, hres.2]; exact End.cellV (s := 1000008) rfl U51 rfl (size51.of RecT.zero_fit.len) rfl rfl rfl) | (have hres := ver_at (e := 17) (d := d) h1 h2 hx hl0 hlh hG.2.2 hi (verE_17 (by simpa using fun h => hb (fitA_iff.1 h).2.1)) (by decide); rw [hres.1, hres.2]; exact End.cellV (s := 1000008) rfl U51 rfl (size51.of RecT.zero_fit.len) rfl rfl rfl) | (have hres := ver_at (e := 9) (d := d) h1 h2 hx hl0 hlh hG.2.2 hi (verE_9z hfa heq hlt (fun h => by have hh2 := heZ.symm.trans (decide_eq_decide.1 h); omega)) (by decide); rw [hres.1, hres.2]; exact End.cellV (s := 1000008) rfl U51 rfl (size51.of RecT.zero_fit.len) rfl rfl rfl)
      ·have hlt : i < hg n := by have := of_decide_eq_false hc112; have := hG.2.1; omega
       have hwc : wch n x i < 4 := Nat.mod_lt _ (by decide)
       have heZ := fit_eZ h1 h2 hf.2.2 (show (ndAt T i).l.toNat ≠ 0 by rw [hf.1]; omega) hwc
       refine QK (A.regsK [⟨13,13,54, EntT.v EntT.zero, 14, (((ndAt T i).e (wch n x i)).v)⟩] (by kernel_rfl) (by kernel_rfl) (by kernel_rfl) ?_);refine KopsK.pure (_) rfl (.inl rfl) FromV.all (fun B' => (ok_move rfl)) ?_;refine KopsK.pure (_) rfl (.inl rfl) FromV.all (fun B' => (ok_move rfl)) ?_;refine KopsK.pure (_) rfl (.inl rfl) FromV.all (fun B' => (ok_move rfl)) ?_;refine KopsK.pure (_) rfl (.inl rfl) FromV.all (fun B' => (ok_move rfl)) ?_;refine KopsK.pure (_) rfl (.inl rfl) FromV.all (fun B' => (ok_move rfl)) ?_;refine KopsK.pure ((124, .v _) :: (125, .v _) :: _) rfl (.inl rfl) (FromV.op 3 (by kernel_rfl) rfl rfl (FromV.op 4 (by kernel_rfl) rfl rfl FromV.all)) (fun B' => (OpOk.asV (nI ((hg n - i))) (wrap_eq (by omega) (by omega)) (ok_bin rfl rfl rfl))) ?_;refine KopsK.pure ((126, .v _) :: _) rfl (.inl rfl) (FromV.op 5 (by kernel_rfl) rfl rfl FromV.all) (fun B' => (OpOk.asV (nI (hg n - (i + 1))) (wrap_eq (by omega) (by omega)) (ok_bin rfl rfl rfl))) ?_;refine KopsK.pure ((123, .v _) :: (127, .v _) :: _) rfl (.inl rfl) (FromV.op 2 (by kernel_rfl) rfl rfl (FromV.op 6 (by kernel_rfl) rfl rfl FromV.all)) (fun B' => (OpOk.asV (nI (pidx n x (i + 1))) (by rfl) (ok_call (rIndex_fn x (hg n - (i + 1)) (by omega) (by omega)) (A2 rfl rfl)))) ?_;refine KopsK.pure ((128, .v _) :: _) rfl (.inl rfl) (FromV.op 7 (by kernel_rfl) rfl rfl FromV.all) (fun B' => (OpOk.asV (nI (wch n x i)) (by first | rfl | (rw [tmod_lit _ (by decide)]; rfl)) (ok_rem rfl rfl (by decide)))) ?_;refine KopsK.pure ((121, .v _) :: (122, .v _) :: _) rfl (.inl rfl) (FromV.op 0 (by kernel_rfl) rfl rfl (FromV.op 1 (by kernel_rfl) rfl rfl FromV.all)) (fun B' => (ok_indexRX (i) U30 infoN rfl rfl hi)) ?_;refine KopsK.pure ((130, .v _) :: _) rfl (.inl rfl) (FromV.op 9 (by kernel_rfl) rfl rfl FromV.all) (fun B' => (ok_fieldRX field57_3 (by decide) rfl)) ?_;refine KopsK.pure ((131, .v _) :: (129, .v _) :: _) rfl (.inl rfl) (FromV.op 10 (by kernel_rfl) rfl rfl (FromV.op 8 (by kernel_rfl) rfl rfl FromV.all)) (fun B' => (ok_indexAX (wch n x i) U55 size54 rfl rfl hwc)) ?_;refine KopsK.pure ((132, .v _) :: _) rfl (.inl rfl) (FromV.op 11 (by kernel_rfl) rfl rfl FromV.all) (fun B' => (ok_loadRXT (ys := ((ndAt T i).e (wch n x i)).v) (s := 1000501) U54 rfl (size54.of ((hT.at _).e _).len) rfl (by decide) rfl (by rw [((hT.at _).e _).len]; exact nods_ent hT hi hwc))) ?_;refine KopsK.alloc 0 rfl rfl rfl rfl zero54 rfl ?_;refine KopsK.store 0 ((133, .v _) :: _) rfl rfl rfl rfl (by kernel_rfl) (FromV.op 12 (by kernel_rfl) rfl rfl FromV.all) rfl (size54.of (((hT.at _).e _).len)) (by rw [((hT.at _).e _).len]; rfl) (EntT.one _) ?_;refine KopsK.nil ⟨by kernel_rfl, _, FromW.all, fun bs hbs hds => ?_⟩
       have hb13 := hbs 0 (by simp)
       dsimp only [varEnv]
       generalize bs 0 = b13 at *
       have hBb13 := hb13.1
       have hlt_b5_b13 : b5 < b13 := hb13.2 1000005 _ _ _ rfl
       have hlt_b8_b13 : b8 < b13 := hb13.2 1000008 _ _ _ rfl
       have hlt_b12_b13 : b12 < b13 := hb13.2 1000012 _ _ _ rfl
       refine A.sub (Sv [0,2,3,5,8,10,11,13,1000005,1000008,1000012,1000013,1000501] rfl) ?_
       rcases vz4 ((ndAt T i).e (wch n x i)).x.toNat hi with ⟨hs, hm⟩ | ⟨hs, hm⟩ | ⟨hs, hm⟩ | ⟨hs, hm⟩
       ·refine GT (RS (ok_field field54_0 (by decide) rfl) ?_);refine RLV 1000013 U5 rfl rfl rfl ?_;refine RB rfl rfl rfl ?_;refine RZ (.bool true) (congrArg Value.bool (decide_eq_true (by omega))) ?_;refine RV 3 rfl ?_;refine RQ (ok_lenV U30 rfl) ?_;refine RQ (ok_bin rfl rfl rfl) ?_;refine RZ (.int .i64 ((T.length : Int) - 1)) (congrArg (Value.int .i64) (wrap_i64 (by omega) (by omega))) ?_;refine RQ (ok_bin rfl rfl rfl) ?_;refine RZ (.bool true) (congrArg Value.bool (decide_eq_true (by omega))) ?_;refine RP rfl rfl ?_;refine RT ?_;refine RV 5 rfl ?_;refine RunK.skippedU rfl rfl rfl rfl ?_;refine RunK.skippedU rfl rfl rfl rfl ?_;refine RunK.skippedU rfl rfl rfl rfl ?_;refine RunK.skippedU rfl rfl rfl rfl ?_;refine RunK.skippedU rfl rfl rfl rfl ?_;refine RV 2 rfl ?_;refine RT ?_;refine RN (A.yes rfl ?_);refine GS (TF 1 (RS (ok_lit [] (RecT.v RecT.zero) (fun _ _ => rfl) (by kernel_rfl)) ?_));refine RN ?_;refine ⟨_, eff_storeA (n := 158) (s := 1000008) (size51.of (by first | exact RecT.zero_fit.len | exact ((hT.at _).r _).len)) rfl rfl (RecT.one _) hBb8 rfl (by first | rfl | (rw [((hT.at _).r _).len]; rfl) | (rw [RecT.zero_fit.len]; rfl)) (LV 8 rfl (LT 1000005 rfl (LT 1000012 rfl (LT 1000013 rfl (LO 1000501 rfl LN))))), ?_⟩
        refine TL (RVN 1 rfl ?_);refine A.sub (Sv [8,9,1000005,1000008,1000012,1000013,1000501] rfl) ?_;refine A.ret (End.ret_block (End.ret_then (End.ret_then (End.ret_block (End.ret_then ?_)))))
        first | (rw [hres.1, hres.2]; exact End.cellV (s := 1000008) rfl U51 rfl (size51.of (by first | exact RecT.zero_fit.len | exact ((hT.at _).r _).len)) rfl rfl rfl) | (have hres := ver_at (e := 17) (d := d) h1 h2 hx hl0 hlh hG.2.2 hi (verE_17 (by simpa using fun h => ha (fitA_iff.1 h).1)) (by decide); rw [hres.1, hres.2]; exact End.cellV (s := 1000008) rfl U51 rfl (size51.of RecT.zero_fit.len) rfl rfl rfl) | (have hres := ver_at (e := 17) (d := d) h1 h2 hx hl0 hlh hG.2.2 hi (verE_17 (by simpa using fun h => hb (fitA_iff.1 h).2.1)) (by decide); rw [hres.1, hres.2]; exact End.cellV (s := 1000008) rfl U51 rfl (size51.of RecT.zero_fit.len) rfl rfl rfl) | (have hres := ver_at (e := 9) (d := d) h1 h2 hx hl0 hlh hG.2.2 hi (verE_9z hfa heq hlt (fun h => by have hh2 := heZ.symm.trans (decide_eq_decide.1 h); omega)) (by decide); rw [hres.1, hres.2]; exact End.cellV (s := 1000008) rfl U51 rfl (size51.of RecT.zero_fit.len) rfl rfl rfl)
       ·refine GT (RS (ok_field field54_0 (by decide) rfl) ?_);refine RLV 1000013 U5 rfl rfl rfl ?_;refine RB rfl rfl rfl ?_;refine RZ (.bool true) (congrArg Value.bool (decide_eq_true (by omega))) ?_;refine RV 3 rfl ?_;refine RQ (ok_lenV U30 rfl) ?_;refine RQ (ok_bin rfl rfl rfl) ?_;refine RZ (.int .i64 ((T.length : Int) - 1)) (congrArg (Value.int .i64) (wrap_i64 (by omega) (by omega))) ?_;refine RQ (ok_bin rfl rfl rfl) ?_;refine RZ (.bool false) (congrArg Value.bool (decide_eq_false (by omega))) ?_;refine RP rfl rfl ?_;refine RF ?_;refine RM rfl ?_;refine RQ (ok_field field54_0 (by decide) rfl) ?_;refine RQ (ok_loadV (s := 1000013) (by decide) U5 rfl rfl rfl (rfl)) ?_;refine RQ (ok_bin rfl rfl rfl) ?_;refine RZ (.bool false) (congrArg Value.bool (decide_eq_false (by omega))) ?_;refine RV 7 rfl ?_;refine RF ?_;refine RP rfl rfl ?_;refine RF ?_;refine RN (A.no rfl ?_);refine A.skip (End.normal_block (EN (GTE (RV 2 rfl ?_))));refine RZ (nI (i + 1)) (wrap_eq (by omega) (by omega)) ?_;refine RVN 1 rfl ?_;refine End.sub (Sv [0,2,3,5,8,10,11,1000005,1000008,1000012,1000013,1000501] rfl) ?_;refine End.normal_then ?_;refine End.again (i + 1) ?_ ?_ ?_
        ·exact ⟨by omega, by omega, hz_step hG.2.2 (verE_0 hfa heq fun _ => decide_eq_decide.2 (heZ.trans (by omega)))⟩
        ·show _ - _ < _ - _; omega
        ·exact (Sv [0,2,3,5,8,10,11,1000005,1000008,1000501] rfl)
       ·refine GT (RS (ok_field field54_0 (by decide) rfl) ?_);refine RLV 1000013 U5 rfl rfl rfl ?_;refine RB rfl rfl rfl ?_;refine RZ (.bool false) (congrArg Value.bool (decide_eq_false (by omega))) ?_;refine RV 7 rfl ?_;refine RF ?_;refine RM rfl ?_;refine RQ (ok_field field54_0 (by decide) rfl) ?_;refine RQ (ok_loadV (s := 1000013) (by decide) U5 rfl rfl rfl (rfl)) ?_;refine RQ (ok_bin rfl rfl rfl) ?_;refine RZ (.bool true) (congrArg Value.bool (decide_eq_true (by omega))) ?_;refine RV 3 rfl ?_;refine RQ (ok_lenV U30 rfl) ?_;refine RQ (ok_bin rfl rfl rfl) ?_;refine RZ (.int .i64 ((T.length : Int) - 1)) (congrArg (Value.int .i64) (wrap_i64 (by omega) (by omega))) ?_;refine RQ (ok_bin rfl rfl rfl) ?_;refine RZ (.bool false) (congrArg Value.bool (decide_eq_false (by omega))) ?_;refine RQ (ok_pick rfl rfl) ?_;refine RF ?_;refine RP rfl rfl ?_;refine RF ?_;refine RN (A.no rfl ?_);refine A.skip (End.normal_block (EN (GTE (RV 2 rfl ?_))));refine RZ (nI (i + 1)) (wrap_eq (by omega) (by omega)) ?_;refine RVN 1 rfl ?_;refine End.sub (Sv [0,2,3,5,8,10,11,1000005,1000008,1000012,1000013,1000501] rfl) ?_;refine End.normal_then ?_;refine End.again (i + 1) ?_ ?_ ?_
        ·exact ⟨by omega, by omega, hz_step hG.2.2 (verE_0 hfa heq fun _ => decide_eq_decide.2 (heZ.trans (by omega)))⟩
        ·show _ - _ < _ - _; omega
        ·exact (Sv [0,2,3,5,8,10,11,1000005,1000008,1000501] rfl)
       ·refine GT (RS (ok_field field54_0 (by decide) rfl) ?_);refine RLV 1000013 U5 rfl rfl rfl ?_;refine RB rfl rfl rfl ?_;refine RZ (.bool false) (congrArg Value.bool (decide_eq_false (by omega))) ?_;refine RV 7 rfl ?_;refine RF ?_;refine RM rfl ?_;refine RQ (ok_field field54_0 (by decide) rfl) ?_;refine RQ (ok_loadV (s := 1000013) (by decide) U5 rfl rfl rfl (rfl)) ?_;refine RQ (ok_bin rfl rfl rfl) ?_;refine RZ (.bool true) (congrArg Value.bool (decide_eq_true (by omega))) ?_;refine RV 3 rfl ?_;refine RQ (ok_lenV U30 rfl) ?_;refine RQ (ok_bin rfl rfl rfl) ?_;refine RZ (.int .i64 ((T.length : Int) - 1)) (congrArg (Value.int .i64) (wrap_i64 (by omega) (by omega))) ?_;refine RQ (ok_bin rfl rfl rfl) ?_;refine RZ (.bool true) (congrArg Value.bool (decide_eq_true (by omega))) ?_;refine RQ (ok_pick rfl rfl) ?_;refine RT ?_;refine RP rfl rfl ?_;refine RT ?_;refine RN (A.yes rfl ?_);refine GS (TF 1 (RS (ok_lit [] (RecT.v RecT.zero) (fun _ _ => rfl) (by kernel_rfl)) ?_));refine RN ?_;refine ⟨_, eff_storeA (n := 158) (s := 1000008) (size51.of (by first | exact RecT.zero_fit.len | exact ((hT.at _).r _).len)) rfl rfl (RecT.one _) hBb8 rfl (by first | rfl | (rw [((hT.at _).r _).len]; rfl) | (rw [RecT.zero_fit.len]; rfl)) (LV 8 rfl (LT 1000005 rfl (LT 1000012 rfl (LT 1000013 rfl (LO 1000501 rfl LN))))), ?_⟩
        refine TL (RVN 1 rfl ?_);refine A.sub (Sv [8,9,1000005,1000008,1000012,1000013,1000501] rfl) ?_;refine A.ret (End.ret_block (End.ret_then (End.ret_then (End.ret_block (End.ret_then ?_)))))
        first | (rw [hres.1, hres.2]; exact End.cellV (s := 1000008) rfl U51 rfl (size51.of (by first | exact RecT.zero_fit.len | exact ((hT.at _).r _).len)) rfl rfl rfl) | (have hres := ver_at (e := 17) (d := d) h1 h2 hx hl0 hlh hG.2.2 hi (verE_17 (by simpa using fun h => ha (fitA_iff.1 h).1)) (by decide); rw [hres.1, hres.2]; exact End.cellV (s := 1000008) rfl U51 rfl (size51.of RecT.zero_fit.len) rfl rfl rfl) | (have hres := ver_at (e := 17) (d := d) h1 h2 hx hl0 hlh hG.2.2 hi (verE_17 (by simpa using fun h => hb (fitA_iff.1 h).2.1)) (by decide); rw [hres.1, hres.2]; exact End.cellV (s := 1000008) rfl U51 rfl (size51.of RecT.zero_fit.len) rfl rfl rfl) | (have hres := ver_at (e := 9) (d := d) h1 h2 hx hl0 hlh hG.2.2 hi (verE_9z hfa heq hlt (fun h => by have hh2 := heZ.symm.trans (decide_eq_decide.1 h); omega)) (by decide); rw [hres.1, hres.2]; exact End.cellV (s := 1000008) rfl U51 rfl (size51.of RecT.zero_fit.len) rfl rfl rfl)
 ·have hi2 : i = T.length := by have := hG.1; simp at hc48; omega
  have hres := ver_part (d := d) h1 h2 hx hl0 (by omega) (fun k hk => hG.2.2 k (by omega))
  refine A.exit (End.exit_then (End.exit_then (End.exit_here (EN (GS (TF 1 (RS (ok_lit [] (RecT.v RecT.zero) (fun _ _ => rfl) (by kernel_rfl)) ?_)))))));refine RN ?_;refine ⟨_, eff_storeA (n := 158) (s := 1000008) (size51.of (by first | exact RecT.zero_fit.len | exact ((hT.at _).r _).len)) rfl rfl (RecT.one _) hBb8 rfl (by first | rfl | (rw [((hT.at _).r _).len]; rfl) | (rw [RecT.zero_fit.len]; rfl)) (LV 8 rfl (LT 1000005 rfl (LO 1000501 rfl LN))), ?_⟩
  refine TL (RVN 1 rfl ?_);refine A.ret ?_
  first | (rw [hres.1, hres.2]; exact End.cellV (s := 1000008) rfl U51 rfl (size51.of (by first | exact RecT.zero_fit.len | exact ((hT.at _).r _).len)) rfl rfl rfl) | (have hres := ver_at (e := 17) (d := d) h1 h2 hx hl0 hlh hG.2.2 hi (verE_17 (by simpa using fun h => ha (fitA_iff.1 h).1)) (by decide); rw [hres.1, hres.2]; exact End.cellV (s := 1000008) rfl U51 rfl (size51.of RecT.zero_fit.len) rfl rfl rfl) | (have hres := ver_at (e := 17) (d := d) h1 h2 hx hl0 hlh hG.2.2 hi (verE_17 (by simpa using fun h => hb (fitA_iff.1 h).2.1)) (by decide); rw [hres.1, hres.2]; exact End.cellV (s := 1000008) rfl U51 rfl (size51.of RecT.zero_fit.len) rfl rfl rfl) | (have hres := ver_at (e := 9) (d := d) h1 h2 hx hl0 hlh hG.2.2 hi (verE_9z hfa heq hlt (fun h => by have hh2 := heZ.symm.trans (decide_eq_decide.1 h); omega)) (by decide); rw [hres.1, hres.2]; exact End.cellV (s := 1000008) rfl U51 rfl (size51.of RecT.zero_fit.len) rfl rfl rfl)
theorem rVerify_fn (n x : Int) (d : List UInt8) (hd : d.length = 32) (A₀ : Option Addr) (T : List NodT) (hT : FitT T) (c : Nat) : FnM Tryz.prog 31 (trO A₀ T) [.v (.int .i64 (n)), .v (aggV (d.map byteV)), .v (.int .i64 (x)), .v (.slice A₀ T.length c)] (.v (.tuple #[aggV (verR n d x T).v, .int .i64 (ver n d x T)])) := by
 by_cases hn : 1 ≤ n ∧ n ≤ 4096
 ·obtain ⟨k, rfl⟩ : ∃ k : Nat, n = k := ⟨n.toNat, by omega⟩
  have h1 : 1 ≤ k := by omega
  have h2 : k ≤ 4096 := by omega
  by_cases hx : 0 ≤ x ∧ x < k
  ·obtain ⟨y, rfl⟩ : ∃ y : Nat, x = y := ⟨x.toNat, by omega⟩
   have hy : y < k := by omega
   by_cases h0 : T.length = 0
   ·have hv := ver_len (d := d) h1 h2 hy (.inl h0)
    rw [hv, verR_no (by rw [hv]; decide)]; exact rVer_0 k h1 h2 y hy d hd A₀ T hT c h0
   by_cases hl : hg k + 1 < T.length
   ·have hv := ver_len (d := d) h1 h2 hy (.inr hl)
    rw [hv, verR_no (by rw [hv]; decide)]; exact rVer_l k h1 h2 y hy d hd A₀ T hT c h0 hl
   exact FnM.addr (M := []) (ds := fun a => [.v (.int .i64 (k : Int)), .v (aggV (d.map byteV)), .v (.int .i64 (y : Int)), .v (.slice a T.length c)]) (rVer_lo 0 0 (by decide) d hd none [] FitT.nil 0).body hT (by omega) fun ad => rVer_ok k h1 h2 y hy d hd ad T hT c (by omega) (by omega)
  ·have hv := ver_blk (d := d) (T := T) h1 h2 hx
   rw [hv, verR_no (by rw [hv]; decide)]
   by_cases h : x < 0
   ·exact rVer_neg k h1 h2 x h d hd A₀ T hT c
   ·exact rVer_big k h1 h2 x (by omega) (by omega) d hd A₀ T hT c
 ·have hv := ver_bad (d := d) (x := x) (T := T) hn
  rw [hv, verR_no (by rw [hv]; decide)]
  by_cases h : n < 1
  ·exact rVer_lo n x h d hd A₀ T hT c
  ·exact rVer_hi n x (by omega) d hd A₀ T hT c
end
section
variable {κ : Cx}
theorem Le.blkR {b : Nat} {e : TypeId} {xs ys : List Value} : Le (blk b e (xs ++ ys)) (memR (some ⟨b, 0, none⟩) xs) := fun B w _ h j u hu => by
 obtain ⟨h1, h2⟩ := h
 refine ⟨_, rfl, h1, ?_⟩
 rw [show (⟨b, 0, none⟩ : Addr).add j = ⟨b, j, none⟩ from by unfold Addr.add; split <;> simp_all]
 simp only [World.cell?, h2]
 have : (xs ++ ys)[j]? = some u := by rw [List.getElem?_append_left (List.getElem?_eq_some_iff.1 hu).1]; exact hu
 simpa using this
theorem Le.blkR0 {b : Nat} {e : TypeId} {xs : List Value} : Le (blk b e xs) (memR (some ⟨b, 0, none⟩) xs) := by
 have h := Le.blkR (b := b) (e := e) (xs := xs) (ys := [])
 rwa [List.append_nil] at h
def pfD2 (x : Int) (T : List NodT) (y : Int) (W : List NodT) : D :=
 .p (fun B w v => ∃ A₀ c B₀ c', v = aggV [.int .i64 x, .slice A₀ T.length c, .int .i64 y, .slice B₀ W.length c'] ∧ RowIn B w A₀ (nodsV T) ∧ RowIn B w B₀ (nodsV W)) (fun _ _ _ _ g ⟨A₁, c₁, A₂, c₂, h1, h2, h3⟩ => ⟨A₁, c₁, A₂, c₂, h1, h2.keep g, h3.keep g⟩) (fun _ _ _ _ g ⟨A₁, c₁, A₂, c₂, h1, h2, h3⟩ => ⟨A₁, c₁, A₂, c₂, h1, h2.up g, h3.up g⟩)
theorem A.openP2 {κ : Cx} {P : Program} {n : Nat} {E : Env} {w₀ : World} {c : Code} {Q : Exit → Act → World → Prop} {t k₁ k₂ B' : Nat} {x y : Int} {T W : List NodT} (ht : E.look t = some (old B' (pfD2 x T y W)))
  (h : ∀ (A₀ : Option Addr) (c₁ : Nat) (B₀ : Option Addr) (c₂ : Nat), A κ P w₀ n c ((t, .v (aggV [.int .i64 x, .slice A₀ T.length c₁, .int .i64 y, .slice B₀ W.length c₂])) :: (k₁, old B' (memR A₀ (nodsV T))) :: (k₂, old B' (memR B₀ (nodsV W))) :: E) Q) : A κ P w₀ n c E Q := fun a w g hs => by
 obtain ⟨hB, A₁, c₁, A₂, c₂, h1, h2, h3⟩ := hs.of t _ ht
 exact h A₁ c₁ A₂ c₂ a w g (((hs.push (t := k₂) (d := old B' (memR A₂ (nodsV W))) ⟨hB, h3⟩).push (t := k₁) (d := old B' (memR A₁ (nodsV T))) ⟨hB, h2⟩).push (t := t) (d := .v (aggV [.int .i64 x, .slice A₁ T.length c₁, .int .i64 y, .slice A₂ W.length c₂])) h1)
end
section
theorem col16_fn (x y : List UInt8) (m m' : Nat) (hne : x ≠ y) (hx : 137 ≤ x.length) (hy : 137 ≤ y.length) (hx2 : x.length ≤ 1000) (hy2 : y.length ≤ 1000) (hs : sha x = sha y)  : Fn Tryz.prog 33 [bytes x m, bytes y m'] (.v (.int .i64 (1))) := by
 refine Fn.of Tryz.func33 rfl (by kernel_rfl) Tryz.ntmps33 (by simp) (fun w => [(0, old w.heap.size (bytes x m)), (1, old w.heap.size (bytes y m'))]) (fun w => (Start.old rfl (Start.old rfl Start.nil))) fun w₀ => ?_
 refine GV rfl (QS (GT (RM rfl ?_)));refine RS (ok_str (l := x) U23 U5 U9 rfl ((Le.old _ _).trans (le_byt _ _))) ?_;refine RM rfl ?_;refine RS (ok_str (l := y) U23 U5 U9 rfl ((Le.old _ _).trans (le_byt _ _))) ?_;refine RS (ok_seq rfl rfl) ?_;refine RZ (.bool false) (congrArg Value.bool (beq_eq_false_iff_ne.2 hne)) ?_;refine RV 2 rfl ?_;refine RQ (ok_lenB U23 rfl ((Le.old _ _).trans (le_byt _ _))) ?_;refine RQ (ok_bin rfl rfl rfl) ?_;refine RZ (.bool false) (congrArg Value.bool (by simp; omega)) ?_;refine RP rfl rfl ?_;refine RF ?_;refine RV 2 rfl ?_;refine RQ (ok_lenB U23 rfl ((Le.old _ _).trans (le_byt _ _))) ?_;refine RQ (ok_bin rfl rfl rfl) ?_;refine RZ (.bool false) (congrArg Value.bool (by simp; omega)) ?_;refine RP rfl rfl ?_;refine RF ?_;refine RV 2 rfl ?_;refine RQ (ok_call (refSum_fn x (by omega)) (Args.cons rfl ((Le.old _ _).trans (le_byt _ _)) Args.nil)) ?_;refine RQ (ok_move rfl) ?_;refine RQ (ok_call (refSum_fn y (by omega)) (Args.cons rfl ((Le.old _ _).trans (le_byt _ _)) Args.nil)) ?_;refine RQ (ok_neqT (n := 4) true flat40r (by decide) (by kernel_rfl) (by kernel_rfl) rfl rfl (kinB (sha_length _)) (kinB (sha_length _)) (iff_of_true rfl (by rw [hs]))) ?_;refine RF ?_;refine RP rfl rfl ?_;refine RF ?_;refine RN (A.no rfl ?_);refine QK (GV rfl (A.ret ?_));exact ER rfl rfl
end
section
theorem Le.memNil {d : D} {A₀ : Option Addr} : Le d (memR A₀ []) := fun _ _ _ _ j u hu => by cases hu
def lvR : List RecT := [recOf 1 7, RecT.zero, RecT.zero, RecT.zero, RecT.zero]
def lvS : List Nat := [1,0,0]
def lzR : List RecT := [RecT.zero]
def lzS : List Nat := [0]
theorem lvR_fit : FitR lvR := fun r hr => by
 simp only [lvR, List.mem_cons, List.not_mem_nil, or_false] at hr
 rcases hr with rfl | rfl | rfl | rfl | rfl
 ·exact recOf_fit _ _
 all_goals exact RecT.zero_fit
theorem lvR_ok : OkR lvR := fun r hr => by
 simp only [lvR, List.mem_cons, List.not_mem_nil, or_false] at hr
 rcases hr with rfl | rfl | rfl | rfl | rfl
 ·exact recOf_ok _ _
 all_goals exact RecT.zero_ok
theorem lvS_ok : OkS lvS := fun r hr => by
 simp only [lvS, List.mem_cons, List.not_mem_nil, or_false] at hr
 rcases hr with rfl | rfl | rfl <;> simp
theorem lzR_fit : FitR lzR := fun r hr => by
 simp only [lzR, List.mem_cons, List.not_mem_nil, or_false] at hr
 subst hr; exact RecT.zero_fit
theorem lzR_ok : OkR lzR := fun r hr => by
 simp only [lzR, List.mem_cons, List.not_mem_nil, or_false] at hr
 subst hr; exact RecT.zero_ok
theorem lzS_ok : OkS lzS := fun r hr => by
 simp only [lzS, List.mem_cons, List.not_mem_nil, or_false] at hr
 subst hr; simp
def lvT : List NodT := treR lvR lvS (tot lvR.length (hg lvR.length + 1))
def lzT : List NodT := treR lzR lzS (tot lzR.length (hg lzR.length + 1))
theorem lvT_len : lvT.length = 3 := by unfold lvT; rw [treR_length]; decide
theorem lzT_len : lzT.length = 1 := by unfold lzT; rw [treR_length]; decide
theorem lvT_fit : FitT lvT := treR_fit lvR_fit _ (by decide) (by decide) (Nat.le_refl _)
theorem lzT_fit : FitT lzT := treR_fit lzR_fit _ (by decide) (by decide) (Nat.le_refl _)
theorem lvT_tree : Tree 5 lvT := treR_tree lvR_ok lvS_ok (by decide) (by decide)
theorem lzT_tree : Tree 1 lzT := treR_tree lzR_ok lzS_ok (by decide) (by decide)
theorem lzT_at : ndAt lzT (tot 1 (hg 1)) = NodT.emp 0 0 := by
 have h := treR_at (R := lzR) (S := lzS) (m := tot lzR.length (hg lzR.length + 1)) (l := 0) (j := 0) (by decide) (by decide) (by decide)
 exact h.trans (by rw [nodR_zero]; rfl)
theorem lvT_0 : ndAt lvT 0 = grpR lvR 0 := by
 have h := treR_at (R := lvR) (S := lvS) (m := tot lvR.length (hg lvR.length + 1)) (l := 0) (j := 0) (by decide) (by decide) (by decide)
 rw [nodR_zero] at h; exact h
theorem lvT_1 : ndAt lvT 1 = grpR lvR 1 := by
 have h := treR_at (R := lvR) (S := lvS) (m := tot lvR.length (hg lvR.length + 1)) (l := 0) (j := 1) (by decide) (by decide) (by decide)
 rw [nodR_zero] at h; exact h
theorem lvT_2 : ndAt lvT 2 = nodR lvR lvS 1 0 := treR_at (R := lvR) (S := lvS) (m := tot lvR.length (hg lvR.length + 1)) (l := 1) (j := 0) (by decide) (by decide) (by decide)
def lvE : EntT := ⟨2, sha (grpR lvR 0).bl⟩
theorem lvT_E : (ndAt lvT 2).E = [lvE, EntT.zero, EntT.zero, EntT.zero] := by
 have e0 : emF lvR.length (recAt lvR) 0 (4 * 0 + 0) = false := by decide +kernel
 have e1 : emF lvR.length (recAt lvR) 0 (4 * 0 + 1) = true := by decide +kernel
 rw [lvT_2]
 apply ext4 (by rw [nodR_succ]; exact pg_length _ _ _) rfl EntT.zero
 intro i hi
 show (nodR lvR lvS (0 + 1) 0).e i = _
 rw [nodR_e hi]
 match i, hi with
 | 0, _ => rw [if_pos (by decide), e0]; rfl
 | 1, _ => rw [if_pos (by decide), e1]; rfl
 | 2, _ => rw [if_neg (by decide)]; rfl
 | 3, _ => rw [if_neg (by decide)]; rfl
theorem em_0 : emT 5 lvT 0 0 = false := by
 unfold emT; rw [lvT_0]; decide +kernel
theorem em_1 : emT 5 lvT 0 1 = true := by
 unfold emT; rw [lvT_1]; decide +kernel
theorem mny_0 : mny 5 lvT 0 = 2 := by
 show runTo _ 1 1 = 2
 unfold runTo
 rw [show emT 5 lvT (hg 5 - 1) (pidx 5 0 1) = false from em_0]; rfl
theorem mny_4 : mny 5 lvT 4 = 1 := by
 show runTo _ 1 1 = 1
 unfold runTo
 rw [show emT 5 lvT (hg 5 - 1) (pidx 5 4 1) = true from em_1]; rfl
def pfA : List NodT := pthT 5 lvT 0 2
def pfB : List NodT := pthT 5 lvT 4 1
theorem pfA_len : pfA.length = 2 := pthT_length _ _ _ _
theorem pfB_len : pfB.length = 1 := pthT_length _ _ _ _
theorem pfA_fit : FitT pfA := pthT_fit lvT_fit _ _
theorem pfB_fit : FitT pfB := pthT_fit lvT_fit _ _
def lvD : List UInt8 := sha (ndAt lvT (tot 5 (hg 5))).bl
theorem lvD_len : lvD.length = 32 := sha_length _
theorem lv_rec {n : Nat} {T : List NodT} (h : Tree n T) : ∀ i, i < n → (recT T i).x.toNat = 0 → recT T i = RecT.zero := fun i hi hx => by
 have h1 : i / 4 < un n (0 + 1) := by have := div_lt_un hi 1; simpa using this
 have hf := h.fit (l := 0) (j := i / 4) (Nat.zero_le _) h1
 rw [tot_zero, Nat.zero_add] at hf
 have hb := ((NodT.ck_ok hf.2.2.1).2.1 hf.1).2 (i % 4) (Nat.mod_lt _ (by decide))
 unfold RecT.Bad BadR at hb
 refine RecT.z_iff.1 ⟨hx, Classical.byContradiction fun hh => hb (.inr ⟨hx, hh⟩)⟩
theorem verA : ver 5 lvD 0 pfA = 0 ∧ verR 5 lvD 0 pfA = recOf 1 7 := by
 have h := lvT_tree.prf (x := 0) (by decide)
 have h2 := lvT_tree.prf_rec (x := 0) (by decide) (lv_rec lvT_tree)
 rw [mny_0] at h h2
 refine ⟨h.ver, h2.trans ?_⟩
 unfold recT; rw [show 0 / 4 = 0 from rfl, lvT_0, grpR_r (by decide)]; rfl
theorem verB : ver 5 lvD 4 pfB = 0 ∧ verR 5 lvD 4 pfB = RecT.zero := by
 have h := lvT_tree.prf (x := 4) (by decide)
 have h2 := lvT_tree.prf_rec (x := 4) (by decide) (lv_rec lvT_tree)
 rw [mny_4] at h h2
 refine ⟨h.ver, h2.trans ?_⟩
 unfold recT; rw [show 4 / 4 = 1 from rfl, lvT_1, grpR_r (by decide)]; rfl
theorem verC : ver 5 lvD 0 [] = 1 ∧ verR 5 lvD 0 [] = RecT.zero := by
 have h : ver 5 lvD 0 [] = 1 := ver_len (n := 5) (x := 0) (by decide) (by decide) (by decide) (.inl rfl)
 exact ⟨h, verR_no (by rw [h]; decide)⟩
theorem src5 : srcE 5 [RecT.zero, RecT.zero, RecT.zero, RecT.zero] [0,0,0] = 1 := srcE_no fun h => absurd h.2.2.1 (by decide)
theorem lv_buildR : Tryz.prog.built 52 [(0, aggV (recOf 1 7).v)] = some (recsV [recOf 1 7, RecT.zero, RecT.zero, RecT.zero]).toArray := by kernel_rfl
theorem lv_buildX : Tryz.prog.built 57 [(2, aggV (recsV [recOf 1 7, RecT.zero, RecT.zero, RecT.zero]))] = some (grpR lvR 0).v.toArray := by kernel_rfl
theorem lv_buildE (x : UInt8) (t : List UInt8) (ht : t.length = 32) : Tryz.prog.built 55 [(0, aggV (EntT.v ⟨x, t⟩))] = some (entsV [⟨x, t⟩, EntT.zero, EntT.zero, EntT.zero]).toArray := by
 match t, ht with
 | [a0, a1, a2, a3, a4, a5, a6, a7, a8, a9, b0, b1, b2, b3, b4, b5, b6, b7, b8, b9, c0, c1, c2, c3, c4, c5, c6, c7, c8, c9, d0, d1], _ => show _ = _; kernel_rfl
theorem lv_part (ys : List Value) : ((nodsV lvT ++ ys).drop (0 + 2 * 274 + 142)).take 132 = entsV [lvE, EntT.zero, EntT.zero, EntT.zero] := by
 have h1 := nods_at lvT_fit (i := 2) (by rw [lvT_len]; decide)
 have hl := nods_len lvT_fit
 rw [lvT_len] at hl
 rw [List.drop_append_of_le_length (by omega), List.take_append_of_le_length (by rw [List.length_drop]; omega)]
 have h2 : (((nodsV lvT).drop (2 * 274)).take 274).drop 142 = entsV (ndAt lvT 2).E := by
  rw [h1]
  have hf := lvT_fit.at 2
  show List.drop 142 ([byteV _, .int .u32 _] ++ (recsV (ndAt lvT 2).R ++ entsV (ndAt lvT 2).E)) = _
  rw [← List.append_assoc, List.drop_left']
  rw [List.length_append, recs_len hf.fr, hf.lr]; rfl
 rw [lvT_E] at h2
 rw [← h2, List.drop_take, List.drop_drop]
theorem zr4_fit : FitR [RecT.zero, RecT.zero, RecT.zero, RecT.zero] := fun r hr => by
 simp only [List.mem_cons, List.not_mem_nil, or_false, or_self] at hr
 subst hr; exact RecT.zero_fit
theorem lvE_kin : Kin (fun _ _ => True) (List.replicate 4 (.u8 :: List.replicate 32 .u8)).flatten (entsV [lvE, EntT.zero, EntT.zero, EntT.zero]) := by
 have h := EntT.kins (R := [lvE, EntT.zero, EntT.zero, EntT.zero]) (fun e he => by
  simp only [List.mem_cons, List.not_mem_nil, or_false] at he
  rcases he with rfl | rfl | rfl | rfl
  ·exact ⟨sha_length _⟩
  all_goals exact EntT.zero_fit)
 exact h
theorem flat55e : flat Tryz.prog 5 55 = some (List.replicate 4 (.u8 :: List.replicate 32 .u8)).flatten := by kernel_rfl
set_option maxHeartbeats 16000000 in
theorem lives16_fn  : FnM Tryz.prog 19 tabE [] (.v (.bool true)) := by
 refine FnM.of Tryz.func19 rfl (by kernel_rfl) Tryz.ntmps19 (by simp) (by decide) (fun w => [(1900000, tabH 0 ([errT])), (1900001, tab 1 (sizV)), (1900002, tab 2 (H8.list.map u32V)), (1900003, tab 3 (K64.map u32V))]) (fun w => (StartM.m (by simp [tabE]) (by decide) (StartM.m (by simp [tabE]) (by decide) (StartM.m (by simp [tabE]) (by decide) (StartM.m (by simp [tabE]) (by decide) StartM.nil))))) fun w₀ hM => ?_
 have htab := tabE_hi hM
 refine GV rfl (GS (TN 1 (RS (ok_call (lRecord_fn 1 7) (A2 rfl rfl)) ?_)));refine RN ?_;refine ZN 1000001 zero51 fun b1 ⟨hBb1, hb1⟩ => ?_
 refine TF 2 (RN ?_);refine ⟨_, eff_storeA (n := 149) (s := 1000001) (size51.of ((recOf_fit 1 7).len)) rfl rfl (RecT.one _) hBb1 rfl (by rw [(recOf_fit 1 7).len]; rfl) (LV 1 rfl (LeftS.cons (t := 1900000) rfl (Surv.tabH (by omega)) (LQ 1900001 rfl (LQ 1900002 rfl (LQ 1900003 rfl LN))))), ?_⟩
 refine TL (RN (GS (TN 1 (RS (ok_lit [] (RecT.v RecT.zero) (fun _ _ => rfl) (by kernel_rfl)) ?_))));refine RN ?_;refine ZM 1000019 (fun B' => ok_buildG (m := 1) [(0, aggV RecT.zero.v)] (recsV lzR) U26 infoP51 ⟨rfl, rfl, trivial⟩ (by kernel_rfl) (by decide) (by decide)) rfl fun b19 ⟨hBb19, hb19⟩ => ?_
 have hlt_b1_b19 := hb19 1000001 b1 _ _ rfl
 refine TN 2 (RN ?_);refine ZM 1000020 (fun B' => ok_buildG (m := 1) [(0, nI 0)] (slotV lzS) U27 infoPI ⟨rfl, rfl, trivial⟩ (by kernel_rfl) (by decide) (by decide)) rfl fun b20 ⟨hBb20, hb20⟩ => ?_
 have hlt_b1_b20 := hb20 1000001 b1 _ _ rfl
 have hlt_b19_b20 := hb20 1000019 b19 _ _ rfl
 refine RunTK.newG 3 (by decide) rfl (.inl rfl) ?_;refine RN ?_;refine ⟨_, _, _, eff_nameY (n := 149) (d := 21) (k := 1000021) rfl rfl (fun B' => ok_callMBK (Build_okB lzR lzR_fit (by decide) (by decide) lzR_ok lzS lzS_ok (by decide) ⟨b19,0, none⟩ ⟨b20,0, none⟩ 1 1 (by decide)) newY_mono (SubK.app (SubK.of (Sub.cons rfl (Sub.cons rfl (Sub.cons rfl KN))) tabN_v) (SubK.cons (k := 1000019) (by decide) rfl Le.blkR0 (SubK.cons (k := 1000020) (by decide) rfl Le.blkR0 SubK.nil))) (A3 rfl rfl rfl)) (by decide) (by decide), fun x21 hx21 => ?_⟩
 obtain ⟨g21, y21⟩ := x21
 have hBg21 : w₀.heap.size ≤ g21 := hx21.1
 refine TN 7 (RV 2 rfl ?_);refine RZ (aggV [nI 1, .slice (some ⟨g21,0, none⟩) lzT.length lzT.length]) (by rw [lzT_len]; rfl) ?_;refine RVN 1 rfl ?_;refine ZN 1000002 zero32 fun b2 ⟨hBb2, hb2⟩ => ?_
 refine TF 8 (RN ?_);refine ZA 1000002 (size32.of rfl) hBb2 rfl rfl rfl (LT 1000001 rfl (LT 1000019 rfl (LT 1000020 rfl (LT 1000021 rfl (LeftS.cons (t := 1900000) rfl (Surv.tabH (by omega)) (LQ 1900001 rfl (LQ 1900002 rfl (LQ 1900003 rfl (LW [1,2,23] rfl))))))))) ?_;refine TL (RVN 1 rfl ?_);refine GS (TN 5 (RL 1000002 U32 rfl rfl (size32.of rfl) ?_));refine RS (ok_callMK (Root_ok 1 ⟨g21,0, none⟩ lzT lzT_fit lzT.length lzT_tree) (SubK.app (SubK.of (Sub.cons rfl (Sub.cons rfl (Sub.cons rfl (Sub.cons rfl KN)))) tabE_v) (SubK.cons (k := 1000021) (by decide) rfl Le.blkR SubK.nil)) (A1 rfl)) ?_;refine RVN 3 rfl ?_;refine ZN 1000004 zero40 fun b4 ⟨hBb4, hb4⟩ => ?_
 refine TF 6 (RN ?_);refine ⟨_, eff_storeA (n := 149) (s := 1000004) (size40.of (by rw [List.length_map, sha_length])) rfl rfl (all_bytes _) hBb4 rfl (by rw [List.length_map, sha_length]; rfl) (LT 1000001 rfl (LT 1000002 rfl (LT 1000019 rfl (LT 1000020 rfl (LT 1000021 rfl (LeftS.cons (t := 1900000) rfl (Surv.tabH (by omega)) (LQ 1900001 rfl (LQ 1900002 rfl (LQ 1900003 rfl (LW [1,3,4,28] rfl)))))))))), ?_⟩
 refine TL (RVN 1 rfl ?_);refine GS (TN 5 (RL 1000001 U51 rfl rfl (size51.of ((recOf_fit 1 7).len)) ?_));refine RS (ok_lit [] (RecT.v RecT.zero) (fun _ _ => rfl) (by kernel_rfl)) ?_;refine RS (ok_lit [] (RecT.v RecT.zero) (fun _ _ => rfl) (by kernel_rfl)) ?_;refine RS (ok_lit [] (RecT.v RecT.zero) (fun _ _ => rfl) (by kernel_rfl)) ?_;refine RS (ok_lit [] (RecT.v RecT.zero) (fun _ _ => rfl) (by kernel_rfl)) ?_;refine RN ?_;refine ZM 1000035 (fun B' => ok_buildG (m := 5) [(0, aggV (recOf 1 7).v), (1, aggV RecT.zero.v), (2, aggV RecT.zero.v), (3, aggV RecT.zero.v), (4, aggV RecT.zero.v)] (recsV lvR) U26 infoP51 ⟨rfl, rfl, rfl, rfl, rfl, rfl, rfl, rfl, rfl, rfl, trivial⟩ (by kernel_rfl) (by decide) (by decide)) rfl fun b35 ⟨hBb35, hb35⟩ => ?_
 have hlt_b1_b35 := hb35 1000001 b1 _ _ rfl
 have hlt_b2_b35 := hb35 1000002 b2 _ _ rfl
 have hlt_b4_b35 := hb35 1000004 b4 _ _ rfl
 have hlt_b19_b35 := hb35 1000019 b19 _ _ rfl
 have hlt_b20_b35 := hb35 1000020 b20 _ _ rfl
 have hlt_g21_b35 := hb35 1000021 g21 _ _ rfl
 refine TN 6 (RN ?_);refine ZM 1000036 (fun B' => ok_buildG (m := 3) [(0, nI 1), (1, nI 0), (2, nI 0)] (slotV lvS) U27 infoPI ⟨rfl, rfl, rfl, rfl, rfl, rfl, trivial⟩ (by kernel_rfl) (by decide) (by decide)) rfl fun b36 ⟨hBb36, hb36⟩ => ?_
 have hlt_b1_b36 := hb36 1000001 b1 _ _ rfl
 have hlt_b2_b36 := hb36 1000002 b2 _ _ rfl
 have hlt_b4_b36 := hb36 1000004 b4 _ _ rfl
 have hlt_b19_b36 := hb36 1000019 b19 _ _ rfl
 have hlt_b20_b36 := hb36 1000020 b20 _ _ rfl
 have hlt_g21_b36 := hb36 1000021 g21 _ _ rfl
 have hlt_b35_b36 := hb36 1000035 b35 _ _ rfl
 refine RunTK.newG 7 (by decide) rfl (.inl rfl) ?_;refine RN ?_;refine ⟨_, _, _, eff_nameY (n := 149) (d := 37) (k := 1000037) rfl rfl (fun B' => ok_callMBK (Build_okB lvR lvR_fit (by decide) (by decide) lvR_ok lvS lvS_ok (by decide) ⟨b35,0, none⟩ ⟨b36,0, none⟩ 5 3 (by decide)) newY_mono (SubK.app (SubK.of (Sub.cons rfl (Sub.cons rfl (Sub.cons rfl KN))) tabN_v) (SubK.cons (k := 1000035) (by decide) rfl Le.blkR0 (SubK.cons (k := 1000036) (by decide) rfl Le.blkR0 SubK.nil))) (A3 rfl rfl rfl)) (by decide) (by decide), fun x37 hx37 => ?_⟩
 obtain ⟨g37, y37⟩ := x37
 have hBg37 : w₀.heap.size ≤ g37 := hx37.1
 refine TN 11 (RV 2 rfl ?_);refine RZ (aggV [nI 5, .slice (some ⟨g37,0, none⟩) lvT.length lvT.length]) (by rw [lvT_len]; rfl) ?_;refine RVN 1 rfl ?_;refine ZN 1000006 zero32 fun b6 ⟨hBb6, hb6⟩ => ?_
 have hlt_b2_b6 := hb6 1000002 b2 _ _ rfl
 refine TF 12 (RN ?_);refine ZA 1000006 (size32.of rfl) hBb6 rfl rfl rfl (LT 1000001 rfl (LB 1000002 rfl (LT 1000004 rfl (LT 1000019 rfl (LT 1000020 rfl (LT 1000021 rfl (LT 1000035 rfl (LT 1000036 rfl (LT 1000037 rfl (LeftS.cons (t := 1900000) rfl (Surv.tabH (by omega)) (LQ 1900001 rfl (LQ 1900002 rfl (LQ 1900003 rfl (LW [1,3,4,5,6,39] rfl)))))))))))))) ?_;refine TL (RVN 1 rfl ?_);refine A.sub (Sv [1,3,4,5,6,7,1000001,1000002,1000004,1000006,1000019,1000020,1000021,1000035,1000036,1000037,1900000,1900001,1900002,1900003] rfl) ?_;refine GS (RunTK.newG 1 (by decide) rfl (.inl rfl) ?_);refine RL 1000006 U32 rfl rfl (size32.of rfl) ?_;refine RN ?_;refine ⟨_, _, _, eff_nameY (n := 149) (d := 42) (k := 1000042) rfl rfl (fun B' => ok_callMBK (Prove_okB 5 ⟨g37,0, none⟩ lvT lvT_fit lvT.length lvT_tree 0 (by decide)) newY_mono (SubK.app (SubK.of (Sub.cons rfl (Sub.cons rfl (Sub.cons rfl (Sub.cons rfl KN)))) tabE_v) (SubK.cons (k := 1000037) (by decide) rfl Le.blkR SubK.nil)) (A2 rfl rfl)) (by decide) (by decide), fun x42 hx42 => ?_⟩
 obtain ⟨g42, y42⟩ := x42
 have hBg42 : w₀.heap.size ≤ g42 := hx42.1
 refine TN 5 (RV 2 rfl ?_);refine RZ (aggV [nI 0, .slice (some ⟨g42,0, none⟩) pfA.length pfA.length]) (by rw [pfA_len, mny_0]) ?_;refine RVN 1 rfl ?_;refine ZN 1000008 zero69 fun b8 ⟨hBb8, hb8⟩ => ?_
 refine TF 6 (RN ?_);refine ZA 1000008 (size69.of rfl) hBb8 rfl rfl rfl (LT 1000001 rfl (LT 1000002 rfl (LT 1000004 rfl (LT 1000006 rfl (LT 1000019 rfl (LT 1000020 rfl (LT 1000021 rfl (LT 1000035 rfl (LT 1000036 rfl (LT 1000037 rfl (LT 1000042 rfl (LeftS.cons (t := 1900000) rfl (Surv.tabH (by omega)) (LQ 1900001 rfl (LQ 1900002 rfl (LQ 1900003 rfl (LW [1,3,4,5,6,7,8,44] rfl)))))))))))))))) ?_;refine TL (RVN 1 rfl ?_);refine GS (RunTK.newG 1 (by decide) rfl (.inl rfl) ?_);refine RL 1000006 U32 rfl rfl (size32.of rfl) ?_;refine RN ?_;refine ⟨_, _, _, eff_nameY (n := 149) (d := 47) (k := 1000047) rfl rfl (fun B' => ok_callMBK (Prove_okB 5 ⟨g37,0, none⟩ lvT lvT_fit lvT.length lvT_tree 4 (by decide)) newY_mono (SubK.app (SubK.of (Sub.cons rfl (Sub.cons rfl (Sub.cons rfl (Sub.cons rfl KN)))) tabE_v) (SubK.cons (k := 1000037) (by decide) rfl Le.blkR SubK.nil)) (A2 rfl rfl)) (by decide) (by decide), fun x47 hx47 => ?_⟩
 obtain ⟨g47, y47⟩ := x47
 have hBg47 : w₀.heap.size ≤ g47 := hx47.1
 refine TN 5 (RV 2 rfl ?_);refine RZ (aggV [nI 4, .slice (some ⟨g47,0, none⟩) pfB.length pfB.length]) (by rw [pfB_len, mny_4]) ?_;refine RVN 1 rfl ?_;refine ZN 1000010 zero69 fun b10 ⟨hBb10, hb10⟩ => ?_
 have hlt_b8_b10 := hb10 1000008 b8 _ _ rfl
 refine TF 6 (RN ?_);refine ZA 1000010 (size69.of rfl) hBb10 rfl rfl rfl (LT 1000001 rfl (LT 1000002 rfl (LT 1000004 rfl (LT 1000006 rfl (LB 1000008 rfl (LT 1000019 rfl (LT 1000020 rfl (LT 1000021 rfl (LT 1000035 rfl (LT 1000036 rfl (LT 1000037 rfl (LT 1000042 rfl (LT 1000047 rfl (LeftS.cons (t := 1900000) rfl (Surv.tabH (by omega)) (LQ 1900001 rfl (LQ 1900002 rfl (LQ 1900003 rfl (LW [1,3,4,5,6,7,8,9,10,49] rfl)))))))))))))))))) ?_;refine TL (RVN 1 rfl ?_);refine GS (TN 5 (RL 1000006 U32 rfl rfl (size32.of rfl) ?_));refine RS (ok_callMK (Root_ok 5 ⟨g37,0, none⟩ lvT lvT_fit lvT.length lvT_tree) (SubK.app (SubK.of (Sub.cons rfl (Sub.cons rfl (Sub.cons rfl (Sub.cons rfl KN)))) tabE_v) (SubK.cons (k := 1000037) (by decide) rfl Le.blkR SubK.nil)) (A1 rfl)) ?_;refine RV 2 rfl ?_;refine RZ (aggV (lvD.map byteV)) (by rfl) ?_;refine RVN 1 rfl ?_;refine ZN 1000012 zero40 fun b12 ⟨hBb12, hb12⟩ => ?_
 have hlt_b4_b12 := hb12 1000004 b4 _ _ rfl
 refine TF 6 (RN ?_);refine ⟨_, eff_storeA (n := 149) (s := 1000012) (size40.of (by rw [List.length_map, lvD_len])) rfl rfl (all_bytes _) hBb12 rfl (by rw [List.length_map, lvD_len]; rfl) (LT 1000001 rfl (LT 1000002 rfl (LB 1000004 rfl (LT 1000006 rfl (LT 1000008 rfl (LT 1000010 rfl (LT 1000019 rfl (LT 1000020 rfl (LT 1000021 rfl (LT 1000035 rfl (LT 1000036 rfl (LT 1000037 rfl (LT 1000042 rfl (LT 1000047 rfl (LeftS.cons (t := 1900000) rfl (Surv.tabH (by omega)) (LQ 1900001 rfl (LQ 1900002 rfl (LQ 1900003 rfl (LW [1,3,4,5,6,7,8,9,10,11,12,54] rfl))))))))))))))))))), ?_⟩
 refine TL (RVN 1 rfl ?_);refine QS (GTD (RV 3 rfl ?_));refine RZ (.int .i64 0) (by rfl) ?_;refine RV 2 rfl ?_;refine RZ (.int .i64 0) (by rfl) ?_;refine RV 2 rfl ?_;refine RZ (.int .i64 0) (by rfl) ?_;refine RV 2 rfl ?_;refine RZ (.int .i64 0) (by rfl) ?_;refine RV 2 rfl ?_;refine RZ (.int .i64 0) (by rfl) ?_;refine RB rfl rfl rfl ?_;refine RF ?_;refine RM rfl ?_;refine RQ (ok_loadA (s := 1000004) (by decide) U40 rfl (size40.of (by rw [List.length_map, sha_length])) rfl rfl) ?_;refine RQ (ok_lit [] (NodT.v (NodT.emp 0 0)) (fun _ _ => rfl) (by kernel_rfl)) ?_;refine RQ (ok_call (rDigest_fn (NodT.emp 0 0) (NodT.emp_fit 0 (j := 0) (by decide)) (by decide)) (A1 rfl)) ?_;refine RQ (ok_neqT (n := 4) true flat40r (by decide) (by kernel_rfl) (by kernel_rfl) rfl rfl (kinB (sha_length _)) (kinB (sha_length _)) (iff_of_true rfl (by rw [lzT_at]))) ?_;refine RF ?_;refine RP rfl rfl ?_;refine RF ?_;refine RM rfl ?_;refine RQ (ok_field field32_1 (by decide) rfl) ?_;refine RQ (ok_loadV (s := 1000006) (by decide) U30 rfl rfl rfl (rfl)) ?_;refine RQ (ok_lenV U30 rfl) ?_;refine RQ (ok_bin rfl rfl rfl) ?_;refine RZ (.bool false) (congrArg Value.bool (by rw [lvT_len]; rfl)) ?_;refine RP rfl rfl ?_;refine RF ?_;refine RM rfl ?_;refine RQ (ok_field field69_1 (by decide) rfl) ?_;refine RQ (ok_loadV (s := 1000008) (by decide) U30 rfl rfl rfl (rfl)) ?_;refine RQ (ok_lenV U30 rfl) ?_;refine RQ (ok_bin rfl rfl rfl) ?_;refine RZ (.bool false) (congrArg Value.bool (by rw [pfA_len]; rfl)) ?_;refine RP rfl rfl ?_;refine RF ?_;refine RM rfl ?_;refine RQ (ok_field field69_1 (by decide) rfl) ?_;refine RQ (ok_loadV (s := 1000010) (by decide) U30 rfl rfl rfl (rfl)) ?_;refine RQ (ok_lenV U30 rfl) ?_;refine RQ (ok_bin rfl rfl rfl) ?_;refine RZ (.bool false) (congrArg Value.bool (by rw [pfB_len]; rfl)) ?_;refine RP rfl rfl ?_;refine RF ?_;refine RN (A.sub (Sv [1,6,8,10,12,90,1000001,1000002,1000004,1000006,1000008,1000010,1000012,1000019,1000020,1000021,1000035,1000036,1000037,1000042,1000047,1900000,1900001,1900002,1900003] rfl) ?_);refine A.no rfl ?_;refine QK (QS (GTD (RS (ok_field field32_1 (by decide) rfl) ?_)));refine RLV 1000006 U30 rfl rfl rfl ?_;refine RS (ok_indexS 2 U30 infoN rfl rfl rfl (by rw [lvT_len]; decide)) ?_;refine RS (ok_field field57_3 (by decide) rfl) ?_;refine RS (ok_loadP (s := 1000037) (by decide) U55 rfl size55 rfl rfl (by have hl := nods_len lvT_fit; rw [lvT_len] at hl; rw [List.length_append]; show _ ≤ (nodsV lvT).length + _; omega) (lv_part _)) ?_;refine RL 1000001 U51 rfl rfl (size51.of ((recOf_fit 1 7).len)) ?_;refine RS (ok_litS [(0, aggV (recOf 1 7).v)] (recsV [recOf 1 7, RecT.zero, RecT.zero, RecT.zero]) ⟨rfl, rfl, trivial⟩ lv_buildR) ?_;refine RS (ok_litS [(2, aggV (recsV [recOf 1 7, RecT.zero, RecT.zero, RecT.zero]))] (grpR lvR 0).v ⟨rfl, rfl, trivial⟩ lv_buildX) ?_;refine RS (ok_call (rDigest_fn (grpR lvR 0) (grpR_fit lvR_fit (by decide)) (by decide)) (A1 rfl)) ?_
 refine RS (ok_litS [(0, byteV 2), (1, aggV ((sha (grpR lvR 0).bl).map byteV))] (EntT.v lvE) ⟨rfl, rfl, rfl, rfl, trivial⟩ (buildEntB _ _ (sha_length _))) ?_;refine RS (ok_litS [(0, aggV lvE.v)] (entsV [lvE, EntT.zero, EntT.zero, EntT.zero]) ⟨rfl, rfl, trivial⟩ (lv_buildE _ _ (sha_length _))) ?_;refine RS (ok_neqT (n := 5) true flat55e (by decide) (by kernel_rfl) (by kernel_rfl) rfl rfl lvE_kin lvE_kin (iff_of_true rfl rfl)) ?_;refine RF ?_;refine RN (A.no rfl ?_);refine QK (GS (TN 6 (RL 1000012 U40 rfl rfl (size40.of (by rw [List.length_map, lvD_len])) ?_)));refine RL 1000008 U69 rfl rfl (size69.of rfl) ?_;refine RS (ok_callMK (Verify_fn 5 0 lvD lvD_len (some ⟨g42,0, none⟩) pfA pfA_fit pfA.length) (SubK.app (SubK.of (Sub.cons rfl (Sub.cons rfl (Sub.cons rfl (Sub.cons rfl KN)))) tabE_v) (SubK.cons (k := 1000042) (by decide) rfl Le.blkR SubK.nil)) (A3 rfl rfl rfl)) ?_;refine RV 2 rfl ?_;refine RZ (aggV (recOf 1 7).v) (by rw [verA.2]) ?_;refine RS (ok_extractV rfl rfl) ?_;refine RZ (.int .i64 0) (by rw [verA.1]) ?_;refine RN ?_;refine ZN 1000014 zero51 fun b14 ⟨hBb14, hb14⟩ => ?_
 have hlt_b1_b14 := hb14 1000001 b1 _ _ rfl
 have hlt_b19_b14 := hb14 1000019 b19 _ _ rfl
 have hlt_b35_b14 := hb14 1000035 b35 _ _ rfl
 refine TF 7 (RN ?_);refine ⟨_, eff_storeA (n := 149) (s := 1000014) (size51.of ((recOf_fit 1 7).len)) rfl rfl (RecT.one _) hBb14 rfl (by rw [(recOf_fit 1 7).len]; rfl) (LB 1000001 rfl (LT 1000002 rfl (LT 1000004 rfl (LT 1000006 rfl (LT 1000008 rfl (LT 1000010 rfl (LT 1000012 rfl (LB 1000019 rfl (LT 1000020 rfl (LT 1000021 rfl (LB 1000035 rfl (LT 1000036 rfl (LT 1000037 rfl (LT 1000042 rfl (LT 1000047 rfl (LeftS.cons (t := 1900000) rfl (Surv.tabH (by omega)) (LQ 1900001 rfl (LQ 1900002 rfl (LQ 1900003 rfl (LW [1,10,12,14,108] rfl)))))))))))))))))))), ?_⟩
 refine TL (RVN 1 rfl ?_);refine GS (TN 6 (RL 1000012 U40 rfl rfl (size40.of (by rw [List.length_map, lvD_len])) ?_));refine RL 1000010 U69 rfl rfl (size69.of rfl) ?_;refine RS (ok_callMK (Verify_fn 5 4 lvD lvD_len (some ⟨g47,0, none⟩) pfB pfB_fit pfB.length) (SubK.app (SubK.of (Sub.cons rfl (Sub.cons rfl (Sub.cons rfl (Sub.cons rfl KN)))) tabE_v) (SubK.cons (k := 1000047) (by decide) rfl Le.blkR SubK.nil)) (A3 rfl rfl rfl)) ?_;refine RV 2 rfl ?_;refine RZ (aggV RecT.zero.v) (by rw [verB.2]) ?_;refine RS (ok_extractV rfl rfl) ?_;refine RZ (.int .i64 0) (by rw [verB.1]) ?_;refine RN ?_;refine ZN 1000015 zero51 fun b15 ⟨hBb15, hb15⟩ => ?_
 have hlt_b1_b15 := hb15 1000001 b1 _ _ rfl
 have hlt_b14_b15 := hb15 1000014 b14 _ _ rfl
 have hlt_b19_b15 := hb15 1000019 b19 _ _ rfl
 have hlt_b35_b15 := hb15 1000035 b35 _ _ rfl
 refine TF 7 (RN ?_);refine ⟨_, eff_storeA (n := 149) (s := 1000015) (size51.of (RecT.zero_fit.len)) rfl rfl (RecT.one _) hBb15 rfl (by rw [RecT.zero_fit.len]; rfl) (LB 1000001 rfl (LT 1000002 rfl (LT 1000004 rfl (LT 1000006 rfl (LT 1000008 rfl (LT 1000010 rfl (LT 1000012 rfl (LB 1000014 rfl (LB 1000019 rfl (LT 1000020 rfl (LT 1000021 rfl (LB 1000035 rfl (LT 1000036 rfl (LT 1000037 rfl (LT 1000042 rfl (LT 1000047 rfl (LeftS.cons (t := 1900000) rfl (Surv.tabH (by omega)) (LQ 1900001 rfl (LQ 1900002 rfl (LQ 1900003 rfl (LW [1,3,12,14,15,114] rfl))))))))))))))))))))), ?_⟩
 refine TL (RVN 1 rfl ?_);refine A.sub (Sv [1,3,5,12,14,15,1000001,1000002,1000004,1000006,1000008,1000010,1000012,1000014,1000015,1000019,1000020,1000021,1000035,1000036,1000037,1000042,1000047,1900000,1900001,1900002,1900003] rfl) ?_;refine GS (TN 0 (RN ?_));refine ZM 1000116 (fun B' => ok_makeK 4 U26 infoP51 (by decide) rfl rfl (by decide)) rfl fun b116 ⟨hBb116, hb116⟩ => ?_
 have hlt_b1_b116 := hb116 1000001 b1 _ _ rfl
 have hlt_b2_b116 := hb116 1000002 b2 _ _ rfl
 have hlt_b4_b116 := hb116 1000004 b4 _ _ rfl
 have hlt_b6_b116 := hb116 1000006 b6 _ _ rfl
 have hlt_b8_b116 := hb116 1000008 b8 _ _ rfl
 have hlt_b10_b116 := hb116 1000010 b10 _ _ rfl
 have hlt_b12_b116 := hb116 1000012 b12 _ _ rfl
 have hlt_b14_b116 := hb116 1000014 b14 _ _ rfl
 have hlt_b15_b116 := hb116 1000015 b15 _ _ rfl
 have hlt_b19_b116 := hb116 1000019 b19 _ _ rfl
 have hlt_b20_b116 := hb116 1000020 b20 _ _ rfl
 have hlt_g21_b116 := hb116 1000021 g21 _ _ rfl
 have hlt_b35_b116 := hb116 1000035 b35 _ _ rfl
 have hlt_b36_b116 := hb116 1000036 b36 _ _ rfl
 have hlt_g37_b116 := hb116 1000037 g37 _ _ rfl
 have hlt_g42_b116 := hb116 1000042 g42 _ _ rfl
 have hlt_g47_b116 := hb116 1000047 g47 _ _ rfl
 refine TN 1 (RN ?_);refine ZM 1000117 (fun B' => ok_buildG (m := 3) [(0, nI 0), (1, nI 0), (2, nI 0)] (intL [0,0,0]) U27 infoPI ⟨rfl, rfl, rfl, rfl, rfl, rfl, trivial⟩ (by kernel_rfl) (by decide) (by decide)) rfl fun b117 ⟨hBb117, hb117⟩ => ?_
 have hlt_b1_b117 := hb117 1000001 b1 _ _ rfl
 have hlt_b2_b117 := hb117 1000002 b2 _ _ rfl
 have hlt_b4_b117 := hb117 1000004 b4 _ _ rfl
 have hlt_b6_b117 := hb117 1000006 b6 _ _ rfl
 have hlt_b8_b117 := hb117 1000008 b8 _ _ rfl
 have hlt_b10_b117 := hb117 1000010 b10 _ _ rfl
 have hlt_b12_b117 := hb117 1000012 b12 _ _ rfl
 have hlt_b14_b117 := hb117 1000014 b14 _ _ rfl
 have hlt_b15_b117 := hb117 1000015 b15 _ _ rfl
 have hlt_b19_b117 := hb117 1000019 b19 _ _ rfl
 have hlt_b20_b117 := hb117 1000020 b20 _ _ rfl
 have hlt_g21_b117 := hb117 1000021 g21 _ _ rfl
 have hlt_b35_b117 := hb117 1000035 b35 _ _ rfl
 have hlt_b36_b117 := hb117 1000036 b36 _ _ rfl
 have hlt_g37_b117 := hb117 1000037 g37 _ _ rfl
 have hlt_g42_b117 := hb117 1000042 g42 _ _ rfl
 have hlt_g47_b117 := hb117 1000047 g47 _ _ rfl
 have hlt_b116_b117 := hb117 1000116 b116 _ _ rfl
 refine TL (RS (ok_callMK (Build_bad 5 [RecT.zero, RecT.zero, RecT.zero, RecT.zero] zr4_fit [0,0,0] (some ⟨b116,0, none⟩) (some ⟨b117,0, none⟩) 4 3 src5) (SubK.cons (k := 1000116) (by decide) rfl ((Le.eq (congrArg (blk b116 51) (made_rec 4 (fun _ => RecT.zero)))).trans Le.blkR0) (SubK.cons (k := 1000117) (by decide) rfl Le.blkR0 SubK.nil)) (A3 rfl rfl rfl)) ?_);refine RVN 4 rfl ?_;refine GT (RL 1000012 U40 rfl rfl (size40.of (by rw [List.length_map, lvD_len])) ?_);refine RS (ok_lit [] ([.int .i64 0] ++ [.slice none 0 0]) (fun _ _ => rfl) (by kernel_rfl)) ?_;refine RS (ok_callMK (Verify_fn 5 0 lvD lvD_len none [] FitT.nil 0) (SubK.app (SubK.of (Sub.cons rfl (Sub.cons rfl (Sub.cons rfl (Sub.cons rfl KN)))) tabE_v) (SubK.cons (k := 1000037) (by decide) rfl Le.memNil SubK.nil)) (A3 rfl rfl rfl)) ?_;refine RV 2 rfl ?_;refine RZ (aggV RecT.zero.v) (by rw [verC.2]) ?_;refine RS (ok_extractV rfl rfl) ?_;refine RZ (.int .i64 1) (by rw [verC.1]) ?_;refine RVN 1 rfl ?_;refine GT (RV 3 rfl ?_);refine RZ (.int .i64 0) (by rfl) ?_;refine RB rfl rfl rfl ?_;refine RT ?_;refine RM rfl ?_;refine RQ (ok_loadA (s := 1000014) (by decide) U51 rfl (size51.of ((recOf_fit 1 7).len)) rfl rfl) ?_;refine RQ (ok_loadA (s := 1000001) (by decide) U51 rfl (size51.of ((recOf_fit 1 7).len)) rfl rfl) ?_;refine RQ (ok_eqlT (n := 4) true flat51 (by decide) (by kernel_rfl) (by kernel_rfl) rfl rfl (recOf_fit 1 7).kin (recOf_fit 1 7).kin (iff_of_true rfl rfl)) ?_;refine RP rfl rfl ?_;refine RT ?_;refine RM rfl ?_;refine RQ (ok_loadA (s := 1000015) (by decide) U51 rfl (size51.of (RecT.zero_fit.len)) rfl rfl) ?_;refine RQ (ok_lit [] (RecT.v RecT.zero) (fun _ _ => rfl) (by kernel_rfl)) ?_;refine RQ (ok_eqlT (n := 4) true flat51 (by decide) (by kernel_rfl) (by kernel_rfl) rfl rfl RecT.zero_fit.kin RecT.zero_fit.kin (iff_of_true rfl rfl)) ?_;refine RP rfl rfl ?_;refine RT ?_;refine RV 3 rfl ?_;refine RT ?_;refine RP rfl rfl ?_;refine RT ?_;refine RV 3 rfl ?_;refine RT ?_;refine RP rfl rfl ?_;refine RT ?_;refine RVN 1 rfl ?_;refine A.sub (Sv [0,1000001,1000002,1000004,1000006,1000008,1000010,1000012,1000014,1000015,1000019,1000020,1000021,1000035,1000036,1000037,1000042,1000047,1000116,1000117,1900000,1900001,1900002,1900003] rfl) ?_;refine A.ret ?_;exact ER rfl rfl
end
end Go.Proofs.YtmkpekmhhbcifaaGreatDoor
