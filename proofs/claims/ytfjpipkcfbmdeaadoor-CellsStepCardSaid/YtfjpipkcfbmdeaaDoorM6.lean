/-
  OWN TEXTS of this seat, put together, part 6: C15d, Law9, Law8, Law13, C15e, C15f, C15g.
-/
import Derived.Test.YtfjpipkcfbmdeaaDoorM1
import Derived.Test.YtfjpipkcfbmdeaaDoorM5
import Derived.Test.YtfjpipkcfbmdeaaDoorM2
import Derived.Test.YtfjpipkcfbmdeaaDoorM3
import Derived.Test.YtfjpipkcfbmdeaaDoorM4
namespace Go.Proofs.YtfjpipkcfbmdeaaDoor
open Go Go.RowKit
set_option linter.unusedVariables false
set_option maxRecDepth 20000
set_option linter.unusedSimpArgs false

theorem and1_u64 {n : Nat} (h : n < 18446744073709551616) : Value.int .u64 (IntKind.u64.wrap ((BitVec.ofInt 64 (n : Int) &&& BitVec.ofInt 64 ((1 : Nat) : Int)).toNat : Int)) = nQ (n % 2) := by
 rw [and_u64_nat h (by decide), Nat.and_one_is_mod]
theorem sum_over {a b : Nat} (h : 18446744073709551616 ≤ a + b) (h2 : a + b < 36893488147419103232) : Value.int .u64 (IntKind.u64.wrap ((a : Int) + (b : Int))) = nQ (a + b - 18446744073709551616) := by
 rw [wrap_u64_int]; exact congrArg (Value.int .u64) (by omega)
theorem sum_in {a b : Nat} (h : a + b < 18446744073709551616) : Value.int .u64 (IntKind.u64.wrap ((a : Int) + (b : Int))) = nQ (a + b) := by
 rw [← Int.natCast_add]; exact congrArg _ (wrapN_u64 h)
set_option maxHeartbeats 2000000 in
theorem Fresh_y (k : Nat) (hk : k < 65536) (z : Nat) (h1 : 1 ≤ z) (h2 : z ≤ 4096) : FnM Tryd.prog 3 tabN [.v (aggV [.int .u16 (k : Int)]), .v (nI (z))] (.v (.bool true)) := by
 refine FnM.of Tryd.func3 rfl (by kernel_rfl) Tryd.ntmps3 (by simp) (by decide) (fun w => [(0, .v (aggV [.int .u16 (k : Int)])), (1, .v (nI (z))), (1900000, tab 0 (sizV)), (1900001, tab 1 (H8.list.map u32V)), (1900002, tab 2 (K64.map u32V))]) (fun w => (StartM.v rfl (StartM.v rfl (StartM.m (by simp [tabN]) (by decide) (StartM.m (by simp [tabN]) (by decide) (StartM.m (by simp [tabN]) (by decide) StartM.nil)))))) fun w₀ hM => ?_
 have htab := tabN_hi hM
 refine GS ?_
 refine TN 0 ?_
 refine RN ?_
 refine ⟨_, _, eff_box (n := 60) (d := 2) (k := 1000002) rfl (by decide), fun b2 hb2 => ?_⟩
 have hBb2 := hb2.1
 refine TL ?_
 refine RA rfl ?_
 refine RN ?_
 refine GS ?_
 refine TL ?_
 refine RS (ok_loadA (s := 1000002) (by decide) Tryd.underlying24 rfl (size24.of (by rfl)) rfl rfl) ?_
 refine RS (ok_call (NOf_fn k hk) (A1 rfl)) ?_
 refine RA rfl ?_
 refine RN ?_
 refine GS ?_
 refine TN 5 ?_
 refine RM rfl ?_
 refine RS (ok_callM (Fresh_ok (nn k) (nn1 k) (nn2 k)) (Sub.cons rfl (Sub.cons rfl (Sub.cons rfl KN))) tabN_v (A1 rfl)) ?_
 refine RM rfl ?_
 refine RS (ok_extractV rfl rfl) ?_
 refine RS (ok_extractV rfl rfl) ?_
 refine RN ?_
 refine ⟨_, _, eff_alloc (n := 60) (d := 6) (k := 1000006) zero30 (by decide), fun b6 hb6 => ?_⟩
 have hBb6 := hb6.1
 refine TF 6 ?_
 refine RN ?_
 refine ⟨_, eff_storeA (n := 60) (s := 1000006) (size30.of ((frC_fit (nn k)).len)) rfl rfl (CelT.one _) hBb6 rfl (by rw [(frC_fit (nn k)).len]; rfl) (LV 1 rfl (LV 5 rfl (LV 6 rfl (LV 15 rfl (LT 1000002 rfl (LeftS.cons (t := 1900000) rfl (Surv.tab (by omega)) (LeftS.cons (t := 1900001) rfl (Surv.tab (by omega)) (LeftS.cons (t := 1900002) rfl (Surv.tab (by omega)) LN)))))))), ?_⟩
 refine TL ?_
 refine RA rfl ?_
 refine RN ?_
 refine A.seq ?_
 refine GD ?_
 refine TL ?_
 refine RM rfl ?_
 refine RBS rfl rfl rfl (.bool false) (by rfl) ?_
 refine RM rfl ?_
 refine RQ (ok_loadA (s := 1000006) (by decide) Tryd.underlying30 rfl (size30.of ((frC_fit (nn k)).len)) rfl rfl) ?_
 refine RQ (ok_move rfl) ?_
 refine RQ (ok_call (rFresh_fn (nn k) (nn1 k) (nn2 k)) (A1 rfl)) ?_
 refine RQ (ok_neqT (n := 4) true flat30 (by decide) (by kernel_rfl) (by kernel_rfl) rfl rfl (frC_fit (nn k)).kin (frC_fit (nn k)).kin (iff_of_true rfl rfl)) ?_; refine RZ (.bool false) (by rfl) ?_
 refine RP rfl rfl ?_
 refine RM rfl ?_
 refine RQ (ok_loadA (s := 1000006) (by decide) Tryd.underlying30 rfl (size30.of ((frC_fit (nn k)).len)) rfl rfl) ?_
 refine RQ (ok_call (Slot_fn (frC (nn k)) (frC_fit (nn k))) (A1 rfl)) ?_; refine RZ (nI (0)) (by rfl) ?_
 refine RQ (ok_bin rfl rfl rfl) ?_; refine RZ (.bool false) (by rfl) ?_
 refine RP rfl rfl ?_
 refine RM rfl ?_
 refine RQ (ok_move rfl) ?_
 refine RQ (ok_call (rHeight_fn (nn k) (nn1 k) (nn2 k)) (A1 rfl)) ?_
 refine RQ (ok_bin rfl rfl rfl) ?_; refine RZ (.bool false) (by have := hg_le (nn k); simp; omega) ?_
 refine RP rfl rfl ?_
 refine RN ?_
 refine A.sub (KC 1 rfl (KC 33 rfl (KC 1000002 rfl (KC 1000006 rfl (KC 1900000 rfl (KC 1900001 rfl (KC 1900002 rfl KN))))))) ?_
 refine A.no rfl ?_
 refine A.skip ?_
 refine EN ?_
 refine GS ?_
 refine TN 5 ?_
 refine RM rfl ?_
 refine RS (ok_callM (Fresh_ok z h1 h2) (Sub.cons rfl (Sub.cons rfl (Sub.cons rfl KN))) tabN_v (A1 rfl)) ?_
 refine RM rfl ?_
 refine RS (ok_extractV rfl rfl) ?_
 refine RS (ok_extractV rfl rfl) ?_
 refine RN ?_
 refine ⟨_, _, eff_alloc (n := 60) (d := 8) (k := 1000008) zero30 (by decide), fun b8 hb8 => ?_⟩
 have hBb8 := hb8.1
 have hlt_b6_b8 : b6 < b8 := hb8.2 1000006 _ _ _ rfl
 refine TF 6 ?_
 refine RN ?_
 refine ⟨_, eff_storeA (n := 60) (s := 1000008) (size30.of ((frC_fit z).len)) rfl rfl (CelT.one _) hBb8 rfl (by rw [(frC_fit z).len]; rfl) (LV 1 rfl (LV 8 rfl (LV 38 rfl (LT 1000002 rfl (LB 1000006 rfl (LeftS.cons (t := 1900000) rfl (Surv.tab (by omega)) (LeftS.cons (t := 1900001) rfl (Surv.tab (by omega)) (LeftS.cons (t := 1900002) rfl (Surv.tab (by omega)) LN)))))))), ?_⟩
 refine TL ?_
 refine RA rfl ?_
 refine RN ?_
 refine A.seq ?_
 refine GS ?_
 refine TL ?_
 refine RM rfl ?_
 refine RBS rfl rfl rfl (.bool false) (by simp; omega) ?_
 refine RM rfl ?_
 refine RQ (ok_move rfl) ?_
 refine RQ (ok_bin rfl rfl rfl) ?_; refine RZ (.bool false) (by simp; omega) ?_
 refine RP rfl rfl ?_
 refine RN ?_
 refine A.no rfl ?_
 refine A.skip ?_
 refine EN ?_
 refine GS ?_
 refine TL ?_
 refine RM rfl ?_
 refine RBS rfl rfl rfl (.bool true) (by rfl) ?_
 refine RM rfl ?_
 refine RQ (ok_callM lives15_fn (Sub.cons rfl (Sub.cons rfl (Sub.cons rfl KN))) tabN_v Args.nil) ?_
 refine RP rfl rfl ?_
 refine RA rfl ?_
 refine RN ?_
 refine A.ret ?_
 exact End.ret1 rfl rfl (by first | exact Le.refl _ | exact Le.old _ _)
set_option maxHeartbeats 2000000 in
theorem Fresh_n (k : Nat) (hk : k < 65536) (z : Int) (h : ¬ (1 ≤ z ∧ z ≤ 4096)) : FnM Tryd.prog 3 tabN [.v (aggV [.int .u16 (k : Int)]), .v (.int .i64 (z))] (.v (.bool true)) := by
 refine FnM.of Tryd.func3 rfl (by kernel_rfl) Tryd.ntmps3 (by simp) (by decide) (fun w => [(0, .v (aggV [.int .u16 (k : Int)])), (1, .v (.int .i64 (z))), (1900000, tab 0 (sizV)), (1900001, tab 1 (H8.list.map u32V)), (1900002, tab 2 (K64.map u32V))]) (fun w => (StartM.v rfl (StartM.v rfl (StartM.m (by simp [tabN]) (by decide) (StartM.m (by simp [tabN]) (by decide) (StartM.m (by simp [tabN]) (by decide) StartM.nil)))))) fun w₀ hM => ?_
 have htab := tabN_hi hM
 refine GS ?_
 refine TN 0 ?_
 refine RN ?_
 refine ⟨_, _, eff_box (n := 60) (d := 2) (k := 1000002) rfl (by decide), fun b2 hb2 => ?_⟩
 have hBb2 := hb2.1
 refine TL ?_
 refine RA rfl ?_
 refine RN ?_
 refine GS ?_
 refine TL ?_
 refine RS (ok_loadA (s := 1000002) (by decide) Tryd.underlying24 rfl (size24.of (by rfl)) rfl rfl) ?_
 refine RS (ok_call (NOf_fn k hk) (A1 rfl)) ?_
 refine RA rfl ?_
 refine RN ?_
 refine GS ?_
 refine TN 5 ?_
 refine RM rfl ?_
 refine RS (ok_callM (Fresh_ok (nn k) (nn1 k) (nn2 k)) (Sub.cons rfl (Sub.cons rfl (Sub.cons rfl KN))) tabN_v (A1 rfl)) ?_
 refine RM rfl ?_
 refine RS (ok_extractV rfl rfl) ?_
 refine RS (ok_extractV rfl rfl) ?_
 refine RN ?_
 refine ⟨_, _, eff_alloc (n := 60) (d := 6) (k := 1000006) zero30 (by decide), fun b6 hb6 => ?_⟩
 have hBb6 := hb6.1
 refine TF 6 ?_
 refine RN ?_
 refine ⟨_, eff_storeA (n := 60) (s := 1000006) (size30.of ((frC_fit (nn k)).len)) rfl rfl (CelT.one _) hBb6 rfl (by rw [(frC_fit (nn k)).len]; rfl) (LV 1 rfl (LV 5 rfl (LV 6 rfl (LV 15 rfl (LT 1000002 rfl (LeftS.cons (t := 1900000) rfl (Surv.tab (by omega)) (LeftS.cons (t := 1900001) rfl (Surv.tab (by omega)) (LeftS.cons (t := 1900002) rfl (Surv.tab (by omega)) LN)))))))), ?_⟩
 refine TL ?_
 refine RA rfl ?_
 refine RN ?_
 refine A.seq ?_
 refine GD ?_
 refine TL ?_
 refine RM rfl ?_
 refine RBS rfl rfl rfl (.bool false) (by rfl) ?_
 refine RM rfl ?_
 refine RQ (ok_loadA (s := 1000006) (by decide) Tryd.underlying30 rfl (size30.of ((frC_fit (nn k)).len)) rfl rfl) ?_
 refine RQ (ok_move rfl) ?_
 refine RQ (ok_call (rFresh_fn (nn k) (nn1 k) (nn2 k)) (A1 rfl)) ?_
 refine RQ (ok_neqT (n := 4) true flat30 (by decide) (by kernel_rfl) (by kernel_rfl) rfl rfl (frC_fit (nn k)).kin (frC_fit (nn k)).kin (iff_of_true rfl rfl)) ?_; refine RZ (.bool false) (by rfl) ?_
 refine RP rfl rfl ?_
 refine RM rfl ?_
 refine RQ (ok_loadA (s := 1000006) (by decide) Tryd.underlying30 rfl (size30.of ((frC_fit (nn k)).len)) rfl rfl) ?_
 refine RQ (ok_call (Slot_fn (frC (nn k)) (frC_fit (nn k))) (A1 rfl)) ?_; refine RZ (nI (0)) (by rfl) ?_
 refine RQ (ok_bin rfl rfl rfl) ?_; refine RZ (.bool false) (by rfl) ?_
 refine RP rfl rfl ?_
 refine RM rfl ?_
 refine RQ (ok_move rfl) ?_
 refine RQ (ok_call (rHeight_fn (nn k) (nn1 k) (nn2 k)) (A1 rfl)) ?_
 refine RQ (ok_bin rfl rfl rfl) ?_; refine RZ (.bool false) (by have := hg_le (nn k); simp; omega) ?_
 refine RP rfl rfl ?_
 refine RN ?_
 refine A.sub (KC 1 rfl (KC 33 rfl (KC 1000002 rfl (KC 1000006 rfl (KC 1900000 rfl (KC 1900001 rfl (KC 1900002 rfl KN))))))) ?_
 refine A.no rfl ?_
 refine A.skip ?_
 refine EN ?_
 refine GS ?_
 refine TN 5 ?_
 refine RM rfl ?_
 refine RS (ok_callM (Fresh_bad z h) (Sub.cons rfl (Sub.cons rfl (Sub.cons rfl KN))) tabN_v (A1 rfl)) ?_
 refine RM rfl ?_
 refine RS (ok_extractV rfl rfl) ?_
 refine RS (ok_extractV rfl rfl) ?_
 refine RN ?_
 refine ⟨_, _, eff_alloc (n := 60) (d := 8) (k := 1000008) zero30 (by decide), fun b8 hb8 => ?_⟩
 have hBb8 := hb8.1
 have hlt_b6_b8 : b6 < b8 := hb8.2 1000006 _ _ _ rfl
 refine TF 6 ?_
 refine RN ?_
 refine ⟨_, eff_storeA (n := 60) (s := 1000008) (size30.of (CelT.zero_fit.len)) rfl rfl (CelT.one _) hBb8 rfl (by rw [CelT.zero_fit.len]; rfl) (LV 1 rfl (LV 8 rfl (LV 38 rfl (LT 1000002 rfl (LB 1000006 rfl (LeftS.cons (t := 1900000) rfl (Surv.tab (by omega)) (LeftS.cons (t := 1900001) rfl (Surv.tab (by omega)) (LeftS.cons (t := 1900002) rfl (Surv.tab (by omega)) LN)))))))), ?_⟩
 refine TL ?_
 refine RA rfl ?_
 refine RN ?_
 refine A.seq ?_
 refine A.seqTo [(7, .v (.int .i64 1)), (8, .v (ptr b8)), (44, .v (.bool true)), (1000008, blk b8 30 CelT.zero.v), (1900000, tab 0 (sizV)), (1900001, tab 1 (H8.list.map u32V)), (1900002, tab 2 (K64.map u32V))] ?_ ?_
 ·by_cases hz : z < 1
  ·refine GE ?_
   refine TL ?_
   refine RM rfl ?_
   refine RBS rfl rfl rfl (.bool true) (by simp; omega) ?_
   refine RM rfl ?_
   refine RK ?_
   refine RK ?_
   refine RP rfl rfl ?_
   refine RN ?_
   exact End.normal_then (End.toEnv (SubL.cons (t := 7) rfl (by first | exact Le.refl _ | exact Le.old _ _) (SubL.cons (t := 8) rfl (by first | exact Le.refl _ | exact Le.old _ _) (SubL.cons (t := 44) rfl (by first | exact Le.refl _ | exact Le.old _ _) (SubL.cons (t := 1000008) rfl (by first | exact Le.refl _ | exact Le.old _ _) (SubL.cons (t := 1900000) rfl (by first | exact Le.refl _ | exact Le.old _ _) (SubL.cons (t := 1900001) rfl (by first | exact Le.refl _ | exact Le.old _ _) (SubL.cons (t := 1900002) rfl (by first | exact Le.refl _ | exact Le.old _ _) SubL.nil))))))))
  ·refine GE ?_
   refine TL ?_
   refine RM rfl ?_
   refine RBS rfl rfl rfl (.bool false) (by simp; omega) ?_
   refine RM rfl ?_
   refine RQ (ok_move rfl) ?_
   refine RQ (ok_bin rfl rfl rfl) ?_; refine RZ (.bool true) (by simp; omega) ?_
   refine RP rfl rfl ?_
   refine RN ?_
   exact End.normal_then (End.toEnv (SubL.cons (t := 7) rfl (by first | exact Le.refl _ | exact Le.old _ _) (SubL.cons (t := 8) rfl (by first | exact Le.refl _ | exact Le.old _ _) (SubL.cons (t := 44) rfl (by first | exact Le.refl _ | exact Le.old _ _) (SubL.cons (t := 1000008) rfl (by first | exact Le.refl _ | exact Le.old _ _) (SubL.cons (t := 1900000) rfl (by first | exact Le.refl _ | exact Le.old _ _) (SubL.cons (t := 1900001) rfl (by first | exact Le.refl _ | exact Le.old _ _) (SubL.cons (t := 1900002) rfl (by first | exact Le.refl _ | exact Le.old _ _) SubL.nil))))))))
 ·refine A.yes rfl ?_
  refine GS ?_
  refine TL ?_
  refine RM rfl ?_
  refine RBS rfl rfl rfl (.bool true) (by rfl) ?_
  refine RM rfl ?_
  refine RQ (ok_loadA (s := 1000008) (by decide) Tryd.underlying30 rfl (size30.of (rfl)) rfl rfl) ?_
  refine RQ (ok_lit [] (CelT.v CelT.zero) (fun _ _ => rfl) (by kernel_rfl)) ?_
  refine RQ (ok_eqlT (n := 4) true flat30 (by decide) (by kernel_rfl) (by kernel_rfl) rfl rfl CelT.zero_fit.kin CelT.zero_fit.kin (iff_of_true rfl rfl)) ?_
  refine RP rfl rfl ?_
  refine RM rfl ?_
  refine RQ (ok_callM lives15_fn (Sub.cons rfl (Sub.cons rfl (Sub.cons rfl KN))) tabN_v Args.nil) ?_
  refine RP rfl rfl ?_
  refine RA rfl ?_
  refine RN ?_
  refine A.ret ?_
  refine End.ret_then ?_
  exact End.ret1 rfl rfl (by first | exact Le.refl _ | exact Le.old _ _)
theorem CellsFresh_fn (k : Nat) (hk : k < 65536) (z : Int) : FnM Tryd.prog 3 tabN [.v (aggV [.int .u16 (k : Int)]), .v (.int .i64 z)] (.v (.bool true)) := by
 by_cases h : 1 ≤ z ∧ z ≤ 4096
 ·obtain ⟨m, rfl⟩ : ∃ m : Nat, z = (m : Int) := ⟨z.toNat, by omega⟩
  exact Fresh_y k hk m (by omega) (by omega)
 ·exact Fresh_n k hk z h
set_option maxHeartbeats 2000000 in
theorem CellsFollows_fn (a b : CelT) (ha : a.Fit) (hb : b.Fit)  : FnM Tryd.prog 5 tabN [.v (aggV a.v), .v (aggV b.v)] (.v (.bool true)) := by
 refine FnM.of Tryd.func5 rfl (by kernel_rfl) Tryd.ntmps5 (by simp) (by decide) (fun w => [(0, .v (aggV a.v)), (1, .v (aggV b.v)), (1900000, tab 0 (sizV)), (1900001, tab 1 (H8.list.map u32V)), (1900002, tab 2 (K64.map u32V))]) (fun w => (StartM.v rfl (StartM.v rfl (StartM.m (by simp [tabN]) (by decide) (StartM.m (by simp [tabN]) (by decide) (StartM.m (by simp [tabN]) (by decide) StartM.nil)))))) fun w₀ hM => ?_
 have htab := tabN_hi hM
 refine GS ?_
 refine TN 0 ?_
 refine RN ?_
 refine ⟨_, _, eff_box (n := 32) (d := 2) (k := 1000002) rfl (by decide), fun b2 hb2 => ?_⟩
 have hBb2 := hb2.1
 refine TN 1 ?_
 refine RN ?_
 refine ⟨_, _, eff_box (n := 32) (d := 3) (k := 1000003) rfl (by decide), fun b3 hb3 => ?_⟩
 have hBb3 := hb3.1
 have hlt_b2_b3 : b2 < b3 := hb3.2 1000002 _ _ _ rfl
 refine TL ?_
 refine RA rfl ?_
 refine RN ?_
 refine GD ?_
 refine TL ?_
 refine RS (ok_loadA (s := 1000002) (by decide) Tryd.underlying30 rfl (size30.of (ha.len)) rfl rfl) ?_
 refine RS (ok_loadA (s := 1000003) (by decide) Tryd.underlying30 rfl (size30.of (hb.len)) rfl rfl) ?_
 refine RS (ok_call (Follows_fn a b ha hb) (A2 rfl rfl)) ?_
 refine RS (ok_conv Tryd.underlying41 Tryd.underlying3 rfl) ?_; refine RZ (nI (CelT.fol a b)) (wrap_eq rfl (by have := CelT.fol_le a b; omega)) ?_
 refine RS (ok_loadA (s := 1000002) (by decide) Tryd.underlying30 rfl (size30.of (ha.len)) rfl rfl) ?_
 refine RS (ok_loadA (s := 1000003) (by decide) Tryd.underlying30 rfl (size30.of (hb.len)) rfl rfl) ?_
 refine RS (ok_call (rFollows_fn a b ha hb) (A2 rfl rfl)) ?_
 refine RBS rfl rfl rfl (.bool true) (by simp) ?_
 refine RM rfl ?_
 refine RQ (ok_loadA (s := 1000003) (by decide) Tryd.underlying30 rfl (size30.of (hb.len)) rfl rfl) ?_
 refine RQ (ok_loadA (s := 1000002) (by decide) Tryd.underlying30 rfl (size30.of (ha.len)) rfl rfl) ?_
 refine RQ (ok_call (Follows_fn b a hb ha) (A2 rfl rfl)) ?_
 refine RQ (ok_conv Tryd.underlying41 Tryd.underlying3 rfl) ?_; refine RZ (nI (CelT.fol b a)) (wrap_eq rfl (by have := CelT.fol_le b a; omega)) ?_
 refine RQ (ok_loadA (s := 1000003) (by decide) Tryd.underlying30 rfl (size30.of (hb.len)) rfl rfl) ?_
 refine RQ (ok_loadA (s := 1000002) (by decide) Tryd.underlying30 rfl (size30.of (ha.len)) rfl rfl) ?_
 refine RQ (ok_call (rFollows_fn b a hb ha) (A2 rfl rfl)) ?_
 refine RQ (ok_bin rfl rfl rfl) ?_; refine RZ (.bool true) (by simp) ?_
 refine RP rfl rfl ?_
 refine RM rfl ?_
 refine RQ (ok_loadA (s := 1000002) (by decide) Tryd.underlying30 rfl (size30.of (ha.len)) rfl rfl) ?_
 refine RQ (ok_loadA (s := 1000002) (by decide) Tryd.underlying30 rfl (size30.of (ha.len)) rfl rfl) ?_
 refine RQ (ok_call (Follows_fn a a ha ha) (A2 rfl rfl)) ?_; refine RZ (.int .u8 0) (by rw [CelT.fol_self]; rfl) ?_
 refine RQ (ok_bin rfl rfl rfl) ?_; refine RZ (.bool true) (by rfl) ?_
 refine RP rfl rfl ?_
 refine RM rfl ?_
 refine RQ (ok_callM lives15_fn (Sub.cons rfl (Sub.cons rfl (Sub.cons rfl KN))) tabN_v Args.nil) ?_
 refine RP rfl rfl ?_
 refine RA rfl ?_
 refine RN ?_
 refine A.sub (KC 4 rfl (KC 1000002 rfl (KC 1000003 rfl (KC 1900000 rfl (KC 1900001 rfl (KC 1900002 rfl KN)))))) ?_
 refine A.ret ?_
 exact End.ret1 rfl rfl (by first | exact Le.refl _ | exact Le.old _ _)
set_option maxHeartbeats 8000000 in
theorem CellsStep_fn (c : CelT) (hc : c.Fit) (t : List UInt8) (ht : t.length = 32) (k lim : Nat) (hk : k < 18446744073709551616) (hl : lim < 18446744073709551616) : FnM Tryd.prog 4 tabN [.v (aggV c.v), .v (aggV (t.map byteV)), .v (aggV [.int .u64 (k : Int), .int .u64 (lim : Int)])] (.v (.bool true)) := by
 refine FnM.of Tryd.func4 rfl (by kernel_rfl) Tryd.ntmps4 (by simp) (by decide) (fun w => [(0, .v (aggV c.v)), (1, .v (aggV (t.map byteV))), (2, .v (aggV [.int .u64 (k : Int), .int .u64 (lim : Int)])), (1900000, tab 0 (sizV)), (1900001, tab 1 (H8.list.map u32V)), (1900002, tab 2 (K64.map u32V))]) (fun w => (StartM.v rfl (StartM.v rfl (StartM.v rfl (StartM.m (by simp [tabN]) (by decide) (StartM.m (by simp [tabN]) (by decide) (StartM.m (by simp [tabN]) (by decide) StartM.nil))))))) fun w₀ hM => ?_
 have htab := tabN_hi hM
 refine GS ?_
 refine TN 0 ?_
 refine RN ?_
 refine ⟨_, _, eff_box (n := 127) (d := 3) (k := 1000003) rfl (by decide), fun b3 hb3 => ?_⟩
 have hBb3 := hb3.1
 refine TN 1 ?_
 refine RN ?_
 refine ⟨_, _, eff_box (n := 127) (d := 4) (k := 1000004) rfl (by decide), fun b4 hb4 => ?_⟩
 have hBb4 := hb4.1
 refine TN 2 ?_
 refine RN ?_
 refine ⟨_, _, eff_box (n := 127) (d := 5) (k := 1000005) rfl (by decide), fun b5 hb5 => ?_⟩
 have hBb5 := hb5.1
 refine TL ?_
 refine RA rfl ?_
 refine RN ?_
 refine GS ?_
 refine TN 6 ?_
 refine RS (ok_loadA (s := 1000003) (by decide) Tryd.underlying30 rfl (size30.of (hc.len)) rfl rfl) ?_
 refine RS (ok_loadA (s := 1000004) (by decide) Tryd.underlying27 rfl (size27.of (by rw [List.length_map, ht])) rfl rfl) ?_
 refine RS (ok_call (Next_fn c hc t ht) (A2 rfl rfl)) ?_
 refine RM rfl ?_
 refine RS (ok_extractV rfl rfl) ?_
 refine RS (ok_extractV rfl rfl) ?_
 refine RN ?_
 refine ⟨_, _, eff_alloc (n := 127) (d := 7) (k := 1000007) zero30 (by decide), fun b7 hb7 => ?_⟩
 have hBb7 := hb7.1
 have hlt_b3_b7 : b3 < b7 := hb7.2 1000003 _ _ _ rfl
 refine TF 7 ?_
 refine RN ?_
 refine ⟨_, eff_storeA (n := 127) (s := 1000007) (size30.of ((CelT.nx_fit hc ht).len)) rfl rfl (CelT.one _) hBb7 rfl (by rw [(CelT.nx_fit hc ht).len]; rfl) (LV 3 rfl (LV 4 rfl (LV 5 rfl (LV 7 rfl (LV 16 rfl (LB 1000003 rfl (LT 1000004 rfl (LT 1000005 rfl (LeftS.cons (t := 1900000) rfl (Surv.tab (by omega)) (LeftS.cons (t := 1900001) rfl (Surv.tab (by omega)) (LeftS.cons (t := 1900002) rfl (Surv.tab (by omega)) LN))))))))))), ?_⟩
 refine TL ?_
 refine RA rfl ?_
 refine RN ?_
 refine A.seq ?_
 refine GD ?_
 refine TL ?_
 refine RS (ok_loadA (s := 1000003) (by decide) Tryd.underlying30 rfl (size30.of (hc.len)) rfl rfl) ?_
 refine RS (ok_call (Slot_fn c hc) (A1 rfl)) ?_
 refine RS (ok_field field30_1 (by decide) rfl) ?_
 refine RS (ok_loadV (s := 1000003) (by decide) Tryd.underlying28 rfl rfl rfl (hc.ve)) ?_
 refine RBS rfl rfl rfl (nQ (c.e % 2)) (and1_u64 hc.e) ?_
 refine RS (ok_conv Tryd.underlying28 Tryd.underlying3 rfl) ?_; refine RZ (nI (c.e % 2)) (wrap_eq rfl (by omega)) ?_
 refine RBS rfl rfl rfl (.bool false) (by simp) ?_
 refine RN ?_
 refine A.no rfl ?_
 refine A.skip ?_
 refine EN ?_
 refine A.seq ?_
 by_cases hx : c.e = 18446744073709551615
 ·refine GS ?_
  refine TL ?_
  refine RS (ok_field field30_1 (by decide) rfl) ?_
  refine RS (ok_loadV (s := 1000003) (by decide) Tryd.underlying28 rfl rfl rfl (hc.ve)) ?_
  refine RBS rfl rfl rfl (.bool true) (by simp; omega) ?_
  refine RN ?_
  refine A.yes rfl ?_
  have hN : CelT.nxC c t = CelT.zero := if_pos hx
  refine GS ?_
  refine TL ?_
  refine RM rfl ?_
  refine RBS rfl rfl rfl (.bool false) (by rw [show CelT.nxE c = 3 from if_pos hx]; rfl) ?_
  refine RM rfl ?_
  refine RQ (ok_loadA (s := 1000007) (by decide) Tryd.underlying30 rfl (size30.of ((CelT.nx_fit hc ht).len)) rfl rfl) ?_
  refine RQ (ok_lit [] (CelT.v CelT.zero) (fun _ _ => rfl) (by kernel_rfl)) ?_
  refine RQ (ok_neqT (n := 4) true flat30 (by decide) (by kernel_rfl) (by kernel_rfl) rfl rfl (CelT.nx_fit hc ht).kin CelT.zero_fit.kin (iff_of_true rfl (congrArg CelT.v hN))) ?_; refine RZ (.bool false) (by rfl) ?_
  refine RP rfl rfl ?_
  refine RN ?_
  refine A.sub (KC 3 rfl (KC 5 rfl (KC 33 rfl (KC 1000003 rfl (KC 1000004 rfl (KC 1000005 rfl (KC 1000007 rfl (KC 1900000 rfl (KC 1900001 rfl (KC 1900002 rfl KN)))))))))) ?_
  refine A.no rfl ?_
  refine A.skip ?_
  refine EN ?_
  rcases (show k = 0 ∨ (¬ k = 0 ∧ 18446744073709551616 ≤ c.m + k) ∨ (¬ k = 0 ∧ c.m + k < 18446744073709551616 ∧ lim < c.m + k) ∨ (¬ k = 0 ∧ c.m + k < 18446744073709551616 ∧ ¬ lim < c.m + k) by omega) with hw | ⟨hw, hv⟩ | ⟨hw, hv, hu⟩ | ⟨hw, hv, hu⟩
  ·refine GS ?_
   refine TN 9 ?_
   refine RS (ok_loadA (s := 1000003) (by decide) Tryd.underlying30 rfl (size30.of (hc.len)) rfl rfl) ?_
   refine RS (ok_index0 (0) Tryd.underlying39 info28 rfl rfl (rfl) (by decide)) ?_
   refine RS (ok_loadV (s := 1000005) (by decide) Tryd.underlying28 rfl rfl rfl (rfl)) ?_
   refine RS (ok_index0 (1) Tryd.underlying39 info28 rfl rfl (rfl) (by decide)) ?_
   refine RS (ok_loadV (s := 1000005) (by decide) Tryd.underlying28 rfl rfl rfl (rfl)) ?_
   refine RS (ok_call (Reserve_fn c hc k lim hk hl) (A3 rfl rfl rfl)) ?_
   refine RM rfl ?_
   refine RS (ok_extractV rfl rfl) ?_
   refine RS (ok_extractV rfl rfl) ?_
   refine RN ?_
   refine ⟨_, _, eff_alloc (n := 127) (d := 9) (k := 1000009) zero30 (by decide), fun b9 hb9 => ?_⟩
   have hBb9 := hb9.1
   have hlt_b3_b9 : b3 < b9 := hb9.2 1000003 _ _ _ rfl
   have hlt_b7_b9 : b7 < b9 := hb9.2 1000007 _ _ _ rfl
   refine TF 10 ?_
   refine RN ?_
   refine ⟨_, eff_storeA (n := 127) (s := 1000009) (size30.of ((CelT.rs_fit (k := k) hc hl).len)) rfl rfl (CelT.one _) hBb9 rfl (by rw [(CelT.rs_fit (k := k) hc hl).len]; rfl) (LV 3 rfl (LV 5 rfl (LV 9 rfl (LV 61 rfl (LB 1000003 rfl (LT 1000004 rfl (LT 1000005 rfl (LB 1000007 rfl (LeftS.cons (t := 1900000) rfl (Surv.tab (by omega)) (LeftS.cons (t := 1900001) rfl (Surv.tab (by omega)) (LeftS.cons (t := 1900002) rfl (Surv.tab (by omega)) LN))))))))))), ?_⟩
   refine TL ?_
   refine RA rfl ?_
   refine RN ?_
   refine A.seq ?_
   refine GS ?_
   refine TL ?_
   refine RS (ok_index0 (0) Tryd.underlying39 info28 rfl rfl (rfl) (by decide)) ?_
   refine RS (ok_loadV (s := 1000005) (by decide) Tryd.underlying28 rfl rfl rfl (rfl)) ?_
   refine RBS rfl rfl rfl (.bool true) (by simp; omega) ?_
   refine RN ?_
   refine A.yes rfl ?_
   have hR : CelT.rsC c k lim = CelT.zero := if_pos (.inl hw)
   refine GS ?_
   refine TL ?_
   refine RM rfl ?_
   refine RBS rfl rfl rfl (.bool true) (by rw [show CelT.rsE c k lim = 1 from if_pos hw]; rfl) ?_
   refine RM rfl ?_
   refine RQ (ok_loadA (s := 1000009) (by decide) Tryd.underlying30 rfl (size30.of ((CelT.rs_fit (k := k) hc hl).len)) rfl rfl) ?_
   refine RQ (ok_lit [] (CelT.v CelT.zero) (fun _ _ => rfl) (by kernel_rfl)) ?_
   refine RQ (ok_eqlT (n := 4) true flat30 (by decide) (by kernel_rfl) (by kernel_rfl) rfl rfl (CelT.rs_fit (k := k) hc hl).kin CelT.zero_fit.kin (iff_of_true rfl (congrArg CelT.v hR))) ?_; refine RZ (.bool true) (by rfl) ?_
   refine RP rfl rfl ?_
   refine RM rfl ?_
   refine RQ (ok_callM lives15_fn (Sub.cons rfl (Sub.cons rfl (Sub.cons rfl KN))) tabN_v Args.nil) ?_
   refine RP rfl rfl ?_
   refine RA rfl ?_
   refine RN ?_
   refine A.sub (KC 6 rfl (KC 1000003 rfl (KC 1000004 rfl (KC 1000005 rfl (KC 1000007 rfl (KC 1000009 rfl (KC 1900000 rfl (KC 1900001 rfl (KC 1900002 rfl KN))))))))) ?_
   refine A.ret ?_
   refine End.ret_then ?_
   exact End.ret1 rfl rfl (by first | exact Le.refl _ | exact Le.old _ _)
  ·refine GS ?_
   refine TN 9 ?_
   refine RS (ok_loadA (s := 1000003) (by decide) Tryd.underlying30 rfl (size30.of (hc.len)) rfl rfl) ?_
   refine RS (ok_index0 (0) Tryd.underlying39 info28 rfl rfl (rfl) (by decide)) ?_
   refine RS (ok_loadV (s := 1000005) (by decide) Tryd.underlying28 rfl rfl rfl (rfl)) ?_
   refine RS (ok_index0 (1) Tryd.underlying39 info28 rfl rfl (rfl) (by decide)) ?_
   refine RS (ok_loadV (s := 1000005) (by decide) Tryd.underlying28 rfl rfl rfl (rfl)) ?_
   refine RS (ok_call (Reserve_fn c hc k lim hk hl) (A3 rfl rfl rfl)) ?_
   refine RM rfl ?_
   refine RS (ok_extractV rfl rfl) ?_
   refine RS (ok_extractV rfl rfl) ?_
   refine RN ?_
   refine ⟨_, _, eff_alloc (n := 127) (d := 9) (k := 1000009) zero30 (by decide), fun b9 hb9 => ?_⟩
   have hBb9 := hb9.1
   have hlt_b3_b9 : b3 < b9 := hb9.2 1000003 _ _ _ rfl
   have hlt_b7_b9 : b7 < b9 := hb9.2 1000007 _ _ _ rfl
   refine TF 10 ?_
   refine RN ?_
   refine ⟨_, eff_storeA (n := 127) (s := 1000009) (size30.of ((CelT.rs_fit (k := k) hc hl).len)) rfl rfl (CelT.one _) hBb9 rfl (by rw [(CelT.rs_fit (k := k) hc hl).len]; rfl) (LV 3 rfl (LV 5 rfl (LV 9 rfl (LV 61 rfl (LB 1000003 rfl (LT 1000004 rfl (LT 1000005 rfl (LB 1000007 rfl (LeftS.cons (t := 1900000) rfl (Surv.tab (by omega)) (LeftS.cons (t := 1900001) rfl (Surv.tab (by omega)) (LeftS.cons (t := 1900002) rfl (Surv.tab (by omega)) LN))))))))))), ?_⟩
   refine TL ?_
   refine RA rfl ?_
   refine RN ?_
   refine A.seq ?_
   refine GS ?_
   refine TL ?_
   refine RS (ok_index0 (0) Tryd.underlying39 info28 rfl rfl (rfl) (by decide)) ?_
   refine RS (ok_loadV (s := 1000005) (by decide) Tryd.underlying28 rfl rfl rfl (rfl)) ?_
   refine RBS rfl rfl rfl (.bool false) (by simp; omega) ?_
   refine RN ?_
   refine A.no rfl ?_
   refine A.skip ?_
   refine EN ?_
   refine GS ?_
   refine TL ?_
   refine RS (ok_field field30_2 (by decide) rfl) ?_
   refine RS (ok_loadV (s := 1000003) (by decide) Tryd.underlying28 rfl rfl rfl (hc.vm)) ?_
   refine RS (ok_index0 (0) Tryd.underlying39 info28 rfl rfl (rfl) (by decide)) ?_
   refine RS (ok_loadV (s := 1000005) (by decide) Tryd.underlying28 rfl rfl rfl (rfl)) ?_
   refine RBS rfl rfl rfl (nQ (c.m + k - 18446744073709551616)) (sum_over (by omega) (by have := hc.m; omega)) ?_
   refine RA rfl ?_
   refine RN ?_
   refine A.seq ?_
   refine GS ?_
   refine TL ?_
   refine RM rfl ?_
   refine RS (ok_field field30_2 (by decide) rfl) ?_
   refine RS (ok_loadV (s := 1000003) (by decide) Tryd.underlying28 rfl rfl rfl (hc.vm)) ?_
   refine RBS rfl rfl rfl (.bool true) (by have := hc.m; simp; omega) ?_
   refine RM rfl ?_
   refine RK ?_
   refine RK ?_
   refine RK ?_
   refine RK ?_
   refine RP rfl rfl ?_
   refine RN ?_
   refine A.sub (KC 3 rfl (KC 8 rfl (KC 9 rfl (KC 10 rfl (KC 89 rfl (KC 1000003 rfl (KC 1000004 rfl (KC 1000005 rfl (KC 1000007 rfl (KC 1000009 rfl (KC 1900000 rfl (KC 1900001 rfl (KC 1900002 rfl KN))))))))))))) ?_
   refine A.yes rfl ?_
   have hcm := hc.m
   have hR : CelT.rsC c k lim = CelT.zero := if_pos (.inr (by omega))
   have hE8 : CelT.rsE c k lim = 8 := by rw [CelT.rsE, if_neg hw, if_pos (by omega)]
   refine GS ?_
   refine TL ?_
   refine RM rfl ?_
   refine RBS rfl rfl rfl (.bool true) (by rw [hE8]; rfl) ?_
   refine RM rfl ?_
   refine RQ (ok_loadA (s := 1000009) (by decide) Tryd.underlying30 rfl (size30.of ((CelT.rs_fit (k := k) hc hl).len)) rfl rfl) ?_
   refine RQ (ok_lit [] (CelT.v CelT.zero) (fun _ _ => rfl) (by kernel_rfl)) ?_
   refine RQ (ok_eqlT (n := 4) true flat30 (by decide) (by kernel_rfl) (by kernel_rfl) rfl rfl (CelT.rs_fit (k := k) hc hl).kin CelT.zero_fit.kin (iff_of_true rfl (congrArg CelT.v hR))) ?_; refine RZ (.bool true) (by rfl) ?_
   refine RP rfl rfl ?_
   refine RM rfl ?_
   refine RQ (ok_callM lives15_fn (Sub.cons rfl (Sub.cons rfl (Sub.cons rfl KN))) tabN_v Args.nil) ?_
   refine RP rfl rfl ?_
   refine RA rfl ?_
   refine RN ?_
   refine A.ret ?_
   refine End.ret_then ?_
   exact End.ret1 rfl rfl (by first | exact Le.refl _ | exact Le.old _ _)
  ·refine GS ?_
   refine TN 9 ?_
   refine RS (ok_loadA (s := 1000003) (by decide) Tryd.underlying30 rfl (size30.of (hc.len)) rfl rfl) ?_
   refine RS (ok_index0 (0) Tryd.underlying39 info28 rfl rfl (rfl) (by decide)) ?_
   refine RS (ok_loadV (s := 1000005) (by decide) Tryd.underlying28 rfl rfl rfl (rfl)) ?_
   refine RS (ok_index0 (1) Tryd.underlying39 info28 rfl rfl (rfl) (by decide)) ?_
   refine RS (ok_loadV (s := 1000005) (by decide) Tryd.underlying28 rfl rfl rfl (rfl)) ?_
   refine RS (ok_call (Reserve_fn c hc k lim hk hl) (A3 rfl rfl rfl)) ?_
   refine RM rfl ?_
   refine RS (ok_extractV rfl rfl) ?_
   refine RS (ok_extractV rfl rfl) ?_
   refine RN ?_
   refine ⟨_, _, eff_alloc (n := 127) (d := 9) (k := 1000009) zero30 (by decide), fun b9 hb9 => ?_⟩
   have hBb9 := hb9.1
   have hlt_b3_b9 : b3 < b9 := hb9.2 1000003 _ _ _ rfl
   have hlt_b7_b9 : b7 < b9 := hb9.2 1000007 _ _ _ rfl
   refine TF 10 ?_
   refine RN ?_
   refine ⟨_, eff_storeA (n := 127) (s := 1000009) (size30.of ((CelT.rs_fit (k := k) hc hl).len)) rfl rfl (CelT.one _) hBb9 rfl (by rw [(CelT.rs_fit (k := k) hc hl).len]; rfl) (LV 3 rfl (LV 5 rfl (LV 9 rfl (LV 61 rfl (LB 1000003 rfl (LT 1000004 rfl (LT 1000005 rfl (LB 1000007 rfl (LeftS.cons (t := 1900000) rfl (Surv.tab (by omega)) (LeftS.cons (t := 1900001) rfl (Surv.tab (by omega)) (LeftS.cons (t := 1900002) rfl (Surv.tab (by omega)) LN))))))))))), ?_⟩
   refine TL ?_
   refine RA rfl ?_
   refine RN ?_
   refine A.seq ?_
   refine GS ?_
   refine TL ?_
   refine RS (ok_index0 (0) Tryd.underlying39 info28 rfl rfl (rfl) (by decide)) ?_
   refine RS (ok_loadV (s := 1000005) (by decide) Tryd.underlying28 rfl rfl rfl (rfl)) ?_
   refine RBS rfl rfl rfl (.bool false) (by simp; omega) ?_
   refine RN ?_
   refine A.no rfl ?_
   refine A.skip ?_
   refine EN ?_
   refine GS ?_
   refine TL ?_
   refine RS (ok_field field30_2 (by decide) rfl) ?_
   refine RS (ok_loadV (s := 1000003) (by decide) Tryd.underlying28 rfl rfl rfl (hc.vm)) ?_
   refine RS (ok_index0 (0) Tryd.underlying39 info28 rfl rfl (rfl) (by decide)) ?_
   refine RS (ok_loadV (s := 1000005) (by decide) Tryd.underlying28 rfl rfl rfl (rfl)) ?_
   refine RBS rfl rfl rfl (nQ (c.m + k)) (sum_in (by omega)) ?_
   refine RA rfl ?_
   refine RN ?_
   refine A.seq ?_
   refine GS ?_
   refine TL ?_
   refine RM rfl ?_
   refine RS (ok_field field30_2 (by decide) rfl) ?_
   refine RS (ok_loadV (s := 1000003) (by decide) Tryd.underlying28 rfl rfl rfl (hc.vm)) ?_
   refine RBS rfl rfl rfl (.bool false) (by simp; omega) ?_
   refine RM rfl ?_
   refine RQ (ok_move rfl) ?_
   refine RQ (ok_index0 (1) Tryd.underlying39 info28 rfl rfl (rfl) (by decide)) ?_
   refine RQ (ok_loadV (s := 1000005) (by decide) Tryd.underlying28 rfl rfl rfl (rfl)) ?_
   refine RQ (ok_bin rfl rfl rfl) ?_; refine RZ (.bool true) (by simp; omega) ?_
   refine RP rfl rfl ?_
   refine RN ?_
   refine A.sub (KC 3 rfl (KC 8 rfl (KC 9 rfl (KC 10 rfl (KC 89 rfl (KC 1000003 rfl (KC 1000004 rfl (KC 1000005 rfl (KC 1000007 rfl (KC 1000009 rfl (KC 1900000 rfl (KC 1900001 rfl (KC 1900002 rfl KN))))))))))))) ?_
   refine A.yes rfl ?_
   have hcm := hc.m
   have hR : CelT.rsC c k lim = CelT.zero := if_pos (.inr (by omega))
   have hE8 : CelT.rsE c k lim = 8 := by rw [CelT.rsE, if_neg hw, if_pos (by omega)]
   refine GS ?_
   refine TL ?_
   refine RM rfl ?_
   refine RBS rfl rfl rfl (.bool true) (by rw [hE8]; rfl) ?_
   refine RM rfl ?_
   refine RQ (ok_loadA (s := 1000009) (by decide) Tryd.underlying30 rfl (size30.of ((CelT.rs_fit (k := k) hc hl).len)) rfl rfl) ?_
   refine RQ (ok_lit [] (CelT.v CelT.zero) (fun _ _ => rfl) (by kernel_rfl)) ?_
   refine RQ (ok_eqlT (n := 4) true flat30 (by decide) (by kernel_rfl) (by kernel_rfl) rfl rfl (CelT.rs_fit (k := k) hc hl).kin CelT.zero_fit.kin (iff_of_true rfl (congrArg CelT.v hR))) ?_; refine RZ (.bool true) (by rfl) ?_
   refine RP rfl rfl ?_
   refine RM rfl ?_
   refine RQ (ok_callM lives15_fn (Sub.cons rfl (Sub.cons rfl (Sub.cons rfl KN))) tabN_v Args.nil) ?_
   refine RP rfl rfl ?_
   refine RA rfl ?_
   refine RN ?_
   refine A.ret ?_
   refine End.ret_then ?_
   exact End.ret1 rfl rfl (by first | exact Le.refl _ | exact Le.old _ _)
  ·refine GS ?_
   refine TN 9 ?_
   refine RS (ok_loadA (s := 1000003) (by decide) Tryd.underlying30 rfl (size30.of (hc.len)) rfl rfl) ?_
   refine RS (ok_index0 (0) Tryd.underlying39 info28 rfl rfl (rfl) (by decide)) ?_
   refine RS (ok_loadV (s := 1000005) (by decide) Tryd.underlying28 rfl rfl rfl (rfl)) ?_
   refine RS (ok_index0 (1) Tryd.underlying39 info28 rfl rfl (rfl) (by decide)) ?_
   refine RS (ok_loadV (s := 1000005) (by decide) Tryd.underlying28 rfl rfl rfl (rfl)) ?_
   refine RS (ok_call (Reserve_fn c hc k lim hk hl) (A3 rfl rfl rfl)) ?_
   refine RM rfl ?_
   refine RS (ok_extractV rfl rfl) ?_
   refine RS (ok_extractV rfl rfl) ?_
   refine RN ?_
   refine ⟨_, _, eff_alloc (n := 127) (d := 9) (k := 1000009) zero30 (by decide), fun b9 hb9 => ?_⟩
   have hBb9 := hb9.1
   have hlt_b3_b9 : b3 < b9 := hb9.2 1000003 _ _ _ rfl
   have hlt_b7_b9 : b7 < b9 := hb9.2 1000007 _ _ _ rfl
   refine TF 10 ?_
   refine RN ?_
   refine ⟨_, eff_storeA (n := 127) (s := 1000009) (size30.of ((CelT.rs_fit (k := k) hc hl).len)) rfl rfl (CelT.one _) hBb9 rfl (by rw [(CelT.rs_fit (k := k) hc hl).len]; rfl) (LV 3 rfl (LV 5 rfl (LV 9 rfl (LV 61 rfl (LB 1000003 rfl (LT 1000004 rfl (LT 1000005 rfl (LB 1000007 rfl (LeftS.cons (t := 1900000) rfl (Surv.tab (by omega)) (LeftS.cons (t := 1900001) rfl (Surv.tab (by omega)) (LeftS.cons (t := 1900002) rfl (Surv.tab (by omega)) LN))))))))))), ?_⟩
   refine TL ?_
   refine RA rfl ?_
   refine RN ?_
   refine A.seq ?_
   refine GS ?_
   refine TL ?_
   refine RS (ok_index0 (0) Tryd.underlying39 info28 rfl rfl (rfl) (by decide)) ?_
   refine RS (ok_loadV (s := 1000005) (by decide) Tryd.underlying28 rfl rfl rfl (rfl)) ?_
   refine RBS rfl rfl rfl (.bool false) (by simp; omega) ?_
   refine RN ?_
   refine A.no rfl ?_
   refine A.skip ?_
   refine EN ?_
   refine GS ?_
   refine TL ?_
   refine RS (ok_field field30_2 (by decide) rfl) ?_
   refine RS (ok_loadV (s := 1000003) (by decide) Tryd.underlying28 rfl rfl rfl (hc.vm)) ?_
   refine RS (ok_index0 (0) Tryd.underlying39 info28 rfl rfl (rfl) (by decide)) ?_
   refine RS (ok_loadV (s := 1000005) (by decide) Tryd.underlying28 rfl rfl rfl (rfl)) ?_
   refine RBS rfl rfl rfl (nQ (c.m + k)) (sum_in (by omega)) ?_
   refine RA rfl ?_
   refine RN ?_
   refine A.seq ?_
   refine GS ?_
   refine TL ?_
   refine RM rfl ?_
   refine RS (ok_field field30_2 (by decide) rfl) ?_
   refine RS (ok_loadV (s := 1000003) (by decide) Tryd.underlying28 rfl rfl rfl (hc.vm)) ?_
   refine RBS rfl rfl rfl (.bool false) (by simp; omega) ?_
   refine RM rfl ?_
   refine RQ (ok_move rfl) ?_
   refine RQ (ok_index0 (1) Tryd.underlying39 info28 rfl rfl (rfl) (by decide)) ?_
   refine RQ (ok_loadV (s := 1000005) (by decide) Tryd.underlying28 rfl rfl rfl (rfl)) ?_
   refine RQ (ok_bin rfl rfl rfl) ?_; refine RZ (.bool false) (by simp; omega) ?_
   refine RP rfl rfl ?_
   refine RN ?_
   refine A.sub (KC 3 rfl (KC 8 rfl (KC 9 rfl (KC 10 rfl (KC 89 rfl (KC 1000003 rfl (KC 1000004 rfl (KC 1000005 rfl (KC 1000007 rfl (KC 1000009 rfl (KC 1900000 rfl (KC 1900001 rfl (KC 1900002 rfl KN))))))))))))) ?_
   refine A.no rfl ?_
   refine A.skip ?_
   refine EN ?_
   have hR : CelT.rsC c k lim = ⟨c.t, c.e, c.m + k⟩ := if_neg (by omega)
   have hE0 : CelT.rsE c k lim = 0 := by rw [CelT.rsE, if_neg hw, if_neg (by omega)]
   refine GS ?_
   refine TL ?_
   refine RM rfl ?_
   refine RBS rfl rfl rfl (.bool true) (by rw [hE0]; rfl) ?_
   refine RM rfl ?_
   refine RQ (ok_loadA (s := 1000009) (by decide) Tryd.underlying30 rfl (size30.of ((CelT.rs_fit (k := k) hc hl).len)) rfl rfl) ?_
   refine RQ (ok_field field30_0 (by decide) rfl) ?_
   refine RQ (ok_loadP (s := 1000003) (by decide) Tryd.underlying27 rfl size27 rfl rfl (by rw [hc.len]; decide) (hc.vt)) ?_
   refine RQ (ok_field field30_1 (by decide) rfl) ?_
   refine RQ (ok_loadV (s := 1000003) (by decide) Tryd.underlying28 rfl rfl rfl (hc.ve)) ?_
   refine RQ (ok_move rfl) ?_
   refine RQ (ok_litS [(0, aggV (c.t.map byteV)), (1, .int .u64 (c.e : Int)), (2, nQ (c.m + k))] (CelT.v ⟨c.t, c.e, c.m + k⟩) ⟨rfl, rfl, rfl, rfl, rfl, rfl, trivial⟩ (buildC _ _ _ hc.t)) ?_
   refine RQ (ok_eqlT (n := 4) true flat30 (by decide) (by kernel_rfl) (by kernel_rfl) rfl rfl (CelT.rs_fit (k := k) hc hl).kin (show CelT.Fit ⟨c.t, c.e, c.m + k⟩ from ⟨hc.t, hc.e, by show c.m + k < _; omega⟩).kin (iff_of_true rfl (congrArg CelT.v hR))) ?_; refine RZ (.bool true) (by rfl) ?_
   refine RP rfl rfl ?_
   refine RM rfl ?_
   refine RQ (ok_loadA (s := 1000003) (by decide) Tryd.underlying30 rfl (size30.of (hc.len)) rfl rfl) ?_
   refine RQ (ok_loadA (s := 1000009) (by decide) Tryd.underlying30 rfl (size30.of ((CelT.rs_fit (k := k) hc hl).len)) rfl rfl) ?_
   refine RQ (ok_call (Follows_fn c (CelT.rsC c k lim) hc (CelT.rs_fit (k := k) hc hl)) (A2 rfl rfl)) ?_; refine RZ (.int .u8 2) (congrArg (fun n : Nat => Value.int .u8 (n : Int)) (by rw [hR]; exact CelT.fol_two rfl rfl (by show c.m < c.m + k; omega))) ?_
   refine RQ (ok_bin rfl rfl rfl) ?_; refine RZ (.bool true) (by rfl) ?_
   refine RP rfl rfl ?_
   refine RM rfl ?_
   refine RQ (ok_loadA (s := 1000009) (by decide) Tryd.underlying30 rfl (size30.of ((CelT.rs_fit (k := k) hc hl).len)) rfl rfl) ?_
   refine RQ (ok_loadA (s := 1000003) (by decide) Tryd.underlying30 rfl (size30.of (hc.len)) rfl rfl) ?_
   refine RQ (ok_call (Follows_fn (CelT.rsC c k lim) c (CelT.rs_fit (k := k) hc hl) hc) (A2 rfl rfl)) ?_; refine RZ (.int .u8 0) (congrArg (fun n : Nat => Value.int .u8 (n : Int)) (by rw [hR]; exact CelT.fol_no (fun h => by have h1 : c.e + 1 = c.e := h.1; omega) (fun h => by have h1 : c.m + k < c.m := h.2.2; omega))) ?_
   refine RQ (ok_bin rfl rfl rfl) ?_; refine RZ (.bool true) (by rfl) ?_
   refine RP rfl rfl ?_
   refine RM rfl ?_
   refine RQ (ok_callM lives15_fn (Sub.cons rfl (Sub.cons rfl (Sub.cons rfl KN))) tabN_v Args.nil) ?_
   refine RP rfl rfl ?_
   refine RA rfl ?_
   refine RN ?_
   refine A.sub (KC 6 rfl (KC 1000003 rfl (KC 1000004 rfl (KC 1000005 rfl (KC 1000007 rfl (KC 1000009 rfl (KC 1900000 rfl (KC 1900001 rfl (KC 1900002 rfl KN))))))))) ?_
   refine A.ret ?_
   exact End.ret1 rfl rfl (by first | exact Le.refl _ | exact Le.old _ _)
 ·refine GS ?_
  refine TL ?_
  refine RS (ok_field field30_1 (by decide) rfl) ?_
  refine RS (ok_loadV (s := 1000003) (by decide) Tryd.underlying28 rfl rfl rfl (hc.ve)) ?_
  refine RBS rfl rfl rfl (.bool false) (by simp; omega) ?_
  refine RN ?_
  refine A.no rfl ?_
  have hce := hc.e
  have hN : CelT.nxC c t = ⟨t, c.e + 1, c.m⟩ := if_neg hx
  refine GS ?_
  refine TL ?_
  refine RM rfl ?_
  refine RBS rfl rfl rfl (.bool false) (by rw [show CelT.nxE c = 0 from if_neg hx]; rfl) ?_
  refine RM rfl ?_
  refine RQ (ok_loadA (s := 1000007) (by decide) Tryd.underlying30 rfl (size30.of ((CelT.nx_fit hc ht).len)) rfl rfl) ?_
  refine RQ (ok_loadA (s := 1000004) (by decide) Tryd.underlying27 rfl (size27.of (by rw [List.length_map, ht])) rfl rfl) ?_
  refine RQ (ok_field field30_1 (by decide) rfl) ?_
  refine RQ (ok_loadV (s := 1000003) (by decide) Tryd.underlying28 rfl rfl rfl (hc.ve)) ?_
  refine RQ (ok_bin rfl rfl rfl) ?_; refine RZ (nQ (c.e + 1)) (by rw [show (c.e : Int) + 1 = ((c.e + 1 : Nat) : Int) from rfl]; exact congrArg _ (wrap_u64 (by omega) (by omega))) ?_
  refine RQ (ok_field field30_2 (by decide) rfl) ?_
  refine RQ (ok_loadV (s := 1000003) (by decide) Tryd.underlying28 rfl rfl rfl (hc.vm)) ?_
  refine RQ (ok_litS [(0, aggV (t.map byteV)), (1, nQ (c.e + 1)), (2, .int .u64 (c.m : Int))] (CelT.v ⟨t, c.e + 1, c.m⟩) ⟨rfl, rfl, rfl, rfl, rfl, rfl, trivial⟩ (buildC _ _ _ ht)) ?_
  refine RQ (ok_neqT (n := 4) true flat30 (by decide) (by kernel_rfl) (by kernel_rfl) rfl rfl (CelT.nx_fit hc ht).kin (show CelT.Fit ⟨t, c.e + 1, c.m⟩ from ⟨ht, by show c.e + 1 < _; omega, hc.m⟩).kin (iff_of_true rfl (congrArg CelT.v hN))) ?_; refine RZ (.bool false) (by rfl) ?_
  refine RP rfl rfl ?_
  refine RM rfl ?_
  refine RQ (ok_loadA (s := 1000003) (by decide) Tryd.underlying30 rfl (size30.of (hc.len)) rfl rfl) ?_
  refine RQ (ok_loadA (s := 1000007) (by decide) Tryd.underlying30 rfl (size30.of ((CelT.nx_fit hc ht).len)) rfl rfl) ?_
  refine RQ (ok_call (Follows_fn c (CelT.nxC c t) hc (CelT.nx_fit hc ht)) (A2 rfl rfl)) ?_; refine RZ (.int .u8 1) (congrArg (fun n : Nat => Value.int .u8 (n : Int)) (by rw [hN]; exact CelT.fol_one rfl rfl)) ?_
  refine RQ (ok_bin rfl rfl rfl) ?_; refine RZ (.bool false) (by rfl) ?_
  refine RP rfl rfl ?_
  refine RN ?_
  refine A.sub (KC 3 rfl (KC 5 rfl (KC 52 rfl (KC 1000003 rfl (KC 1000004 rfl (KC 1000005 rfl (KC 1000007 rfl (KC 1900000 rfl (KC 1900001 rfl (KC 1900002 rfl KN)))))))))) ?_
  refine A.no rfl ?_
  refine A.skip ?_
  refine EN ?_
  rcases (show k = 0 ∨ (¬ k = 0 ∧ 18446744073709551616 ≤ c.m + k) ∨ (¬ k = 0 ∧ c.m + k < 18446744073709551616 ∧ lim < c.m + k) ∨ (¬ k = 0 ∧ c.m + k < 18446744073709551616 ∧ ¬ lim < c.m + k) by omega) with hw | ⟨hw, hv⟩ | ⟨hw, hv, hu⟩ | ⟨hw, hv, hu⟩
  ·refine GS ?_
   refine TN 9 ?_
   refine RS (ok_loadA (s := 1000003) (by decide) Tryd.underlying30 rfl (size30.of (hc.len)) rfl rfl) ?_
   refine RS (ok_index0 (0) Tryd.underlying39 info28 rfl rfl (rfl) (by decide)) ?_
   refine RS (ok_loadV (s := 1000005) (by decide) Tryd.underlying28 rfl rfl rfl (rfl)) ?_
   refine RS (ok_index0 (1) Tryd.underlying39 info28 rfl rfl (rfl) (by decide)) ?_
   refine RS (ok_loadV (s := 1000005) (by decide) Tryd.underlying28 rfl rfl rfl (rfl)) ?_
   refine RS (ok_call (Reserve_fn c hc k lim hk hl) (A3 rfl rfl rfl)) ?_
   refine RM rfl ?_
   refine RS (ok_extractV rfl rfl) ?_
   refine RS (ok_extractV rfl rfl) ?_
   refine RN ?_
   refine ⟨_, _, eff_alloc (n := 127) (d := 9) (k := 1000009) zero30 (by decide), fun b9 hb9 => ?_⟩
   have hBb9 := hb9.1
   have hlt_b3_b9 : b3 < b9 := hb9.2 1000003 _ _ _ rfl
   have hlt_b7_b9 : b7 < b9 := hb9.2 1000007 _ _ _ rfl
   refine TF 10 ?_
   refine RN ?_
   refine ⟨_, eff_storeA (n := 127) (s := 1000009) (size30.of ((CelT.rs_fit (k := k) hc hl).len)) rfl rfl (CelT.one _) hBb9 rfl (by rw [(CelT.rs_fit (k := k) hc hl).len]; rfl) (LV 3 rfl (LV 5 rfl (LV 9 rfl (LV 61 rfl (LB 1000003 rfl (LT 1000004 rfl (LT 1000005 rfl (LB 1000007 rfl (LeftS.cons (t := 1900000) rfl (Surv.tab (by omega)) (LeftS.cons (t := 1900001) rfl (Surv.tab (by omega)) (LeftS.cons (t := 1900002) rfl (Surv.tab (by omega)) LN))))))))))), ?_⟩
   refine TL ?_
   refine RA rfl ?_
   refine RN ?_
   refine A.seq ?_
   refine GS ?_
   refine TL ?_
   refine RS (ok_index0 (0) Tryd.underlying39 info28 rfl rfl (rfl) (by decide)) ?_
   refine RS (ok_loadV (s := 1000005) (by decide) Tryd.underlying28 rfl rfl rfl (rfl)) ?_
   refine RBS rfl rfl rfl (.bool true) (by simp; omega) ?_
   refine RN ?_
   refine A.yes rfl ?_
   have hR : CelT.rsC c k lim = CelT.zero := if_pos (.inl hw)
   refine GS ?_
   refine TL ?_
   refine RM rfl ?_
   refine RBS rfl rfl rfl (.bool true) (by rw [show CelT.rsE c k lim = 1 from if_pos hw]; rfl) ?_
   refine RM rfl ?_
   refine RQ (ok_loadA (s := 1000009) (by decide) Tryd.underlying30 rfl (size30.of ((CelT.rs_fit (k := k) hc hl).len)) rfl rfl) ?_
   refine RQ (ok_lit [] (CelT.v CelT.zero) (fun _ _ => rfl) (by kernel_rfl)) ?_
   refine RQ (ok_eqlT (n := 4) true flat30 (by decide) (by kernel_rfl) (by kernel_rfl) rfl rfl (CelT.rs_fit (k := k) hc hl).kin CelT.zero_fit.kin (iff_of_true rfl (congrArg CelT.v hR))) ?_; refine RZ (.bool true) (by rfl) ?_
   refine RP rfl rfl ?_
   refine RM rfl ?_
   refine RQ (ok_callM lives15_fn (Sub.cons rfl (Sub.cons rfl (Sub.cons rfl KN))) tabN_v Args.nil) ?_
   refine RP rfl rfl ?_
   refine RA rfl ?_
   refine RN ?_
   refine A.sub (KC 6 rfl (KC 1000003 rfl (KC 1000004 rfl (KC 1000005 rfl (KC 1000007 rfl (KC 1000009 rfl (KC 1900000 rfl (KC 1900001 rfl (KC 1900002 rfl KN))))))))) ?_
   refine A.ret ?_
   refine End.ret_then ?_
   exact End.ret1 rfl rfl (by first | exact Le.refl _ | exact Le.old _ _)
  ·refine GS ?_
   refine TN 9 ?_
   refine RS (ok_loadA (s := 1000003) (by decide) Tryd.underlying30 rfl (size30.of (hc.len)) rfl rfl) ?_
   refine RS (ok_index0 (0) Tryd.underlying39 info28 rfl rfl (rfl) (by decide)) ?_
   refine RS (ok_loadV (s := 1000005) (by decide) Tryd.underlying28 rfl rfl rfl (rfl)) ?_
   refine RS (ok_index0 (1) Tryd.underlying39 info28 rfl rfl (rfl) (by decide)) ?_
   refine RS (ok_loadV (s := 1000005) (by decide) Tryd.underlying28 rfl rfl rfl (rfl)) ?_
   refine RS (ok_call (Reserve_fn c hc k lim hk hl) (A3 rfl rfl rfl)) ?_
   refine RM rfl ?_
   refine RS (ok_extractV rfl rfl) ?_
   refine RS (ok_extractV rfl rfl) ?_
   refine RN ?_
   refine ⟨_, _, eff_alloc (n := 127) (d := 9) (k := 1000009) zero30 (by decide), fun b9 hb9 => ?_⟩
   have hBb9 := hb9.1
   have hlt_b3_b9 : b3 < b9 := hb9.2 1000003 _ _ _ rfl
   have hlt_b7_b9 : b7 < b9 := hb9.2 1000007 _ _ _ rfl
   refine TF 10 ?_
   refine RN ?_
   refine ⟨_, eff_storeA (n := 127) (s := 1000009) (size30.of ((CelT.rs_fit (k := k) hc hl).len)) rfl rfl (CelT.one _) hBb9 rfl (by rw [(CelT.rs_fit (k := k) hc hl).len]; rfl) (LV 3 rfl (LV 5 rfl (LV 9 rfl (LV 61 rfl (LB 1000003 rfl (LT 1000004 rfl (LT 1000005 rfl (LB 1000007 rfl (LeftS.cons (t := 1900000) rfl (Surv.tab (by omega)) (LeftS.cons (t := 1900001) rfl (Surv.tab (by omega)) (LeftS.cons (t := 1900002) rfl (Surv.tab (by omega)) LN))))))))))), ?_⟩
   refine TL ?_
   refine RA rfl ?_
   refine RN ?_
   refine A.seq ?_
   refine GS ?_
   refine TL ?_
   refine RS (ok_index0 (0) Tryd.underlying39 info28 rfl rfl (rfl) (by decide)) ?_
   refine RS (ok_loadV (s := 1000005) (by decide) Tryd.underlying28 rfl rfl rfl (rfl)) ?_
   refine RBS rfl rfl rfl (.bool false) (by simp; omega) ?_
   refine RN ?_
   refine A.no rfl ?_
   refine A.skip ?_
   refine EN ?_
   refine GS ?_
   refine TL ?_
   refine RS (ok_field field30_2 (by decide) rfl) ?_
   refine RS (ok_loadV (s := 1000003) (by decide) Tryd.underlying28 rfl rfl rfl (hc.vm)) ?_
   refine RS (ok_index0 (0) Tryd.underlying39 info28 rfl rfl (rfl) (by decide)) ?_
   refine RS (ok_loadV (s := 1000005) (by decide) Tryd.underlying28 rfl rfl rfl (rfl)) ?_
   refine RBS rfl rfl rfl (nQ (c.m + k - 18446744073709551616)) (sum_over (by omega) (by have := hc.m; omega)) ?_
   refine RA rfl ?_
   refine RN ?_
   refine A.seq ?_
   refine GS ?_
   refine TL ?_
   refine RM rfl ?_
   refine RS (ok_field field30_2 (by decide) rfl) ?_
   refine RS (ok_loadV (s := 1000003) (by decide) Tryd.underlying28 rfl rfl rfl (hc.vm)) ?_
   refine RBS rfl rfl rfl (.bool true) (by have := hc.m; simp; omega) ?_
   refine RM rfl ?_
   refine RK ?_
   refine RK ?_
   refine RK ?_
   refine RK ?_
   refine RP rfl rfl ?_
   refine RN ?_
   refine A.sub (KC 3 rfl (KC 8 rfl (KC 9 rfl (KC 10 rfl (KC 89 rfl (KC 1000003 rfl (KC 1000004 rfl (KC 1000005 rfl (KC 1000007 rfl (KC 1000009 rfl (KC 1900000 rfl (KC 1900001 rfl (KC 1900002 rfl KN))))))))))))) ?_
   refine A.yes rfl ?_
   have hcm := hc.m
   have hR : CelT.rsC c k lim = CelT.zero := if_pos (.inr (by omega))
   have hE8 : CelT.rsE c k lim = 8 := by rw [CelT.rsE, if_neg hw, if_pos (by omega)]
   refine GS ?_
   refine TL ?_
   refine RM rfl ?_
   refine RBS rfl rfl rfl (.bool true) (by rw [hE8]; rfl) ?_
   refine RM rfl ?_
   refine RQ (ok_loadA (s := 1000009) (by decide) Tryd.underlying30 rfl (size30.of ((CelT.rs_fit (k := k) hc hl).len)) rfl rfl) ?_
   refine RQ (ok_lit [] (CelT.v CelT.zero) (fun _ _ => rfl) (by kernel_rfl)) ?_
   refine RQ (ok_eqlT (n := 4) true flat30 (by decide) (by kernel_rfl) (by kernel_rfl) rfl rfl (CelT.rs_fit (k := k) hc hl).kin CelT.zero_fit.kin (iff_of_true rfl (congrArg CelT.v hR))) ?_; refine RZ (.bool true) (by rfl) ?_
   refine RP rfl rfl ?_
   refine RM rfl ?_
   refine RQ (ok_callM lives15_fn (Sub.cons rfl (Sub.cons rfl (Sub.cons rfl KN))) tabN_v Args.nil) ?_
   refine RP rfl rfl ?_
   refine RA rfl ?_
   refine RN ?_
   refine A.ret ?_
   refine End.ret_then ?_
   exact End.ret1 rfl rfl (by first | exact Le.refl _ | exact Le.old _ _)
  ·refine GS ?_
   refine TN 9 ?_
   refine RS (ok_loadA (s := 1000003) (by decide) Tryd.underlying30 rfl (size30.of (hc.len)) rfl rfl) ?_
   refine RS (ok_index0 (0) Tryd.underlying39 info28 rfl rfl (rfl) (by decide)) ?_
   refine RS (ok_loadV (s := 1000005) (by decide) Tryd.underlying28 rfl rfl rfl (rfl)) ?_
   refine RS (ok_index0 (1) Tryd.underlying39 info28 rfl rfl (rfl) (by decide)) ?_
   refine RS (ok_loadV (s := 1000005) (by decide) Tryd.underlying28 rfl rfl rfl (rfl)) ?_
   refine RS (ok_call (Reserve_fn c hc k lim hk hl) (A3 rfl rfl rfl)) ?_
   refine RM rfl ?_
   refine RS (ok_extractV rfl rfl) ?_
   refine RS (ok_extractV rfl rfl) ?_
   refine RN ?_
   refine ⟨_, _, eff_alloc (n := 127) (d := 9) (k := 1000009) zero30 (by decide), fun b9 hb9 => ?_⟩
   have hBb9 := hb9.1
   have hlt_b3_b9 : b3 < b9 := hb9.2 1000003 _ _ _ rfl
   have hlt_b7_b9 : b7 < b9 := hb9.2 1000007 _ _ _ rfl
   refine TF 10 ?_
   refine RN ?_
   refine ⟨_, eff_storeA (n := 127) (s := 1000009) (size30.of ((CelT.rs_fit (k := k) hc hl).len)) rfl rfl (CelT.one _) hBb9 rfl (by rw [(CelT.rs_fit (k := k) hc hl).len]; rfl) (LV 3 rfl (LV 5 rfl (LV 9 rfl (LV 61 rfl (LB 1000003 rfl (LT 1000004 rfl (LT 1000005 rfl (LB 1000007 rfl (LeftS.cons (t := 1900000) rfl (Surv.tab (by omega)) (LeftS.cons (t := 1900001) rfl (Surv.tab (by omega)) (LeftS.cons (t := 1900002) rfl (Surv.tab (by omega)) LN))))))))))), ?_⟩
   refine TL ?_
   refine RA rfl ?_
   refine RN ?_
   refine A.seq ?_
   refine GS ?_
   refine TL ?_
   refine RS (ok_index0 (0) Tryd.underlying39 info28 rfl rfl (rfl) (by decide)) ?_
   refine RS (ok_loadV (s := 1000005) (by decide) Tryd.underlying28 rfl rfl rfl (rfl)) ?_
   refine RBS rfl rfl rfl (.bool false) (by simp; omega) ?_
   refine RN ?_
   refine A.no rfl ?_
   refine A.skip ?_
   refine EN ?_
   refine GS ?_
   refine TL ?_
   refine RS (ok_field field30_2 (by decide) rfl) ?_
   refine RS (ok_loadV (s := 1000003) (by decide) Tryd.underlying28 rfl rfl rfl (hc.vm)) ?_
   refine RS (ok_index0 (0) Tryd.underlying39 info28 rfl rfl (rfl) (by decide)) ?_
   refine RS (ok_loadV (s := 1000005) (by decide) Tryd.underlying28 rfl rfl rfl (rfl)) ?_
   refine RBS rfl rfl rfl (nQ (c.m + k)) (sum_in (by omega)) ?_
   refine RA rfl ?_
   refine RN ?_
   refine A.seq ?_
   refine GS ?_
   refine TL ?_
   refine RM rfl ?_
   refine RS (ok_field field30_2 (by decide) rfl) ?_
   refine RS (ok_loadV (s := 1000003) (by decide) Tryd.underlying28 rfl rfl rfl (hc.vm)) ?_
   refine RBS rfl rfl rfl (.bool false) (by simp; omega) ?_
   refine RM rfl ?_
   refine RQ (ok_move rfl) ?_
   refine RQ (ok_index0 (1) Tryd.underlying39 info28 rfl rfl (rfl) (by decide)) ?_
   refine RQ (ok_loadV (s := 1000005) (by decide) Tryd.underlying28 rfl rfl rfl (rfl)) ?_
   refine RQ (ok_bin rfl rfl rfl) ?_; refine RZ (.bool true) (by simp; omega) ?_
   refine RP rfl rfl ?_
   refine RN ?_
   refine A.sub (KC 3 rfl (KC 8 rfl (KC 9 rfl (KC 10 rfl (KC 89 rfl (KC 1000003 rfl (KC 1000004 rfl (KC 1000005 rfl (KC 1000007 rfl (KC 1000009 rfl (KC 1900000 rfl (KC 1900001 rfl (KC 1900002 rfl KN))))))))))))) ?_
   refine A.yes rfl ?_
   have hcm := hc.m
   have hR : CelT.rsC c k lim = CelT.zero := if_pos (.inr (by omega))
   have hE8 : CelT.rsE c k lim = 8 := by rw [CelT.rsE, if_neg hw, if_pos (by omega)]
   refine GS ?_
   refine TL ?_
   refine RM rfl ?_
   refine RBS rfl rfl rfl (.bool true) (by rw [hE8]; rfl) ?_
   refine RM rfl ?_
   refine RQ (ok_loadA (s := 1000009) (by decide) Tryd.underlying30 rfl (size30.of ((CelT.rs_fit (k := k) hc hl).len)) rfl rfl) ?_
   refine RQ (ok_lit [] (CelT.v CelT.zero) (fun _ _ => rfl) (by kernel_rfl)) ?_
   refine RQ (ok_eqlT (n := 4) true flat30 (by decide) (by kernel_rfl) (by kernel_rfl) rfl rfl (CelT.rs_fit (k := k) hc hl).kin CelT.zero_fit.kin (iff_of_true rfl (congrArg CelT.v hR))) ?_; refine RZ (.bool true) (by rfl) ?_
   refine RP rfl rfl ?_
   refine RM rfl ?_
   refine RQ (ok_callM lives15_fn (Sub.cons rfl (Sub.cons rfl (Sub.cons rfl KN))) tabN_v Args.nil) ?_
   refine RP rfl rfl ?_
   refine RA rfl ?_
   refine RN ?_
   refine A.ret ?_
   refine End.ret_then ?_
   exact End.ret1 rfl rfl (by first | exact Le.refl _ | exact Le.old _ _)
  ·refine GS ?_
   refine TN 9 ?_
   refine RS (ok_loadA (s := 1000003) (by decide) Tryd.underlying30 rfl (size30.of (hc.len)) rfl rfl) ?_
   refine RS (ok_index0 (0) Tryd.underlying39 info28 rfl rfl (rfl) (by decide)) ?_
   refine RS (ok_loadV (s := 1000005) (by decide) Tryd.underlying28 rfl rfl rfl (rfl)) ?_
   refine RS (ok_index0 (1) Tryd.underlying39 info28 rfl rfl (rfl) (by decide)) ?_
   refine RS (ok_loadV (s := 1000005) (by decide) Tryd.underlying28 rfl rfl rfl (rfl)) ?_
   refine RS (ok_call (Reserve_fn c hc k lim hk hl) (A3 rfl rfl rfl)) ?_
   refine RM rfl ?_
   refine RS (ok_extractV rfl rfl) ?_
   refine RS (ok_extractV rfl rfl) ?_
   refine RN ?_
   refine ⟨_, _, eff_alloc (n := 127) (d := 9) (k := 1000009) zero30 (by decide), fun b9 hb9 => ?_⟩
   have hBb9 := hb9.1
   have hlt_b3_b9 : b3 < b9 := hb9.2 1000003 _ _ _ rfl
   have hlt_b7_b9 : b7 < b9 := hb9.2 1000007 _ _ _ rfl
   refine TF 10 ?_
   refine RN ?_
   refine ⟨_, eff_storeA (n := 127) (s := 1000009) (size30.of ((CelT.rs_fit (k := k) hc hl).len)) rfl rfl (CelT.one _) hBb9 rfl (by rw [(CelT.rs_fit (k := k) hc hl).len]; rfl) (LV 3 rfl (LV 5 rfl (LV 9 rfl (LV 61 rfl (LB 1000003 rfl (LT 1000004 rfl (LT 1000005 rfl (LB 1000007 rfl (LeftS.cons (t := 1900000) rfl (Surv.tab (by omega)) (LeftS.cons (t := 1900001) rfl (Surv.tab (by omega)) (LeftS.cons (t := 1900002) rfl (Surv.tab (by omega)) LN))))))))))), ?_⟩
   refine TL ?_
   refine RA rfl ?_
   refine RN ?_
   refine A.seq ?_
   refine GS ?_
   refine TL ?_
   refine RS (ok_index0 (0) Tryd.underlying39 info28 rfl rfl (rfl) (by decide)) ?_
   refine RS (ok_loadV (s := 1000005) (by decide) Tryd.underlying28 rfl rfl rfl (rfl)) ?_
   refine RBS rfl rfl rfl (.bool false) (by simp; omega) ?_
   refine RN ?_
   refine A.no rfl ?_
   refine A.skip ?_
   refine EN ?_
   refine GS ?_
   refine TL ?_
   refine RS (ok_field field30_2 (by decide) rfl) ?_
   refine RS (ok_loadV (s := 1000003) (by decide) Tryd.underlying28 rfl rfl rfl (hc.vm)) ?_
   refine RS (ok_index0 (0) Tryd.underlying39 info28 rfl rfl (rfl) (by decide)) ?_
   refine RS (ok_loadV (s := 1000005) (by decide) Tryd.underlying28 rfl rfl rfl (rfl)) ?_
   refine RBS rfl rfl rfl (nQ (c.m + k)) (sum_in (by omega)) ?_
   refine RA rfl ?_
   refine RN ?_
   refine A.seq ?_
   refine GS ?_
   refine TL ?_
   refine RM rfl ?_
   refine RS (ok_field field30_2 (by decide) rfl) ?_
   refine RS (ok_loadV (s := 1000003) (by decide) Tryd.underlying28 rfl rfl rfl (hc.vm)) ?_
   refine RBS rfl rfl rfl (.bool false) (by simp; omega) ?_
   refine RM rfl ?_
   refine RQ (ok_move rfl) ?_
   refine RQ (ok_index0 (1) Tryd.underlying39 info28 rfl rfl (rfl) (by decide)) ?_
   refine RQ (ok_loadV (s := 1000005) (by decide) Tryd.underlying28 rfl rfl rfl (rfl)) ?_
   refine RQ (ok_bin rfl rfl rfl) ?_; refine RZ (.bool false) (by simp; omega) ?_
   refine RP rfl rfl ?_
   refine RN ?_
   refine A.sub (KC 3 rfl (KC 8 rfl (KC 9 rfl (KC 10 rfl (KC 89 rfl (KC 1000003 rfl (KC 1000004 rfl (KC 1000005 rfl (KC 1000007 rfl (KC 1000009 rfl (KC 1900000 rfl (KC 1900001 rfl (KC 1900002 rfl KN))))))))))))) ?_
   refine A.no rfl ?_
   refine A.skip ?_
   refine EN ?_
   have hR : CelT.rsC c k lim = ⟨c.t, c.e, c.m + k⟩ := if_neg (by omega)
   have hE0 : CelT.rsE c k lim = 0 := by rw [CelT.rsE, if_neg hw, if_neg (by omega)]
   refine GS ?_
   refine TL ?_
   refine RM rfl ?_
   refine RBS rfl rfl rfl (.bool true) (by rw [hE0]; rfl) ?_
   refine RM rfl ?_
   refine RQ (ok_loadA (s := 1000009) (by decide) Tryd.underlying30 rfl (size30.of ((CelT.rs_fit (k := k) hc hl).len)) rfl rfl) ?_
   refine RQ (ok_field field30_0 (by decide) rfl) ?_
   refine RQ (ok_loadP (s := 1000003) (by decide) Tryd.underlying27 rfl size27 rfl rfl (by rw [hc.len]; decide) (hc.vt)) ?_
   refine RQ (ok_field field30_1 (by decide) rfl) ?_
   refine RQ (ok_loadV (s := 1000003) (by decide) Tryd.underlying28 rfl rfl rfl (hc.ve)) ?_
   refine RQ (ok_move rfl) ?_
   refine RQ (ok_litS [(0, aggV (c.t.map byteV)), (1, .int .u64 (c.e : Int)), (2, nQ (c.m + k))] (CelT.v ⟨c.t, c.e, c.m + k⟩) ⟨rfl, rfl, rfl, rfl, rfl, rfl, trivial⟩ (buildC _ _ _ hc.t)) ?_
   refine RQ (ok_eqlT (n := 4) true flat30 (by decide) (by kernel_rfl) (by kernel_rfl) rfl rfl (CelT.rs_fit (k := k) hc hl).kin (show CelT.Fit ⟨c.t, c.e, c.m + k⟩ from ⟨hc.t, hc.e, by show c.m + k < _; omega⟩).kin (iff_of_true rfl (congrArg CelT.v hR))) ?_; refine RZ (.bool true) (by rfl) ?_
   refine RP rfl rfl ?_
   refine RM rfl ?_
   refine RQ (ok_loadA (s := 1000003) (by decide) Tryd.underlying30 rfl (size30.of (hc.len)) rfl rfl) ?_
   refine RQ (ok_loadA (s := 1000009) (by decide) Tryd.underlying30 rfl (size30.of ((CelT.rs_fit (k := k) hc hl).len)) rfl rfl) ?_
   refine RQ (ok_call (Follows_fn c (CelT.rsC c k lim) hc (CelT.rs_fit (k := k) hc hl)) (A2 rfl rfl)) ?_; refine RZ (.int .u8 2) (congrArg (fun n : Nat => Value.int .u8 (n : Int)) (by rw [hR]; exact CelT.fol_two rfl rfl (by show c.m < c.m + k; omega))) ?_
   refine RQ (ok_bin rfl rfl rfl) ?_; refine RZ (.bool true) (by rfl) ?_
   refine RP rfl rfl ?_
   refine RM rfl ?_
   refine RQ (ok_loadA (s := 1000009) (by decide) Tryd.underlying30 rfl (size30.of ((CelT.rs_fit (k := k) hc hl).len)) rfl rfl) ?_
   refine RQ (ok_loadA (s := 1000003) (by decide) Tryd.underlying30 rfl (size30.of (hc.len)) rfl rfl) ?_
   refine RQ (ok_call (Follows_fn (CelT.rsC c k lim) c (CelT.rs_fit (k := k) hc hl) hc) (A2 rfl rfl)) ?_; refine RZ (.int .u8 0) (congrArg (fun n : Nat => Value.int .u8 (n : Int)) (by rw [hR]; exact CelT.fol_no (fun h => by have h1 : c.e + 1 = c.e := h.1; omega) (fun h => by have h1 : c.m + k < c.m := h.2.2; omega))) ?_
   refine RQ (ok_bin rfl rfl rfl) ?_; refine RZ (.bool true) (by rfl) ?_
   refine RP rfl rfl ?_
   refine RM rfl ?_
   refine RQ (ok_callM lives15_fn (Sub.cons rfl (Sub.cons rfl (Sub.cons rfl KN))) tabN_v Args.nil) ?_
   refine RP rfl rfl ?_
   refine RA rfl ?_
   refine RN ?_
   refine A.sub (KC 6 rfl (KC 1000003 rfl (KC 1000004 rfl (KC 1000005 rfl (KC 1000007 rfl (KC 1000009 rfl (KC 1900000 rfl (KC 1900001 rfl (KC 1900002 rfl KN))))))))) ?_
   refine A.ret ?_
   exact End.ret1 rfl rfl (by first | exact Le.refl _ | exact Le.old _ _)
end Go.Proofs.YtfjpipkcfbmdeaaDoor
namespace Go.Proofs.YtfjpipkcfbmdeaaDoor
open Go Go.RowKit Go.ChangeShapes Go.WideShapes
section
variable {H : Type} {enc : TypeId × Value → H} {P : Program} {w : World} {base : Nat} {held : Bool}
theorem arg_N12 {t : TypeId} {v : Value} {d : DataW H} {ps : List MemPlace} (hf : flat P 3 t = some [.u16]) (hg : isAggT P t = true) {r : Reach} {b0 : Nat} (hk : Value.okWide P w r b0 t v)
    (h : DataW.Trod enc P w base (fun _ => true) held t v d ps) : ∃ n : Nat, n < 65536 ∧ v = aggV [.int .u16 ((n : Nat) : Int)] := by
  obtain ⟨xs, rfl, hx⟩ := arg_flat 3 hf hg hk h
  obtain ⟨n, rfl, h1⟩ := hx.one
  obtain ⟨a, rfl, ha⟩ := nat_u16 h1
  exact ⟨a, ha, rfl⟩
end
end Go.Proofs.YtfjpipkcfbmdeaaDoor
namespace Go.Proofs.YtfjpipkcfbmdeaaDoor
open Go Go.RowKit Go.ChangeShapes Go.WideShapes
set_option linter.unusedVariables false
set_option linter.unusedSimpArgs false
section
variable {H : Type} {enc : TypeId × Value → H} {P : Program} {w : World} {base : Nat} {held : Bool}
/-- Elements, one behind the other. -/
theorem flat_at {α : Type} {f : α → List Value} {sz : Nat} (hl : ∀ x, (f x).length = sz) : ∀ {l : List α} {i k : Nat}, (hi : i < l.length) → k < sz → (l.flatMap f)[i * sz + k]? = (f l[i])[k]?
  | x :: l, 0, k, _, hk => by
    simp only [List.flatMap_cons, List.getElem_cons_zero, Nat.zero_mul, Nat.zero_add]
    rw [List.getElem?_append_left (by rw [hl]; exact hk)]
  | x :: l, i + 1, k, hi, hk => by
    have ih := flat_at (f := f) hl (l := l) (i := i) (k := k) (by simpa using hi) hk
    simp only [List.flatMap_cons, List.getElem_cons_succ]
    rw [List.getElem?_append_right (by rw [hl, Nat.add_mul]; omega), hl, show (i + 1) * sz + k - sz = i * sz + k by rw [Nat.add_mul]; omega, ih]
theorem trod_rows {α : Type} {f : α → List Value} {R : α → Prop} {sz n : Nat} {ks : List IntKind} (x₀ : α) (hl : ∀ x, R x → (f x).length = sz) (h0 : (f x₀).length = sz) (hopen : ∀ ys, Kin (fun k m => (Lit.int k m).wf = true) ks ys → ∃ x, R x ∧ ys = f x)
    {t e : TypeId} {fuel : Nat} {cs : List Value} {y : DataW H × List MemPlace} (ht : P.underlying t = some (.slice e)) (hf : flat P n e = some ks) (hc : P.cellsOf e = sz) (hsz : 0 < sz) (h : DataW.trod enc P w base (fun _ => true) held fuel t cs = some y) :
    ∃ (v : Value) (l : List α), cs = [v] ∧ (∀ x ∈ l, R x) ∧ (rowD l.length (l.flatMap f)).Of w v ∧ (∃ A m c, v = .slice A m c) := by
  rcases DataW.trod_slice ht h with ⟨rfl, _⟩ | ⟨a, len, cap, elems, rest, m, _, rfl, _, hba, hlc, hm, hlen, hel, _, _⟩
  · exact ⟨_, [], rfl, (fun x hx => by cases hx), rowD_nil.of (w := w) (x := .slice none 0 0) rfl, _, _, _, rfl⟩
  · have each : ∀ i, ∃ x : α, (f x).length = sz ∧ (i < len → R x ∧ ∀ k, k < sz → w.cell? (a.add (i * sz + k)) = (f x)[k]?) := fun i => by
      by_cases hi : i < len
      · have h1 := hel i hi
        rw [List.getElem?_eq_getElem (by omega), hc, Option.bind_eq_some_iff] at h1
        obtain ⟨cs', h2, h3⟩ := h1
        obtain ⟨x, hx, rfl⟩ := hopen _ (trod_flat n hf h3)
        obtain ⟨_, _, h4⟩ := World.cells?_some h2
        exact ⟨x, hl x hx, fun _ => ⟨hx, fun k hk => by rw [← add_of_add]; exact h4 k hk⟩⟩
      · exact ⟨x₀, h0, fun h => absurd h hi⟩
    obtain ⟨g, hg⟩ := Classical.axiomOfChoice each
    have hgl : ∀ i, (f (g i)).length = sz := fun i => (hg i).1
    refine ⟨_, (List.range len).map g, rfl, fun x hx => ?_, ?_, _, _, _, rfl⟩
    · obtain ⟨i, hi, rfl⟩ := List.mem_map.1 hx
      exact ((hg i).2 (List.mem_range.1 hi)).1
    · refine ⟨some a, cap, by simp, fun j u hu => ⟨a, rfl, ?_, ?_⟩⟩
      all_goals
        have hfm : ((List.range len).map g).flatMap f = (List.range len).flatMap fun i => f (g i) := by rw [List.flatMap_map]
        have hj : j < len * sz := by
          have h5 := (List.getElem?_eq_some_iff.1 hu).1
          rw [hfm, List.length_flatMap] at h5
          have h6 : ((List.range len).map fun i => (f (g i)).length).sum = len * sz := by
            rw [show ((List.range len).map fun i => (f (g i)).length) = List.replicate len sz from by rw [List.eq_replicate_iff]; exact ⟨by simp, fun b hb => by obtain ⟨i, _, rfl⟩ := List.mem_map.1 hb; exact hgl i⟩]
            simp
          omega
        have hi : j / sz < len := by rw [Nat.div_lt_iff_lt_mul hsz]; exact hj
        have hk : j % sz < sz := Nat.mod_lt _ hsz
        have hjj : j / sz * sz + j % sz = j := Nat.div_add_mod' j sz
        have hcell := ((hg (j / sz)).2 hi).2 (j % sz) hk
        have h7 := flat_at (f := fun i => f (g i)) hgl (l := List.range len) (i := j / sz) (k := j % sz) (by simpa using hi) hk
        rw [hjj, List.getElem_range] at h7
        rw [hfm] at hu
        rw [hjj, ← h7, hu] at hcell
      · have := block_of_cell hcell
        rwa [block_of_add] at this
      · exact hcell
end
end Go.Proofs.YtfjpipkcfbmdeaaDoor
namespace Go.Proofs.YtfjpipkcfbmdeaaDoor
open Go Go.RowKit Go.ChangeShapes Go.WideShapes
set_option linter.unusedVariables false
set_option linter.unusedSimpArgs false
section
variable {H : Type} {enc : TypeId × Value → H} {P : Program} {w : World} {base : Nat} {held : Bool}
theorem cel_of_kin {xs : List Value} (h : Kin (fun k m => (Lit.int k m).wf = true) (List.replicate 32 .u8 ++ [.u64, .u64]) xs) : ∃ c : CelT, c.Fit ∧ xs = c.v := by
  obtain ⟨x, y, rfl, h1, h2⟩ := h.append
  obtain ⟨l, hl, rfl⟩ := h1.bytes
  obtain ⟨n, y, rfl, h3, h4⟩ := h2.cons
  obtain ⟨m, rfl, h5⟩ := h4.one
  obtain ⟨e, rfl, he⟩ := nat_u64 h3
  obtain ⟨m, rfl, hm⟩ := nat_u64 h5
  exact ⟨⟨l, e, m⟩, ⟨hl, he, hm⟩, rfl⟩
theorem arg_cel15 {t : TypeId} {v : Value} {d : DataW H} {ps : List MemPlace} (hf : flat P 4 t = some (List.replicate 32 .u8 ++ [.u64, .u64])) (hg : isAggT P t = true) {r : Reach} {b0 : Nat} (hk : Value.okWide P w r b0 t v)
    (h : DataW.Trod enc P w base (fun _ => true) held t v d ps) : ∃ c : CelT, c.Fit ∧ v = aggV c.v := by
  obtain ⟨xs, rfl, hx⟩ := arg_flat 4 hf hg hk h
  obtain ⟨c, hc, rfl⟩ := cel_of_kin hx
  exact ⟨c, hc, rfl⟩
theorem arg_q2 {t : TypeId} {v : Value} {d : DataW H} {ps : List MemPlace} (hf : flat P 3 t = some [.u64, .u64]) (hg : isAggT P t = true) {r : Reach} {b0 : Nat} (hk : Value.okWide P w r b0 t v)
    (h : DataW.Trod enc P w base (fun _ => true) held t v d ps) : ∃ a b : Nat, a < 18446744073709551616 ∧ b < 18446744073709551616 ∧ v = aggV [.int .u64 (a : Int), .int .u64 (b : Int)] := by
  obtain ⟨xs, rfl, hx⟩ := arg_flat 3 hf hg hk h
  obtain ⟨a, y, rfl, h1, h2⟩ := hx.cons
  obtain ⟨b, rfl, h3⟩ := h2.one
  obtain ⟨a, rfl, ha⟩ := nat_u64 h1
  obtain ⟨b, rfl, hb⟩ := nat_u64 h3
  exact ⟨a, b, ha, hb, rfl⟩
theorem arg_i2 {t : TypeId} {v : Value} {d : DataW H} {ps : List MemPlace} (hf : flat P 3 t = some [.i64, .i64]) (hg : isAggT P t = true) {r : Reach} {b0 : Nat} (hk : Value.okWide P w r b0 t v)
    (h : DataW.Trod enc P w base (fun _ => true) held t v d ps) : ∃ a b : Int, v = aggV [.int .i64 a, .int .i64 b] := by
  obtain ⟨xs, rfl, hx⟩ := arg_flat 3 hf hg hk h
  obtain ⟨a, y, rfl, _, h2⟩ := hx.cons
  obtain ⟨b, rfl, _⟩ := h2.one
  exact ⟨a, b, rfl⟩
theorem b2_of_kin {xs : List Value} (h : Kin (fun k m => (Lit.int k m).wf = true) [.u8, .u8] xs) : ∃ x : UInt8 × UInt8, True ∧ xs = [byteV x.1, byteV x.2] := by
  obtain ⟨a, y, rfl, h1, h2⟩ := h.cons
  obtain ⟨b, rfl, h3⟩ := h2.one
  exact ⟨⟨UInt8.ofNat a.toNat, UInt8.ofNat b.toNat⟩, trivial, by rw [wf_u8 h1, wf_u8 h3]⟩
theorem arg_b2 {t : TypeId} {v : Value} {d : DataW H} {ps : List MemPlace} (hf : flat P 3 t = some [.u8, .u8]) (hg : isAggT P t = true) {r : Reach} {b0 : Nat} (hk : Value.okWide P w r b0 t v)
    (h : DataW.Trod enc P w base (fun _ => true) held t v d ps) : ∃ x y : UInt8, v = aggV [byteV x, byteV y] := by
  obtain ⟨xs, rfl, hx⟩ := arg_flat 3 hf hg hk h
  obtain ⟨x, _, rfl⟩ := b2_of_kin hx
  exact ⟨x.1, x.2, rfl⟩
theorem trod_room {t e : TypeId} {fuel : Nat} {cs : List Value} {y : DataW H × List MemPlace} (ht : P.underlying t = some (.slice e)) (h : DataW.trod enc P w base (fun _ => true) held fuel t cs = some y) : ∃ A n c, cs = [.slice A n c] ∧ n ≤ c := by
  rcases DataW.trod_slice ht h with ⟨rfl, _⟩ | ⟨a, len, cap, elems, rest, m, _, rfl, _, hba, hlc, _⟩
  · exact ⟨none, 0, 0, rfl, Nat.le_refl _⟩
  · exact ⟨some a, len, cap, rfl, hlc⟩
/-- A slice of cells. -/
theorem arg_log15 {t e : TypeId} {v : Value} {d : DataW H} {ps : List MemPlace} (ht : P.underlying t = some (.slice e)) (hf : flat P 4 e = some (List.replicate 32 .u8 ++ [.u64, .u64])) (hc : P.cellsOf e = 34) {r : Reach} {b0 : Nat} (hk : Value.okWide P w r b0 t v)
    (h : DataW.Trod enc P w base (fun _ => true) held t v d ps) : ∃ l : List CelT, (∀ c ∈ l, c.Fit) ∧ (rowLg l.length (celsV l)).Of w v := by
  obtain ⟨a, len, cap, rfl⟩ := okWide_slice ht hk
  obtain ⟨fuel, hf'⟩ := h
  obtain ⟨v, l, h1, h2, ⟨A, q, hv, hrow⟩, _⟩ := trod_rows (f := CelT.v) (R := CelT.Fit) CelT.zero (fun _ h => h.len) CelT.zero_fit.len (fun _ => cel_of_kin) ht hf hc (by decide) hf'
  obtain ⟨A', n', c', h3, h4⟩ := trod_room ht hf'
  simp only [Value.cells, List.cons.injEq] at h1
  obtain ⟨rfl, _⟩ := h1
  simp only [Value.cells, List.cons.injEq, and_true] at h3
  rw [hv] at h3
  injection h3 with _ h5 h6
  exact ⟨l, h2, A, q, hv, by omega, hrow⟩
/-- A struct of a struct of a small number, and of a slice of pairs of bytes. -/
theorem arg_L15 {t e : TypeId} {f0 f1 : Field} {v : Value} {d : DataW H} {ps : List MemPlace} (ht : P.underlying t = some (.struct #[f0, f1])) (o0 : f0.offset = 0) (o1 : f1.offset = 1) (t0 : flat P 3 f0.type = some [.u16]) (t1 : P.underlying f1.type = some (.slice e)) (c0 : P.cellsOf f0.type = 1) (c1 : P.cellsOf f1.type = 1) (hC : P.cellsOf t = 2)
    (hf : flat P 3 e = some [.u8, .u8]) (hc : P.cellsOf e = 2) {r : Reach} {b0 : Nat} (hk : Value.okWide P w r b0 t v) (h : DataW.Trod enc P w base (fun _ => true) held t v d ps) :
    ∃ (k : Nat) (q : List (UInt8 × UInt8)), k < 65536 ∧ (tlD [.int .u16 (k : Int)] (rowD q.length (q.flatMap fun x => [byteV x.1, byteV x.2]))).Of w v := by
  obtain ⟨cs, rfl, hcs⟩ := okWide_struct ht hk
  obtain ⟨fuel, hf'⟩ := h
  obtain ⟨xs, m, _, _, hlen, hxl, hel⟩ := DataW.trod_struct ht hf'
  have hlen' : cs.toList.length = 2 := by rw [← hC]; exact hlen
  have hxl' : xs.length = 2 := by simpa using hxl
  have e0 := hel 0 f0 rfl
  have e1 := hel 1 f1 rfl
  rw [List.getElem?_eq_getElem (by omega)] at e0 e1
  rw [o0, c0] at e0
  rw [o1, c1] at e1
  have k0 := trod_flat 3 t0 e0
  obtain ⟨a, h3, h4⟩ := k0.one
  obtain ⟨a, rfl, ha⟩ := nat_u16 h4
  obtain ⟨u, l, h1, h2, h5, A, q, c, hv⟩ := trod_rows (f := fun x : UInt8 × UInt8 => [byteV x.1, byteV x.2]) (R := fun _ => True) (0, 0) (fun _ _ => rfl) rfl (fun _ => b2_of_kin) t1 hf hc (by decide) e1
  refine ⟨a, l, ha, u, by rw [hv]; rfl, ?_, h5⟩
  have h3' : (cs.toList.drop 0).take 1 = [.int .u16 (a : Int)] := h3
  have h1' : (cs.toList.drop 1).take 1 = [u] := h1
  unfold aggV
  congr 1
  apply Array.ext'
  show cs.toList = [.int .u16 (a : Int)] ++ [u]
  match hcl : cs.toList, hlen' with
  | [x, y], _ =>
    rw [hcl] at h3' h1'
    simp at h3' h1'
    rw [h3', h1']; rfl
end
end Go.Proofs.YtfjpipkcfbmdeaaDoor
namespace Go.Proofs.YtfjpipkcfbmdeaaDoor
open Go Go.RowKit
set_option linter.unusedVariables false
set_option maxRecDepth 20000
set_option linter.unusedSimpArgs false
/-- What Between returns for two numbers. -/
def betR (l : List CelT) (f j : Nat) : Value := if f ≤ j ∧ j < l.length then betV l f j else .tuple #[.int .u64 0, .int .u64 0, .int .i64 1]
theorem Bet_nat (l : List CelT) (hl : ∀ c ∈ l, c.Fit) (hm : l.length ≤ 1000) (f j : Nat) : Fn Tryd.prog 22 [rowLg l.length (celsV l), .v (nI (f)), .v (nI (j))] (.v (betR l f j)) := by
 unfold betR
 by_cases h : f ≤ j ∧ j < l.length
 ·rw [if_pos h]; exact Bet_go l hl hm f j h.1 h.2
 ·rw [if_neg h]; exact Bet_bad l hl hm f j (by omega)
theorem lg_at {n : Nat} {q : List S2} {i : Nat} (h : i < (lgL n q).length) : ceAt (lgL n q) i = lgN n q i := by
 have h' : i < min q.length 40 + 1 := by rwa [lgL_len] at h
 unfold ceAt lgL lgP; rw [List.getD_eq_getElem?_getD, List.getElem?_map, List.getElem?_range h']; rfl
theorem lg_fol {n : Nat} {q : List S2} {i : Nat} (h : i + 1 < (lgL n q).length) : folAt (lgL n q) i = if (s2At q i).1.toNat % 2 = 1 then 1 else 2 := by
 unfold folAt
 rw [lg_at (by omega), lg_at h, lgN]
 unfold stepC
 split
 ·exact CelT.fol_one rfl rfl
 ·exact CelT.fol_two rfl rfl (show (lgN n q i).m < (lgN n q i).m + (1 + (s2At q i).2.toNat * 2 ^ ((s2At q i).1.toNat / 2 % 40)) from Nat.lt_add_of_pos_right (Nat.lt_of_lt_of_le Nat.one_pos (Nat.le_add_right _ _)))
theorem lg_ok {n : Nat} {q : List S2} {i : Nat} (h : i + 1 < (lgL n q).length) : okAt (lgL n q) i = true := by
 rw [okAt_true, lg_fol h]; split <;> decide
theorem lg_flt (n : Nat) (q : List S2) : fault (lgL n q) = 0 ∧ fltE (lgL n q) = 0 := flt_ok fun k hk => lg_ok (by omega)
theorem lg_pos (n : Nat) (q : List S2) : 0 < (lgL n q).length := by rw [lgL_len]; omega
theorem lg_snd (n : Nat) (q : List S2) : sndV n (lgL n q) = (0, 0) := by
 unfold sndV
 rw [if_neg (by have := lg_pos n q; omega), if_pos (show ceAt (lgL n q) 0 = frC n from lg_at (lg_pos n q)), (lg_flt n q).1, (lg_flt n q).2]
theorem lg_com {n : Nat} {q : List S2} : ∀ {i : Nat}, i < (lgL n q).length → (comN (lgL n q) i).length = (lgN n q i).e
 | 0, _ => rfl
 | i + 1, h => by
  have ih := lg_com (n := n) (q := q) (i := i) (by omega)
  have hf := lg_fol h
  by_cases hy : (s2At q i).1.toNat % 2 = 1
  ·rw [if_pos hy] at hf
   rw [comN_y hf, List.length_append, ih, lgN, step_y hy]; rfl
  ·rw [if_neg hy] at hf
   rw [comN_n (by rw [hf]; decide), ih, lgN, step_n hy]
theorem lg_com_at {n : Nat} {q : List S2} : ∀ {i : Nat}, i < (lgL n q).length → ∀ j, j < (comN (lgL n q) i).length → 1 ≤ (comN (lgL n q) i).getD j 0 ∧ (comN (lgL n q) i).getD j 0 ≤ i ∧ (lgN n q ((comN (lgL n q) i).getD j 0)).e = j + 1 ∧ (lgN n q ((comN (lgL n q) i).getD j 0 - 1)).e = j
 | 0, _, j, hj => absurd hj (Nat.not_lt_zero _)
 | i + 1, h, j, hj => by
  have ih := lg_com_at (n := n) (q := q) (i := i) (by omega)
  have hl := lg_com (n := n) (q := q) (i := i) (by omega)
  have hf := lg_fol h
  by_cases hy : (s2At q i).1.toNat % 2 = 1
  ·rw [if_pos hy] at hf
   rw [comN_y hf] at hj ⊢
   rw [List.length_append] at hj
   rcases Nat.lt_or_ge j (comN (lgL n q) i).length with h1 | h1
   ·rw [List.getD_eq_getElem?_getD, List.getElem?_append_left h1, ← List.getD_eq_getElem?_getD]
    obtain ⟨a, b, c, d⟩ := ih j h1
    exact ⟨a, by omega, c, d⟩
   ·have hj2 : j = (comN (lgL n q) i).length := by simp at hj; omega
    rw [List.getD_eq_getElem?_getD, List.getElem?_append_right h1, hj2, Nat.sub_self]
    have e1 : (lgN n q (i + 1)).e = (lgN n q i).e + 1 := by rw [lgN, step_y hy]
    refine ⟨Nat.succ_le_succ (Nat.zero_le _), Nat.le_refl _, ?_, ?_⟩
    ·show (lgN n q (i + 1)).e = _; rw [e1, hl]
    ·show (lgN n q (i + 1 - 1)).e = _; rw [Nat.add_sub_cancel, hl]
  ·rw [if_neg hy] at hf
   rw [comN_n (by rw [hf]; decide)] at hj ⊢
   obtain ⟨a, b, c, d⟩ := ih j hj
   exact ⟨a, by omega, c, d⟩
theorem lg_step (n : Nat) (q : List S2) (i : Nat) : (lgN n q i).e ≤ (lgN n q (i + 1)).e ∧ (lgN n q i).m ≤ (lgN n q (i + 1)).m ∧ ((lgN n q i).e = (lgN n q (i + 1)).e → (lgN n q i).t = (lgN n q (i + 1)).t) := by
 by_cases hy : (s2At q i).1.toNat % 2 = 1
 ·rw [lgN, step_y hy]
  exact ⟨Nat.le_succ _, Nat.le_refl _, fun h => absurd h (show ¬ (lgN n q i).e = (lgN n q i).e + 1 by omega)⟩
 ·rw [lgN, step_n hy]
  exact ⟨Nat.le_refl _, Nat.le_add_right _ _, fun _ => rfl⟩
theorem lg_mono (n : Nat) (q : List S2) (i : Nat) : ∀ d, (lgN n q i).e ≤ (lgN n q (i + d)).e ∧ (lgN n q i).m ≤ (lgN n q (i + d)).m ∧ ((lgN n q i).e = (lgN n q (i + d)).e → (lgN n q i).t = (lgN n q (i + d)).t)
 | 0 => ⟨Nat.le_refl _, Nat.le_refl _, fun _ => rfl⟩
 | d + 1 => by
  obtain ⟨a, b, c⟩ := lg_mono n q i d
  obtain ⟨a', b', c'⟩ := lg_step n q (i + d)
  rw [show i + (d + 1) = i + d + 1 from rfl]
  exact ⟨by omega, by omega, fun h => (c (by omega)).trans (c' (by omega))⟩
theorem subQ_nat {x y : Nat} (h : y ≤ x) (hx : x < 18446744073709551616) : subQ x y = nQ (x - y) := by
 unfold subQ
 rw [show (x : Int) - (y : Int) = ((x - y : Nat) : Int) from by omega]; exact congrArg _ (wrapN_u64 (by omega))
theorem lg_bet {n : Nat} {q : List S2} {a b : Nat} (hab : a ≤ b) (hb : b < (lgL n q).length) : betR (lgL n q) a b = .tuple #[nQ ((ceAt (lgL n q) b).e - (ceAt (lgL n q) a).e), nQ ((ceAt (lgL n q) b).m - (ceAt (lgL n q) a).m), .int .i64 0] := by
 have hm := lg_mono n q a (b - a)
 rw [show a + (b - a) = b from by omega] at hm
 have hfb := ceAt_fit (lgL_fit n q) b
 rw [betR, if_pos ⟨hab, hb⟩, betV_ok, subQ_nat (by rw [lg_at hb, lg_at (by omega)]; exact hm.1) hfb.e, subQ_nat (by rw [lg_at hb, lg_at (by omega)]; exact hm.2.1) hfb.m]
 intro k hk
 rw [betC, cut_len (by omega)] at hk
 have := folAt_cut (l := lgL n q) (i := a) (j := b + 1) (k := k) (by omega) (by omega)
 rw [okAt_true]
 show folAt ((lgL n q).take (b + 1) |>.drop a) k ≠ 0
 rw [this]
 exact okAt_true.1 (lg_ok (by omega))

set_option maxHeartbeats 8000000 in
theorem CellsSound_fn (k : Nat) (hk : k < 65536) (q : List S2) (x y : UInt8) : FnM Tryd.prog 6 tabN [tlD [.int .u16 (k : Int)] (rowD q.length (s2R q)), .v (aggV [byteV x, byteV y])] (.v (.bool true)) := by
 have hlen := lgL_len (nn k) q
 have hpos := lg_pos (nn k) q
 have hfit := lgL_fit (nn k) q
 have hM : (lgL (nn k) q).length ≤ 41 := by omega
 obtain ⟨a, ha⟩ : ∃ a, a = x.toNat % (lgL (nn k) q).length := ⟨_, rfl⟩
 obtain ⟨b, hb⟩ : ∃ b, b = y.toNat % (lgL (nn k) q).length := ⟨_, rfl⟩
 have hal : a < (lgL (nn k) q).length := ha ▸ Nat.mod_lt _ hpos
 have hbl : b < (lgL (nn k) q).length := hb ▸ Nat.mod_lt _ hpos
 have hcl : (com (lgL (nn k) q)).length = (ceAt (lgL (nn k) q) ((lgL (nn k) q).length - 1)).e := by rw [lg_at (by omega)]; exact lg_com (by omega)
 have hcn := comN_le (lgL (nn k) q) ((lgL (nn k) q).length - 1)
 have hcn2 : (com (lgL (nn k) q)).length ≤ 40 := by show (comN _ _).length ≤ 40; omega
 refine FnM.of Tryd.func6 rfl (by kernel_rfl) Tryd.ntmps6 (by simp) (by decide) (fun w => [(0, old w.heap.size (tlD [.int .u16 (k : Int)] (rowD q.length (s2R q)))), (1, .v (aggV [byteV x, byteV y])), (1900000, tab 0 (sizV)), (1900001, tab 1 (H8.list.map u32V)), (1900002, tab 2 (K64.map u32V))]) (fun w => (StartM.old rfl (StartM.v rfl (StartM.m (by simp [tabN]) (by decide) (StartM.m (by simp [tabN]) (by decide) (StartM.m (by simp [tabN]) (by decide) StartM.nil)))))) fun w₀ hM => ?_
 have htab := tabN_hi hM
 refine A.nameTl (t := 0) (k := 1000200) rfl fun v hv1 => ?_
 refine GS ?_
 refine TN 0 ?_
 refine RN ?_
 refine ⟨_, _, eff_box (n := 197) (d := 2) (k := 1000002) rfl (by decide), fun b2 hb2 => ?_⟩
 have hBb2 := hb2.1
 refine TN 1 ?_
 refine RN ?_
 refine ⟨_, _, eff_box (n := 197) (d := 3) (k := 1000003) rfl (by decide), fun b3 hb3 => ?_⟩
 have hBb3 := hb3.1
 refine TL ?_
 refine RA rfl ?_
 refine RN ?_
 refine GS ?_
 refine TL ?_
 refine RS (OpOk.tlO [.int .u16 (k : Int)] (ok_loadA (s := 1000002) (by decide) Tryd.underlying49 rfl (size49.of (rfl)) rfl rfl) rfl hv1 (k := 1000200) (by decide) rfl) ?_
 refine RS (ok_call (LOf_fn k hk q) (Args.cons rfl (Le.old _ _) Args.nil)) ?_
 refine RM rfl ?_
 refine RS (ok_extract rfl rfl) ?_
 refine RS (ok_extract rfl rfl) ?_
 refine RA rfl ?_
 refine RA rfl ?_
 refine RN ?_
 refine A.nameLgP (t := 6) (k := 1000206) rfl (by rw [cels_len hfit]; omega) fun ad qq hqq => ?_
 refine A.raise _ (fun w => (UpTo.same (t := 3) rfl (UpTo.same (t := 5) rfl (UpTo.same (t := 6) rfl (UpTo.same (t := 1000002) rfl (UpTo.same (t := 1000003) rfl (UpTo.same (t := 1000200) rfl (UpTo.new (t := 1000206) rfl (UpTo.same (t := 1900000) rfl (UpTo.same (t := 1900001) rfl (UpTo.same (t := 1900002) rfl UpTo.nil))))))))))) fun w₁ hg₁ => ?_
 have hgs₁ := hg₁.size
 refine GS ?_
 refine TL ?_
 refine RM rfl ?_
 refine RS (OpOk.lgO (ok_move rfl) hqq (k := 1000206) (by decide) rfl) ?_
 refine RS (ok_callM (Sound_fn (nn k) (nn1 k) (nn2 k) (lgL (nn k) q) hfit (by omega)) (Sub.cons rfl (Sub.cons rfl (Sub.cons rfl KN))) tabN_v (Args.cons rfl (Le.refl _) (Args.cons rfl (Le.old _ _) Args.nil))) ?_; refine RZ (.tuple #[nI 0, .int .i64 0]) (by rw [lg_snd]) ?_
 refine RM rfl ?_
 refine RS (ok_extractV rfl rfl) ?_
 refine RS (ok_extractV rfl rfl) ?_
 refine RA rfl ?_
 refine RA rfl ?_
 refine RN ?_
 refine A.seq ?_
 refine GS ?_
 refine TL ?_
 refine RM rfl ?_
 refine RBS rfl rfl rfl (.bool false) (by rfl) ?_
 refine RM rfl ?_
 refine RQ (ok_move rfl) ?_
 refine RQ (ok_bin rfl rfl rfl) ?_; refine RZ (.bool false) (by rfl) ?_
 refine RP rfl rfl ?_
 refine RN ?_
 refine A.no rfl ?_
 refine A.skip ?_
 refine EN ?_
 refine GS ?_
 refine TL ?_
 refine RS (OpOk.lgO (ok_move rfl) hqq (k := 1000206) (by decide) rfl) ?_
 refine RS (ok_call (Commits_fn (lgL (nn k) q) hfit (by omega)) (Args.cons rfl (Le.old _ _) Args.nil)) ?_
 refine RA rfl ?_
 refine RN ?_
 refine A.sub (KC 3 rfl (KC 6 rfl (KC 9 rfl (KC 1000002 rfl (KC 1000003 rfl (KC 1000200 rfl (KC 1000206 rfl (KC 1900000 rfl (KC 1900001 rfl (KC 1900002 rfl KN)))))))))) ?_
 refine A.seq ?_
 refine GS ?_
 refine TL ?_
 refine RM rfl ?_
 refine RS (ok_lenU (com (lgL (nn k) q)).length Tryd.underlying56 rfl (le_vlst _ _) (by simp)) ?_
 refine RS (ok_conv Tryd.underlying3 Tryd.underlying28 rfl) ?_; refine RZ (nQ ((com (lgL (nn k) q)).length)) (congrArg (Value.int .u64) (wrapN_u64 (by omega))) ?_
 refine RM rfl ?_
 refine RM rfl ?_
 refine RS (ok_lenV Tryd.underlying51 rfl) ?_
 refine RBS rfl rfl rfl (nI ((lgL (nn k) q).length - 1)) (wrap_eq (by omega) (by omega)) ?_
 refine RS (ok_indexRX ((lgL (nn k) q).length - 1) Tryd.underlying51 infoC rfl rfl (by omega)) ?_
 refine RS (ok_fieldRX field30_1 (by decide) rfl) ?_
 refine RS (ok_loadRX (u := nQ ((ceAt (lgL (nn k) q) ((lgL (nn k) q).length - 1)).e)) (s := 1000206) Tryd.underlying28 rfl rfl (by decide) rfl (cell_e hfit (by omega))) ?_
 refine RBS rfl rfl rfl (.bool false) (by rw [hcl]; simp) ?_
 refine RM rfl ?_
 refine RQ (ok_move rfl) ?_
 refine RQ (ok_capU Tryd.underlying56 rfl (Le.refl _)) ?_
 refine RQ (ok_move rfl) ?_
 refine RQ (ok_lenU (com (lgL (nn k) q)).length Tryd.underlying56 rfl (le_vlst _ _) (by simp)) ?_
 refine RQ (ok_bin rfl rfl rfl) ?_; refine RZ (.bool false) (by simp) ?_
 refine RP rfl rfl ?_
 refine RN ?_
 refine A.no rfl ?_
 refine A.skip ?_
 refine EN ?_
 refine A.seq ?_
 refine GS ?_
 refine TL ?_
 refine RA rfl ?_
 refine RN ?_
 refine A.block ?_
 refine A.loop (ι := Nat) (fun i => i ≤ (com (lgL (nn k) q)).length) (fun i => [(3, .v (ptr b3)), (6, .v (.slice (some ad) (lgL (nn k) q).length qq)), (9, vlist (intsV (com (lgL (nn k) q))) (com (lgL (nn k) q)).length), (10, .v (nI (i))), (1000003, blk b3 50 [byteV x, byteV y]), (1000206, old w₁.heap.size (memR (some ad) (celsV (lgL (nn k) q)))), (1900000, tab 0 (sizV)), (1900001, tab 1 (H8.list.map u32V)), (1900002, tab 2 (K64.map u32V))]) (fun i => (com (lgL (nn k) q)).length - i) 0 ?_ ?_ ?_
 ·exact Nat.zero_le _
 ·exact (KC 3 rfl (KC 6 rfl (KC 9 rfl (KE 10 rfl (by rfl) (KC 1000003 rfl (KC 1000206 rfl (KC 1900000 rfl (KC 1900001 rfl (KC 1900002 rfl KN)))))))))
 intro i hi'
 refine A.seq ?_
 refine GS ?_
 refine TL ?_
 refine RM rfl ?_
 refine RM rfl ?_
 refine RS (ok_lenU (com (lgL (nn k) q)).length Tryd.underlying56 rfl (le_vlst _ _) (by simp)) ?_
 refine RB rfl rfl rfl ?_
 refine RN ?_
 refine A.cond rfl (fun hc57 => ?_) (fun hc57 => ?_)
 ·have hi : i < (com (lgL (nn k) q)).length := by simp at hc57; omega
  obtain ⟨c, hc0⟩ : ∃ c, c = (com (lgL (nn k) q)).getD i 0 := ⟨_, rfl⟩
  obtain ⟨hc1, hc2, hc3, hc4⟩ := lg_com_at (n := nn k) (q := q) (i := (lgL (nn k) q).length - 1) (by omega) i hi
  rw [show (comN (lgL (nn k) q) ((lgL (nn k) q).length - 1)).getD i 0 = c from hc0.symm] at hc1 hc2 hc3 hc4
  have hce : (ceAt (lgL (nn k) q) c).e = i + 1 := by rw [lg_at (by omega)]; exact hc3
  have hcp : (ceAt (lgL (nn k) q) (c - 1)).e = i := by rw [lg_at (by omega)]; exact hc4
  have hget : (intsV (com (lgL (nn k) q)))[i]? = some (nI c) := by rw [hc0, List.getElem?_map, List.getD_eq_getElem?_getD, List.getElem?_eq_getElem hi]; rfl
  refine A.skip ?_
  refine EN ?_
  refine A.seq ?_
  refine A.block ?_
  refine GS ?_
  refine TL ?_
  refine RM rfl ?_
  refine RM rfl ?_
  refine RS (ok_indexU i Tryd.underlying56 info3 rfl (le_vlst _ _) rfl hget) ?_
  refine RS (ok_load Tryd.underlying3 rfl rfl) ?_
  refine RBS rfl rfl rfl (.bool false) (by simp; omega) ?_
  refine RM rfl ?_
  refine RQ (ok_move rfl) ?_
  refine RQ (ok_move rfl) ?_
  refine RQ (ok_indexU i Tryd.underlying56 info3 rfl (le_vlst _ _) rfl hget) ?_
  refine RQ (ok_load Tryd.underlying3 rfl rfl) ?_
  refine RQ (ok_move rfl) ?_
  refine RQ (ok_lenV Tryd.underlying51 rfl) ?_
  refine RQ (ok_bin rfl rfl rfl) ?_; refine RZ (.bool false) (by simp; omega) ?_
  refine RP rfl rfl ?_
  refine RM rfl ?_
  refine RQ (ok_move rfl) ?_
  refine RQ (ok_move rfl) ?_
  refine RQ (ok_move rfl) ?_
  refine RQ (ok_indexU i Tryd.underlying56 info3 rfl (le_vlst _ _) rfl hget) ?_
  refine RQ (ok_load Tryd.underlying3 rfl rfl) ?_
  refine RQ (ok_indexRX (c) Tryd.underlying51 infoC rfl rfl (by omega)) ?_
  refine RQ (ok_fieldRX field30_1 (by decide) rfl) ?_
  refine RQ (ok_loadRX (u := nQ ((ceAt (lgL (nn k) q) (c)).e)) (s := 1000206) Tryd.underlying28 rfl rfl (by decide) rfl (cell_e hfit (by omega))) ?_
  refine RQ (ok_move rfl) ?_
  refine RQ (ok_bin rfl rfl rfl) ?_; refine RZ (nI (i + 1)) (wrap_eq (by omega) (by omega)) ?_
  refine RQ (ok_conv Tryd.underlying3 Tryd.underlying28 rfl) ?_; refine RZ (nQ (i + 1)) (congrArg (Value.int .u64) (wrapN_u64 (by omega))) ?_
  refine RQ (ok_bin rfl rfl rfl) ?_; refine RZ (.bool false) (by rw [hce]; simp) ?_
  refine RP rfl rfl ?_
  refine RM rfl ?_
  refine RQ (ok_move rfl) ?_
  refine RQ (ok_move rfl) ?_
  refine RQ (ok_move rfl) ?_
  refine RQ (ok_indexU i Tryd.underlying56 info3 rfl (le_vlst _ _) rfl hget) ?_
  refine RQ (ok_load Tryd.underlying3 rfl rfl) ?_
  refine RQ (ok_bin rfl rfl rfl) ?_; refine RZ (nI (c - 1)) (wrap_eq (by omega) (by omega)) ?_
  refine RQ (ok_indexRX (c - 1) Tryd.underlying51 infoC rfl rfl (by omega)) ?_
  refine RQ (ok_fieldRX field30_1 (by decide) rfl) ?_
  refine RQ (ok_loadRX (u := nQ ((ceAt (lgL (nn k) q) (c - 1)).e)) (s := 1000206) Tryd.underlying28 rfl rfl (by decide) rfl (cell_e hfit (by omega))) ?_
  refine RQ (ok_move rfl) ?_
  refine RQ (ok_conv Tryd.underlying3 Tryd.underlying28 rfl) ?_; refine RZ (nQ i) (congrArg (Value.int .u64) (wrapN_u64 (by omega))) ?_
  refine RQ (ok_bin rfl rfl rfl) ?_; refine RZ (.bool false) (by rw [hcp]; simp) ?_
  refine RP rfl rfl ?_
  refine RN ?_
  refine A.sub (KC 3 rfl (KC 6 rfl (KC 9 rfl (KC 10 rfl (KC 101 rfl (KC 1000003 rfl (KC 1000206 rfl (KC 1900000 rfl (KC 1900001 rfl (KC 1900002 rfl KN)))))))))) ?_
  refine A.no rfl ?_
  refine A.skip ?_
  refine End.normal_block ?_
  refine EN ?_
  refine GE ?_
  refine TL ?_
  refine RM rfl ?_
  refine RBS rfl rfl rfl (nI (i + 1)) (wrap_eq (by omega) (by omega)) ?_
  refine RA rfl ?_
  refine RN ?_
  refine End.normal_then ?_
  refine End.again (i + 1) ?_ ?_ ?_
  ·show _ ≤ _; omega
  ·show _ - _ < _ - _; omega
  ·exact (KC 3 rfl (KC 6 rfl (KC 9 rfl (KC 10 rfl (KC 1000003 rfl (KC 1000206 rfl (KC 1900000 rfl (KC 1900001 rfl (KC 1900002 rfl KN)))))))))
 ·skip
  refine A.exit ?_
  refine End.exit_then ?_
  refine End.exit_then ?_
  refine End.exit_here ?_
  refine EN ?_
  refine GD ?_
  refine TL ?_
  refine RS (ok_index0 (0) Tryd.underlying50 info5 rfl rfl (rfl) (by decide)) ?_
  refine RS (ok_loadV (s := 1000003) (by decide) Tryd.underlying5 rfl rfl rfl (rfl)) ?_
  refine RS (ok_conv Tryd.underlying5 Tryd.underlying3 rfl) ?_; refine RZ (nI (x.toNat)) (wrap_eq rfl (by have := x.toNat_lt; omega)) ?_
  refine RM rfl ?_
  refine RS (ok_lenV Tryd.underlying51 rfl) ?_
  refine RS (ok_rem rfl rfl (by omega)) ?_; refine RZ (nI (a)) (by rw [ha]; exact congrArg (Value.int .i64) (Int.ofNat_tmod _ _).symm) ?_
  refine RS (ok_index0 (1) Tryd.underlying50 info5 rfl rfl (rfl) (by decide)) ?_
  refine RS (ok_loadV (s := 1000003) (by decide) Tryd.underlying5 rfl rfl rfl (rfl)) ?_
  refine RS (ok_conv Tryd.underlying5 Tryd.underlying3 rfl) ?_; refine RZ (nI (y.toNat)) (wrap_eq rfl (by have := y.toNat_lt; omega)) ?_
  refine RM rfl ?_
  refine RS (ok_lenV Tryd.underlying51 rfl) ?_
  refine RS (ok_rem rfl rfl (by omega)) ?_; refine RZ (nI (b)) (by rw [hb]; exact congrArg (Value.int .i64) (Int.ofNat_tmod _ _).symm) ?_
  refine RA rfl ?_
  refine RA rfl ?_
  refine RN ?_
  by_cases hab : a ≤ b
  ·refine GS ?_
   refine TL ?_
   refine RS (OpOk.lgO (ok_move rfl) hqq (k := 1000206) (by decide) rfl) ?_
   refine RM rfl ?_
   refine RM rfl ?_
   refine RS (ok_call (Bet_nat (lgL (nn k) q) hfit (by omega) a b) (Args.cons rfl (Le.old _ _) (A2 rfl rfl))) ?_; refine RZ (.tuple #[nQ ((ceAt (lgL (nn k) q) b).e - (ceAt (lgL (nn k) q) a).e), nQ ((ceAt (lgL (nn k) q) b).m - (ceAt (lgL (nn k) q) a).m), .int .i64 0]) (lg_bet hab hbl) ?_
   refine RM rfl ?_
   refine RS (ok_extractV rfl rfl) ?_
   refine RS (ok_extractV rfl rfl) ?_
   refine RS (ok_extractV rfl rfl) ?_
   refine RA rfl ?_
   refine RA rfl ?_
   refine RA rfl ?_
   refine RN ?_
   refine A.sub (KC 6 rfl (KC 8 rfl (KC 11 rfl (KC 12 rfl (KC 13 rfl (KC 14 rfl (KC 1000003 rfl (KC 1000206 rfl (KC 1900000 rfl (KC 1900001 rfl (KC 1900002 rfl KN))))))))))) ?_
   refine A.seq ?_
   refine GS ?_
   refine TL ?_
   refine RM rfl ?_
   refine RM rfl ?_
   refine RBS rfl rfl rfl (.bool false) (by simp; omega) ?_
   refine RN ?_
   refine A.no rfl ?_
   refine A.skip ?_
   refine EN ?_
   obtain ⟨hm1, hm2, hm3⟩ := lg_mono (nn k) q a (b - a)
   rw [show a + (b - a) = b from by omega, ← lg_at hal, ← lg_at hbl] at hm1 hm2 hm3
   have hroot := hm3
   refine A.regsK [⟨8, 15, 30, CelT.v CelT.zero, 10, (ceAt (lgL (nn k) q) a).v⟩, ⟨9, 16, 30, CelT.v CelT.zero, 11, (ceAt (lgL (nn k) q) b).v⟩] (by kernel_rfl) (by kernel_rfl) (by kernel_rfl) ?_
   refine KopsK.pure (_) rfl (.inl rfl) FromV.all (fun B' => (ok_move rfl)) ?_
   refine KopsK.pure (_) rfl (.inl rfl) FromV.all (fun B' => (ok_move rfl)) ?_
   refine KopsK.pure ((138, .v _) :: (139, .v _) :: _) rfl (.inl rfl) (FromV.op 0 (by kernel_rfl) rfl rfl (FromV.op 1 (by kernel_rfl) rfl rfl FromV.all)) (fun B' => (ok_indexRX (a) Tryd.underlying51 infoC rfl rfl (by omega))) ?_
   refine KopsK.pure ((140, .v _) :: _) rfl (.inl rfl) (FromV.op 2 (by kernel_rfl) rfl rfl FromV.all) (fun B' => (ok_loadRXT (ys := (ceAt (lgL (nn k) q) a).v) (s := 1000206) Tryd.underlying30 rfl (size30.of (ceAt_fit hfit _).len) rfl (by decide) rfl (by rw [(ceAt_fit hfit _).len]; exact cels_at hfit (by omega)))) ?_
   refine KopsK.pure (_) rfl (.inl rfl) FromV.all (fun B' => (ok_move rfl)) ?_
   refine KopsK.pure (_) rfl (.inl rfl) FromV.all (fun B' => (ok_move rfl)) ?_
   refine KopsK.pure ((142, .v _) :: (143, .v _) :: _) rfl (.inl rfl) (FromV.op 4 (by kernel_rfl) rfl rfl (FromV.op 5 (by kernel_rfl) rfl rfl FromV.all)) (fun B' => (ok_indexRX (b) Tryd.underlying51 infoC rfl rfl (by omega))) ?_
   refine KopsK.pure ((144, .v _) :: _) rfl (.inl rfl) (FromV.op 6 (by kernel_rfl) rfl rfl FromV.all) (fun B' => (ok_loadRXT (ys := (ceAt (lgL (nn k) q) b).v) (s := 1000206) Tryd.underlying30 rfl (size30.of (ceAt_fit hfit _).len) rfl (by decide) rfl (by rw [(ceAt_fit hfit _).len]; exact cels_at hfit (by omega)))) ?_
   refine KopsK.alloc 0 rfl rfl rfl rfl zero30 rfl ?_
   refine KopsK.alloc 1 rfl rfl rfl rfl zero30 rfl ?_
   refine KopsK.store 0 ((141, .v _) :: _) rfl rfl rfl rfl (by kernel_rfl) (FromV.op 3 (by kernel_rfl) rfl rfl FromV.all) rfl (size30.of ((ceAt_fit hfit a).len)) (by rw [(ceAt_fit hfit a).len]; rfl) (CelT.one _) ?_
   refine KopsK.store 1 ((145, .v _) :: _) rfl rfl rfl rfl (by kernel_rfl) (FromV.op 7 (by kernel_rfl) rfl rfl FromV.all) rfl (size30.of ((ceAt_fit hfit b).len)) (by rw [(ceAt_fit hfit b).len]; rfl) (CelT.one _) ?_
   refine KopsK.nil ⟨by kernel_rfl, _, FromW.all, fun bs hbs hds => ?_⟩
   have hb15 := hbs 0 (by simp)
   have hb16 := hbs 1 (by simp)
   have hne_b15_b16 := hds 0 1 (by simp) (by simp) (by decide)
   dsimp only [varEnv]
   generalize bs 0 = b15 at *
   generalize bs (0 + 1) = b16 at *
   have hBb15 := hb15.1
   have hlt_b3_b15 : b3 < b15 := hb15.2 1000003 _ _ _ rfl
   have hBb16 := hb16.1
   have hlt_b3_b16 : b3 < b16 := hb16.2 1000003 _ _ _ rfl
   refine A.sub (KC 8 rfl (KC 13 rfl (KC 14 rfl (KC 15 rfl (KC 16 rfl (KC 1000003 rfl (KC 1000015 rfl (KC 1000016 rfl (KC 1000206 rfl (KC 1900000 rfl (KC 1900001 rfl (KC 1900002 rfl KN)))))))))))) ?_
   by_cases he : (ceAt (lgL (nn k) q) a).e = (ceAt (lgL (nn k) q) b).e
   ·refine GS ?_
    refine TL ?_
    refine RM rfl ?_
    refine RBS rfl rfl rfl (.bool true) (by rfl) ?_
    refine RM rfl ?_
    refine RQ (ok_field field30_1 (by decide) rfl) ?_
    refine RQ (ok_loadV (s := 1000015) (by decide) Tryd.underlying28 rfl rfl rfl ((ceAt_fit hfit a).ve)) ?_
    refine RQ (ok_move rfl) ?_
    refine RQ (ok_bin rfl rfl rfl) ?_; refine RZ (nQ ((ceAt (lgL (nn k) q) b).e)) (by rw [← Int.natCast_add]; exact congrArg (Value.int .u64) ((wrapN_u64 (by have := (ceAt_fit hfit b).e; omega)).trans (by omega))) ?_
    refine RQ (ok_field field30_1 (by decide) rfl) ?_
    refine RQ (ok_loadV (s := 1000016) (by decide) Tryd.underlying28 rfl rfl rfl ((ceAt_fit hfit b).ve)) ?_
    refine RQ (ok_bin rfl rfl rfl) ?_; refine RZ (.bool true) (by simp) ?_
    refine RP rfl rfl ?_
    refine RM rfl ?_
    refine RQ (ok_field field30_2 (by decide) rfl) ?_
    refine RQ (ok_loadV (s := 1000015) (by decide) Tryd.underlying28 rfl rfl rfl ((ceAt_fit hfit a).vm)) ?_
    refine RQ (ok_move rfl) ?_
    refine RQ (ok_bin rfl rfl rfl) ?_; refine RZ (nQ ((ceAt (lgL (nn k) q) b).m)) (by rw [← Int.natCast_add]; exact congrArg (Value.int .u64) ((wrapN_u64 (by have := (ceAt_fit hfit b).m; omega)).trans (by omega))) ?_
    refine RQ (ok_field field30_2 (by decide) rfl) ?_
    refine RQ (ok_loadV (s := 1000016) (by decide) Tryd.underlying28 rfl rfl rfl ((ceAt_fit hfit b).vm)) ?_
    refine RQ (ok_bin rfl rfl rfl) ?_; refine RZ (.bool true) (by simp) ?_
    refine RP rfl rfl ?_
    refine RM rfl ?_
    refine RQ (ok_field field30_1 (by decide) rfl) ?_
    refine RQ (ok_loadV (s := 1000015) (by decide) Tryd.underlying28 rfl rfl rfl ((ceAt_fit hfit a).ve)) ?_
    refine RQ (ok_field field30_1 (by decide) rfl) ?_
    refine RQ (ok_loadV (s := 1000016) (by decide) Tryd.underlying28 rfl rfl rfl ((ceAt_fit hfit b).ve)) ?_
    refine RQ (ok_bin rfl rfl rfl) ?_; refine RZ (.bool true) (by simp; omega) ?_
    refine RP rfl rfl ?_
    refine RM rfl ?_
    refine RQ (ok_field field30_2 (by decide) rfl) ?_
    refine RQ (ok_loadV (s := 1000015) (by decide) Tryd.underlying28 rfl rfl rfl ((ceAt_fit hfit a).vm)) ?_
    refine RQ (ok_field field30_2 (by decide) rfl) ?_
    refine RQ (ok_loadV (s := 1000016) (by decide) Tryd.underlying28 rfl rfl rfl ((ceAt_fit hfit b).vm)) ?_
    refine RQ (ok_bin rfl rfl rfl) ?_; refine RZ (.bool true) (by simp; omega) ?_
    refine RP rfl rfl ?_
    refine RM rfl ?_
    refine RQ (ok_field field30_1 (by decide) rfl) ?_
    refine RQ (ok_loadV (s := 1000015) (by decide) Tryd.underlying28 rfl rfl rfl ((ceAt_fit hfit a).ve)) ?_
    refine RQ (ok_field field30_1 (by decide) rfl) ?_
    refine RQ (ok_loadV (s := 1000016) (by decide) Tryd.underlying28 rfl rfl rfl ((ceAt_fit hfit b).ve)) ?_
    refine RQ (ok_bin rfl rfl rfl) ?_; refine RZ (.bool false) (by simp [he]) ?_
    refine RQ (ok_move rfl) ?_
    refine RQ (ok_field field30_0 (by decide) rfl) ?_
    refine RQ (ok_loadP (s := 1000015) (by decide) Tryd.underlying27 rfl size27 rfl rfl (by rw [(ceAt_fit hfit a).len]; decide) ((ceAt_fit hfit a).vt)) ?_
    refine RQ (ok_field field30_0 (by decide) rfl) ?_
    refine RQ (ok_loadP (s := 1000016) (by decide) Tryd.underlying27 rfl size27 rfl rfl (by rw [(ceAt_fit hfit b).len]; decide) ((ceAt_fit hfit b).vt)) ?_
    refine RQ (ok_eqlT (n := 4) true flat27r (by decide) (by kernel_rfl) (by kernel_rfl) rfl rfl (kinB (ceAt_fit hfit a).t) (kinB (ceAt_fit hfit b).t) (iff_of_true rfl (by rw [hroot he]))) ?_; refine RZ (.bool true) (by rfl) ?_
    refine RQ (ok_pick rfl rfl) ?_
    refine RP rfl rfl ?_
    refine RM rfl ?_
    refine RQ (ok_callM lives15_fn (Sub.cons rfl (Sub.cons rfl (Sub.cons rfl KN))) tabN_v Args.nil) ?_
    refine RP rfl rfl ?_
    refine RA rfl ?_
    refine RN ?_
    refine A.sub (KC 4 rfl (KC 1000003 rfl (KC 1000015 rfl (KC 1000016 rfl (KC 1000206 rfl (KC 1900000 rfl (KC 1900001 rfl (KC 1900002 rfl KN)))))))) ?_
    refine A.ret ?_
    exact End.ret1U hg₁ rfl rfl (Le.refl _)
   ·refine GS ?_
    refine TL ?_
    refine RM rfl ?_
    refine RBS rfl rfl rfl (.bool true) (by rfl) ?_
    refine RM rfl ?_
    refine RQ (ok_field field30_1 (by decide) rfl) ?_
    refine RQ (ok_loadV (s := 1000015) (by decide) Tryd.underlying28 rfl rfl rfl ((ceAt_fit hfit a).ve)) ?_
    refine RQ (ok_move rfl) ?_
    refine RQ (ok_bin rfl rfl rfl) ?_; refine RZ (nQ ((ceAt (lgL (nn k) q) b).e)) (by rw [← Int.natCast_add]; exact congrArg (Value.int .u64) ((wrapN_u64 (by have := (ceAt_fit hfit b).e; omega)).trans (by omega))) ?_
    refine RQ (ok_field field30_1 (by decide) rfl) ?_
    refine RQ (ok_loadV (s := 1000016) (by decide) Tryd.underlying28 rfl rfl rfl ((ceAt_fit hfit b).ve)) ?_
    refine RQ (ok_bin rfl rfl rfl) ?_; refine RZ (.bool true) (by simp) ?_
    refine RP rfl rfl ?_
    refine RM rfl ?_
    refine RQ (ok_field field30_2 (by decide) rfl) ?_
    refine RQ (ok_loadV (s := 1000015) (by decide) Tryd.underlying28 rfl rfl rfl ((ceAt_fit hfit a).vm)) ?_
    refine RQ (ok_move rfl) ?_
    refine RQ (ok_bin rfl rfl rfl) ?_; refine RZ (nQ ((ceAt (lgL (nn k) q) b).m)) (by rw [← Int.natCast_add]; exact congrArg (Value.int .u64) ((wrapN_u64 (by have := (ceAt_fit hfit b).m; omega)).trans (by omega))) ?_
    refine RQ (ok_field field30_2 (by decide) rfl) ?_
    refine RQ (ok_loadV (s := 1000016) (by decide) Tryd.underlying28 rfl rfl rfl ((ceAt_fit hfit b).vm)) ?_
    refine RQ (ok_bin rfl rfl rfl) ?_; refine RZ (.bool true) (by simp) ?_
    refine RP rfl rfl ?_
    refine RM rfl ?_
    refine RQ (ok_field field30_1 (by decide) rfl) ?_
    refine RQ (ok_loadV (s := 1000015) (by decide) Tryd.underlying28 rfl rfl rfl ((ceAt_fit hfit a).ve)) ?_
    refine RQ (ok_field field30_1 (by decide) rfl) ?_
    refine RQ (ok_loadV (s := 1000016) (by decide) Tryd.underlying28 rfl rfl rfl ((ceAt_fit hfit b).ve)) ?_
    refine RQ (ok_bin rfl rfl rfl) ?_; refine RZ (.bool true) (by simp; omega) ?_
    refine RP rfl rfl ?_
    refine RM rfl ?_
    refine RQ (ok_field field30_2 (by decide) rfl) ?_
    refine RQ (ok_loadV (s := 1000015) (by decide) Tryd.underlying28 rfl rfl rfl ((ceAt_fit hfit a).vm)) ?_
    refine RQ (ok_field field30_2 (by decide) rfl) ?_
    refine RQ (ok_loadV (s := 1000016) (by decide) Tryd.underlying28 rfl rfl rfl ((ceAt_fit hfit b).vm)) ?_
    refine RQ (ok_bin rfl rfl rfl) ?_; refine RZ (.bool true) (by simp; omega) ?_
    refine RP rfl rfl ?_
    refine RM rfl ?_
    refine RQ (ok_field field30_1 (by decide) rfl) ?_
    refine RQ (ok_loadV (s := 1000015) (by decide) Tryd.underlying28 rfl rfl rfl ((ceAt_fit hfit a).ve)) ?_
    refine RQ (ok_field field30_1 (by decide) rfl) ?_
    refine RQ (ok_loadV (s := 1000016) (by decide) Tryd.underlying28 rfl rfl rfl ((ceAt_fit hfit b).ve)) ?_
    refine RQ (ok_bin rfl rfl rfl) ?_; refine RZ (.bool true) (by simp; omega) ?_
    refine RQ (ok_move rfl) ?_
    refine RK ?_
    refine RK ?_
    refine RK ?_
    refine RK ?_
    refine RK ?_
    refine RQ (ok_pick rfl rfl) ?_
    refine RP rfl rfl ?_
    refine RM rfl ?_
    refine RQ (ok_callM lives15_fn (Sub.cons rfl (Sub.cons rfl (Sub.cons rfl KN))) tabN_v Args.nil) ?_
    refine RP rfl rfl ?_
    refine RA rfl ?_
    refine RN ?_
    refine A.sub (KC 4 rfl (KC 1000003 rfl (KC 1000015 rfl (KC 1000016 rfl (KC 1000206 rfl (KC 1900000 rfl (KC 1900001 rfl (KC 1900002 rfl KN)))))))) ?_
    refine A.ret ?_
    exact End.ret1U hg₁ rfl rfl (Le.refl _)
  ·refine GS ?_
   refine TL ?_
   refine RS (OpOk.lgO (ok_move rfl) hqq (k := 1000206) (by decide) rfl) ?_
   refine RM rfl ?_
   refine RM rfl ?_
   refine RS (ok_call (Bet_nat (lgL (nn k) q) hfit (by omega) a b) (Args.cons rfl (Le.old _ _) (A2 rfl rfl))) ?_; refine RZ (.tuple #[.int .u64 0, .int .u64 0, .int .i64 1]) (if_neg fun h => hab h.1) ?_
   refine RM rfl ?_
   refine RS (ok_extractV rfl rfl) ?_
   refine RS (ok_extractV rfl rfl) ?_
   refine RS (ok_extractV rfl rfl) ?_
   refine RA rfl ?_
   refine RA rfl ?_
   refine RA rfl ?_
   refine RN ?_
   refine A.sub (KC 6 rfl (KC 8 rfl (KC 11 rfl (KC 12 rfl (KC 13 rfl (KC 14 rfl (KC 1000003 rfl (KC 1000206 rfl (KC 1900000 rfl (KC 1900001 rfl (KC 1900002 rfl KN))))))))))) ?_
   refine A.seq ?_
   refine GS ?_
   refine TL ?_
   refine RM rfl ?_
   refine RM rfl ?_
   refine RBS rfl rfl rfl (.bool true) (by simp; omega) ?_
   refine RN ?_
   refine A.yes rfl ?_
   refine GS ?_
   refine TL ?_
   refine RM rfl ?_
   refine RBS rfl rfl rfl (.bool true) (by rfl) ?_
   refine RM rfl ?_
   refine RQ (ok_move rfl) ?_
   refine RQ (ok_bin rfl rfl rfl) ?_; refine RZ (.bool true) (by rfl) ?_
   refine RP rfl rfl ?_
   refine RM rfl ?_
   refine RQ (ok_move rfl) ?_
   refine RQ (ok_bin rfl rfl rfl) ?_; refine RZ (.bool true) (by rfl) ?_
   refine RP rfl rfl ?_
   refine RM rfl ?_
   refine RQ (ok_callM lives15_fn (Sub.cons rfl (Sub.cons rfl (Sub.cons rfl KN))) tabN_v Args.nil) ?_
   refine RP rfl rfl ?_
   refine RA rfl ?_
   refine RN ?_
   refine A.ret ?_
   refine End.ret_then ?_
   exact End.ret1U hg₁ rfl rfl (Le.refl _)
end Go.Proofs.YtfjpipkcfbmdeaaDoor
namespace Go.Proofs.YtfjpipkcfbmdeaaDoor
open Go Go.RowKit
set_option linter.unusedVariables false
set_option maxRecDepth 20000
set_option linter.unusedSimpArgs false
/-- What Sound returns for any number. -/
def sndI (m : Int) (l : List CelT) : Nat × Int := if 1 ≤ m ∧ m ≤ 4096 then sndV m.toNat l else (0, 1)
theorem natz (n : Nat) : (((n : Nat) : Int) == 0) = decide (n = 0) := by rw [Bool.eq_iff_iff]; simp
theorem sndI_bad {m : Int} {l : List CelT} (h : ¬ (1 ≤ m ∧ m ≤ 4096)) : sndI m l = (0, 1) := if_neg h
theorem sndI_ok {n : Nat} {l : List CelT} (h : 1 ≤ (n : Int) ∧ (n : Int) ≤ 4096) : sndI n l = sndV n l := if_pos h
theorem sndI_nil {n : Nat} {l : List CelT} (h : 1 ≤ (n : Int) ∧ (n : Int) ≤ 4096) (h0 : l.length = 0) : sndI n l = (0, 16) := by rw [sndI_ok h, sndV, if_pos h0]
theorem sndI_ne {n : Nat} {l : List CelT} (h : 1 ≤ (n : Int) ∧ (n : Int) ≤ 4096) (h0 : ¬ l.length = 0) (hne : ¬ ceAt l 0 = frC n) : sndI n l = (0, 1) := by rw [sndI_ok h, sndV, if_neg h0, if_neg hne]
theorem sndI_go {n : Nat} {l : List CelT} (h : 1 ≤ (n : Int) ∧ (n : Int) ≤ 4096) (h0 : ¬ l.length = 0) (he : ceAt l 0 = frC n) : sndI n l = (fault l, fltE l) := by rw [sndI_ok h, sndV, if_neg h0, if_pos he]
theorem flt_nil {l : List CelT} (h : l.length = 0) : fault l = 0 := by unfold fault; rw [h]; rfl
theorem Sound_int (m : Int) (l : List CelT) (hl : ∀ c ∈ l, c.Fit) (hm : l.length ≤ 1000) : FnM Tryd.prog 20 tabN [.v (.int .i64 (m)), rowLg l.length (celsV l)] (.v (.tuple #[nI (sndI m l).1, .int .i64 (sndI m l).2])) := by
 by_cases h : 1 ≤ m ∧ m ≤ 4096
 ·obtain ⟨n, rfl⟩ : ∃ n : Nat, m = (n : Int) := ⟨m.toNat, by omega⟩
  rw [sndI_ok h]; exact Sound_fn n (by omega) (by omega) l hl hm
 ·rw [sndI_bad h]; exact Sound_bad m h l hl hm
def betI (l : List CelT) (f j : Int) : Value := if 0 ≤ f ∧ f ≤ j ∧ j < (l.length : Int) then betV l f.toNat j.toNat else .tuple #[.int .u64 0, .int .u64 0, .int .i64 1]
theorem Bet_int (l : List CelT) (hl : ∀ c ∈ l, c.Fit) (hm : l.length ≤ 1000) (f j : Int) : Fn Tryd.prog 22 [rowLg l.length (celsV l), .v (.int .i64 (f)), .v (.int .i64 (j))] (.v (betI l f j)) := by
 unfold betI
 by_cases h : 0 ≤ f ∧ f ≤ j ∧ j < (l.length : Int)
 ·obtain ⟨a, rfl⟩ : ∃ a : Nat, f = (a : Int) := ⟨f.toNat, by omega⟩
  obtain ⟨b, rfl⟩ : ∃ b : Nat, j = (b : Int) := ⟨j.toNat, by omega⟩
  rw [if_pos h]; exact Bet_go l hl hm a b (by omega) (by omega)
 ·rw [if_neg h]; exact Bet_bad l hl hm f j h
theorem bet_spl (l : List CelT) (f j : Int) : f < 0 ∨ (¬ f < 0 ∧ j < f) ∨ (¬ f < 0 ∧ ¬ j < f ∧ (l.length : Int) ≤ j) ∨
  (∃ a b : Nat, f = (a : Int) ∧ j = (b : Int) ∧ a ≤ b ∧ b < l.length ∧ ¬ fault (betC l a b) = 0) ∨ ∃ a b : Nat, f = (a : Int) ∧ j = (b : Int) ∧ a ≤ b ∧ b < l.length ∧ fault (betC l a b) = 0 := by
 by_cases h1 : f < 0
 ·exact .inl h1
 by_cases h2 : j < f
 ·exact .inr (.inl ⟨h1, h2⟩)
 by_cases h3 : (l.length : Int) ≤ j
 ·exact .inr (.inr (.inl ⟨h1, h2, h3⟩))
 by_cases h4 : fault (betC l f.toNat j.toNat) = 0
 ·exact .inr (.inr (.inr (.inr ⟨f.toNat, j.toNat, by omega, by omega, by omega, by omega, h4⟩)))
 ·exact .inr (.inr (.inr (.inl ⟨f.toNat, j.toNat, by omega, by omega, by omega, by omega, h4⟩)))
theorem betI_bad {l : List CelT} {f j : Int} (h : ¬ (0 ≤ f ∧ f ≤ j ∧ j < (l.length : Int))) : betI l f j = .tuple #[.int .u64 0, .int .u64 0, .int .i64 1] := if_neg h
theorem betI_flt {l : List CelT} {a b : Nat} (h1 : a ≤ b) (h2 : b < l.length) (h : ¬ fault (betC l a b) = 0) : betI l a b = .tuple #[.int .u64 0, .int .u64 0, .int .i64 13] := by
 unfold betI; rw [if_pos (by omega)]; exact if_neg h
theorem betI_ok {l : List CelT} {a b : Nat} (h1 : a ≤ b) (h2 : b < l.length) (h : fault (betC l a b) = 0) : betI l a b = .tuple #[subQ (ceAt l b).e (ceAt l a).e, subQ (ceAt l b).m (ceAt l a).m, .int .i64 0] := by
 unfold betI; rw [if_pos (by omega)]; exact if_pos h
theorem sl_le {l : List CelT} (hl : ∀ c ∈ l, c.Fit) {a b : Nat} (h1 : a ≤ b) (h2 : b < l.length) : Le (rowLg (b + 1 - a) (((celsV l).drop (a * 34)).take ((b + 1 - a) * 34))) (rowLg (betC l a b).length (celsV (betC l a b))) :=
 Le.eq (by rw [cut_v hl (by omega : a ≤ b + 1), betC, cut_len (by omega)])
theorem com_pre (l : List CelT) (i : Nat) : ∀ d, ∃ r, comN l (i + d) = comN l i ++ r
 | 0 => ⟨[], by simp⟩
 | d + 1 => by
  obtain ⟨r, hr⟩ := com_pre l i d
  exact ⟨r ++ _, by rw [show i + (d + 1) = i + d + 1 from rfl, comN, hr, List.append_assoc]⟩
theorem com_get {l : List CelT} {i : Nat} (h : folAt l i = 1) (hi : i + 1 ≤ l.length - 1) : (intsV (com l))[(comN l i).length]? = some (nI (i + 1)) ∧ (comN l i).length < (com l).length := by
 obtain ⟨r, hr⟩ := com_pre l (i + 1) (l.length - 1 - (i + 1))
 rw [show i + 1 + (l.length - 1 - (i + 1)) = l.length - 1 from by omega, comN_y h, List.append_assoc] at hr
 have hc : com l = comN l i ++ ([i + 1] ++ r) := hr
 rw [hc]
 refine ⟨?_, by simp⟩
 rw [List.getElem?_map, List.getElem?_append_right (Nat.le_refl _), Nat.sub_self]; rfl

theorem Fault_long (m : Int) (l : List CelT) (hl : ∀ c ∈ l, c.Fit) (f j : Int) (h40 : 40 < l.length) : FnM Tryd.prog 7 tabN [.v (.int .i64 (m)), rowLg l.length (celsV l), .v (aggV [.int .i64 f, .int .i64 j])] (.v (.bool true)) := by
 refine FnM.of Tryd.func7 rfl (by kernel_rfl) Tryd.ntmps7 (by simp) (by decide) (fun w => [(0, .v (.int .i64 (m))), (1, old w.heap.size (rowLg l.length (celsV l))), (2, .v (aggV [.int .i64 f, .int .i64 j])), (1900000, tab 0 (sizV)), (1900001, tab 1 (H8.list.map u32V)), (1900002, tab 2 (K64.map u32V))]) (fun w => (StartM.v rfl (StartM.old rfl (StartM.v rfl (StartM.m (by simp [tabN]) (by decide) (StartM.m (by simp [tabN]) (by decide) (StartM.m (by simp [tabN]) (by decide) StartM.nil))))))) fun w₀ hM => ?_
 have htab := tabN_hi hM
 refine A.nameRC (t := 1) (k := 1000092) rfl fun A₀ q hmq => ?_
 refine GS ?_
 refine TN 0 ?_
 refine RN ?_
 refine ⟨_, _, eff_box (n := 185) (d := 5) (k := 1000005) rfl (by decide), fun b5 hb5 => ?_⟩
 have hBb5 := hb5.1
 refine TL ?_
 refine RA rfl ?_
 refine RN ?_
 refine A.seq ?_
 refine GS ?_
 refine TL ?_
 refine RM rfl ?_
 refine RS (ok_lenV Tryd.underlying51 rfl) ?_
 refine RBS rfl rfl rfl (.bool true) (by simp; omega) ?_
 refine RN ?_
 refine A.yes rfl ?_
 refine GS ?_
 refine TL ?_
 refine RS (ok_callM lives15_fn (Sub.cons rfl (Sub.cons rfl (Sub.cons rfl KN))) tabN_v Args.nil) ?_
 refine RA rfl ?_
 refine RN ?_
 refine A.ret ?_
 refine End.ret_then ?_
 exact End.ret1 rfl rfl (by first | exact Le.refl _ | exact Le.old _ _)
set_option maxHeartbeats 8000000 in
theorem Fault_short (m : Int) (l : List CelT) (hl : ∀ c ∈ l, c.Fit) (f j : Int) (h40 : l.length ≤ 40) : FnM Tryd.prog 7 tabN [.v (.int .i64 (m)), rowLg l.length (celsV l), .v (aggV [.int .i64 f, .int .i64 j])] (.v (.bool true)) := by
 have hfl := faultN_le l (l.length - 1)
 have hfl2 : fault l ≤ 40 := by unfold fault; omega
 refine FnM.of Tryd.func7 rfl (by kernel_rfl) Tryd.ntmps7 (by simp) (by decide) (fun w => [(0, .v (.int .i64 (m))), (1, old w.heap.size (rowLg l.length (celsV l))), (2, .v (aggV [.int .i64 f, .int .i64 j])), (1900000, tab 0 (sizV)), (1900001, tab 1 (H8.list.map u32V)), (1900002, tab 2 (K64.map u32V))]) (fun w => (StartM.v rfl (StartM.old rfl (StartM.v rfl (StartM.m (by simp [tabN]) (by decide) (StartM.m (by simp [tabN]) (by decide) (StartM.m (by simp [tabN]) (by decide) StartM.nil))))))) fun w₀ hM => ?_
 have htab := tabN_hi hM
 refine A.nameRC (t := 1) (k := 1000092) rfl fun A₀ q hmq => ?_
 refine GS ?_
 refine TN 0 ?_
 refine RN ?_
 refine ⟨_, _, eff_box (n := 185) (d := 5) (k := 1000005) rfl (by decide), fun b5 hb5 => ?_⟩
 have hBb5 := hb5.1
 refine TL ?_
 refine RA rfl ?_
 refine RN ?_
 refine A.seq ?_
 refine GS ?_
 refine TL ?_
 refine RM rfl ?_
 refine RS (ok_lenV Tryd.underlying51 rfl) ?_
 refine RBS rfl rfl rfl (.bool false) (by first | (simp; done) | (simp; omega)) ?_
 refine RN ?_
 refine A.no rfl ?_
 refine A.skip ?_
 refine EN ?_
 refine GS ?_
 refine TL ?_
 refine RM rfl ?_
 refine RS (OpOk.lgO (ok_move rfl) hmq (k := 1000092) (by decide) rfl) ?_
 refine RS (ok_callM (Sound_int m l hl (by omega)) (Sub.cons rfl (Sub.cons rfl (Sub.cons rfl KN))) tabN_v (Args.cons rfl (Le.refl _) (Args.cons rfl (Le.old _ _) Args.nil))) ?_
 refine RM rfl ?_
 refine RS (ok_extractV rfl rfl) ?_
 refine RS (ok_extractV rfl rfl) ?_
 refine RA rfl ?_
 refine RA rfl ?_
 refine RN ?_
 refine GS ?_
 refine TL ?_
 refine RS (OpOk.lgO (ok_move rfl) hmq (k := 1000092) (by decide) rfl) ?_
 refine RS (ok_call (rFault_fn l hl (by omega)) (Args.cons rfl (Le.old _ _) Args.nil)) ?_
 refine RA rfl ?_
 refine RN ?_
 refine GS ?_
 refine TL ?_
 refine RA rfl ?_
 refine RN ?_
 refine A.seqTo [(0, .v (.int .i64 (m))), (1, .v (.slice A₀ l.length q)), (5, .v (ptr b5)), (1000005, blk b5 61 [.int .i64 f, .int .i64 j]), (1000092, old w₀.heap.size (memR A₀ (celsV l))), (1900000, tab 0 (sizV)), (1900001, tab 1 (H8.list.map u32V)), (1900002, tab 2 (K64.map u32V)), (7, .v (nI (sndI m l).1)), (8, .v (.int .i64 (sndI m l).2)), (9, .v (nI (fault l))), (10, .v (.int .i64 (fltE l)))] ?_ ?_
 ·refine GS ?_
  refine TL ?_
  refine RM rfl ?_
  refine RBS rfl rfl rfl (.bool (decide (0 < fault l))) (congrArg Value.bool (by simp)) ?_
  refine RN ?_
  refine A.cond rfl (fun hc31 => ?_) (fun hc31 => ?_)
  ·have hf : 0 < fault l := of_decide_eq_true hc31
   refine GE ?_
   refine TL ?_
   refine RA rfl ?_
   refine RN ?_
   exact End.normal_then (End.toEnv (SubL.cons (t := 0) rfl (by first | exact Le.refl _ | exact Le.old _ _) (SubL.cons (t := 1) rfl (by first | exact Le.refl _ | exact Le.old _ _) (SubL.cons (t := 5) rfl (by first | exact Le.refl _ | exact Le.old _ _) (SubL.cons (t := 1000005) rfl (by first | exact Le.refl _ | exact Le.old _ _) (SubL.cons (t := 1000092) rfl (by first | exact Le.refl _ | exact Le.old _ _) (SubL.cons (t := 1900000) rfl (by first | exact Le.refl _ | exact Le.old _ _) (SubL.cons (t := 1900001) rfl (by first | exact Le.refl _ | exact Le.old _ _) (SubL.cons (t := 1900002) rfl (by first | exact Le.refl _ | exact Le.old _ _) (SubL.cons (t := 7) rfl (by first | exact Le.refl _ | exact Le.old _ _) (SubL.cons (t := 8) rfl (by first | exact Le.refl _ | exact Le.old _ _) (SubL.cons (t := 9) rfl (by first | exact Le.refl _ | exact Le.old _ _) (SubL.cons (t := 10) rfl (by first | exact Le.v (congrArg (Value.int .i64) (show (13 : Int) = fltE l from (if_neg (by omega)).symm)) | exact Le.v (congrArg (Value.int .i64) (show (0 : Int) = fltE l from (if_pos (by omega)).symm))) SubL.nil)))))))))))))
  ·have hf : ¬ 0 < fault l := of_decide_eq_false hc31
   refine A.skip ?_
   exact End.normal_then (End.toEnv (SubL.cons (t := 0) rfl (by first | exact Le.refl _ | exact Le.old _ _) (SubL.cons (t := 1) rfl (by first | exact Le.refl _ | exact Le.old _ _) (SubL.cons (t := 5) rfl (by first | exact Le.refl _ | exact Le.old _ _) (SubL.cons (t := 1000005) rfl (by first | exact Le.refl _ | exact Le.old _ _) (SubL.cons (t := 1000092) rfl (by first | exact Le.refl _ | exact Le.old _ _) (SubL.cons (t := 1900000) rfl (by first | exact Le.refl _ | exact Le.old _ _) (SubL.cons (t := 1900001) rfl (by first | exact Le.refl _ | exact Le.old _ _) (SubL.cons (t := 1900002) rfl (by first | exact Le.refl _ | exact Le.old _ _) (SubL.cons (t := 7) rfl (by first | exact Le.refl _ | exact Le.old _ _) (SubL.cons (t := 8) rfl (by first | exact Le.refl _ | exact Le.old _ _) (SubL.cons (t := 9) rfl (by first | exact Le.refl _ | exact Le.old _ _) (SubL.cons (t := 10) rfl (by first | exact Le.v (congrArg (Value.int .i64) (show (13 : Int) = fltE l from (if_neg (by omega)).symm)) | exact Le.v (congrArg (Value.int .i64) (show (0 : Int) = fltE l from (if_pos (by omega)).symm))) SubL.nil)))))))))))))
 ·refine A.seqTo [(1, .v (.slice A₀ l.length q)), (5, .v (ptr b5)), (1000005, blk b5 61 [.int .i64 f, .int .i64 j]), (1000092, old w₀.heap.size (memR A₀ (celsV l))), (1900000, tab 0 (sizV)), (1900001, tab 1 (H8.list.map u32V)), (1900002, tab 2 (K64.map u32V)), (7, .v (nI (sndI m l).1)), (8, .v (.int .i64 (sndI m l).2)), (9, .v (nI (sndI m l).1)), (10, .v (.int .i64 (sndI m l).2))] ?_ ?_
  ·refine A.seqTo [(0, .v (.int .i64 (m))), (1, .v (.slice A₀ l.length q)), (5, .v (ptr b5)), (1000005, blk b5 61 [.int .i64 f, .int .i64 j]), (1000092, old w₀.heap.size (memR A₀ (celsV l))), (1900000, tab 0 (sizV)), (1900001, tab 1 (H8.list.map u32V)), (1900002, tab 2 (K64.map u32V)), (7, .v (nI (sndI m l).1)), (8, .v (.int .i64 (sndI m l).2)), (9, .v (nI (fault l))), (10, .v (.int .i64 (fltE l))), (37, .v (.bool (!decide (1 ≤ m ∧ m ≤ 4096))))] ?_ ?_
   ·rcases (show m < 1 ∨ (¬ m < 1 ∧ 4096 < m) ∨ (1 ≤ m ∧ m ≤ 4096) by omega) with hx | ⟨hx, hy⟩ | hx
    ·refine GE ?_
     refine TL ?_
     refine RM rfl ?_
     refine RBS rfl rfl rfl (.bool true) (by first | (simp; done) | (simp; omega)) ?_
     refine RM rfl ?_
     refine RK ?_
     refine RK ?_
     refine RP rfl rfl ?_
     refine RN ?_
     exact End.normal_then (End.toEnv (SubL.cons (t := 0) rfl (by first | exact Le.refl _ | exact Le.old _ _) (SubL.cons (t := 1) rfl (by first | exact Le.refl _ | exact Le.old _ _) (SubL.cons (t := 5) rfl (by first | exact Le.refl _ | exact Le.old _ _) (SubL.cons (t := 1000005) rfl (by first | exact Le.refl _ | exact Le.old _ _) (SubL.cons (t := 1000092) rfl (by first | exact Le.refl _ | exact Le.old _ _) (SubL.cons (t := 1900000) rfl (by first | exact Le.refl _ | exact Le.old _ _) (SubL.cons (t := 1900001) rfl (by first | exact Le.refl _ | exact Le.old _ _) (SubL.cons (t := 1900002) rfl (by first | exact Le.refl _ | exact Le.old _ _) (SubL.cons (t := 7) rfl (by first | exact Le.refl _ | exact Le.old _ _) (SubL.cons (t := 8) rfl (by first | exact Le.refl _ | exact Le.old _ _) (SubL.cons (t := 9) rfl (by first | exact Le.refl _ | exact Le.old _ _) (SubL.cons (t := 10) rfl (by first | exact Le.refl _ | exact Le.old _ _) (SubL.cons (t := 37) rfl (Le.v (by rw [decide_eq_false (by omega)]; rfl)) SubL.nil))))))))))))))
    ·refine GE ?_
     refine TL ?_
     refine RM rfl ?_
     refine RBS rfl rfl rfl (.bool false) (by first | (simp; done) | (simp; omega)) ?_
     refine RM rfl ?_
     refine RQ (ok_move rfl) ?_
     refine RQ (ok_bin rfl rfl rfl) ?_; refine RZ (.bool true) (by first | (simp; done) | (simp; omega)) ?_
     refine RP rfl rfl ?_
     refine RN ?_
     exact End.normal_then (End.toEnv (SubL.cons (t := 0) rfl (by first | exact Le.refl _ | exact Le.old _ _) (SubL.cons (t := 1) rfl (by first | exact Le.refl _ | exact Le.old _ _) (SubL.cons (t := 5) rfl (by first | exact Le.refl _ | exact Le.old _ _) (SubL.cons (t := 1000005) rfl (by first | exact Le.refl _ | exact Le.old _ _) (SubL.cons (t := 1000092) rfl (by first | exact Le.refl _ | exact Le.old _ _) (SubL.cons (t := 1900000) rfl (by first | exact Le.refl _ | exact Le.old _ _) (SubL.cons (t := 1900001) rfl (by first | exact Le.refl _ | exact Le.old _ _) (SubL.cons (t := 1900002) rfl (by first | exact Le.refl _ | exact Le.old _ _) (SubL.cons (t := 7) rfl (by first | exact Le.refl _ | exact Le.old _ _) (SubL.cons (t := 8) rfl (by first | exact Le.refl _ | exact Le.old _ _) (SubL.cons (t := 9) rfl (by first | exact Le.refl _ | exact Le.old _ _) (SubL.cons (t := 10) rfl (by first | exact Le.refl _ | exact Le.old _ _) (SubL.cons (t := 37) rfl (Le.v (by rw [decide_eq_false (by omega)]; rfl)) SubL.nil))))))))))))))
    ·refine GE ?_
     refine TL ?_
     refine RM rfl ?_
     refine RBS rfl rfl rfl (.bool false) (by first | (simp; done) | (simp; omega)) ?_
     refine RM rfl ?_
     refine RQ (ok_move rfl) ?_
     refine RQ (ok_bin rfl rfl rfl) ?_; refine RZ (.bool false) (by first | (simp; done) | (simp; omega)) ?_
     refine RP rfl rfl ?_
     refine RN ?_
     exact End.normal_then (End.toEnv (SubL.cons (t := 0) rfl (by first | exact Le.refl _ | exact Le.old _ _) (SubL.cons (t := 1) rfl (by first | exact Le.refl _ | exact Le.old _ _) (SubL.cons (t := 5) rfl (by first | exact Le.refl _ | exact Le.old _ _) (SubL.cons (t := 1000005) rfl (by first | exact Le.refl _ | exact Le.old _ _) (SubL.cons (t := 1000092) rfl (by first | exact Le.refl _ | exact Le.old _ _) (SubL.cons (t := 1900000) rfl (by first | exact Le.refl _ | exact Le.old _ _) (SubL.cons (t := 1900001) rfl (by first | exact Le.refl _ | exact Le.old _ _) (SubL.cons (t := 1900002) rfl (by first | exact Le.refl _ | exact Le.old _ _) (SubL.cons (t := 7) rfl (by first | exact Le.refl _ | exact Le.old _ _) (SubL.cons (t := 8) rfl (by first | exact Le.refl _ | exact Le.old _ _) (SubL.cons (t := 9) rfl (by first | exact Le.refl _ | exact Le.old _ _) (SubL.cons (t := 10) rfl (by first | exact Le.refl _ | exact Le.old _ _) (SubL.cons (t := 37) rfl (Le.v (by rw [decide_eq_true hx]; rfl)) SubL.nil))))))))))))))
   ·refine A.cond rfl (fun hc37 => ?_) (fun hc37 => ?_)
    ·have hR : ¬ (1 ≤ m ∧ m ≤ 4096) := by simp at hc37; omega
     refine GS ?_
     refine TL ?_
     refine RA rfl ?_
     refine RN ?_
     refine GE ?_
     refine TL ?_
     refine RA rfl ?_
     refine RN ?_
     exact End.normal_then (End.toEnv (SubL.cons (t := 1) rfl (by first | exact Le.refl _ | exact Le.old _ _) (SubL.cons (t := 5) rfl (by first | exact Le.refl _ | exact Le.old _ _) (SubL.cons (t := 1000005) rfl (by first | exact Le.refl _ | exact Le.old _ _) (SubL.cons (t := 1000092) rfl (by first | exact Le.refl _ | exact Le.old _ _) (SubL.cons (t := 1900000) rfl (by first | exact Le.refl _ | exact Le.old _ _) (SubL.cons (t := 1900001) rfl (by first | exact Le.refl _ | exact Le.old _ _) (SubL.cons (t := 1900002) rfl (by first | exact Le.refl _ | exact Le.old _ _) (SubL.cons (t := 7) rfl (by first | exact Le.refl _ | exact Le.old _ _) (SubL.cons (t := 8) rfl (by first | exact Le.refl _ | exact Le.old _ _) (SubL.cons (t := 9) rfl (by first | exact Le.v (by rw [sndI_bad hR] <;> rfl) | exact Le.v (by rw [sndI_nil hR h0, flt_nil h0] <;> rfl) | exact Le.v (by rw [sndI_nil hR h0] <;> rfl) | exact Le.v (by rw [sndI_ne hR h0 hne] <;> rfl) | exact Le.v (by rw [sndI_go hR h0 heq] <;> rfl)) (SubL.cons (t := 10) rfl (by first | exact Le.v (by rw [sndI_bad hR] <;> rfl) | exact Le.v (by rw [sndI_nil hR h0, flt_nil h0] <;> rfl) | exact Le.v (by rw [sndI_nil hR h0] <;> rfl) | exact Le.v (by rw [sndI_ne hR h0 hne] <;> rfl) | exact Le.v (by rw [sndI_go hR h0 heq] <;> rfl)) SubL.nil))))))))))))
    ·have hR : 1 ≤ m ∧ m ≤ 4096 := by simp at hc37; omega
     obtain ⟨n, rfl⟩ : ∃ n : Nat, m = (n : Int) := ⟨m.toNat, by omega⟩
     have hn1 : 1 ≤ n := by omega
     have hn2 : n ≤ 4096 := by omega
     refine GS ?_
     refine TL ?_
     refine RM rfl ?_
     refine RS (ok_lenV Tryd.underlying51 rfl) ?_
     refine RBS rfl rfl rfl (.bool (decide (l.length = 0))) (congrArg Value.bool (natz _)) ?_
     refine RN ?_
     refine A.cond rfl (fun hc40 => ?_) (fun hc40 => ?_)
     ·have h0 : l.length = 0 := of_decide_eq_true hc40
      refine GE ?_
      refine TL ?_
      refine RA rfl ?_
      refine RN ?_
      exact End.normal_then (End.toEnv (SubL.cons (t := 1) rfl (by first | exact Le.refl _ | exact Le.old _ _) (SubL.cons (t := 5) rfl (by first | exact Le.refl _ | exact Le.old _ _) (SubL.cons (t := 1000005) rfl (by first | exact Le.refl _ | exact Le.old _ _) (SubL.cons (t := 1000092) rfl (by first | exact Le.refl _ | exact Le.old _ _) (SubL.cons (t := 1900000) rfl (by first | exact Le.refl _ | exact Le.old _ _) (SubL.cons (t := 1900001) rfl (by first | exact Le.refl _ | exact Le.old _ _) (SubL.cons (t := 1900002) rfl (by first | exact Le.refl _ | exact Le.old _ _) (SubL.cons (t := 7) rfl (by first | exact Le.refl _ | exact Le.old _ _) (SubL.cons (t := 8) rfl (by first | exact Le.refl _ | exact Le.old _ _) (SubL.cons (t := 9) rfl (by first | exact Le.v (by rw [sndI_bad hR] <;> rfl) | exact Le.v (by rw [sndI_nil hR h0, flt_nil h0] <;> rfl) | exact Le.v (by rw [sndI_nil hR h0] <;> rfl) | exact Le.v (by rw [sndI_ne hR h0 hne] <;> rfl) | exact Le.v (by rw [sndI_go hR h0 heq] <;> rfl)) (SubL.cons (t := 10) rfl (by first | exact Le.v (by rw [sndI_bad hR] <;> rfl) | exact Le.v (by rw [sndI_nil hR h0, flt_nil h0] <;> rfl) | exact Le.v (by rw [sndI_nil hR h0] <;> rfl) | exact Le.v (by rw [sndI_ne hR h0 hne] <;> rfl) | exact Le.v (by rw [sndI_go hR h0 heq] <;> rfl)) SubL.nil))))))))))))
     ·have h0 : ¬ l.length = 0 := of_decide_eq_false hc40
      refine GD ?_
      refine TL ?_
      refine RM rfl ?_
      refine RS (ok_indexR (s := 1000092) (0) Tryd.underlying51 infoC rfl rfl (by decide) rfl (by omega : 0 < l.length) (by rw [cels_len hl]; omega)) ?_
      refine RS (ok_loadElemT 34 Tryd.underlying30 rfl size30 (by rw [cels_at hl (by omega : 0 < l.length), (ceAt_fit hl _).len]; exact Nat.le_refl _) rfl) ?_; refine RZ (aggV (ceAt l (0)).v) (congrArg aggV (by rw [cels_at hl (by omega : 0 < l.length)]; exact List.take_of_length_le (Nat.le_of_eq (ceAt_fit hl _).len))) ?_
      refine RM rfl ?_
      refine RS (ok_call (rFresh_fn n hn1 hn2) (A1 rfl)) ?_
      refine RS (ok_neqT (n := 4) (decide (ceAt l 0 = frC n)) flat30 (by decide) (by kernel_rfl) (by kernel_rfl) rfl rfl (ceAt_fit hl 0).kin (frC_fit n).kin (CelT.deq (ceAt_fit hl 0) (frC_fit n) _)) ?_
      refine RN ?_
      refine A.cond rfl (fun hc46 => ?_) (fun hc46 => ?_)
      ·have hne : ¬ ceAt l 0 = frC n := by simpa using hc46
       refine GS ?_
       refine TL ?_
       refine RA rfl ?_
       refine RN ?_
       refine GE ?_
       refine TL ?_
       refine RA rfl ?_
       refine RN ?_
       exact End.normal_then (End.toEnv (SubL.cons (t := 1) rfl (by first | exact Le.refl _ | exact Le.old _ _) (SubL.cons (t := 5) rfl (by first | exact Le.refl _ | exact Le.old _ _) (SubL.cons (t := 1000005) rfl (by first | exact Le.refl _ | exact Le.old _ _) (SubL.cons (t := 1000092) rfl (by first | exact Le.refl _ | exact Le.old _ _) (SubL.cons (t := 1900000) rfl (by first | exact Le.refl _ | exact Le.old _ _) (SubL.cons (t := 1900001) rfl (by first | exact Le.refl _ | exact Le.old _ _) (SubL.cons (t := 1900002) rfl (by first | exact Le.refl _ | exact Le.old _ _) (SubL.cons (t := 7) rfl (by first | exact Le.refl _ | exact Le.old _ _) (SubL.cons (t := 8) rfl (by first | exact Le.refl _ | exact Le.old _ _) (SubL.cons (t := 9) rfl (by first | exact Le.v (by rw [sndI_bad hR] <;> rfl) | exact Le.v (by rw [sndI_nil hR h0, flt_nil h0] <;> rfl) | exact Le.v (by rw [sndI_nil hR h0] <;> rfl) | exact Le.v (by rw [sndI_ne hR h0 hne] <;> rfl) | exact Le.v (by rw [sndI_go hR h0 heq] <;> rfl)) (SubL.cons (t := 10) rfl (by first | exact Le.v (by rw [sndI_bad hR] <;> rfl) | exact Le.v (by rw [sndI_nil hR h0, flt_nil h0] <;> rfl) | exact Le.v (by rw [sndI_nil hR h0] <;> rfl) | exact Le.v (by rw [sndI_ne hR h0 hne] <;> rfl) | exact Le.v (by rw [sndI_go hR h0 heq] <;> rfl)) SubL.nil))))))))))))
      ·have heq : ceAt l 0 = frC n := by simpa using hc46
       refine A.skip ?_
       exact End.normal_then (End.toEnv (SubL.cons (t := 1) rfl (by first | exact Le.refl _ | exact Le.old _ _) (SubL.cons (t := 5) rfl (by first | exact Le.refl _ | exact Le.old _ _) (SubL.cons (t := 1000005) rfl (by first | exact Le.refl _ | exact Le.old _ _) (SubL.cons (t := 1000092) rfl (by first | exact Le.refl _ | exact Le.old _ _) (SubL.cons (t := 1900000) rfl (by first | exact Le.refl _ | exact Le.old _ _) (SubL.cons (t := 1900001) rfl (by first | exact Le.refl _ | exact Le.old _ _) (SubL.cons (t := 1900002) rfl (by first | exact Le.refl _ | exact Le.old _ _) (SubL.cons (t := 7) rfl (by first | exact Le.refl _ | exact Le.old _ _) (SubL.cons (t := 8) rfl (by first | exact Le.refl _ | exact Le.old _ _) (SubL.cons (t := 9) rfl (by first | exact Le.v (by rw [sndI_bad hR] <;> rfl) | exact Le.v (by rw [sndI_nil hR h0, flt_nil h0] <;> rfl) | exact Le.v (by rw [sndI_nil hR h0] <;> rfl) | exact Le.v (by rw [sndI_ne hR h0 hne] <;> rfl) | exact Le.v (by rw [sndI_go hR h0 heq] <;> rfl)) (SubL.cons (t := 10) rfl (by first | exact Le.v (by rw [sndI_bad hR] <;> rfl) | exact Le.v (by rw [sndI_nil hR h0, flt_nil h0] <;> rfl) | exact Le.v (by rw [sndI_nil hR h0] <;> rfl) | exact Le.v (by rw [sndI_ne hR h0 hne] <;> rfl) | exact Le.v (by rw [sndI_go hR h0 heq] <;> rfl)) SubL.nil))))))))))))
  ·refine A.seq ?_
   refine GS ?_
   refine TL ?_
   refine RM rfl ?_
   refine RM rfl ?_
   refine RBS rfl rfl rfl (.bool false) (by simp) ?_
   refine RM rfl ?_
   refine RQ (ok_move rfl) ?_
   refine RQ (ok_move rfl) ?_
   refine RQ (ok_bin rfl rfl rfl) ?_; refine RZ (.bool false) (by simp) ?_
   refine RP rfl rfl ?_
   refine RN ?_
   refine A.no rfl ?_
   refine A.skip ?_
   refine EN ?_
   refine GS ?_
   refine TL ?_
   refine RS (OpOk.lgO (ok_move rfl) hmq (k := 1000092) (by decide) rfl) ?_
   refine RS (ok_call (Commits_fn l hl (by omega)) (Args.cons rfl (Le.old _ _) Args.nil)) ?_
   refine RA rfl ?_
   refine RN ?_
   refine GS ?_
   refine TL ?_
   refine RA rfl ?_
   refine RN ?_
   refine A.seq ?_
   refine GS ?_
   refine TL ?_
   refine RA rfl ?_
   refine RN ?_
   refine A.block ?_
   refine A.loop (ι := Nat) (fun i => i ≤ l.length - 1) (fun i => [(1, .v (.slice A₀ l.length q)), (5, .v (ptr b5)), (1000005, blk b5 61 [.int .i64 f, .int .i64 j]), (1000092, old w₀.heap.size (memR A₀ (celsV l))), (1900000, tab 0 (sizV)), (1900001, tab 1 (H8.list.map u32V)), (1900002, tab 2 (K64.map u32V)), (11, vlist (intsV (com l)) (com l).length), (12, .v (nI ((comN l i).length))), (13, .v (nI (i + 1))), (1900000, tab 0 (sizV)), (1900001, tab 1 (H8.list.map u32V)), (1900002, tab 2 (K64.map u32V))]) (fun i => l.length - i) 0 ?_ ?_ ?_
   ·exact Nat.zero_le _
   ·exact (KC 1 rfl (KC 5 rfl (KC 1000005 rfl (KC 1000092 rfl (KC 1900000 rfl (KC 1900001 rfl (KC 1900002 rfl (KC 11 rfl (KE 12 rfl (by rfl) (KE 13 rfl (by rfl) (KC 1900000 rfl (KC 1900001 rfl (KC 1900002 rfl KN)))))))))))))
   intro i hi'
   refine A.seq ?_
   refine GS ?_
   refine TL ?_
   refine RM rfl ?_
   refine RM rfl ?_
   refine RS (ok_lenV Tryd.underlying51 rfl) ?_
   refine RB rfl rfl rfl ?_
   refine RN ?_
   refine A.cond rfl (fun hc60 => ?_) (fun hc60 => ?_)
   ·have hlt : i + 1 < l.length := by simp at hc60; omega
    refine A.skip ?_
    refine EN ?_
    refine A.seq ?_
    refine A.block ?_
    refine GD ?_
    refine TL ?_
    refine RM rfl ?_
    refine RM rfl ?_
    refine RBS rfl rfl rfl (nI (i)) (wrap_eq (by omega) (by omega)) ?_
    refine RS (ok_indexR (s := 1000092) (i) Tryd.underlying51 infoC rfl rfl (by decide) rfl (by omega : i < l.length) (by rw [cels_len hl]; omega)) ?_
    refine RS (ok_loadElemT 34 Tryd.underlying30 rfl size30 (by rw [cels_at hl (by omega : i < l.length), (ceAt_fit hl _).len]; exact Nat.le_refl _) rfl) ?_; refine RZ (aggV (ceAt l (i)).v) (congrArg aggV (by rw [cels_at hl (by omega : i < l.length)]; exact List.take_of_length_le (Nat.le_of_eq (ceAt_fit hl _).len))) ?_
    refine RM rfl ?_
    refine RM rfl ?_
    refine RS (ok_indexR (s := 1000092) (i + 1) Tryd.underlying51 infoC rfl rfl (by decide) rfl (by omega : i + 1 < l.length) (by rw [cels_len hl]; omega)) ?_
    refine RS (ok_loadElemT 34 Tryd.underlying30 rfl size30 (by rw [cels_at hl (by omega : i + 1 < l.length), (ceAt_fit hl _).len]; exact Nat.le_refl _) rfl) ?_; refine RZ (aggV (ceAt l (i + 1)).v) (congrArg aggV (by rw [cels_at hl (by omega : i + 1 < l.length)]; exact List.take_of_length_le (Nat.le_of_eq (ceAt_fit hl _).len))) ?_
    refine RS (ok_call (rFollows_fn (ceAt l i) (ceAt l (i + 1)) (ceAt_fit hl _) (ceAt_fit hl _)) (A2 rfl rfl)) ?_; refine RZ (nI (folAt l i)) (by rfl) ?_
    refine RB rfl rfl rfl ?_
    refine RN ?_
    refine A.cond rfl (fun hc73 => ?_) (fun hc73 => ?_)
    ·have hk : folAt l i = 1 := by simp at hc73; omega
     obtain ⟨hget, hgl⟩ := com_get hk (by omega)
     refine A.seq ?_
     refine GS ?_
     refine TL ?_
     refine RM rfl ?_
     refine RM rfl ?_
     refine RS (ok_lenU (com l).length Tryd.underlying56 rfl (le_vlst _ _) (by simp)) ?_
     refine RBS rfl rfl rfl (.bool false) (by first | (simp; done) | (simp; omega)) ?_
     refine RM rfl ?_
     refine RQ (ok_move rfl) ?_
     refine RQ (ok_move rfl) ?_
     refine RQ (ok_indexU (comN l i).length Tryd.underlying56 info3 rfl (le_vlst _ _) rfl hget) ?_
     refine RQ (ok_load Tryd.underlying3 rfl rfl) ?_
     refine RQ (ok_move rfl) ?_
     refine RQ (ok_bin rfl rfl rfl) ?_; refine RZ (.bool false) (by simp) ?_
     refine RP rfl rfl ?_
     refine RN ?_
     refine A.sub (KC 1 rfl (KC 5 rfl (KC 11 rfl (KC 12 rfl (KC 13 rfl (KC 85 rfl (KC 1000005 rfl (KC 1000092 rfl (KC 1900000 rfl (KC 1900001 rfl (KC 1900002 rfl KN))))))))))) ?_
     refine A.no rfl ?_
     refine A.skip ?_
     refine EN ?_
     refine GE ?_
     refine TL ?_
     refine RM rfl ?_
     refine RBS rfl rfl rfl (nI ((comN l i).length + 1)) (wrap_eq (by omega) (by have := comN_le l i; omega)) ?_
     refine RA rfl ?_
     refine RN ?_
     refine End.normal_block ?_
     refine EN ?_
     refine GE ?_
     refine TL ?_
     refine RM rfl ?_
     refine RBS rfl rfl rfl (nI (i + 1 + 1)) (wrap_eq (by omega) (by omega)) ?_
     refine RA rfl ?_
     refine RN ?_
     refine End.normal_then ?_
     refine End.again (i + 1) ?_ ?_ ?_
     ·show _ ≤ _; omega
     ·show l.length - (i + 1) < l.length - i; omega
     ·exact (KC 1 rfl (KC 5 rfl (KC 1000005 rfl (KC 1000092 rfl (KC 1900000 rfl (KC 1900001 rfl (KC 1900002 rfl (KC 11 rfl (KE 12 rfl (by first | (rw [comN_y hk, List.length_append]; rfl) | rw [comN_n hk]) (KC 13 rfl (KC 1900000 rfl (KC 1900001 rfl (KC 1900002 rfl KN)))))))))))))
    ·have hk : folAt l i ≠ 1 := by simp at hc73; omega
     refine A.skip ?_
     refine End.normal_block ?_
     refine EN ?_
     refine GE ?_
     refine TL ?_
     refine RM rfl ?_
     refine RBS rfl rfl rfl (nI (i + 1 + 1)) (wrap_eq (by omega) (by omega)) ?_
     refine RA rfl ?_
     refine RN ?_
     refine End.normal_then ?_
     refine End.again (i + 1) ?_ ?_ ?_
     ·show _ ≤ _; omega
     ·show l.length - (i + 1) < l.length - i; omega
     ·exact (KC 1 rfl (KC 5 rfl (KC 1000005 rfl (KC 1000092 rfl (KC 1900000 rfl (KC 1900001 rfl (KC 1900002 rfl (KC 11 rfl (KE 12 rfl (by first | (rw [comN_y hk, List.length_append]; rfl) | rw [comN_n hk]) (KC 13 rfl (KC 1900000 rfl (KC 1900001 rfl (KC 1900002 rfl KN)))))))))))))
   ·have hend : i = l.length - 1 := by simp at hc60; omega
    refine A.exit ?_
    refine End.exit_then ?_
    refine End.exit_then ?_
    refine End.exit_here ?_
    refine EN ?_
    refine A.seq ?_
    refine GS ?_
    refine TL ?_
    refine RM rfl ?_
    refine RM rfl ?_
    refine RS (ok_lenU (com l).length Tryd.underlying56 rfl (le_vlst _ _) (by simp)) ?_
    refine RBS rfl rfl rfl (.bool false) (by rw [hend]; simp [com]) ?_
    refine RN ?_
    refine A.no rfl ?_
    refine A.skip ?_
    refine EN ?_
    refine GD ?_
    refine TL ?_
    refine RS (ok_index0 (0) Tryd.underlying61 info3 rfl rfl (rfl) (by decide)) ?_
    refine RS (ok_loadV (s := 1000005) (by decide) Tryd.underlying3 rfl rfl rfl (rfl)) ?_
    refine RS (ok_index0 (1) Tryd.underlying61 info3 rfl rfl (rfl) (by decide)) ?_
    refine RS (ok_loadV (s := 1000005) (by decide) Tryd.underlying3 rfl rfl rfl (rfl)) ?_
    refine RA rfl ?_
    refine RA rfl ?_
    refine RN ?_
    rcases bet_spl l f j with h1 | ⟨h1, h2⟩ | ⟨h1, h2, h3⟩ | ⟨a, b, rfl, rfl, h1, h2, h3⟩ | ⟨a, b, rfl, rfl, h1, h2, h3⟩
    ·refine GS ?_
     refine TL ?_
     refine RS (OpOk.lgO (ok_move rfl) hmq (k := 1000092) (by decide) rfl) ?_
     refine RM rfl ?_
     refine RM rfl ?_
     refine RS (ok_call (Bet_int l hl (by omega) _ _) (Args.cons rfl (Le.old _ _) (A2 rfl rfl))) ?_; refine RZ (.tuple #[.int .u64 0, .int .u64 0, .int .i64 1]) (betI_bad (by omega)) ?_
     refine RM rfl ?_
     refine RS (ok_extractV rfl rfl) ?_
     refine RS (ok_extractV rfl rfl) ?_
     refine RS (ok_extractV rfl rfl) ?_
     refine RA rfl ?_
     refine RA rfl ?_
     refine RA rfl ?_
     refine RN ?_
     refine A.sub (KC 1 rfl (KC 8 rfl (KC 14 rfl (KC 15 rfl (KC 16 rfl (KC 17 rfl (KC 1000005 rfl (KC 1000092 rfl (KC 1900000 rfl (KC 1900001 rfl (KC 1900002 rfl KN))))))))))) ?_
     refine A.seq ?_
     refine GS ?_
     refine TL ?_
     refine RM rfl ?_
     refine RBS rfl rfl rfl (.bool true) (by first | (simp; done) | (simp; omega)) ?_
     refine RM rfl ?_
     refine RK ?_
     refine RK ?_
     refine RK ?_
     refine RP rfl rfl ?_
     refine RM rfl ?_
     refine RK ?_
     refine RK ?_
     refine RK ?_
     refine RK ?_
     refine RP rfl rfl ?_
     refine RN ?_
     refine A.yes rfl ?_
     refine GS ?_
     refine TL ?_
     refine RM rfl ?_
     refine RBS rfl rfl rfl (.bool true) (by rfl) ?_
     refine RM rfl ?_
     refine RQ (ok_move rfl) ?_
     refine RQ (ok_bin rfl rfl rfl) ?_; refine RZ (.bool true) (by rfl) ?_
     refine RP rfl rfl ?_
     refine RM rfl ?_
     refine RQ (ok_move rfl) ?_
     refine RQ (ok_bin rfl rfl rfl) ?_; refine RZ (.bool true) (by rfl) ?_
     refine RP rfl rfl ?_
     refine RM rfl ?_
     refine RQ (ok_callM lives15_fn (Sub.cons rfl (Sub.cons rfl (Sub.cons rfl KN))) tabN_v Args.nil) ?_
     refine RP rfl rfl ?_
     refine RA rfl ?_
     refine RN ?_
     refine A.sub (KC 6 rfl (KC 1000005 rfl (KC 1000092 rfl (KC 1900000 rfl (KC 1900001 rfl (KC 1900002 rfl KN)))))) ?_
     refine A.ret ?_
     refine End.ret_then ?_
     exact End.ret1 rfl rfl (by first | exact Le.refl _ | exact Le.old _ _)
    ·refine GS ?_
     refine TL ?_
     refine RS (OpOk.lgO (ok_move rfl) hmq (k := 1000092) (by decide) rfl) ?_
     refine RM rfl ?_
     refine RM rfl ?_
     refine RS (ok_call (Bet_int l hl (by omega) _ _) (Args.cons rfl (Le.old _ _) (A2 rfl rfl))) ?_; refine RZ (.tuple #[.int .u64 0, .int .u64 0, .int .i64 1]) (betI_bad (by omega)) ?_
     refine RM rfl ?_
     refine RS (ok_extractV rfl rfl) ?_
     refine RS (ok_extractV rfl rfl) ?_
     refine RS (ok_extractV rfl rfl) ?_
     refine RA rfl ?_
     refine RA rfl ?_
     refine RA rfl ?_
     refine RN ?_
     refine A.sub (KC 1 rfl (KC 8 rfl (KC 14 rfl (KC 15 rfl (KC 16 rfl (KC 17 rfl (KC 1000005 rfl (KC 1000092 rfl (KC 1900000 rfl (KC 1900001 rfl (KC 1900002 rfl KN))))))))))) ?_
     refine A.seq ?_
     refine GS ?_
     refine TL ?_
     refine RM rfl ?_
     refine RBS rfl rfl rfl (.bool false) (by first | (simp; done) | (simp; omega)) ?_
     refine RM rfl ?_
     refine RQ (ok_move rfl) ?_
     refine RQ (ok_move rfl) ?_
     refine RQ (ok_bin rfl rfl rfl) ?_; refine RZ (.bool true) (by first | (simp; done) | (simp; omega)) ?_
     refine RP rfl rfl ?_
     refine RM rfl ?_
     refine RK ?_
     refine RK ?_
     refine RK ?_
     refine RK ?_
     refine RP rfl rfl ?_
     refine RN ?_
     refine A.yes rfl ?_
     refine GS ?_
     refine TL ?_
     refine RM rfl ?_
     refine RBS rfl rfl rfl (.bool true) (by rfl) ?_
     refine RM rfl ?_
     refine RQ (ok_move rfl) ?_
     refine RQ (ok_bin rfl rfl rfl) ?_; refine RZ (.bool true) (by rfl) ?_
     refine RP rfl rfl ?_
     refine RM rfl ?_
     refine RQ (ok_move rfl) ?_
     refine RQ (ok_bin rfl rfl rfl) ?_; refine RZ (.bool true) (by rfl) ?_
     refine RP rfl rfl ?_
     refine RM rfl ?_
     refine RQ (ok_callM lives15_fn (Sub.cons rfl (Sub.cons rfl (Sub.cons rfl KN))) tabN_v Args.nil) ?_
     refine RP rfl rfl ?_
     refine RA rfl ?_
     refine RN ?_
     refine A.sub (KC 6 rfl (KC 1000005 rfl (KC 1000092 rfl (KC 1900000 rfl (KC 1900001 rfl (KC 1900002 rfl KN)))))) ?_
     refine A.ret ?_
     refine End.ret_then ?_
     exact End.ret1 rfl rfl (by first | exact Le.refl _ | exact Le.old _ _)
    ·refine GS ?_
     refine TL ?_
     refine RS (OpOk.lgO (ok_move rfl) hmq (k := 1000092) (by decide) rfl) ?_
     refine RM rfl ?_
     refine RM rfl ?_
     refine RS (ok_call (Bet_int l hl (by omega) _ _) (Args.cons rfl (Le.old _ _) (A2 rfl rfl))) ?_; refine RZ (.tuple #[.int .u64 0, .int .u64 0, .int .i64 1]) (betI_bad (by omega)) ?_
     refine RM rfl ?_
     refine RS (ok_extractV rfl rfl) ?_
     refine RS (ok_extractV rfl rfl) ?_
     refine RS (ok_extractV rfl rfl) ?_
     refine RA rfl ?_
     refine RA rfl ?_
     refine RA rfl ?_
     refine RN ?_
     refine A.sub (KC 1 rfl (KC 8 rfl (KC 14 rfl (KC 15 rfl (KC 16 rfl (KC 17 rfl (KC 1000005 rfl (KC 1000092 rfl (KC 1900000 rfl (KC 1900001 rfl (KC 1900002 rfl KN))))))))))) ?_
     refine A.seq ?_
     refine GS ?_
     refine TL ?_
     refine RM rfl ?_
     refine RBS rfl rfl rfl (.bool false) (by first | (simp; done) | (simp; omega)) ?_
     refine RM rfl ?_
     refine RQ (ok_move rfl) ?_
     refine RQ (ok_move rfl) ?_
     refine RQ (ok_bin rfl rfl rfl) ?_; refine RZ (.bool false) (by first | (simp; done) | (simp; omega)) ?_
     refine RP rfl rfl ?_
     refine RM rfl ?_
     refine RQ (ok_move rfl) ?_
     refine RQ (ok_move rfl) ?_
     refine RQ (ok_lenV Tryd.underlying51 rfl) ?_
     refine RQ (ok_bin rfl rfl rfl) ?_; refine RZ (.bool true) (by first | (simp; done) | (simp; omega)) ?_
     refine RP rfl rfl ?_
     refine RN ?_
     refine A.yes rfl ?_
     refine GS ?_
     refine TL ?_
     refine RM rfl ?_
     refine RBS rfl rfl rfl (.bool true) (by rfl) ?_
     refine RM rfl ?_
     refine RQ (ok_move rfl) ?_
     refine RQ (ok_bin rfl rfl rfl) ?_; refine RZ (.bool true) (by rfl) ?_
     refine RP rfl rfl ?_
     refine RM rfl ?_
     refine RQ (ok_move rfl) ?_
     refine RQ (ok_bin rfl rfl rfl) ?_; refine RZ (.bool true) (by rfl) ?_
     refine RP rfl rfl ?_
     refine RM rfl ?_
     refine RQ (ok_callM lives15_fn (Sub.cons rfl (Sub.cons rfl (Sub.cons rfl KN))) tabN_v Args.nil) ?_
     refine RP rfl rfl ?_
     refine RA rfl ?_
     refine RN ?_
     refine A.sub (KC 6 rfl (KC 1000005 rfl (KC 1000092 rfl (KC 1900000 rfl (KC 1900001 rfl (KC 1900002 rfl KN)))))) ?_
     refine A.ret ?_
     refine End.ret_then ?_
     exact End.ret1 rfl rfl (by first | exact Le.refl _ | exact Le.old _ _)
    ·refine GS ?_
     refine TL ?_
     refine RS (OpOk.lgO (ok_move rfl) hmq (k := 1000092) (by decide) rfl) ?_
     refine RM rfl ?_
     refine RM rfl ?_
     refine RS (ok_call (Bet_int l hl (by omega) _ _) (Args.cons rfl (Le.old _ _) (A2 rfl rfl))) ?_; refine RZ (.tuple #[.int .u64 0, .int .u64 0, .int .i64 13]) (betI_flt h1 h2 h3) ?_
     refine RM rfl ?_
     refine RS (ok_extractV rfl rfl) ?_
     refine RS (ok_extractV rfl rfl) ?_
     refine RS (ok_extractV rfl rfl) ?_
     refine RA rfl ?_
     refine RA rfl ?_
     refine RA rfl ?_
     refine RN ?_
     refine A.sub (KC 1 rfl (KC 8 rfl (KC 14 rfl (KC 15 rfl (KC 16 rfl (KC 17 rfl (KC 1000005 rfl (KC 1000092 rfl (KC 1900000 rfl (KC 1900001 rfl (KC 1900002 rfl KN))))))))))) ?_
     refine A.seq ?_
     refine GS ?_
     refine TL ?_
     refine RM rfl ?_
     refine RBS rfl rfl rfl (.bool false) (by first | (simp; done) | (simp; omega)) ?_
     refine RM rfl ?_
     refine RQ (ok_move rfl) ?_
     refine RQ (ok_move rfl) ?_
     refine RQ (ok_bin rfl rfl rfl) ?_; refine RZ (.bool false) (by first | (simp; done) | (simp; omega)) ?_
     refine RP rfl rfl ?_
     refine RM rfl ?_
     refine RQ (ok_move rfl) ?_
     refine RQ (ok_move rfl) ?_
     refine RQ (ok_lenV Tryd.underlying51 rfl) ?_
     refine RQ (ok_bin rfl rfl rfl) ?_; refine RZ (.bool false) (by first | (simp; done) | (simp; omega)) ?_
     refine RP rfl rfl ?_
     refine RN ?_
     refine A.no rfl ?_
     refine A.skip ?_
     refine EN ?_
     refine A.seq ?_
     refine GS ?_
     refine TL ?_
     refine RM rfl ?_
     refine RM rfl ?_
     refine RM rfl ?_
     refine RBS rfl rfl rfl (nI (b + 1)) (wrap_eq (by omega) (by omega)) ?_
     refine RS (ok_sliceRC (s := 1000092) a (b + 1) Tryd.underlying51 infoC rfl (by decide) rfl rfl rfl (by omega) (by omega) (by rw [cels_len hl]; omega)) ?_
     refine RS (ok_call (rFault_fn (betC l a b) (cut_fit hl a (b + 1)) (by rw [betC, cut_len (by omega)]; omega)) (Args.cons rfl ((Le.old _ _).trans (sl_le hl h1 h2)) Args.nil)) ?_
     refine RBS rfl rfl rfl (.bool true) (by first | (simp; done) | (simp; omega)) ?_
     refine RN ?_
     refine A.yes rfl ?_
     refine GS ?_
     refine TL ?_
     refine RM rfl ?_
     refine RBS rfl rfl rfl (.bool true) (by rfl) ?_
     refine RM rfl ?_
     refine RQ (ok_move rfl) ?_
     refine RQ (ok_bin rfl rfl rfl) ?_; refine RZ (.bool true) (by rfl) ?_
     refine RP rfl rfl ?_
     refine RM rfl ?_
     refine RQ (ok_move rfl) ?_
     refine RQ (ok_bin rfl rfl rfl) ?_; refine RZ (.bool true) (by rfl) ?_
     refine RP rfl rfl ?_
     refine RM rfl ?_
     refine RQ (ok_callM lives15_fn (Sub.cons rfl (Sub.cons rfl (Sub.cons rfl KN))) tabN_v Args.nil) ?_
     refine RP rfl rfl ?_
     refine RA rfl ?_
     refine RN ?_
     refine A.sub (KC 6 rfl (KC 1000005 rfl (KC 1000092 rfl (KC 1900000 rfl (KC 1900001 rfl (KC 1900002 rfl KN)))))) ?_
     refine A.ret ?_
     refine End.ret_then ?_
     exact End.ret1 rfl rfl (by first | exact Le.refl _ | exact Le.old _ _)
    ·refine GS ?_
     refine TL ?_
     refine RS (OpOk.lgO (ok_move rfl) hmq (k := 1000092) (by decide) rfl) ?_
     refine RM rfl ?_
     refine RM rfl ?_
     refine RS (ok_call (Bet_int l hl (by omega) _ _) (Args.cons rfl (Le.old _ _) (A2 rfl rfl))) ?_; refine RZ (.tuple #[subQ (ceAt l b).e (ceAt l a).e, subQ (ceAt l b).m (ceAt l a).m, .int .i64 0]) (betI_ok h1 h2 h3) ?_
     refine RM rfl ?_
     refine RS (ok_extractV rfl rfl) ?_
     refine RS (ok_extractV rfl rfl) ?_
     refine RS (ok_extractV rfl rfl) ?_
     refine RA rfl ?_
     refine RA rfl ?_
     refine RA rfl ?_
     refine RN ?_
     refine A.sub (KC 1 rfl (KC 8 rfl (KC 14 rfl (KC 15 rfl (KC 16 rfl (KC 17 rfl (KC 1000005 rfl (KC 1000092 rfl (KC 1900000 rfl (KC 1900001 rfl (KC 1900002 rfl KN))))))))))) ?_
     refine A.seq ?_
     refine GS ?_
     refine TL ?_
     refine RM rfl ?_
     refine RBS rfl rfl rfl (.bool false) (by first | (simp; done) | (simp; omega)) ?_
     refine RM rfl ?_
     refine RQ (ok_move rfl) ?_
     refine RQ (ok_move rfl) ?_
     refine RQ (ok_bin rfl rfl rfl) ?_; refine RZ (.bool false) (by first | (simp; done) | (simp; omega)) ?_
     refine RP rfl rfl ?_
     refine RM rfl ?_
     refine RQ (ok_move rfl) ?_
     refine RQ (ok_move rfl) ?_
     refine RQ (ok_lenV Tryd.underlying51 rfl) ?_
     refine RQ (ok_bin rfl rfl rfl) ?_; refine RZ (.bool false) (by first | (simp; done) | (simp; omega)) ?_
     refine RP rfl rfl ?_
     refine RN ?_
     refine A.no rfl ?_
     refine A.skip ?_
     refine EN ?_
     refine A.seq ?_
     refine GS ?_
     refine TL ?_
     refine RM rfl ?_
     refine RM rfl ?_
     refine RM rfl ?_
     refine RBS rfl rfl rfl (nI (b + 1)) (wrap_eq (by omega) (by omega)) ?_
     refine RS (ok_sliceRC (s := 1000092) a (b + 1) Tryd.underlying51 infoC rfl (by decide) rfl rfl rfl (by omega) (by omega) (by rw [cels_len hl]; omega)) ?_
     refine RS (ok_call (rFault_fn (betC l a b) (cut_fit hl a (b + 1)) (by rw [betC, cut_len (by omega)]; omega)) (Args.cons rfl ((Le.old _ _).trans (sl_le hl h1 h2)) Args.nil)) ?_
     refine RBS rfl rfl rfl (.bool false) (by rw [h3] <;> rfl) ?_
     refine RN ?_
     refine A.no rfl ?_
     refine A.skip ?_
     refine EN ?_
     refine GD ?_
     refine TL ?_
     refine RM rfl ?_
     refine RBS rfl rfl rfl (.bool true) (by rfl) ?_
     refine RM rfl ?_
     refine RQ (ok_move rfl) ?_
     refine RQ (ok_move rfl) ?_
     refine RQ (ok_move rfl) ?_
     refine RQ (ok_indexR (s := 1000092) (b) Tryd.underlying51 infoC rfl rfl (by decide) rfl (by omega : b < l.length) (by rw [cels_len hl]; omega)) ?_
     refine RQ (ok_fieldP field30_1 (by decide) rfl) ?_
     refine RQ (ok_loadP1 (u := nQ ((ceAt l b).e)) (us := [nQ ((ceAt l b).m)]) Tryd.underlying28 rfl (by show some (elemP _) = _; rw [cels_e hl (by omega : b < l.length)])) ?_
     refine RQ (ok_move rfl) ?_
     refine RQ (ok_move rfl) ?_
     refine RQ (ok_indexR (s := 1000092) (a) Tryd.underlying51 infoC rfl rfl (by decide) rfl (by omega : a < l.length) (by rw [cels_len hl]; omega)) ?_
     refine RQ (ok_fieldP field30_1 (by decide) rfl) ?_
     refine RQ (ok_loadP1 (u := nQ ((ceAt l a).e)) (us := [nQ ((ceAt l a).m)]) Tryd.underlying28 rfl (by show some (elemP _) = _; rw [cels_e hl (by omega : a < l.length)])) ?_
     refine RQ (ok_bin rfl rfl rfl) ?_; refine RZ (subQ (ceAt l b).e (ceAt l a).e) (by rfl) ?_
     refine RQ (ok_bin rfl rfl rfl) ?_; refine RZ (.bool true) (by simp [subQ]) ?_
     refine RP rfl rfl ?_
     refine RM rfl ?_
     refine RQ (ok_move rfl) ?_
     refine RQ (ok_move rfl) ?_
     refine RQ (ok_move rfl) ?_
     refine RQ (ok_indexR (s := 1000092) (b) Tryd.underlying51 infoC rfl rfl (by decide) rfl (by omega : b < l.length) (by rw [cels_len hl]; omega)) ?_
     refine RQ (ok_fieldP field30_2 (by decide) rfl) ?_
     refine RQ (ok_loadP1 (u := nQ ((ceAt l b).m)) (us := []) Tryd.underlying28 rfl (by show some (elemP _) = _; rw [cels_m hl (by omega : b < l.length)])) ?_
     refine RQ (ok_move rfl) ?_
     refine RQ (ok_move rfl) ?_
     refine RQ (ok_indexR (s := 1000092) (a) Tryd.underlying51 infoC rfl rfl (by decide) rfl (by omega : a < l.length) (by rw [cels_len hl]; omega)) ?_
     refine RQ (ok_fieldP field30_2 (by decide) rfl) ?_
     refine RQ (ok_loadP1 (u := nQ ((ceAt l a).m)) (us := []) Tryd.underlying28 rfl (by show some (elemP _) = _; rw [cels_m hl (by omega : a < l.length)])) ?_
     refine RQ (ok_bin rfl rfl rfl) ?_; refine RZ (subQ (ceAt l b).m (ceAt l a).m) (by rfl) ?_
     refine RQ (ok_bin rfl rfl rfl) ?_; refine RZ (.bool true) (by simp [subQ]) ?_
     refine RP rfl rfl ?_
     refine RM rfl ?_
     refine RQ (ok_callM lives15_fn (Sub.cons rfl (Sub.cons rfl (Sub.cons rfl KN))) tabN_v Args.nil) ?_
     refine RP rfl rfl ?_
     refine RA rfl ?_
     refine RN ?_
     refine A.sub (KC 6 rfl (KC 1000005 rfl (KC 1000092 rfl (KC 1900000 rfl (KC 1900001 rfl (KC 1900002 rfl KN)))))) ?_
     refine A.ret ?_
     exact End.ret1 rfl rfl (by first | exact Le.refl _ | exact Le.old _ _)
theorem CellsFault_fn (m : Int) (l : List CelT) (hl : ∀ c ∈ l, c.Fit) (f j : Int) : FnM Tryd.prog 7 tabN [.v (.int .i64 (m)), rowLg l.length (celsV l), .v (aggV [.int .i64 f, .int .i64 j])] (.v (.bool true)) := by
 by_cases h : 40 < l.length
 ·exact Fault_long m l hl f j h
 ·exact Fault_short m l hl f j (by omega)
end Go.Proofs.YtfjpipkcfbmdeaaDoor
namespace Go.Proofs.YtfjpipkcfbmdeaaDoor
open Go Go.RowKit
set_option linter.unusedVariables false
set_option maxRecDepth 20000
set_option linter.unusedSimpArgs false
theorem buildM (m : Nat) : Tryd.prog.built 30 [(2, nQ m)] = some (CelT.v ⟨zD, 0, m⟩).toArray := by kernel_rfl
theorem zero50 : ZeroIs Tryd.prog 50 (List.replicate 2 (.int .u8 0)) := by unfold ZeroIs; kernel_rfl
def K6 : List Nat := [1, 5, 17, 65, 257, 1025]
def kA (i : Nat) : Nat := K6.getD i 0
theorem kA_in : ∀ i, i < 6 → 1 ≤ kA i ∧ kA i ≤ 4096 := by decide
theorem kA_get {i : Nat} (h : i < 6) : (intsV K6)[i]? = some (nI (kA i)) := by
 have h' : i < K6.length := h
 rw [List.getElem?_map, kA, List.getD_eq_getElem?_getD, List.getElem?_eq_getElem h']; rfl
theorem fr41 : frC 4 = frC 1 := by unfold frC hgB; rw [show hg 4 = hg 1 from by decide]
theorem tl0 : Le (.v (aggV [.int .u16 ((0 : Nat) : Int), .slice none 0 0])) (tlD [.int .u16 ((0 : Nat) : Int)] (rowD ([] : List S2).length (s2R []))) := fun B w x h => ⟨.slice none 0 0, rfl, h, rowD_nil B w _ rfl⟩

set_option maxHeartbeats 4000000 in
theorem CellsKnown_fn  : FnM Tryd.prog 8 tabN [] (.v (.bool true)) := by
 refine FnM.of Tryd.func8 rfl (by kernel_rfl) Tryd.ntmps8 (by simp) (by decide) (fun w => [(1900000, tab 0 (sizV)), (1900001, tab 1 (H8.list.map u32V)), (1900002, tab 2 (K64.map u32V))]) (fun w => (StartM.m (by simp [tabN]) (by decide) (StartM.m (by simp [tabN]) (by decide) (StartM.m (by simp [tabN]) (by decide) StartM.nil)))) fun w₀ hM => ?_
 have htab := tabN_hi hM
 refine GS ?_
 refine TL ?_
 refine RA rfl ?_
 refine RN ?_
 refine GS ?_
 refine TN 5 ?_
 refine RS (ok_litS [(2, nQ 18446744073709551610)] (CelT.v ⟨zD, 0, 18446744073709551610⟩) ⟨rfl, rfl, trivial⟩ (buildM _)) ?_
 refine RS (ok_call (Res_ok ⟨zD, 0, 18446744073709551610⟩ (zfit 0 18446744073709551610 rfl rfl) 5 18446744073709551615 (by decide) (by decide) (by decide) (by decide) (by decide)) (A3 rfl rfl rfl)) ?_
 refine RM rfl ?_
 refine RS (ok_extractV rfl rfl) ?_
 refine RS (ok_extractV rfl rfl) ?_
 refine RN ?_
 refine ⟨_, _, eff_alloc (n := 137) (d := 1) (k := 1000001) zero30 (by decide), fun b1 hb1 => ?_⟩
 have hBb1 := hb1.1
 refine TF 6 ?_
 refine RN ?_
 refine ⟨_, eff_storeA (n := 137) (s := 1000001) (size30.of ((zfit 0 (18446744073709551610 + 5) rfl rfl).len)) rfl rfl (CelT.one _) hBb1 rfl (by rw [(zfit 0 (18446744073709551610 + 5) rfl rfl).len]; rfl) (LV 1 rfl (LV 24 rfl (LeftS.cons (t := 1900000) rfl (Surv.tab (by omega)) (LeftS.cons (t := 1900001) rfl (Surv.tab (by omega)) (LeftS.cons (t := 1900002) rfl (Surv.tab (by omega)) LN))))), ?_⟩
 refine TL ?_
 refine RA rfl ?_
 refine RN ?_
 refine GS ?_
 refine TN 5 ?_
 refine RS (ok_litS [(2, nQ 18446744073709551610)] (CelT.v ⟨zD, 0, 18446744073709551610⟩) ⟨rfl, rfl, trivial⟩ (buildM _)) ?_
 refine RS (ok_call (Res_far ⟨zD, 0, 18446744073709551610⟩ (zfit 0 18446744073709551610 rfl rfl) 6 18446744073709551615 (by decide) (by decide) (by decide) (by decide) (by decide)) (A3 rfl rfl rfl)) ?_
 refine RM rfl ?_
 refine RS (ok_extractV rfl rfl) ?_
 refine RS (ok_extractV rfl rfl) ?_
 refine RN ?_
 refine ⟨_, _, eff_alloc (n := 137) (d := 3) (k := 1000003) zero30 (by decide), fun b3 hb3 => ?_⟩
 have hBb3 := hb3.1
 have hlt_b1_b3 : b1 < b3 := hb3.2 1000001 _ _ _ rfl
 refine TF 6 ?_
 refine RN ?_
 refine ⟨_, eff_storeA (n := 137) (s := 1000003) (size30.of (CelT.zero_fit.len)) rfl rfl (CelT.one _) hBb3 rfl (by rw [CelT.zero_fit.len]; rfl) (LV 1 rfl (LV 2 rfl (LV 29 rfl (LB 1000001 rfl (LeftS.cons (t := 1900000) rfl (Surv.tab (by omega)) (LeftS.cons (t := 1900001) rfl (Surv.tab (by omega)) (LeftS.cons (t := 1900002) rfl (Surv.tab (by omega)) LN))))))), ?_⟩
 refine TL ?_
 refine RA rfl ?_
 refine RN ?_
 refine GS ?_
 refine TN 5 ?_
 refine RS (ok_litS [(2, nQ 9)] (CelT.v ⟨zD, 0, 9⟩) ⟨rfl, rfl, trivial⟩ (buildM _)) ?_
 refine RS (ok_call (Res_above ⟨zD, 0, 9⟩ (zfit 0 9 rfl rfl) 1 8 (by decide) (by decide) (by decide) (by decide)) (A3 rfl rfl rfl)) ?_
 refine RM rfl ?_
 refine RS (ok_extractV rfl rfl) ?_
 refine RS (ok_extractV rfl rfl) ?_
 refine RN ?_
 refine ⟨_, _, eff_alloc (n := 137) (d := 5) (k := 1000005) zero30 (by decide), fun b5 hb5 => ?_⟩
 have hBb5 := hb5.1
 have hlt_b1_b5 : b1 < b5 := hb5.2 1000001 _ _ _ rfl
 have hlt_b3_b5 : b3 < b5 := hb5.2 1000003 _ _ _ rfl
 refine TF 6 ?_
 refine RN ?_
 refine ⟨_, eff_storeA (n := 137) (s := 1000005) (size30.of (CelT.zero_fit.len)) rfl rfl (CelT.one _) hBb5 rfl (by rw [CelT.zero_fit.len]; rfl) (LV 1 rfl (LV 2 rfl (LV 4 rfl (LV 34 rfl (LB 1000001 rfl (LB 1000003 rfl (LeftS.cons (t := 1900000) rfl (Surv.tab (by omega)) (LeftS.cons (t := 1900001) rfl (Surv.tab (by omega)) (LeftS.cons (t := 1900002) rfl (Surv.tab (by omega)) LN))))))))), ?_⟩
 refine TL ?_
 refine RA rfl ?_
 refine RN ?_
 refine A.sub (KC 1 rfl (KC 2 rfl (KC 4 rfl (KC 6 rfl (KC 1000001 rfl (KC 1000003 rfl (KC 1000005 rfl (KC 1900000 rfl (KC 1900001 rfl (KC 1900002 rfl KN)))))))))) ?_
 refine GS ?_
 refine TN 6 ?_
 refine RS (ok_litS [(1, nQ 18446744073709551614)] (CelT.v ⟨zD, 18446744073709551614, 0⟩) ⟨rfl, rfl, trivial⟩ (buildE _)) ?_
 refine RS (ok_call (r15_fn) Args.nil) ?_
 refine RS (ok_call (Next_ok ⟨zD, 18446744073709551614, 0⟩ (zfit 18446744073709551614 0 rfl rfl) (digS 1) (digS_len _) (by decide)) (A2 rfl rfl)) ?_
 refine RM rfl ?_
 refine RS (ok_extractV rfl rfl) ?_
 refine RS (ok_extractV rfl rfl) ?_
 refine RN ?_
 refine ⟨_, _, eff_alloc (n := 137) (d := 7) (k := 1000007) zero30 (by decide), fun b7 hb7 => ?_⟩
 have hBb7 := hb7.1
 have hlt_b1_b7 : b1 < b7 := hb7.2 1000001 _ _ _ rfl
 have hlt_b3_b7 : b3 < b7 := hb7.2 1000003 _ _ _ rfl
 have hlt_b5_b7 : b5 < b7 := hb7.2 1000005 _ _ _ rfl
 refine TF 7 ?_
 refine RN ?_
 refine ⟨_, eff_storeA (n := 137) (s := 1000007) (size30.of ((cfit 1 (18446744073709551614 + 1) 0 rfl rfl).len)) rfl rfl (CelT.one _) hBb7 rfl (by rw [(cfit 1 (18446744073709551614 + 1) 0 rfl rfl).len]; rfl) (LV 1 rfl (LV 2 rfl (LV 4 rfl (LV 6 rfl (LV 7 rfl (LV 40 rfl (LB 1000001 rfl (LB 1000003 rfl (LB 1000005 rfl (LeftS.cons (t := 1900000) rfl (Surv.tab (by omega)) (LeftS.cons (t := 1900001) rfl (Surv.tab (by omega)) (LeftS.cons (t := 1900002) rfl (Surv.tab (by omega)) LN)))))))))))), ?_⟩
 refine TL ?_
 refine RA rfl ?_
 refine RN ?_
 refine A.seq ?_
 refine GD ?_
 refine TL ?_
 refine RS (ok_field field30_2 (by decide) rfl) ?_
 refine RS (ok_loadV (s := 1000001) (by decide) Tryd.underlying28 rfl rfl rfl (CelT.Fit.vm (c := ⟨zD, 0, 18446744073709551610 + 5⟩) (zfit 0 (18446744073709551610 + 5) rfl rfl))) ?_
 refine RBS rfl rfl rfl (.bool false) (by rfl) ?_
 refine RM rfl ?_
 refine RQ (ok_move rfl) ?_
 refine RQ (ok_move rfl) ?_
 refine RQ (ok_bin rfl rfl rfl) ?_
 refine RQ (ok_bin rfl rfl rfl) ?_; refine RZ (.bool false) (by rfl) ?_
 refine RP rfl rfl ?_
 refine RM rfl ?_
 refine RQ (ok_move rfl) ?_
 refine RQ (ok_bin rfl rfl rfl) ?_; refine RZ (.bool false) (by rfl) ?_
 refine RP rfl rfl ?_
 refine RM rfl ?_
 refine RQ (ok_move rfl) ?_
 refine RQ (ok_bin rfl rfl rfl) ?_; refine RZ (.bool false) (by rfl) ?_
 refine RP rfl rfl ?_
 refine RM rfl ?_
 refine RQ (ok_field field30_1 (by decide) rfl) ?_
 refine RQ (ok_loadV (s := 1000007) (by decide) Tryd.underlying28 rfl rfl rfl (CelT.Fit.ve (c := ⟨digS 1, 18446744073709551614 + 1, 0⟩) (cfit 1 (18446744073709551614 + 1) 0 rfl rfl))) ?_
 refine RQ (ok_bin rfl rfl rfl) ?_; refine RZ (.bool false) (by rfl) ?_
 refine RP rfl rfl ?_
 refine RM rfl ?_
 refine RQ (ok_loadA (s := 1000007) (by decide) Tryd.underlying30 rfl (size30.of (CelT.Fit.len (c := ⟨digS 1, 18446744073709551614 + 1, 0⟩) (cfit 1 (18446744073709551614 + 1) 0 rfl rfl))) rfl rfl) ?_
 refine RQ (ok_call (r15_fn) Args.nil) ?_
 refine RQ (ok_litS [(0, aggV ((digS 1).map byteV))] (CelT.v ⟨digS 1, 0, 0⟩) ⟨rfl, rfl, trivial⟩ (buildC0 _ (digS_len _))) ?_
 refine RQ (ok_call (Follows_fn ⟨digS 1, 18446744073709551614 + 1, 0⟩ ⟨digS 1, 0, 0⟩ (cfit 1 (18446744073709551614 + 1) 0 rfl rfl) (cfit 1 0 0 rfl rfl)) (A2 rfl rfl)) ?_; refine RZ (.int .u8 0) (congrArg (fun n : Nat => Value.int .u8 (n : Int)) (show CelT.fol ⟨digS 1, 18446744073709551614 + 1, 0⟩ ⟨digS 1, 0, 0⟩ = 0 from CelT.fol_no (fun h => absurd (show 18446744073709551614 + 1 + 1 = 0 from h.1) (by decide)) fun h => absurd (show 18446744073709551614 + 1 = 0 from h.1) (by decide))) ?_
 refine RQ (ok_bin rfl rfl rfl) ?_; refine RZ (.bool false) (by rfl) ?_
 refine RP rfl rfl ?_
 refine RN ?_
 refine A.sub (KC 69 rfl (KC 1000001 rfl (KC 1000003 rfl (KC 1000005 rfl (KC 1000007 rfl (KC 1900000 rfl (KC 1900001 rfl (KC 1900002 rfl KN)))))))) ?_
 refine A.no rfl ?_
 refine A.skip ?_
 refine EN ?_
 refine GS ?_
 refine TL ?_
 refine RS (ok_buildOwn (intsV K6) Tryd.underlying56 info3 rfl (by decide) (by decide) rfl ⟨rfl, rfl, rfl, rfl, rfl, rfl, rfl, rfl, rfl, rfl, rfl, rfl, trivial⟩ (fun d hd => by obtain ⟨k, _, rfl⟩ := List.mem_map.1 hd; rfl)) ?_
 refine RA rfl ?_
 refine RN ?_
 refine A.seq ?_
 refine GS ?_
 refine TL ?_
 refine RA rfl ?_
 refine RN ?_
 refine A.block ?_
 refine A.loop (ι := Nat) (fun i => i ≤ 6) (fun i => [(9, own w₀.heap.size 3 6 (intsV K6)), (10, .v (nI (i))), (1900000, tab 0 (sizV)), (1900001, tab 1 (H8.list.map u32V)), (1900002, tab 2 (K64.map u32V))]) (fun i => 6 - i) 0 ?_ ?_ ?_
 ·exact Nat.zero_le _
 ·exact (KC 9 rfl (KE 10 rfl (by rfl) (KC 1900000 rfl (KC 1900001 rfl (KC 1900002 rfl KN)))))
 intro i hi'
 refine A.seq ?_
 refine GS ?_
 refine TL ?_
 refine RM rfl ?_
 refine RB rfl rfl rfl ?_
 refine RN ?_
 refine A.cond rfl (fun hc72 => ?_) (fun hc72 => ?_)
 ·have hi : i < 6 := by simp at hc72; omega
  have hki := kA_in i hi
  refine A.skip ?_
  refine EN ?_
  refine A.seq ?_
  refine A.block ?_
  refine GS ?_
  refine TL ?_
  refine RA rfl ?_
  refine RN ?_
  refine A.block ?_
  refine A.loop (ι := Nat) (fun s => s ≤ i) (fun s => [(9, own w₀.heap.size 3 6 (intsV K6)), (10, .v (nI (i))), (11, .v (nI (s))), (1900000, tab 0 (sizV)), (1900001, tab 1 (H8.list.map u32V)), (1900002, tab 2 (K64.map u32V))]) (fun s => i - s) 0 ?_ ?_ ?_
  ·exact Nat.zero_le _
  ·exact (KC 9 rfl (KC 10 rfl (KE 11 rfl (by rfl) (KC 1900000 rfl (KC 1900001 rfl (KC 1900002 rfl KN))))))
  intro s hs'
  refine A.seq ?_
  refine GS ?_
  refine TL ?_
  refine RM rfl ?_
  refine RM rfl ?_
  refine RB rfl rfl rfl ?_
  refine RN ?_
  refine A.cond rfl (fun hc77 => ?_) (fun hc77 => ?_)
  ·have hsl : s < i := by simp at hc77; omega
   have hsi : s < 6 := by omega
   have hks := kA_in s hsi
   refine A.skip ?_
   refine EN ?_
   refine A.seq ?_
   refine A.block ?_
   refine GS ?_
   refine TN 8 ?_
   refine RM rfl ?_
   refine RM rfl ?_
   refine RS (ok_indexU i Tryd.underlying56 info3 rfl (own_vlst rfl) rfl (kA_get hi)) ?_
   refine RS (ok_load Tryd.underlying3 rfl rfl) ?_
   refine RS (ok_callM (Fresh_ok (kA i) hki.1 hki.2) (Sub.cons rfl (Sub.cons rfl (Sub.cons rfl KN))) tabN_v (A1 rfl)) ?_
   refine RM rfl ?_
   refine RS (ok_extractV rfl rfl) ?_
   refine RS (ok_extractV rfl rfl) ?_
   refine RN ?_
   refine ⟨_, _, eff_alloc (n := 137) (d := 12) (k := 1000012) zero30 (by decide), fun b12 hb12 => ?_⟩
   have hBb12 := hb12.1
   refine TF 9 ?_
   refine RN ?_
   refine ⟨_, eff_storeA (n := 137) (s := 1000012) (size30.of ((frC_fit (kA i)).len)) rfl rfl (CelT.one _) hBb12 rfl (by rw [(frC_fit (kA i)).len]; rfl) (LeftS.cons (t := 9) rfl (Surv.own (by decide)) (LV 10 rfl (LV 11 rfl (LV 12 rfl (LV 87 rfl (LeftS.cons (t := 1900000) rfl (Surv.tab (by omega)) (LeftS.cons (t := 1900001) rfl (Surv.tab (by omega)) (LeftS.cons (t := 1900002) rfl (Surv.tab (by omega)) LN)))))))), ?_⟩
   refine TL ?_
   refine RA rfl ?_
   refine RN ?_
   refine GS ?_
   refine TN 8 ?_
   refine RM rfl ?_
   refine RM rfl ?_
   refine RS (ok_indexU s Tryd.underlying56 info3 rfl (own_vlst rfl) rfl (kA_get hsi)) ?_
   refine RS (ok_load Tryd.underlying3 rfl rfl) ?_
   refine RS (ok_callM (Fresh_ok (kA s) hks.1 hks.2) (Sub.cons rfl (Sub.cons rfl (Sub.cons rfl KN))) tabN_v (A1 rfl)) ?_
   refine RM rfl ?_
   refine RS (ok_extractV rfl rfl) ?_
   refine RS (ok_extractV rfl rfl) ?_
   refine RN ?_
   refine ⟨_, _, eff_alloc (n := 137) (d := 14) (k := 1000014) zero30 (by decide), fun b14 hb14 => ?_⟩
   have hBb14 := hb14.1
   have hlt_b12_b14 : b12 < b14 := hb14.2 1000012 _ _ _ rfl
   refine TF 9 ?_
   refine RN ?_
   refine ⟨_, eff_storeA (n := 137) (s := 1000014) (size30.of ((frC_fit (kA s)).len)) rfl rfl (CelT.one _) hBb14 rfl (by rw [(frC_fit (kA s)).len]; rfl) (LeftS.cons (t := 9) rfl (Surv.own (by decide)) (LV 10 rfl (LV 11 rfl (LV 12 rfl (LV 13 rfl (LV 14 rfl (LV 95 rfl (LB 1000012 rfl (LeftS.cons (t := 1900000) rfl (Surv.tab (by omega)) (LeftS.cons (t := 1900001) rfl (Surv.tab (by omega)) (LeftS.cons (t := 1900002) rfl (Surv.tab (by omega)) LN))))))))))), ?_⟩
   refine TL ?_
   refine RA rfl ?_
   refine RN ?_
   refine A.sub (KC 9 rfl (KC 10 rfl (KC 11 rfl (KC 12 rfl (KC 13 rfl (KC 14 rfl (KC 15 rfl (KC 1000012 rfl (KC 1000014 rfl (KC 1900000 rfl (KC 1900001 rfl (KC 1900002 rfl KN)))))))))))) ?_
   refine GD ?_
   refine TL ?_
   refine RM rfl ?_
   refine RM rfl ?_
   refine RB rfl rfl rfl ?_
   refine RBS rfl rfl rfl (.bool false) (by rfl) ?_
   refine RM rfl ?_
   refine RQ (ok_loadA (s := 1000012) (by decide) Tryd.underlying30 rfl (size30.of ((frC_fit (kA i)).len)) rfl rfl) ?_
   refine RQ (ok_move rfl) ?_
   refine RQ (ok_move rfl) ?_
   refine RQ (ok_indexU i Tryd.underlying56 info3 rfl (own_vlst rfl) rfl (kA_get hi)) ?_
   refine RQ (ok_load Tryd.underlying3 rfl rfl) ?_
   refine RQ (ok_call (rFresh_fn (kA i) hki.1 hki.2) (A1 rfl)) ?_
   refine RQ (ok_neqT (n := 4) true flat30 (by decide) (by kernel_rfl) (by kernel_rfl) rfl rfl (frC_fit (kA i)).kin (frC_fit (kA i)).kin (iff_of_true rfl rfl)) ?_; refine RZ (.bool false) (by rfl) ?_
   refine RP rfl rfl ?_
   refine RM rfl ?_
   refine RQ (ok_loadA (s := 1000014) (by decide) Tryd.underlying30 rfl (size30.of ((frC_fit (kA s)).len)) rfl rfl) ?_
   refine RQ (ok_move rfl) ?_
   refine RQ (ok_move rfl) ?_
   refine RQ (ok_indexU s Tryd.underlying56 info3 rfl (own_vlst rfl) rfl (kA_get hsi)) ?_
   refine RQ (ok_load Tryd.underlying3 rfl rfl) ?_
   refine RQ (ok_call (rFresh_fn (kA s) hks.1 hks.2) (A1 rfl)) ?_
   refine RQ (ok_neqT (n := 4) true flat30 (by decide) (by kernel_rfl) (by kernel_rfl) rfl rfl (frC_fit (kA s)).kin (frC_fit (kA s)).kin (iff_of_true rfl rfl)) ?_; refine RZ (.bool false) (by rfl) ?_
   refine RP rfl rfl ?_
   refine RN ?_
   refine A.no rfl ?_
   refine A.skip ?_
   refine End.normal_block ?_
   refine EN ?_
   refine GE ?_
   refine TL ?_
   refine RM rfl ?_
   refine RBS rfl rfl rfl (nI (s + 1)) (wrap_eq (by omega) (by omega)) ?_
   refine RA rfl ?_
   refine RN ?_
   refine End.sub (KC 9 rfl (KC 10 rfl (KC 11 rfl (KC 1000012 rfl (KC 1000014 rfl (KC 1900000 rfl (KC 1900001 rfl (KC 1900002 rfl KN)))))))) ?_
   refine End.normal_then ?_
   refine End.again (s + 1) ?_ ?_ ?_
   ·show _ ≤ _; omega
   ·show _ - _ < _ - _; omega
   ·exact (KC 9 rfl (KC 10 rfl (KC 11 rfl (KC 1900000 rfl (KC 1900001 rfl (KC 1900002 rfl KN))))))
  ·skip
   refine A.exit ?_
   refine End.exit_then ?_
   refine End.exit_then ?_
   refine End.exit_here ?_
   refine End.normal_block ?_
   refine EN ?_
   refine GE ?_
   refine TL ?_
   refine RM rfl ?_
   refine RBS rfl rfl rfl (nI (i + 1)) (wrap_eq (by omega) (by omega)) ?_
   refine RA rfl ?_
   refine RN ?_
   refine End.normal_then ?_
   refine End.again (i + 1) ?_ ?_ ?_
   ·show _ ≤ _; omega
   ·show _ - _ < _ - _; omega
   ·exact (KC 9 rfl (KC 10 rfl (KC 1900000 rfl (KC 1900001 rfl (KC 1900002 rfl KN)))))
 ·skip
  refine A.exit ?_
  refine End.exit_then ?_
  refine End.exit_then ?_
  refine End.exit_here ?_
  refine EN ?_
  refine GS ?_
  refine TN 4 ?_
  refine RS (ok_callM (Fresh_ok 4 (by decide) (by decide)) (Sub.cons rfl (Sub.cons rfl (Sub.cons rfl KN))) tabN_v (A1 rfl)) ?_
  refine RM rfl ?_
  refine RS (ok_extractV rfl rfl) ?_
  refine RS (ok_extractV rfl rfl) ?_
  refine RN ?_
  refine ⟨_, _, eff_alloc (n := 137) (d := 16) (k := 1000016) zero30 (by decide), fun b16 hb16 => ?_⟩
  have hBb16 := hb16.1
  refine TF 5 ?_
  refine RN ?_
  refine ⟨_, eff_storeA (n := 137) (s := 1000016) (size30.of ((frC_fit 4).len)) rfl rfl (CelT.one _) hBb16 rfl (by rw [(frC_fit 4).len]; rfl) (LV 16 rfl (LV 121 rfl (LeftS.cons (t := 1900000) rfl (Surv.tab (by omega)) (LeftS.cons (t := 1900001) rfl (Surv.tab (by omega)) (LeftS.cons (t := 1900002) rfl (Surv.tab (by omega)) LN))))), ?_⟩
  refine TL ?_
  refine RA rfl ?_
  refine RN ?_
  refine GS ?_
  refine TN 4 ?_
  refine RS (ok_callM (Fresh_ok 1 (by decide) (by decide)) (Sub.cons rfl (Sub.cons rfl (Sub.cons rfl KN))) tabN_v (A1 rfl)) ?_
  refine RM rfl ?_
  refine RS (ok_extractV rfl rfl) ?_
  refine RS (ok_extractV rfl rfl) ?_
  refine RN ?_
  refine ⟨_, _, eff_alloc (n := 137) (d := 18) (k := 1000018) zero30 (by decide), fun b18 hb18 => ?_⟩
  have hBb18 := hb18.1
  have hlt_b16_b18 : b16 < b18 := hb18.2 1000016 _ _ _ rfl
  refine TF 5 ?_
  refine RN ?_
  refine ⟨_, eff_storeA (n := 137) (s := 1000018) (size30.of ((frC_fit 1).len)) rfl rfl (CelT.one _) hBb18 rfl (by rw [(frC_fit 1).len]; rfl) (LV 16 rfl (LV 18 rfl (LV 125 rfl (LB 1000016 rfl (LeftS.cons (t := 1900000) rfl (Surv.tab (by omega)) (LeftS.cons (t := 1900001) rfl (Surv.tab (by omega)) (LeftS.cons (t := 1900002) rfl (Surv.tab (by omega)) LN))))))), ?_⟩
  refine TL ?_
  refine RA rfl ?_
  refine RN ?_
  refine GS ?_
  refine TL ?_
  refine RS (ok_loadA (s := 1000016) (by decide) Tryd.underlying30 rfl (size30.of ((frC_fit 4).len)) rfl rfl) ?_
  refine RS (ok_loadA (s := 1000018) (by decide) Tryd.underlying30 rfl (size30.of ((frC_fit 1).len)) rfl rfl) ?_
  refine RS (ok_eqlT (n := 4) true flat30 (by decide) (by kernel_rfl) (by kernel_rfl) rfl rfl (frC_fit 4).kin (frC_fit 1).kin (iff_of_true rfl (congrArg CelT.v fr41))) ?_; refine RZ (.bool true) (by rfl) ?_
  refine RM rfl ?_
  refine RQ (ok_lit [] ([.int .u16 0] ++ [.slice none 0 0]) (fun _ _ => rfl) (by kernel_rfl)) ?_
  refine RQ (ok_litP [] Tryd.underlying50 info5 zero50 (by decide) trivial rfl) ?_; refine RZ (aggV [byteV 0, byteV 0]) (by rfl) ?_
  refine RQ (ok_callM (CellsSound_fn 0 (by decide) [] 0 0) (Sub.cons rfl (Sub.cons rfl (Sub.cons rfl KN))) tabN_v (Args.cons rfl tl0 (A1 rfl))) ?_
  refine RP rfl rfl ?_
  refine RM rfl ?_
  refine RQ (ok_callM lives15_fn (Sub.cons rfl (Sub.cons rfl (Sub.cons rfl KN))) tabN_v Args.nil) ?_
  refine RP rfl rfl ?_
  refine RA rfl ?_
  refine RN ?_
  refine A.sub (KC 0 rfl (KC 1000016 rfl (KC 1000018 rfl (KC 1900000 rfl (KC 1900001 rfl (KC 1900002 rfl KN)))))) ?_
  refine A.ret ?_
  exact End.ret1 rfl rfl (by first | exact Le.refl _ | exact Le.old _ _)
end Go.Proofs.YtfjpipkcfbmdeaaDoor
