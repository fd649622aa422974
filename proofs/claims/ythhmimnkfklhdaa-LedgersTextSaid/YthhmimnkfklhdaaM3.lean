/-
  OWN TEXTS of this seat, put together, part 3: C11a, C11b, Parts, MapG, MapE, Bld, C11t, LedL, Text.
-/
import Derived.Test.YthhmimnkfklhdaaM1
import Derived.Test.YthhmimnkfklhdaaM2
import Derived.Maps.RangeRun
import Derived.Maps.AppendAt
import Derived.Lib.Hide
namespace Go.Proofs.Ythhmimnkfklhdaa
open Go Go.RowKit
set_option linter.unusedVariables false
set_option maxRecDepth 20000

theorem zero29 : ZeroIs Try.prog 29 ([.int .u32 0] ++ [.int .u64 0] ++ [.int .u32 0] ++ [.int .u32 0]) := by unfold ZeroIs; kernel_rfl
theorem size29 : SizeIs Try.prog 29 4 := by unfold SizeIs; kernel_rfl
theorem field29_0 : FieldIs Try.prog 29 0 0 2 := by unfold FieldIs; kernel_rfl
theorem field29_1 : FieldIs Try.prog 29 1 2 1 := by unfold FieldIs; kernel_rfl
theorem field29_2 : FieldIs Try.prog 29 2 3 1 := by unfold FieldIs; kernel_rfl
theorem zero31 : ZeroIs Try.prog 31 (List.replicate 16 (.int .u8 0) ++ [.int .u32 0] ++ [.int .u64 0] ++ [.int .u32 0] ++ [.int .u32 0]) := by unfold ZeroIs; kernel_rfl
theorem size31 : SizeIs Try.prog 31 20 := by unfold SizeIs; kernel_rfl
theorem field31_0 : FieldIs Try.prog 31 0 0 16 := by unfold FieldIs; kernel_rfl
theorem field31_1 : FieldIs Try.prog 31 1 16 4 := by unfold FieldIs; kernel_rfl
theorem zero35 : ZeroIs Try.prog 35 ([.slice none 0 0]) := by unfold ZeroIs; kernel_rfl
theorem size35 : SizeIs Try.prog 35 1 := by unfold SizeIs; kernel_rfl
theorem field35_0 : FieldIs Try.prog 35 0 0 1 := by unfold FieldIs; kernel_rfl
theorem zero107 : ZeroIs Try.prog 107 (List.replicate 16 (.int .u8 0) ++ [.int .u32 0] ++ [.int .u64 0]) := by unfold ZeroIs; kernel_rfl
theorem size107 : SizeIs Try.prog 107 18 := by unfold SizeIs; kernel_rfl
theorem info77 : InfoIs Try.prog 77 (.slice none 0 0) 24 := by unfold InfoIs; kernel_rfl
theorem info73 : InfoIs Try.prog 73 (.slice none 0 0) 24 := by unfold InfoIs; kernel_rfl

theorem zero23 : ZeroIs Try.prog 23 (List.replicate 16 (.int .u8 0)) := by unfold ZeroIs; kernel_rfl
theorem size23 : SizeIs Try.prog 23 16 := by unfold SizeIs; kernel_rfl
theorem flatK : flat Try.prog 17 23 = some (List.replicate 16 .u8) := by kernel_rfl
theorem infoU : InfoP Try.prog 31 (aggV (List.replicate 16 (.int .u8 0) ++ rV 0 0 0 0)) 20 40 := by unfold InfoP; kernel_rfl
theorem us_key {u : Us} (h : u.Fit) : ((usV u).drop 0).take 16 = u.key.map byteV := usV_key h
theorem us_rng {u : Us} (h : u.Fit) : ((usV u).drop 16).take 4 = rV u.s u.c u.f u.l := by rw [usV_range h]; rfl
theorem us_non {u : Us} (h : u.Fit) : ((usV u).drop 16).take 2 = [.int .u32 (u.s : Int), .int .u64 (u.c : Int)] := by rw [usV_range h]; rfl
theorem us_fit {u : Us} (h : u.Fit) {k : Nat} (hk : k ≤ 20 := by decide) : k ≤ (usV u).length := by rw [usV_length h]; exact hk

set_option maxHeartbeats 1000000 in
theorem ref7Over_A (s c f l s' c' f' l' : Nat) (he : ¬ (s = s' ∧ c = c')) : Fn Try.prog 40 [.v (aggV ([nW s, nQ c])), .v (aggV ([nW s', nQ c'])), .v (aggV ([nW f, nW l])), .v (aggV ([nW f', nW l']))] (.v (.bool false)) := by
 refine Fn.of Try.func40 rfl (by kernel_rfl) Try.ntmps40 (by simp) (fun w => [(0, .v (aggV ([nW s, nQ c]))), (1, .v (aggV ([nW s', nQ c']))), (2, .v (aggV ([nW f, nW l]))), (3, .v (aggV ([nW f', nW l'])))]) (fun w => (Start.v rfl (Start.v rfl (Start.v rfl (Start.v rfl Start.nil))))) fun w₀ => ?_
 refine GS ?_
 refine TN 0 ?_
 refine RN ?_
 refine ⟨_, _, eff_box (n := 52) (d := 4) (k := 1000004) rfl (by decide), fun b4 hb4 => ?_⟩
 have hBb4 := hb4.1
 refine TN 1 ?_
 refine RN ?_
 refine ⟨_, _, eff_box (n := 52) (d := 5) (k := 1000005) rfl (by decide), fun b5 hb5 => ?_⟩
 have hBb5 := hb5.1
 have hlt_b4_b5 : b4 < b5 := hb5.2 1000004 _ _ _ rfl
 refine TN 2 ?_
 refine RN ?_
 refine ⟨_, _, eff_box (n := 52) (d := 6) (k := 1000006) rfl (by decide), fun b6 hb6 => ?_⟩
 have hBb6 := hb6.1
 refine TN 3 ?_
 refine RN ?_
 refine ⟨_, _, eff_box (n := 52) (d := 7) (k := 1000007) rfl (by decide), fun b7 hb7 => ?_⟩
 have hBb7 := hb7.1
 have hlt_b6_b7 : b6 < b7 := hb7.2 1000006 _ _ _ rfl
 refine TL ?_
 refine RA rfl ?_
 refine RN ?_
 refine A.seq ?_
 refine GS ?_
 refine TL ?_
 refine RS (ok_loadA (s := 1000004) (by decide) Try.underlying27 rfl (size27.of (rfl)) rfl rfl) ?_
 refine RS (ok_loadA (s := 1000005) (by decide) Try.underlying27 rfl (size27.of (rfl)) rfl rfl) ?_
 refine RS (ok_neqT (n := 3) (decide (s = s' ∧ c = c')) flatN (by decide) (by kernel_rfl) (by kernel_rfl) rfl rfl (kinN _ _) (kinN _ _) eqN) ?_; refine RZ (.bool true) (by simp [he]) ?_
 refine RM rfl ?_
 refine RK ?_
 refine RK ?_
 refine RK ?_
 refine RK ?_
 refine RK ?_
 refine RP rfl rfl ?_
 refine RM rfl ?_
 refine RK ?_
 refine RK ?_
 refine RK ?_
 refine RK ?_
 refine RK ?_
 refine RP rfl rfl ?_
 refine RN ?_
 refine A.yes rfl ?_
 refine GS ?_
 refine TL ?_
 refine RA rfl ?_
 refine RN ?_
 refine A.ret ?_
 refine End.ret_then ?_
 exact End.ret1 rfl rfl (by first | exact Le.refl _ | exact Le.old _ _)
set_option maxHeartbeats 1000000 in
theorem ref7Over_B (s c f l s' c' f' l' : Nat) (he : s = s' ∧ c = c') (h1 : l < f) : Fn Try.prog 40 [.v (aggV ([nW s, nQ c])), .v (aggV ([nW s', nQ c'])), .v (aggV ([nW f, nW l])), .v (aggV ([nW f', nW l']))] (.v (.bool false)) := by
 refine Fn.of Try.func40 rfl (by kernel_rfl) Try.ntmps40 (by simp) (fun w => [(0, .v (aggV ([nW s, nQ c]))), (1, .v (aggV ([nW s', nQ c']))), (2, .v (aggV ([nW f, nW l]))), (3, .v (aggV ([nW f', nW l'])))]) (fun w => (Start.v rfl (Start.v rfl (Start.v rfl (Start.v rfl Start.nil))))) fun w₀ => ?_
 refine GS ?_
 refine TN 0 ?_
 refine RN ?_
 refine ⟨_, _, eff_box (n := 52) (d := 4) (k := 1000004) rfl (by decide), fun b4 hb4 => ?_⟩
 have hBb4 := hb4.1
 refine TN 1 ?_
 refine RN ?_
 refine ⟨_, _, eff_box (n := 52) (d := 5) (k := 1000005) rfl (by decide), fun b5 hb5 => ?_⟩
 have hBb5 := hb5.1
 have hlt_b4_b5 : b4 < b5 := hb5.2 1000004 _ _ _ rfl
 refine TN 2 ?_
 refine RN ?_
 refine ⟨_, _, eff_box (n := 52) (d := 6) (k := 1000006) rfl (by decide), fun b6 hb6 => ?_⟩
 have hBb6 := hb6.1
 refine TN 3 ?_
 refine RN ?_
 refine ⟨_, _, eff_box (n := 52) (d := 7) (k := 1000007) rfl (by decide), fun b7 hb7 => ?_⟩
 have hBb7 := hb7.1
 have hlt_b6_b7 : b6 < b7 := hb7.2 1000006 _ _ _ rfl
 refine TL ?_
 refine RA rfl ?_
 refine RN ?_
 refine A.seq ?_
 refine GS ?_
 refine TL ?_
 refine RS (ok_loadA (s := 1000004) (by decide) Try.underlying27 rfl (size27.of (rfl)) rfl rfl) ?_
 refine RS (ok_loadA (s := 1000005) (by decide) Try.underlying27 rfl (size27.of (rfl)) rfl rfl) ?_
 refine RS (ok_neqT (n := 3) (decide (s = s' ∧ c = c')) flatN (by decide) (by kernel_rfl) (by kernel_rfl) rfl rfl (kinN _ _) (kinN _ _) eqN) ?_; refine RZ (.bool false) (by simp [he]) ?_
 refine RM rfl ?_
 refine RQ (ok_index0 (0) Try.underlying85 info24 rfl rfl (rfl) (by decide)) ?_
 refine RQ (ok_loadV (s := 1000006) (by decide) Try.underlying24 rfl rfl rfl (rfl)) ?_
 refine RQ (ok_index0 (1) Try.underlying85 info24 rfl rfl (rfl) (by decide)) ?_
 refine RQ (ok_loadV (s := 1000006) (by decide) Try.underlying24 rfl rfl rfl (rfl)) ?_
 refine RQ (ok_bin rfl rfl rfl) ?_; refine RZ (.bool true) (by simp; omega) ?_
 refine RP rfl rfl ?_
 refine RM rfl ?_
 refine RK ?_
 refine RK ?_
 refine RK ?_
 refine RK ?_
 refine RK ?_
 refine RP rfl rfl ?_
 refine RN ?_
 refine A.yes rfl ?_
 refine GS ?_
 refine TL ?_
 refine RA rfl ?_
 refine RN ?_
 refine A.ret ?_
 refine End.ret_then ?_
 exact End.ret1 rfl rfl (by first | exact Le.refl _ | exact Le.old _ _)
set_option maxHeartbeats 1000000 in
theorem ref7Over_C (s c f l s' c' f' l' : Nat) (he : s = s' ∧ c = c') (h1 : f ≤ l) (h2 : l' < f') : Fn Try.prog 40 [.v (aggV ([nW s, nQ c])), .v (aggV ([nW s', nQ c'])), .v (aggV ([nW f, nW l])), .v (aggV ([nW f', nW l']))] (.v (.bool false)) := by
 refine Fn.of Try.func40 rfl (by kernel_rfl) Try.ntmps40 (by simp) (fun w => [(0, .v (aggV ([nW s, nQ c]))), (1, .v (aggV ([nW s', nQ c']))), (2, .v (aggV ([nW f, nW l]))), (3, .v (aggV ([nW f', nW l'])))]) (fun w => (Start.v rfl (Start.v rfl (Start.v rfl (Start.v rfl Start.nil))))) fun w₀ => ?_
 refine GS ?_
 refine TN 0 ?_
 refine RN ?_
 refine ⟨_, _, eff_box (n := 52) (d := 4) (k := 1000004) rfl (by decide), fun b4 hb4 => ?_⟩
 have hBb4 := hb4.1
 refine TN 1 ?_
 refine RN ?_
 refine ⟨_, _, eff_box (n := 52) (d := 5) (k := 1000005) rfl (by decide), fun b5 hb5 => ?_⟩
 have hBb5 := hb5.1
 have hlt_b4_b5 : b4 < b5 := hb5.2 1000004 _ _ _ rfl
 refine TN 2 ?_
 refine RN ?_
 refine ⟨_, _, eff_box (n := 52) (d := 6) (k := 1000006) rfl (by decide), fun b6 hb6 => ?_⟩
 have hBb6 := hb6.1
 refine TN 3 ?_
 refine RN ?_
 refine ⟨_, _, eff_box (n := 52) (d := 7) (k := 1000007) rfl (by decide), fun b7 hb7 => ?_⟩
 have hBb7 := hb7.1
 have hlt_b6_b7 : b6 < b7 := hb7.2 1000006 _ _ _ rfl
 refine TL ?_
 refine RA rfl ?_
 refine RN ?_
 refine A.seq ?_
 refine GS ?_
 refine TL ?_
 refine RS (ok_loadA (s := 1000004) (by decide) Try.underlying27 rfl (size27.of (rfl)) rfl rfl) ?_
 refine RS (ok_loadA (s := 1000005) (by decide) Try.underlying27 rfl (size27.of (rfl)) rfl rfl) ?_
 refine RS (ok_neqT (n := 3) (decide (s = s' ∧ c = c')) flatN (by decide) (by kernel_rfl) (by kernel_rfl) rfl rfl (kinN _ _) (kinN _ _) eqN) ?_; refine RZ (.bool false) (by simp [he]) ?_
 refine RM rfl ?_
 refine RQ (ok_index0 (0) Try.underlying85 info24 rfl rfl (rfl) (by decide)) ?_
 refine RQ (ok_loadV (s := 1000006) (by decide) Try.underlying24 rfl rfl rfl (rfl)) ?_
 refine RQ (ok_index0 (1) Try.underlying85 info24 rfl rfl (rfl) (by decide)) ?_
 refine RQ (ok_loadV (s := 1000006) (by decide) Try.underlying24 rfl rfl rfl (rfl)) ?_
 refine RQ (ok_bin rfl rfl rfl) ?_; refine RZ (.bool false) (by simp; omega) ?_
 refine RP rfl rfl ?_
 refine RM rfl ?_
 refine RQ (ok_index0 (0) Try.underlying85 info24 rfl rfl (rfl) (by decide)) ?_
 refine RQ (ok_loadV (s := 1000007) (by decide) Try.underlying24 rfl rfl rfl (rfl)) ?_
 refine RQ (ok_index0 (1) Try.underlying85 info24 rfl rfl (rfl) (by decide)) ?_
 refine RQ (ok_loadV (s := 1000007) (by decide) Try.underlying24 rfl rfl rfl (rfl)) ?_
 refine RQ (ok_bin rfl rfl rfl) ?_; refine RZ (.bool true) (by simp; omega) ?_
 refine RP rfl rfl ?_
 refine RN ?_
 refine A.yes rfl ?_
 refine GS ?_
 refine TL ?_
 refine RA rfl ?_
 refine RN ?_
 refine A.ret ?_
 refine End.ret_then ?_
 exact End.ret1 rfl rfl (by first | exact Le.refl _ | exact Le.old _ _)
set_option maxHeartbeats 1000000 in
theorem ref7Over_D (s c f l s' c' f' l' : Nat) (he : s = s' ∧ c = c') (h1 : f ≤ l) (h2 : f' ≤ l') (h3 : f' ≤ f) (h4 : f ≤ l') : Fn Try.prog 40 [.v (aggV ([nW s, nQ c])), .v (aggV ([nW s', nQ c'])), .v (aggV ([nW f, nW l])), .v (aggV ([nW f', nW l']))] (.v (.bool true)) := by
 refine Fn.of Try.func40 rfl (by kernel_rfl) Try.ntmps40 (by simp) (fun w => [(0, .v (aggV ([nW s, nQ c]))), (1, .v (aggV ([nW s', nQ c']))), (2, .v (aggV ([nW f, nW l]))), (3, .v (aggV ([nW f', nW l'])))]) (fun w => (Start.v rfl (Start.v rfl (Start.v rfl (Start.v rfl Start.nil))))) fun w₀ => ?_
 refine GS ?_
 refine TN 0 ?_
 refine RN ?_
 refine ⟨_, _, eff_box (n := 52) (d := 4) (k := 1000004) rfl (by decide), fun b4 hb4 => ?_⟩
 have hBb4 := hb4.1
 refine TN 1 ?_
 refine RN ?_
 refine ⟨_, _, eff_box (n := 52) (d := 5) (k := 1000005) rfl (by decide), fun b5 hb5 => ?_⟩
 have hBb5 := hb5.1
 have hlt_b4_b5 : b4 < b5 := hb5.2 1000004 _ _ _ rfl
 refine TN 2 ?_
 refine RN ?_
 refine ⟨_, _, eff_box (n := 52) (d := 6) (k := 1000006) rfl (by decide), fun b6 hb6 => ?_⟩
 have hBb6 := hb6.1
 refine TN 3 ?_
 refine RN ?_
 refine ⟨_, _, eff_box (n := 52) (d := 7) (k := 1000007) rfl (by decide), fun b7 hb7 => ?_⟩
 have hBb7 := hb7.1
 have hlt_b6_b7 : b6 < b7 := hb7.2 1000006 _ _ _ rfl
 refine TL ?_
 refine RA rfl ?_
 refine RN ?_
 refine A.seq ?_
 refine GS ?_
 refine TL ?_
 refine RS (ok_loadA (s := 1000004) (by decide) Try.underlying27 rfl (size27.of (rfl)) rfl rfl) ?_
 refine RS (ok_loadA (s := 1000005) (by decide) Try.underlying27 rfl (size27.of (rfl)) rfl rfl) ?_
 refine RS (ok_neqT (n := 3) (decide (s = s' ∧ c = c')) flatN (by decide) (by kernel_rfl) (by kernel_rfl) rfl rfl (kinN _ _) (kinN _ _) eqN) ?_; refine RZ (.bool false) (by simp [he]) ?_
 refine RM rfl ?_
 refine RQ (ok_index0 (0) Try.underlying85 info24 rfl rfl (rfl) (by decide)) ?_
 refine RQ (ok_loadV (s := 1000006) (by decide) Try.underlying24 rfl rfl rfl (rfl)) ?_
 refine RQ (ok_index0 (1) Try.underlying85 info24 rfl rfl (rfl) (by decide)) ?_
 refine RQ (ok_loadV (s := 1000006) (by decide) Try.underlying24 rfl rfl rfl (rfl)) ?_
 refine RQ (ok_bin rfl rfl rfl) ?_; refine RZ (.bool false) (by simp; omega) ?_
 refine RP rfl rfl ?_
 refine RM rfl ?_
 refine RQ (ok_index0 (0) Try.underlying85 info24 rfl rfl (rfl) (by decide)) ?_
 refine RQ (ok_loadV (s := 1000007) (by decide) Try.underlying24 rfl rfl rfl (rfl)) ?_
 refine RQ (ok_index0 (1) Try.underlying85 info24 rfl rfl (rfl) (by decide)) ?_
 refine RQ (ok_loadV (s := 1000007) (by decide) Try.underlying24 rfl rfl rfl (rfl)) ?_
 refine RQ (ok_bin rfl rfl rfl) ?_; refine RZ (.bool false) (by simp; omega) ?_
 refine RP rfl rfl ?_
 refine RN ?_
 refine A.no rfl ?_
 refine A.skip ?_
 refine EN ?_
 refine GS ?_
 refine TL ?_
 refine RS (ok_index0 (0) Try.underlying85 info24 rfl rfl (rfl) (by decide)) ?_
 refine RS (ok_loadV (s := 1000006) (by decide) Try.underlying24 rfl rfl rfl (rfl)) ?_
 refine RS (ok_index0 (0) Try.underlying85 info24 rfl rfl (rfl) (by decide)) ?_
 refine RS (ok_loadV (s := 1000007) (by decide) Try.underlying24 rfl rfl rfl (rfl)) ?_
 refine RBS rfl rfl rfl (.bool true) (by simp; omega) ?_
 refine RM rfl ?_
 refine RQ (ok_index0 (0) Try.underlying85 info24 rfl rfl (rfl) (by decide)) ?_
 refine RQ (ok_loadV (s := 1000006) (by decide) Try.underlying24 rfl rfl rfl (rfl)) ?_
 refine RQ (ok_index0 (1) Try.underlying85 info24 rfl rfl (rfl) (by decide)) ?_
 refine RQ (ok_loadV (s := 1000007) (by decide) Try.underlying24 rfl rfl rfl (rfl)) ?_
 refine RQ (ok_bin rfl rfl rfl) ?_; refine RZ (.bool true) (by simp; omega) ?_
 refine RP rfl rfl ?_
 refine RM rfl ?_
 refine RK ?_
 refine RK ?_
 refine RK ?_
 refine RK ?_
 refine RK ?_
 refine RK ?_
 refine RunK.skippedU rfl rfl rfl rfl ?_
 refine RunK.skippedU rfl rfl rfl rfl ?_
 refine RunK.skippedU rfl rfl rfl rfl ?_
 refine RunK.skippedU rfl rfl rfl rfl ?_
 refine RunK.skippedU rfl rfl rfl rfl ?_
 refine RK ?_
 refine RP rfl rfl ?_
 refine RA rfl ?_
 refine RN ?_
 refine A.sub (KC 8 rfl (KC 1000004 rfl (KC 1000005 rfl (KC 1000006 rfl (KC 1000007 rfl KN))))) ?_
 refine A.ret ?_
 exact End.ret1 rfl rfl (by first | exact Le.refl _ | exact Le.old _ _)
set_option maxHeartbeats 1000000 in
theorem ref7Over_E (s c f l s' c' f' l' : Nat) (he : s = s' ∧ c = c') (h1 : f ≤ l) (h2 : f' ≤ l') (h3 : f' ≤ f) (h4 : l' < f) : Fn Try.prog 40 [.v (aggV ([nW s, nQ c])), .v (aggV ([nW s', nQ c'])), .v (aggV ([nW f, nW l])), .v (aggV ([nW f', nW l']))] (.v (.bool false)) := by
 refine Fn.of Try.func40 rfl (by kernel_rfl) Try.ntmps40 (by simp) (fun w => [(0, .v (aggV ([nW s, nQ c]))), (1, .v (aggV ([nW s', nQ c']))), (2, .v (aggV ([nW f, nW l]))), (3, .v (aggV ([nW f', nW l'])))]) (fun w => (Start.v rfl (Start.v rfl (Start.v rfl (Start.v rfl Start.nil))))) fun w₀ => ?_
 refine GS ?_
 refine TN 0 ?_
 refine RN ?_
 refine ⟨_, _, eff_box (n := 52) (d := 4) (k := 1000004) rfl (by decide), fun b4 hb4 => ?_⟩
 have hBb4 := hb4.1
 refine TN 1 ?_
 refine RN ?_
 refine ⟨_, _, eff_box (n := 52) (d := 5) (k := 1000005) rfl (by decide), fun b5 hb5 => ?_⟩
 have hBb5 := hb5.1
 have hlt_b4_b5 : b4 < b5 := hb5.2 1000004 _ _ _ rfl
 refine TN 2 ?_
 refine RN ?_
 refine ⟨_, _, eff_box (n := 52) (d := 6) (k := 1000006) rfl (by decide), fun b6 hb6 => ?_⟩
 have hBb6 := hb6.1
 refine TN 3 ?_
 refine RN ?_
 refine ⟨_, _, eff_box (n := 52) (d := 7) (k := 1000007) rfl (by decide), fun b7 hb7 => ?_⟩
 have hBb7 := hb7.1
 have hlt_b6_b7 : b6 < b7 := hb7.2 1000006 _ _ _ rfl
 refine TL ?_
 refine RA rfl ?_
 refine RN ?_
 refine A.seq ?_
 refine GS ?_
 refine TL ?_
 refine RS (ok_loadA (s := 1000004) (by decide) Try.underlying27 rfl (size27.of (rfl)) rfl rfl) ?_
 refine RS (ok_loadA (s := 1000005) (by decide) Try.underlying27 rfl (size27.of (rfl)) rfl rfl) ?_
 refine RS (ok_neqT (n := 3) (decide (s = s' ∧ c = c')) flatN (by decide) (by kernel_rfl) (by kernel_rfl) rfl rfl (kinN _ _) (kinN _ _) eqN) ?_; refine RZ (.bool false) (by simp [he]) ?_
 refine RM rfl ?_
 refine RQ (ok_index0 (0) Try.underlying85 info24 rfl rfl (rfl) (by decide)) ?_
 refine RQ (ok_loadV (s := 1000006) (by decide) Try.underlying24 rfl rfl rfl (rfl)) ?_
 refine RQ (ok_index0 (1) Try.underlying85 info24 rfl rfl (rfl) (by decide)) ?_
 refine RQ (ok_loadV (s := 1000006) (by decide) Try.underlying24 rfl rfl rfl (rfl)) ?_
 refine RQ (ok_bin rfl rfl rfl) ?_; refine RZ (.bool false) (by simp; omega) ?_
 refine RP rfl rfl ?_
 refine RM rfl ?_
 refine RQ (ok_index0 (0) Try.underlying85 info24 rfl rfl (rfl) (by decide)) ?_
 refine RQ (ok_loadV (s := 1000007) (by decide) Try.underlying24 rfl rfl rfl (rfl)) ?_
 refine RQ (ok_index0 (1) Try.underlying85 info24 rfl rfl (rfl) (by decide)) ?_
 refine RQ (ok_loadV (s := 1000007) (by decide) Try.underlying24 rfl rfl rfl (rfl)) ?_
 refine RQ (ok_bin rfl rfl rfl) ?_; refine RZ (.bool false) (by simp; omega) ?_
 refine RP rfl rfl ?_
 refine RN ?_
 refine A.no rfl ?_
 refine A.skip ?_
 refine EN ?_
 refine GS ?_
 refine TL ?_
 refine RS (ok_index0 (0) Try.underlying85 info24 rfl rfl (rfl) (by decide)) ?_
 refine RS (ok_loadV (s := 1000006) (by decide) Try.underlying24 rfl rfl rfl (rfl)) ?_
 refine RS (ok_index0 (0) Try.underlying85 info24 rfl rfl (rfl) (by decide)) ?_
 refine RS (ok_loadV (s := 1000007) (by decide) Try.underlying24 rfl rfl rfl (rfl)) ?_
 refine RBS rfl rfl rfl (.bool true) (by simp; omega) ?_
 refine RM rfl ?_
 refine RQ (ok_index0 (0) Try.underlying85 info24 rfl rfl (rfl) (by decide)) ?_
 refine RQ (ok_loadV (s := 1000006) (by decide) Try.underlying24 rfl rfl rfl (rfl)) ?_
 refine RQ (ok_index0 (1) Try.underlying85 info24 rfl rfl (rfl) (by decide)) ?_
 refine RQ (ok_loadV (s := 1000007) (by decide) Try.underlying24 rfl rfl rfl (rfl)) ?_
 refine RQ (ok_bin rfl rfl rfl) ?_; refine RZ (.bool false) (by simp; omega) ?_
 refine RP rfl rfl ?_
 refine RM rfl ?_
 refine RQ (ok_index0 (0) Try.underlying85 info24 rfl rfl (rfl) (by decide)) ?_
 refine RQ (ok_loadV (s := 1000007) (by decide) Try.underlying24 rfl rfl rfl (rfl)) ?_
 refine RQ (ok_index0 (0) Try.underlying85 info24 rfl rfl (rfl) (by decide)) ?_
 refine RQ (ok_loadV (s := 1000006) (by decide) Try.underlying24 rfl rfl rfl (rfl)) ?_
 refine RQ (ok_bin rfl rfl rfl) ?_; refine RZ (.bool false) (by simp; omega) ?_
 refine RQ (ok_move rfl) ?_
 refine RK ?_
 refine RK ?_
 refine RK ?_
 refine RK ?_
 refine RK ?_
 refine RQ (ok_pick rfl rfl) ?_
 refine RP rfl rfl ?_
 refine RA rfl ?_
 refine RN ?_
 refine A.sub (KC 8 rfl (KC 1000004 rfl (KC 1000005 rfl (KC 1000006 rfl (KC 1000007 rfl KN))))) ?_
 refine A.ret ?_
 exact End.ret1 rfl rfl (by first | exact Le.refl _ | exact Le.old _ _)
set_option maxHeartbeats 1000000 in
theorem ref7Over_F (s c f l s' c' f' l' : Nat) (he : s = s' ∧ c = c') (h1 : f ≤ l) (h2 : f' ≤ l') (h3 : f < f') (h4 : f' ≤ l) : Fn Try.prog 40 [.v (aggV ([nW s, nQ c])), .v (aggV ([nW s', nQ c'])), .v (aggV ([nW f, nW l])), .v (aggV ([nW f', nW l']))] (.v (.bool true)) := by
 refine Fn.of Try.func40 rfl (by kernel_rfl) Try.ntmps40 (by simp) (fun w => [(0, .v (aggV ([nW s, nQ c]))), (1, .v (aggV ([nW s', nQ c']))), (2, .v (aggV ([nW f, nW l]))), (3, .v (aggV ([nW f', nW l'])))]) (fun w => (Start.v rfl (Start.v rfl (Start.v rfl (Start.v rfl Start.nil))))) fun w₀ => ?_
 refine GS ?_
 refine TN 0 ?_
 refine RN ?_
 refine ⟨_, _, eff_box (n := 52) (d := 4) (k := 1000004) rfl (by decide), fun b4 hb4 => ?_⟩
 have hBb4 := hb4.1
 refine TN 1 ?_
 refine RN ?_
 refine ⟨_, _, eff_box (n := 52) (d := 5) (k := 1000005) rfl (by decide), fun b5 hb5 => ?_⟩
 have hBb5 := hb5.1
 have hlt_b4_b5 : b4 < b5 := hb5.2 1000004 _ _ _ rfl
 refine TN 2 ?_
 refine RN ?_
 refine ⟨_, _, eff_box (n := 52) (d := 6) (k := 1000006) rfl (by decide), fun b6 hb6 => ?_⟩
 have hBb6 := hb6.1
 refine TN 3 ?_
 refine RN ?_
 refine ⟨_, _, eff_box (n := 52) (d := 7) (k := 1000007) rfl (by decide), fun b7 hb7 => ?_⟩
 have hBb7 := hb7.1
 have hlt_b6_b7 : b6 < b7 := hb7.2 1000006 _ _ _ rfl
 refine TL ?_
 refine RA rfl ?_
 refine RN ?_
 refine A.seq ?_
 refine GS ?_
 refine TL ?_
 refine RS (ok_loadA (s := 1000004) (by decide) Try.underlying27 rfl (size27.of (rfl)) rfl rfl) ?_
 refine RS (ok_loadA (s := 1000005) (by decide) Try.underlying27 rfl (size27.of (rfl)) rfl rfl) ?_
 refine RS (ok_neqT (n := 3) (decide (s = s' ∧ c = c')) flatN (by decide) (by kernel_rfl) (by kernel_rfl) rfl rfl (kinN _ _) (kinN _ _) eqN) ?_; refine RZ (.bool false) (by simp [he]) ?_
 refine RM rfl ?_
 refine RQ (ok_index0 (0) Try.underlying85 info24 rfl rfl (rfl) (by decide)) ?_
 refine RQ (ok_loadV (s := 1000006) (by decide) Try.underlying24 rfl rfl rfl (rfl)) ?_
 refine RQ (ok_index0 (1) Try.underlying85 info24 rfl rfl (rfl) (by decide)) ?_
 refine RQ (ok_loadV (s := 1000006) (by decide) Try.underlying24 rfl rfl rfl (rfl)) ?_
 refine RQ (ok_bin rfl rfl rfl) ?_; refine RZ (.bool false) (by simp; omega) ?_
 refine RP rfl rfl ?_
 refine RM rfl ?_
 refine RQ (ok_index0 (0) Try.underlying85 info24 rfl rfl (rfl) (by decide)) ?_
 refine RQ (ok_loadV (s := 1000007) (by decide) Try.underlying24 rfl rfl rfl (rfl)) ?_
 refine RQ (ok_index0 (1) Try.underlying85 info24 rfl rfl (rfl) (by decide)) ?_
 refine RQ (ok_loadV (s := 1000007) (by decide) Try.underlying24 rfl rfl rfl (rfl)) ?_
 refine RQ (ok_bin rfl rfl rfl) ?_; refine RZ (.bool false) (by simp; omega) ?_
 refine RP rfl rfl ?_
 refine RN ?_
 refine A.no rfl ?_
 refine A.skip ?_
 refine EN ?_
 refine GS ?_
 refine TL ?_
 refine RS (ok_index0 (0) Try.underlying85 info24 rfl rfl (rfl) (by decide)) ?_
 refine RS (ok_loadV (s := 1000006) (by decide) Try.underlying24 rfl rfl rfl (rfl)) ?_
 refine RS (ok_index0 (0) Try.underlying85 info24 rfl rfl (rfl) (by decide)) ?_
 refine RS (ok_loadV (s := 1000007) (by decide) Try.underlying24 rfl rfl rfl (rfl)) ?_
 refine RBS rfl rfl rfl (.bool false) (by simp; omega) ?_
 refine RM rfl ?_
 refine RK ?_
 refine RK ?_
 refine RK ?_
 refine RK ?_
 refine RK ?_
 refine RP rfl rfl ?_
 refine RM rfl ?_
 refine RQ (ok_index0 (0) Try.underlying85 info24 rfl rfl (rfl) (by decide)) ?_
 refine RQ (ok_loadV (s := 1000007) (by decide) Try.underlying24 rfl rfl rfl (rfl)) ?_
 refine RQ (ok_index0 (0) Try.underlying85 info24 rfl rfl (rfl) (by decide)) ?_
 refine RQ (ok_loadV (s := 1000006) (by decide) Try.underlying24 rfl rfl rfl (rfl)) ?_
 refine RQ (ok_bin rfl rfl rfl) ?_; refine RZ (.bool true) (by simp; omega) ?_
 refine RQ (ok_move rfl) ?_
 refine RQ (ok_index0 (0) Try.underlying85 info24 rfl rfl (rfl) (by decide)) ?_
 refine RQ (ok_loadV (s := 1000007) (by decide) Try.underlying24 rfl rfl rfl (rfl)) ?_
 refine RQ (ok_index0 (1) Try.underlying85 info24 rfl rfl (rfl) (by decide)) ?_
 refine RQ (ok_loadV (s := 1000006) (by decide) Try.underlying24 rfl rfl rfl (rfl)) ?_
 refine RQ (ok_bin rfl rfl rfl) ?_; refine RZ (.bool true) (by simp; omega) ?_
 refine RQ (ok_pick rfl rfl) ?_
 refine RP rfl rfl ?_
 refine RA rfl ?_
 refine RN ?_
 refine A.sub (KC 8 rfl (KC 1000004 rfl (KC 1000005 rfl (KC 1000006 rfl (KC 1000007 rfl KN))))) ?_
 refine A.ret ?_
 exact End.ret1 rfl rfl (by first | exact Le.refl _ | exact Le.old _ _)
set_option maxHeartbeats 1000000 in
theorem ref7Over_G (s c f l s' c' f' l' : Nat) (he : s = s' ∧ c = c') (h1 : f ≤ l) (h2 : f' ≤ l') (h3 : f < f') (h4 : l < f') : Fn Try.prog 40 [.v (aggV ([nW s, nQ c])), .v (aggV ([nW s', nQ c'])), .v (aggV ([nW f, nW l])), .v (aggV ([nW f', nW l']))] (.v (.bool false)) := by
 refine Fn.of Try.func40 rfl (by kernel_rfl) Try.ntmps40 (by simp) (fun w => [(0, .v (aggV ([nW s, nQ c]))), (1, .v (aggV ([nW s', nQ c']))), (2, .v (aggV ([nW f, nW l]))), (3, .v (aggV ([nW f', nW l'])))]) (fun w => (Start.v rfl (Start.v rfl (Start.v rfl (Start.v rfl Start.nil))))) fun w₀ => ?_
 refine GS ?_
 refine TN 0 ?_
 refine RN ?_
 refine ⟨_, _, eff_box (n := 52) (d := 4) (k := 1000004) rfl (by decide), fun b4 hb4 => ?_⟩
 have hBb4 := hb4.1
 refine TN 1 ?_
 refine RN ?_
 refine ⟨_, _, eff_box (n := 52) (d := 5) (k := 1000005) rfl (by decide), fun b5 hb5 => ?_⟩
 have hBb5 := hb5.1
 have hlt_b4_b5 : b4 < b5 := hb5.2 1000004 _ _ _ rfl
 refine TN 2 ?_
 refine RN ?_
 refine ⟨_, _, eff_box (n := 52) (d := 6) (k := 1000006) rfl (by decide), fun b6 hb6 => ?_⟩
 have hBb6 := hb6.1
 refine TN 3 ?_
 refine RN ?_
 refine ⟨_, _, eff_box (n := 52) (d := 7) (k := 1000007) rfl (by decide), fun b7 hb7 => ?_⟩
 have hBb7 := hb7.1
 have hlt_b6_b7 : b6 < b7 := hb7.2 1000006 _ _ _ rfl
 refine TL ?_
 refine RA rfl ?_
 refine RN ?_
 refine A.seq ?_
 refine GS ?_
 refine TL ?_
 refine RS (ok_loadA (s := 1000004) (by decide) Try.underlying27 rfl (size27.of (rfl)) rfl rfl) ?_
 refine RS (ok_loadA (s := 1000005) (by decide) Try.underlying27 rfl (size27.of (rfl)) rfl rfl) ?_
 refine RS (ok_neqT (n := 3) (decide (s = s' ∧ c = c')) flatN (by decide) (by kernel_rfl) (by kernel_rfl) rfl rfl (kinN _ _) (kinN _ _) eqN) ?_; refine RZ (.bool false) (by simp [he]) ?_
 refine RM rfl ?_
 refine RQ (ok_index0 (0) Try.underlying85 info24 rfl rfl (rfl) (by decide)) ?_
 refine RQ (ok_loadV (s := 1000006) (by decide) Try.underlying24 rfl rfl rfl (rfl)) ?_
 refine RQ (ok_index0 (1) Try.underlying85 info24 rfl rfl (rfl) (by decide)) ?_
 refine RQ (ok_loadV (s := 1000006) (by decide) Try.underlying24 rfl rfl rfl (rfl)) ?_
 refine RQ (ok_bin rfl rfl rfl) ?_; refine RZ (.bool false) (by simp; omega) ?_
 refine RP rfl rfl ?_
 refine RM rfl ?_
 refine RQ (ok_index0 (0) Try.underlying85 info24 rfl rfl (rfl) (by decide)) ?_
 refine RQ (ok_loadV (s := 1000007) (by decide) Try.underlying24 rfl rfl rfl (rfl)) ?_
 refine RQ (ok_index0 (1) Try.underlying85 info24 rfl rfl (rfl) (by decide)) ?_
 refine RQ (ok_loadV (s := 1000007) (by decide) Try.underlying24 rfl rfl rfl (rfl)) ?_
 refine RQ (ok_bin rfl rfl rfl) ?_; refine RZ (.bool false) (by simp; omega) ?_
 refine RP rfl rfl ?_
 refine RN ?_
 refine A.no rfl ?_
 refine A.skip ?_
 refine EN ?_
 refine GS ?_
 refine TL ?_
 refine RS (ok_index0 (0) Try.underlying85 info24 rfl rfl (rfl) (by decide)) ?_
 refine RS (ok_loadV (s := 1000006) (by decide) Try.underlying24 rfl rfl rfl (rfl)) ?_
 refine RS (ok_index0 (0) Try.underlying85 info24 rfl rfl (rfl) (by decide)) ?_
 refine RS (ok_loadV (s := 1000007) (by decide) Try.underlying24 rfl rfl rfl (rfl)) ?_
 refine RBS rfl rfl rfl (.bool false) (by simp; omega) ?_
 refine RM rfl ?_
 refine RK ?_
 refine RK ?_
 refine RK ?_
 refine RK ?_
 refine RK ?_
 refine RP rfl rfl ?_
 refine RM rfl ?_
 refine RQ (ok_index0 (0) Try.underlying85 info24 rfl rfl (rfl) (by decide)) ?_
 refine RQ (ok_loadV (s := 1000007) (by decide) Try.underlying24 rfl rfl rfl (rfl)) ?_
 refine RQ (ok_index0 (0) Try.underlying85 info24 rfl rfl (rfl) (by decide)) ?_
 refine RQ (ok_loadV (s := 1000006) (by decide) Try.underlying24 rfl rfl rfl (rfl)) ?_
 refine RQ (ok_bin rfl rfl rfl) ?_; refine RZ (.bool true) (by simp; omega) ?_
 refine RQ (ok_move rfl) ?_
 refine RQ (ok_index0 (0) Try.underlying85 info24 rfl rfl (rfl) (by decide)) ?_
 refine RQ (ok_loadV (s := 1000007) (by decide) Try.underlying24 rfl rfl rfl (rfl)) ?_
 refine RQ (ok_index0 (1) Try.underlying85 info24 rfl rfl (rfl) (by decide)) ?_
 refine RQ (ok_loadV (s := 1000006) (by decide) Try.underlying24 rfl rfl rfl (rfl)) ?_
 refine RQ (ok_bin rfl rfl rfl) ?_; refine RZ (.bool false) (by simp; omega) ?_
 refine RQ (ok_pick rfl rfl) ?_
 refine RP rfl rfl ?_
 refine RA rfl ?_
 refine RN ?_
 refine A.sub (KC 8 rfl (KC 1000004 rfl (KC 1000005 rfl (KC 1000006 rfl (KC 1000007 rfl KN))))) ?_
 refine A.ret ?_
 exact End.ret1 rfl rfl (by first | exact Le.refl _ | exact Le.old _ _)
theorem ref7Over_fn (s c f l s' c' f' l' : Nat) : Fn Try.prog 40 [.v (aggV ([nW s, nQ c])), .v (aggV ([nW s', nQ c'])), .v (aggV ([nW f, nW l])), .v (aggV ([nW f', nW l']))] (.v (.bool (ovB s c f l s' c' f' l'))) := by
 by_cases he : s = s' ∧ c = c'
 ·by_cases h1 : f ≤ l
  ·by_cases h2 : f' ≤ l'
   ·by_cases h3 : f' ≤ f
    ·by_cases h4 : f ≤ l'
     ·rw [show ovB s c f l s' c' f' l' = true from by simp [ovB, he]; omega]; exact ref7Over_D _ _ _ _ _ _ _ _ he h1 h2 h3 h4
     ·rw [show ovB s c f l s' c' f' l' = false from by simp [ovB, he]; omega]; exact ref7Over_E _ _ _ _ _ _ _ _ he h1 h2 h3 (by omega)
    ·by_cases h4 : f' ≤ l
     ·rw [show ovB s c f l s' c' f' l' = true from by simp [ovB, he]; omega]; exact ref7Over_F _ _ _ _ _ _ _ _ he h1 h2 (by omega) h4
     ·rw [show ovB s c f l s' c' f' l' = false from by simp [ovB, he]; omega]; exact ref7Over_G _ _ _ _ _ _ _ _ he h1 h2 (by omega) (by omega)
   ·rw [show ovB s c f l s' c' f' l' = false from by simp [ovB, he]; omega]; exact ref7Over_C _ _ _ _ _ _ _ _ he h1 (by omega)
  ·rw [show ovB s c f l s' c' f' l' = false from by simp [ovB, he]; omega]; exact ref7Over_B _ _ _ _ _ _ _ _ he (by omega)
 ·rw [show ovB s c f l s' c' f' l' = false from by simp [ovB, he]]; exact ref7Over_A _ _ _ _ _ _ _ _ he
theorem Over_A (s c f l s' c' f' l' : Nat) (he : ¬ (s = s' ∧ c = c')) : Fn Try.prog 59 [.v (aggV ([nW s, nQ c, nW f, nW l])), .v (aggV ([nW s', nQ c', nW f', nW l']))] (.v (.bool false)) := by
 refine Fn.of Try.func59 rfl (by kernel_rfl) Try.ntmps59 (by simp) (fun w => [(0, .v (aggV ([nW s, nQ c, nW f, nW l]))), (1, .v (aggV ([nW s', nQ c', nW f', nW l'])))]) (fun w => (Start.v rfl (Start.v rfl Start.nil))) fun w₀ => ?_
 refine GS ?_
 refine TN 0 ?_
 refine RN ?_
 refine ⟨_, _, eff_box (n := 23) (d := 2) (k := 1000002) rfl (by decide), fun b2 hb2 => ?_⟩
 have hBb2 := hb2.1
 refine TN 1 ?_
 refine RN ?_
 refine ⟨_, _, eff_box (n := 23) (d := 3) (k := 1000003) rfl (by decide), fun b3 hb3 => ?_⟩
 have hBb3 := hb3.1
 have hlt_b2_b3 : b2 < b3 := hb3.2 1000002 _ _ _ rfl
 refine TL ?_
 refine RA rfl ?_
 refine RN ?_
 refine GS ?_
 refine TL ?_
 refine RS (ok_field field29_0 (by decide) rfl) ?_
 refine RS (ok_loadP (s := 1000002) (by decide) Try.underlying27 rfl size27 rfl rfl (by simp) (rfl)) ?_
 refine RS (ok_field field29_0 (by decide) rfl) ?_
 refine RS (ok_loadP (s := 1000003) (by decide) Try.underlying27 rfl size27 rfl rfl (by simp) (rfl)) ?_
 refine RS (ok_eqlT (n := 3) (decide (s = s' ∧ c = c')) flatN (by decide) (by kernel_rfl) (by kernel_rfl) rfl rfl (kinN _ _) (kinN _ _) eqN) ?_; refine RZ (.bool false) (by simp [he]) ?_
 refine RM rfl ?_
 refine RK ?_
 refine RK ?_
 refine RK ?_
 refine RK ?_
 refine RK ?_
 refine RK ?_
 refine RK ?_
 refine RK ?_
 refine RK ?_
 refine RK ?_
 refine RK ?_
 refine RP rfl rfl ?_
 refine RA rfl ?_
 refine RN ?_
 refine A.ret ?_
 exact End.ret1 rfl rfl (by first | exact Le.refl _ | exact Le.old _ _)
theorem Over_B (s c f l s' c' f' l' : Nat) (he : s = s' ∧ c = c') : Fn Try.prog 59 [.v (aggV ([nW s, nQ c, nW f, nW l])), .v (aggV ([nW s', nQ c', nW f', nW l']))] (.v (.bool (decide (max f f' ≤ min l l')))) := by
 refine Fn.of Try.func59 rfl (by kernel_rfl) Try.ntmps59 (by simp) (fun w => [(0, .v (aggV ([nW s, nQ c, nW f, nW l]))), (1, .v (aggV ([nW s', nQ c', nW f', nW l'])))]) (fun w => (Start.v rfl (Start.v rfl Start.nil))) fun w₀ => ?_
 refine GS ?_
 refine TN 0 ?_
 refine RN ?_
 refine ⟨_, _, eff_box (n := 23) (d := 2) (k := 1000002) rfl (by decide), fun b2 hb2 => ?_⟩
 have hBb2 := hb2.1
 refine TN 1 ?_
 refine RN ?_
 refine ⟨_, _, eff_box (n := 23) (d := 3) (k := 1000003) rfl (by decide), fun b3 hb3 => ?_⟩
 have hBb3 := hb3.1
 have hlt_b2_b3 : b2 < b3 := hb3.2 1000002 _ _ _ rfl
 refine TL ?_
 refine RA rfl ?_
 refine RN ?_
 refine GS ?_
 refine TL ?_
 refine RS (ok_field field29_0 (by decide) rfl) ?_
 refine RS (ok_loadP (s := 1000002) (by decide) Try.underlying27 rfl size27 rfl rfl (by simp) (rfl)) ?_
 refine RS (ok_field field29_0 (by decide) rfl) ?_
 refine RS (ok_loadP (s := 1000003) (by decide) Try.underlying27 rfl size27 rfl rfl (by simp) (rfl)) ?_
 refine RS (ok_eqlT (n := 3) (decide (s = s' ∧ c = c')) flatN (by decide) (by kernel_rfl) (by kernel_rfl) rfl rfl (kinN _ _) (kinN _ _) eqN) ?_; refine RZ (.bool true) (by simp [he]) ?_
 refine RM rfl ?_
 refine RQ (ok_field field29_1 (by decide) rfl) ?_
 refine RQ (ok_loadV (s := 1000002) (by decide) Try.underlying24 rfl rfl rfl (rfl)) ?_
 refine RQ (ok_field field29_1 (by decide) rfl) ?_
 refine RQ (ok_loadV (s := 1000003) (by decide) Try.underlying24 rfl rfl rfl (rfl)) ?_
 refine RQ (ok_maxI rfl rfl) ?_
 refine RQ (ok_field field29_2 (by decide) rfl) ?_
 refine RQ (ok_loadV (s := 1000002) (by decide) Try.underlying24 rfl rfl rfl (rfl)) ?_
 refine RQ (ok_field field29_2 (by decide) rfl) ?_
 refine RQ (ok_loadV (s := 1000003) (by decide) Try.underlying24 rfl rfl rfl (rfl)) ?_
 refine RQ (ok_minI rfl rfl) ?_
 refine RQ (ok_bin rfl rfl rfl) ?_; refine RZ (.bool (decide (max f f' ≤ min l l'))) (congrArg Value.bool (decide_eq_decide.2 (by omega))) ?_
 refine RP rfl rfl ?_
 refine RA rfl ?_
 refine RN ?_
 refine A.ret ?_
 exact End.ret1 rfl rfl (by first | exact Le.refl _ | exact Le.old _ _)
theorem Overlap_fn (s c f l s' c' f' l' : Nat) : Fn Try.prog 59 [.v (aggV ([nW s, nQ c, nW f, nW l])), .v (aggV ([nW s', nQ c', nW f', nW l']))] (.v (.bool (ovB s c f l s' c' f' l'))) := by
 by_cases he : s = s' ∧ c = c'
 ·rw [show ovB s c f l s' c' f' l' = decide (max f f' ≤ min l l') from by simp [ovB, he]]; exact Over_B _ _ _ _ _ _ _ _ he
 ·rw [show ovB s c f l s' c' f' l' = false from by simp [ovB, he]]; exact Over_A _ _ _ _ _ _ _ _ he
theorem valid_fn (s c f l : Nat) : Fn Try.prog 39 [.v (aggV ([nW s, nQ c, nW f, nW l]))] (.v (.bool (decide (f ≤ l)))) := by
 refine Fn.of Try.func39 rfl (by kernel_rfl) Try.ntmps39 (by simp) (fun w => [(0, .v (aggV ([nW s, nQ c, nW f, nW l])))]) (fun w => (Start.v rfl Start.nil)) fun w₀ => ?_
 refine GS ?_
 refine TN 0 ?_
 refine RN ?_
 refine ⟨_, _, eff_box (n := 8) (d := 1) (k := 1000001) rfl (by decide), fun b1 hb1 => ?_⟩
 have hBb1 := hb1.1
 refine TL ?_
 refine RA rfl ?_
 refine RN ?_
 refine GS ?_
 refine TL ?_
 refine RS (ok_field field29_1 (by decide) rfl) ?_
 refine RS (ok_loadV (s := 1000001) (by decide) Try.underlying24 rfl rfl rfl (rfl)) ?_
 refine RS (ok_field field29_2 (by decide) rfl) ?_
 refine RS (ok_loadV (s := 1000001) (by decide) Try.underlying24 rfl rfl rfl (rfl)) ?_
 refine RBS rfl rfl rfl (.bool (decide (f ≤ l))) (congrArg Value.bool (decide_eq_decide.2 (by omega))) ?_
 refine RA rfl ?_
 refine RN ?_
 refine A.ret ?_
 exact End.ret1 rfl rfl (by first | exact Le.refl _ | exact Le.old _ _)
theorem clash_A (u v : Us) (hu : u.Fit) (hv : v.Fit) (h : u.key ≠ v.key) : Fn Try.prog 38 [.v (aggV (usV u)), .v (aggV (usV v))] (.v (.bool (clB u v))) := by
 refine Fn.of Try.func38 rfl (by kernel_rfl) Try.ntmps38 (by simp) (fun w => [(0, .v (aggV (usV u))), (1, .v (aggV (usV v)))]) (fun w => (Start.v rfl (Start.v rfl Start.nil))) fun w₀ => ?_
 refine GS ?_
 refine TN 0 ?_
 refine RN ?_
 refine ⟨_, _, eff_box (n := 17) (d := 2) (k := 1000002) rfl (by decide), fun b2 hb2 => ?_⟩
 have hBb2 := hb2.1
 refine TN 1 ?_
 refine RN ?_
 refine ⟨_, _, eff_box (n := 17) (d := 3) (k := 1000003) rfl (by decide), fun b3 hb3 => ?_⟩
 have hBb3 := hb3.1
 have hlt_b2_b3 : b2 < b3 := hb3.2 1000002 _ _ _ rfl
 refine TL ?_
 refine RA rfl ?_
 refine RN ?_
 refine GS ?_
 refine TL ?_
 refine RS (ok_field field31_0 (by decide) rfl) ?_
 refine RS (ok_loadP (s := 1000002) (by decide) Try.underlying23 rfl size23 rfl rfl (us_fit hu) (us_key hu)) ?_
 refine RS (ok_field field31_0 (by decide) rfl) ?_
 refine RS (ok_loadP (s := 1000003) (by decide) Try.underlying23 rfl size23 rfl rfl (us_fit hv) (us_key hv)) ?_
 refine RS (ok_eqlT (n := 17) (decide (u.key = v.key)) flatK (by decide) (by kernel_rfl) (by kernel_rfl) rfl rfl (kinY hu.1) (kinY hv.1) (decY _ _)) ?_; refine RZ (.bool false) (by simp [h]) ?_
 refine RM rfl ?_
 refine RK ?_
 refine RK ?_
 refine RK ?_
 refine RK ?_
 refine RK ?_
 refine RP rfl rfl ?_; refine RZ (.bool (clB u v)) (by simp [clB, h]) ?_
 refine RA rfl ?_
 refine RN ?_
 refine A.ret ?_
 exact End.ret1 rfl rfl (by first | exact Le.refl _ | exact Le.old _ _)
theorem clash_B (u v : Us) (hu : u.Fit) (hv : v.Fit) (h : u.key = v.key) : Fn Try.prog 38 [.v (aggV (usV u)), .v (aggV (usV v))] (.v (.bool (clB u v))) := by
 refine Fn.of Try.func38 rfl (by kernel_rfl) Try.ntmps38 (by simp) (fun w => [(0, .v (aggV (usV u))), (1, .v (aggV (usV v)))]) (fun w => (Start.v rfl (Start.v rfl Start.nil))) fun w₀ => ?_
 refine GS ?_
 refine TN 0 ?_
 refine RN ?_
 refine ⟨_, _, eff_box (n := 17) (d := 2) (k := 1000002) rfl (by decide), fun b2 hb2 => ?_⟩
 have hBb2 := hb2.1
 refine TN 1 ?_
 refine RN ?_
 refine ⟨_, _, eff_box (n := 17) (d := 3) (k := 1000003) rfl (by decide), fun b3 hb3 => ?_⟩
 have hBb3 := hb3.1
 have hlt_b2_b3 : b2 < b3 := hb3.2 1000002 _ _ _ rfl
 refine TL ?_
 refine RA rfl ?_
 refine RN ?_
 refine GS ?_
 refine TL ?_
 refine RS (ok_field field31_0 (by decide) rfl) ?_
 refine RS (ok_loadP (s := 1000002) (by decide) Try.underlying23 rfl size23 rfl rfl (us_fit hu) (us_key hu)) ?_
 refine RS (ok_field field31_0 (by decide) rfl) ?_
 refine RS (ok_loadP (s := 1000003) (by decide) Try.underlying23 rfl size23 rfl rfl (us_fit hv) (us_key hv)) ?_
 refine RS (ok_eqlT (n := 17) (decide (u.key = v.key)) flatK (by decide) (by kernel_rfl) (by kernel_rfl) rfl rfl (kinY hu.1) (kinY hv.1) (decY _ _)) ?_; refine RZ (.bool true) (by simp [h]) ?_
 refine RM rfl ?_
 refine RQ (ok_field field31_1 (by decide) rfl) ?_
 refine RQ (ok_loadP (s := 1000002) (by decide) Try.underlying29 rfl size29 rfl rfl (us_fit hu) (us_rng hu)) ?_
 refine RQ (ok_field field31_1 (by decide) rfl) ?_
 refine RQ (ok_loadP (s := 1000003) (by decide) Try.underlying29 rfl size29 rfl rfl (us_fit hv) (us_rng hv)) ?_
 refine RQ (ok_call (Overlap_fn u.s u.c u.f u.l v.s v.c v.f v.l) (A2 rfl rfl)) ?_
 refine RP rfl rfl ?_; refine RZ (.bool (clB u v)) (by simp [clB, h]) ?_
 refine RA rfl ?_
 refine RN ?_
 refine A.ret ?_
 exact End.ret1 rfl rfl (by first | exact Le.refl _ | exact Le.old _ _)
theorem clash_fn (u v : Us) (hu : u.Fit) (hv : v.Fit) : Fn Try.prog 38 [.v (aggV (usV u)), .v (aggV (usV v))] (.v (.bool (clB u v))) := by
 by_cases h : u.key = v.key
 ·exact clash_B u v hu hv h
 ·exact clash_A u v hu hv h
end Go.Proofs.Ythhmimnkfklhdaa
namespace Go.Proofs.Ythhmimnkfklhdaa
open Go Go.RowKit
set_option linter.unusedVariables false
set_option maxRecDepth 20000
def chkU (us : List Us) : Int := if 65536 < us.length then 3 else if us.all Us.ok then 0 else 1
def cntU (us : List Us) (k : List UInt8) : Nat := us.countP fun u => decide (u.key = k)
theorem infoE : InfoP Try.prog 36 (.int .i64 0) 1 8 := by unfold InfoP; kernel_rfl
theorem or_next {a b : Int} {i : Nat} (hi : i < 2) (h : i ≤ 2 ∧ (0 < i → a = 0) ∧ (1 < i → b = 0)) (hz : (if i = 0 then a else b) = 0) : i + 1 ≤ 2 ∧ (0 < i + 1 → a = 0) ∧ (1 < i + 1 → b = 0) := by
 rcases (show i = 0 ∨ i = 1 by omega) with rfl | rfl <;> simp_all
theorem or_ret {a b : Int} {i : Nat} (hi : i < 2) (h : i ≤ 2 ∧ (0 < i → a = 0) ∧ (1 < i → b = 0)) (hz : (if i = 0 then a else b) ≠ 0) : (if i = 0 then a else b) = if a ≠ 0 then a else b := by
 rcases (show i = 0 ∨ i = 1 by omega) with rfl | rfl <;> simp_all
theorem or_end {a b : Int} {i : Nat} (h : i ≤ 2 ∧ (0 < i → a = 0) ∧ (1 < i → b = 0)) (hi : i = 2) : 0 = if a ≠ 0 then a else b := by
 subst hi; simp_all
theorem chk_next {us : List Us} {i : Nat} (hi : i < us.length) (h : i ≤ us.length ∧ ∀ x ∈ us.take i, Us.ok x = true) (hz : us[i].ok = true) : i + 1 ≤ us.length ∧ ∀ x ∈ us.take (i + 1), Us.ok x = true := by
 refine ⟨by omega, fun x hx => ?_⟩
 rw [List.take_succ_eq_append_getElem hi] at hx
 rcases List.mem_append.1 hx with h1 | h1
 ·exact h.2 x h1
 ·rw [List.mem_singleton.1 h1]; exact hz
theorem mergeFit {us vs : List Us} (hf : Fits us) (hg : Fits vs) (z : Array Value) : (if us.length + vs.length = us.length then 0 else us.length * 20) + vs.length * 20 ≤ (List.take 0 (madeCells z ((us.length + vs.length) * 20)).toList ++ usR us ++ List.drop (0 + us.length * 20) (madeCells z ((us.length + vs.length) * 20)).toList).length := by
 simp only [List.length_append, List.length_drop, List.length_take, Array.length_toList, size_madeCells, usR_length hf]
 split <;> omega
theorem mergeRow {us vs : List Us} (hf : Fits us) (hg : Fits vs) (z : Array Value) {xs : List Value} (hx : xs = List.take 0 (madeCells z ((us.length + vs.length) * 20)).toList ++ usR us ++ List.drop (0 + us.length * 20) (madeCells z ((us.length + vs.length) * 20)).toList) :
  xs.take (if us.length + vs.length = us.length then 0 else us.length * 20) ++ usR vs ++ xs.drop ((if us.length + vs.length = us.length then 0 else us.length * 20) + vs.length * 20) = usR (us ++ vs) := by
 have hl : xs.length = (us.length + vs.length) * 20 := by
  rw [hx]; simp only [List.length_append, List.length_drop, List.length_take, Array.length_toList, size_madeCells, usR_length hf]; omega
 have hd : List.drop (0 + us.length * 20) (madeCells z ((us.length + vs.length) * 20)).toList = (madeCells z ((us.length + vs.length) * 20)).toList.drop (us.length * 20) := by rw [Nat.zero_add]
 rw [usR_append]
 by_cases h : vs.length = 0
 ·have hv : vs = [] := List.length_eq_zero_iff.1 h
  subst hv
  rw [if_pos (by simp)]
  have h0 : (madeCells z ((us.length + 0) * 20)).toList.drop (us.length * 20) = [] := List.drop_of_length_le (by simp [size_madeCells])
  simp only [List.length_nil] at hx
  rw [hx]
  simp [usR, size_madeCells]
 ·rw [if_neg (by omega), List.drop_of_length_le (by rw [hl]; omega), List.append_nil, hx]
  simp only [List.take_zero, List.nil_append]
  rw [List.take_append_of_le_length (by rw [usR_length hf]; omega), List.take_of_length_le (by rw [usR_length hf]; omega)]
theorem buildL (A₀ : Option Addr) (m c : Nat) : Try.prog.built 35 [(0, .slice A₀ m c)] = some ([.slice A₀ m c] : List Value).toArray := by kernel_rfl

theorem Or_fn (a b : Int) : Fn Try.prog 26 [rowD 2 [.int .i64 a, .int .i64 b]] (.v (.int .i64 (if a ≠ 0 then a else b))) := by
 refine Fn.of Try.func26 rfl (by kernel_rfl) Try.ntmps26 (by simp) (fun w => [(0, old w.heap.size (rowD 2 [.int .i64 a, .int .i64 b]))]) (fun w => (Start.old rfl Start.nil)) fun w₀ => ?_
 refine A.nameR (t := 0) (k := 1000200) rfl fun A₀ q₀ => ?_
 refine GS ?_
 refine TL ?_
 refine RA rfl ?_
 refine RN ?_
 refine GS ?_
 refine TL ?_
 refine RA rfl ?_
 refine RN ?_
 refine A.seq ?_
 refine GS ?_
 refine TL ?_
 refine RM rfl ?_
 refine RS (ok_lenV Try.underlying101 rfl) ?_
 refine RM rfl ?_
 refine RN ?_
 refine A.block ?_
 refine A.loop (ι := Nat) (fun i => i ≤ 2 ∧ (0 < i → a = 0) ∧ (1 < i → b = 0)) (fun i => [(3, .v (.int .i64 0)), (1000200, old w₀.heap.size (memR A₀ [.int .i64 a, .int .i64 b])), (6, .v (.slice A₀ 2 q₀)), (7, .v (.int .i64 2)), (8, .v (nI i))]) (fun i => 2 - i) 0 ?_ ?_ ?_
 ·exact ⟨Nat.zero_le _, fun h => absurd h (by omega), fun h => absurd h (by omega)⟩
 ·exact (KC 3 rfl (KC 1000200 rfl (KC 6 rfl (KE 7 rfl (by rfl) (KE 8 rfl (by rfl) KN)))))
 intro i hi'
 refine GS ?_
 refine TL ?_
 refine RB rfl rfl rfl ?_
 refine RN ?_
 refine A.seq ?_
 refine A.cond rfl (fun hc9 => ?_) (fun hc9 => ?_)
 ·have hi : i < 2 := by have h := hc9; simp at h; omega
  refine A.skip ?_
  refine EN ?_
  refine A.seq ?_
  refine A.block ?_
  refine GS ?_
  refine TL ?_
  refine RS (ok_indexR (s := 1000200) i Try.underlying101 infoE rfl rfl (by decide) rfl hi (by simp; omega)) ?_
  refine RS (ok_loadP1 (u := .int .i64 (if i = 0 then a else b)) (us := []) Try.underlying36 rfl (by rcases (show i = 0 ∨ i = 1 by omega) with rfl | rfl <;> rfl)) ?_
  refine RA rfl ?_
  refine RN ?_
  refine GS ?_
  refine TL ?_
  refine RM rfl ?_
  refine RM rfl ?_
  refine RBS rfl rfl rfl (.bool ((if i = 0 then a else b) != 0)) (rfl) ?_
  refine RN ?_
  refine A.cond rfl (fun hc14 => ?_) (fun hc14 => ?_)
  ·have hz : (if i = 0 then a else b) ≠ 0 := by simpa using hc14
   refine GS ?_
   refine TL ?_
   refine RM rfl ?_
   refine RA rfl ?_
   refine RN ?_
   refine A.ret ?_
   refine End.ret_block ?_
   refine End.ret_then ?_
   refine End.ret_then ?_
   refine End.ret_block ?_
   refine End.ret_then ?_
   first | exact End.ret1 rfl rfl (Le.v (congrArg (Value.int .i64) (or_ret hi hi' hz))) | exact End.ret1 rfl rfl (Le.v (congrArg (Value.int .i64) (or_end hi' hi2)))
  ·have hz : (if i = 0 then a else b) = 0 := by simpa using hc14
   refine A.skip ?_
   refine End.normal_block ?_
   refine EN ?_
   refine GE ?_
   refine TL ?_
   refine RBS rfl rfl rfl (nI (i + 1)) (by rw [wrap_i64 (by omega) (by omega)]; rfl) ?_
   refine RM rfl ?_
   refine RN ?_
   refine End.normal_then ?_
   refine End.again (i + 1) ?_ ?_ ?_
   ·exact or_next hi hi' hz
   ·show _ - _ < _ - _; omega
   ·exact (KC 3 rfl (KC 1000200 rfl (KC 6 rfl (KC 7 rfl (KC 8 rfl KN)))))
 ·have hi2 : i = 2 := by have h := hi'.1; simp at hc9; omega
  refine A.exit ?_
  refine End.exit_then ?_
  refine End.exit_then ?_
  refine End.exit_here ?_
  refine EN ?_
  refine GS ?_
  refine TL ?_
  refine RM rfl ?_
  refine RA rfl ?_
  refine RN ?_
  refine A.ret ?_
  first | exact End.ret1 rfl rfl (Le.v (congrArg (Value.int .i64) (or_ret hi hi' hz))) | exact End.ret1 rfl rfl (Le.v (congrArg (Value.int .i64) (or_end hi' hi2)))
theorem Check_big (us : List Us) (hf : Fits us) (hn : us.length ≤ 1099511627776) (h : 65536 < us.length) : Fn Try.prog 16 [hdD (rowD us.length (usR us)) []] (.v (.int .i64 3)) := by
 refine Fn.of Try.func16 rfl (by kernel_rfl) Try.ntmps16 (by simp) (fun w => [(0, old w.heap.size (hdD (rowD us.length (usR us)) []))]) (fun w => (Start.old rfl Start.nil)) fun w₀ => ?_
 refine A.nameHdR (t := 0) (k := 1000200) rfl fun A₀ q₀ => ?_
 refine GS ?_
 refine TN 0 ?_
 refine RN ?_
 refine ⟨_, _, eff_box (n := 21) (d := 1) (k := 1000001) rfl (by decide), fun b1 hb1 => ?_⟩
 have hBb1 := hb1.1
 refine TL ?_
 refine RA rfl ?_
 refine RN ?_
 refine A.seq ?_
 refine GS ?_
 refine TL ?_
 refine RS (ok_field field35_0 (by decide) rfl) ?_
 refine RS (ok_loadV (s := 1000001) (by decide) Try.underlying22 rfl rfl rfl (rfl)) ?_
 refine RS (ok_lenV Try.underlying22 rfl) ?_
 refine RBS rfl rfl rfl (.bool true) (by simp; omega) ?_
 refine RN ?_
 refine A.yes rfl ?_
 refine GS ?_
 refine TL ?_
 refine RA rfl ?_
 refine RN ?_
 refine A.ret ?_
 refine End.ret_then ?_
 exact End.ret1 rfl rfl (by first | exact Le.refl _ | exact Le.old _ _)
theorem Check_low (us : List Us) (hf : Fits us) (hn : us.length ≤ 1099511627776) (h : us.length ≤ 65536) : Fn Try.prog 16 [hdD (rowD us.length (usR us)) []] (.v (.int .i64 (if us.all Us.ok then 0 else 1))) := by
 refine Fn.of Try.func16 rfl (by kernel_rfl) Try.ntmps16 (by simp) (fun w => [(0, old w.heap.size (hdD (rowD us.length (usR us)) []))]) (fun w => (Start.old rfl Start.nil)) fun w₀ => ?_
 refine A.nameHdR (t := 0) (k := 1000200) rfl fun A₀ q₀ => ?_
 refine GS ?_
 refine TN 0 ?_
 refine RN ?_
 refine ⟨_, _, eff_box (n := 21) (d := 1) (k := 1000001) rfl (by decide), fun b1 hb1 => ?_⟩
 have hBb1 := hb1.1
 refine TL ?_
 refine RA rfl ?_
 refine RN ?_
 refine A.seq ?_
 refine GS ?_
 refine TL ?_
 refine RS (ok_field field35_0 (by decide) rfl) ?_
 refine RS (ok_loadV (s := 1000001) (by decide) Try.underlying22 rfl rfl rfl (rfl)) ?_
 refine RS (ok_lenV Try.underlying22 rfl) ?_
 refine RBS rfl rfl rfl (.bool false) (by simp; omega) ?_
 refine RN ?_
 refine A.no rfl ?_
 refine A.skip ?_
 refine EN ?_
 refine A.seq ?_
 refine GS ?_
 refine TL ?_
 refine RS (ok_field field35_0 (by decide) rfl) ?_
 refine RS (ok_loadV (s := 1000001) (by decide) Try.underlying22 rfl rfl rfl (rfl)) ?_
 refine RS (ok_lenV Try.underlying22 rfl) ?_
 refine RM rfl ?_
 refine RN ?_
 refine A.block ?_
 refine A.loop (ι := Nat) (fun i => i ≤ us.length ∧ ∀ x ∈ us.take i, Us.ok x = true) (fun i => [(1000200, old w₀.heap.size (memR A₀ (usR us))), (10, .v (.slice A₀ us.length q₀)), (11, .v (nI (us.length))), (12, .v (nI i))]) (fun i => us.length - i) 0 ?_ ?_ ?_
 ·exact ⟨Nat.zero_le _, fun x hx => by simp at hx⟩
 ·exact (KC 1000200 rfl (KC 10 rfl (KC 11 rfl (KE 12 rfl (by rfl) KN))))
 intro i hi'
 refine GS ?_
 refine TL ?_
 refine RB rfl rfl rfl ?_
 refine RN ?_
 refine A.seq ?_
 refine A.cond rfl (fun hc13 => ?_) (fun hc13 => ?_)
 ·have hi : i < us.length := by simpa using hc13
  refine A.skip ?_
  refine EN ?_
  refine A.seq ?_
  refine A.block ?_
  refine GS ?_
  refine TN 2 ?_
  refine RS (ok_indexR (s := 1000200) i Try.underlying22 infoU rfl rfl (by decide) rfl hi (usR_lt hf hi)) ?_
  refine RS (ok_loadElemP Try.underlying31 rfl (size31.of (by rw [usR_at hf hi, usV_length (hf.get hi)])) rfl) ?_; refine RZ (aggV (usV us[i])) (congrArg aggV (usR_at hf hi)) ?_
  refine RN ?_
  refine ⟨_, _, eff_alloc (n := 21) (d := 4) (k := 1000004) zero31 (by decide), fun b4 hb4 => ?_⟩
  have hBb4 := hb4.1
  refine TF 3 ?_
  refine RN ?_
  refine ⟨_, eff_storeA (n := 21) (s := 1000004) (size31.of (usV_length (hf.get hi))) rfl rfl (usV_one _) hBb4 rfl (by rw [usV_length (hf.get hi)]; rfl) (LV 4 rfl (LV 10 rfl (LV 11 rfl (LV 12 rfl (LO 1000200 rfl LN))))), ?_⟩
  refine TL ?_
  refine RN ?_
  refine GS ?_
  refine TL ?_
  refine RS (ok_field field31_1 (by decide) rfl) ?_
  refine RS (ok_loadP (s := 1000004) (by decide) Try.underlying29 rfl size29 rfl rfl (us_fit (hf.get hi)) (us_rng (hf.get hi))) ?_
  refine RS (ok_call (valid_fn us[i].s us[i].c us[i].f us[i].l) (A1 rfl)) ?_; refine RZ (.bool us[i].ok) (rfl) ?_
  refine RS (ok_not rfl) ?_; refine RZ (.bool (!us[i].ok)) (rfl) ?_
  refine RN ?_
  refine A.cond rfl (fun hc19 => ?_) (fun hc19 => ?_)
  ·refine GS ?_
   refine TL ?_
   refine RA rfl ?_
   refine RN ?_
   refine A.ret ?_
   refine End.ret_block ?_
   refine End.ret_then ?_
   refine End.ret_then ?_
   refine End.ret_block ?_
   refine End.ret_then ?_
   first | exact End.ret1 rfl rfl (Le.v (congrArg (Value.int .i64) (if_neg (fun h => by have := List.all_eq_true.1 h _ (List.getElem_mem hi); rw [this] at hc19; cases hc19)).symm)) | exact End.ret1 rfl rfl (Le.v (congrArg (Value.int .i64) (if_pos (List.all_eq_true.2 fun x hx => hi'.2 x (by rw [hi2, List.take_of_length_le (Nat.le_refl _)]; exact hx))).symm))
  ·refine A.skip ?_
   refine End.normal_block ?_
   refine EN ?_
   refine GE ?_
   refine TL ?_
   refine RBS rfl rfl rfl (nI (i + 1)) (by rw [wrap_i64 (by omega) (by omega)]; rfl) ?_
   refine RM rfl ?_
   refine RN ?_
   refine End.normal_then ?_
   refine End.again (i + 1) ?_ ?_ ?_
   ·exact chk_next hi hi' (by simpa using hc19)
   ·show _ - _ < _ - _; omega
   ·exact (KC 1000200 rfl (KC 10 rfl (KC 11 rfl (KC 12 rfl KN))))
 ·have hi2 : i = us.length := by have h := hi'.1; simp at hc13; omega
  refine A.exit ?_
  refine End.exit_then ?_
  refine End.exit_then ?_
  refine End.exit_here ?_
  refine EN ?_
  refine GS ?_
  refine TL ?_
  refine RA rfl ?_
  refine RN ?_
  refine A.ret ?_
  first | exact End.ret1 rfl rfl (Le.v (congrArg (Value.int .i64) (if_neg (fun h => by have := List.all_eq_true.1 h _ (List.getElem_mem hi); rw [this] at hc19; cases hc19)).symm)) | exact End.ret1 rfl rfl (Le.v (congrArg (Value.int .i64) (if_pos (List.all_eq_true.2 fun x hx => hi'.2 x (by rw [hi2, List.take_of_length_le (Nat.le_refl _)]; exact hx))).symm))
theorem Check_fn (us : List Us) (hf : Fits us) (hn : us.length ≤ 1099511627776) : Fn Try.prog 16 [hdD (rowD us.length (usR us)) []] (.v (.int .i64 (chkU us))) := by
 unfold chkU
 by_cases h : 65536 < us.length
 ·rw [if_pos h]; exact Check_big us hf hn h
 ·rw [if_neg h]; exact Check_low us hf hn (by omega)
theorem cntU_le (us : List Us) (k : List UInt8) : cntU us k ≤ us.length := List.countP_le_length
theorem cntU_yes {us : List Us} {k : List UInt8} {i : Nat} (hi : i < us.length) (h : us[i].key = k) : cntU (us.take (i + 1)) k = cntU (us.take i) k + 1 := by
 unfold cntU; rw [List.take_succ_eq_append_getElem hi, List.countP_append]; simp [h]
theorem cntU_no {us : List Us} {k : List UInt8} {i : Nat} (hi : i < us.length) (h : ¬ us[i].key = k) : cntU (us.take (i + 1)) k = cntU (us.take i) k := by
 unfold cntU; rw [List.take_succ_eq_append_getElem hi, List.countP_append]; simp [h]
theorem Count_fn (us : List Us) (hf : Fits us) (hn : us.length ≤ 1099511627776) (k : List UInt8) (hk : k.length = 16) : Fn Try.prog 21 [hdD (rowD us.length (usR us)) [], .v (aggV (k.map byteV))] (.v (nI (cntU us k))) := by
 refine Fn.of Try.func21 rfl (by kernel_rfl) Try.ntmps21 (by simp) (fun w => [(0, old w.heap.size (hdD (rowD us.length (usR us)) [])), (1, .v (aggV (k.map byteV)))]) (fun w => (Start.old rfl (Start.v rfl Start.nil))) fun w₀ => ?_
 refine A.nameHdR (t := 0) (k := 1000200) rfl fun A₀ q₀ => ?_
 refine GS ?_
 refine TN 0 ?_
 refine RN ?_
 refine ⟨_, _, eff_box (n := 23) (d := 2) (k := 1000002) rfl (by decide), fun b2 hb2 => ?_⟩
 have hBb2 := hb2.1
 refine TN 1 ?_
 refine RN ?_
 refine ⟨_, _, eff_box (n := 23) (d := 3) (k := 1000003) rfl (by decide), fun b3 hb3 => ?_⟩
 have hBb3 := hb3.1
 refine TL ?_
 refine RA rfl ?_
 refine RN ?_
 refine GS ?_
 refine TL ?_
 refine RA rfl ?_
 refine RN ?_
 refine A.seq ?_
 refine GS ?_
 refine TL ?_
 refine RS (ok_field field35_0 (by decide) rfl) ?_
 refine RS (ok_loadV (s := 1000002) (by decide) Try.underlying22 rfl rfl rfl (rfl)) ?_
 refine RS (ok_lenV Try.underlying22 rfl) ?_
 refine RM rfl ?_
 refine RN ?_
 refine A.block ?_
 refine A.loop (ι := Nat) (fun i => i ≤ us.length) (fun i => [(1000200, old w₀.heap.size (memR A₀ (usR us))), (9, .v (.slice A₀ us.length q₀)), (10, .v (nI (us.length))), (11, .v (nI i)), (3, .v (.pointer (some ⟨b3, 0, none⟩))), (1000003, blk b3 23 (k.map byteV)), (5, .v (nI (cntU (us.take i) k)))]) (fun i => us.length - i) 0 ?_ ?_ ?_
 ·exact Nat.zero_le _
 ·exact (KC 1000200 rfl (KC 9 rfl (KC 10 rfl (KE 11 rfl (by rfl) (KC 3 rfl (KC 1000003 rfl (KE 5 rfl (by rfl) KN)))))))
 intro i hi'
 refine GS ?_
 refine TL ?_
 refine RB rfl rfl rfl ?_
 refine RN ?_
 refine A.seq ?_
 refine A.cond rfl (fun hc12 => ?_) (fun hc12 => ?_)
 ·have hi : i < us.length := by simpa using hc12
  refine A.skip ?_
  refine EN ?_
  refine A.seq ?_
  refine A.block ?_
  refine GS ?_
  refine TN 2 ?_
  refine RS (ok_indexR (s := 1000200) i Try.underlying22 infoU rfl rfl (by decide) rfl hi (usR_lt hf hi)) ?_
  refine RS (ok_loadElemP Try.underlying31 rfl (size31.of (by rw [usR_at hf hi, usV_length (hf.get hi)])) rfl) ?_; refine RZ (aggV (usV us[i])) (congrArg aggV (usR_at hf hi)) ?_
  refine RN ?_
  refine ⟨_, _, eff_alloc (n := 23) (d := 7) (k := 1000007) zero31 (by decide), fun b7 hb7 => ?_⟩
  have hBb7 := hb7.1
  refine TF 3 ?_
  refine RN ?_
  refine ⟨_, eff_storeA (n := 23) (s := 1000007) (size31.of (usV_length (hf.get hi))) rfl rfl (usV_one _) hBb7 rfl (by rw [usV_length (hf.get hi)]; rfl) (LV 3 rfl (LV 5 rfl (LV 7 rfl (LV 9 rfl (LV 10 rfl (LV 11 rfl (LT 1000003 rfl (LO 1000200 rfl LN)))))))), ?_⟩
  refine TL ?_
  refine RN ?_
  refine GS ?_
  refine TL ?_
  refine RS (ok_field field31_0 (by decide) rfl) ?_
  refine RS (ok_loadP (s := 1000007) (by decide) Try.underlying23 rfl size23 rfl rfl (us_fit (hf.get hi)) (us_key (hf.get hi))) ?_
  refine RS (ok_loadA (s := 1000003) (by decide) Try.underlying23 rfl (size23.of (by rw [List.length_map, hk])) rfl rfl) ?_
  refine RS (ok_eqlT (n := 17) (decide (us[i].key = k)) flatK (by decide) (by kernel_rfl) (by kernel_rfl) rfl rfl (kinY (hf.get hi).1) (kinY hk) (decY _ _)) ?_; refine RZ (.bool (decide (us[i].key = k))) (rfl) ?_
  refine RN ?_
  refine A.cond rfl (fun hc18 => ?_) (fun hc18 => ?_)
  ·refine GE ?_
   refine TL ?_
   refine RM rfl ?_
   refine RBS rfl rfl rfl (nI (cntU (us.take i) k + 1)) (by rw [wrap_i64 (by omega) (by have := cntU_le (us.take i) k; simp only [List.length_take] at this; omega)]; rfl) ?_
   refine RA rfl ?_
   refine RN ?_
   refine End.normal_block ?_
   refine EN ?_
   refine GE ?_
   refine TL ?_
   refine RBS rfl rfl rfl (nI (i + 1)) (by rw [wrap_i64 (by omega) (by omega)]; rfl) ?_
   refine RM rfl ?_
   refine RN ?_
   refine End.normal_then ?_
   refine End.again (i + 1) ?_ ?_ ?_
   ·show _ ≤ _; omega
   ·show _ - _ < _ - _; omega
   ·exact (KC 1000200 rfl (KC 9 rfl (KC 10 rfl (KC 11 rfl (KC 3 rfl (KC 1000003 rfl (KE 5 rfl (by first | rw [cntU_yes hi (by simpa using hc18)] | rw [cntU_no hi (by simpa using hc18)]) KN)))))))
  ·refine A.skip ?_
   refine End.normal_block ?_
   refine EN ?_
   refine GE ?_
   refine TL ?_
   refine RBS rfl rfl rfl (nI (i + 1)) (by rw [wrap_i64 (by omega) (by omega)]; rfl) ?_
   refine RM rfl ?_
   refine RN ?_
   refine End.normal_then ?_
   refine End.again (i + 1) ?_ ?_ ?_
   ·show _ ≤ _; omega
   ·show _ - _ < _ - _; omega
   ·exact (KC 1000200 rfl (KC 9 rfl (KC 10 rfl (KC 11 rfl (KC 3 rfl (KC 1000003 rfl (KE 5 rfl (by first | rw [cntU_yes hi (by simpa using hc18)] | rw [cntU_no hi (by simpa using hc18)]) KN)))))))
 ·have hi2 : i = us.length := by have h := hi'; simp at hc12; omega
  refine A.exit ?_
  refine End.exit_then ?_
  refine End.exit_then ?_
  refine End.exit_here ?_
  refine EN ?_
  refine GS ?_
  refine TL ?_
  refine RM rfl ?_
  refine RA rfl ?_
  refine RN ?_
  refine A.ret ?_
  exact End.ret1 rfl rfl (Le.v (by rw [hi2, List.take_of_length_le (Nat.le_refl _)]))
theorem Merge_bad (us vs : List Us) (hf : Fits us) (hg : Fits vs) (hn : us.length ≤ 1099511627776) (hm : vs.length ≤ 1099511627776) (h : (if chkU us ≠ 0 then chkU us else chkU vs) ≠ 0) : Fn Try.prog 13 [hdD (rowD us.length (usR us)) [], hdD (rowD vs.length (usR vs)) []] (.v (.tuple #[aggV [.slice none 0 0], .int .i64 (if chkU us ≠ 0 then chkU us else chkU vs)])) := by
 refine Fn.of Try.func13 rfl (by kernel_rfl) Try.ntmps13 (by simp) (fun w => [(0, old w.heap.size (hdD (rowD us.length (usR us)) [])), (1, old w.heap.size (hdD (rowD vs.length (usR vs)) []))]) (fun w => (Start.old rfl (Start.old rfl Start.nil))) fun w₀ => ?_
 refine A.nameHdR (t := 0) (k := 1000200) rfl fun A₀ q₀ => ?_
 refine A.nameHdR (t := 1) (k := 1000201) rfl fun A₁ q₁ => ?_
 refine GS ?_
 refine TN 0 ?_
 refine RN ?_
 refine ⟨_, _, eff_box (n := 44) (d := 2) (k := 1000002) rfl (by decide), fun b2 hb2 => ?_⟩
 have hBb2 := hb2.1
 refine TN 1 ?_
 refine RN ?_
 refine ⟨_, _, eff_box (n := 44) (d := 3) (k := 1000003) rfl (by decide), fun b3 hb3 => ?_⟩
 have hBb3 := hb3.1
 have hlt_b2_b3 : b2 < b3 := hb3.2 1000002 _ _ _ rfl
 refine TN 2 ?_
 refine RN ?_
 refine ⟨_, _, eff_alloc (n := 44) (d := 4) (k := 1000004) zero35 (by decide), fun b4 hb4 => ?_⟩
 have hBb4 := hb4.1
 have hlt_b2_b4 : b2 < b4 := hb4.2 1000002 _ _ _ rfl
 have hlt_b3_b4 : b3 < b4 := hb4.2 1000003 _ _ _ rfl
 refine TL ?_
 refine RA rfl ?_
 refine RN ?_
 refine A.seq ?_
 refine GD ?_
 refine TL ?_
 refine RS (OpOk.hdRow (ok_loadA (s := 1000002) (by decide) Try.underlying35 rfl (size35.of (rfl)) rfl rfl) (k := 1000200) (by decide) rfl) ?_
 refine RS (ok_call (Check_fn us hf hn) (Args.cons rfl (Le.old _ _) Args.nil)) ?_
 refine RS (OpOk.hdRow (ok_loadA (s := 1000003) (by decide) Try.underlying35 rfl (size35.of (rfl)) rfl rfl) (k := 1000201) (by decide) rfl) ?_
 refine RS (ok_call (Check_fn vs hg hm) (Args.cons rfl (Le.old _ _) Args.nil)) ?_
 refine RS (OpOk.le (ok_buildF (m := 2) [.int .i64 (chkU us), .int .i64 (chkU vs)] Try.underlying101 info36 rfl (by decide) (by decide) rfl ⟨rfl, rfl, rfl, rfl, trivial⟩ rfl) fresh_rowD) ?_
 refine RS (ok_call (Or_fn (chkU us) (chkU vs)) (A1 rfl)) ?_
 refine RA rfl ?_
 refine RN ?_
 refine GS ?_
 refine TL ?_
 refine RM rfl ?_
 refine RBS rfl rfl rfl (.bool true) (by simpa using h) ?_
 refine RN ?_
 refine A.yes rfl ?_
 refine GS ?_
 refine TF 2 ?_
 refine RS (ok_lit [] [.slice none 0 0] (fun _ _ => rfl) (by kernel_rfl)) ?_
 refine RM rfl ?_
 refine RN ?_
 refine ⟨_, eff_storeA (n := 44) (s := 1000004) (size35.of (rfl)) rfl rfl (rfl) hBb4 rfl (rfl) (LV 4 rfl (LV 19 rfl (LB 1000002 rfl (LB 1000003 rfl (LO 1000200 rfl (LO 1000201 rfl LN)))))), ?_⟩
 refine TL ?_
 refine RA rfl ?_
 refine RN ?_
 refine A.ret ?_
 refine End.ret_then ?_
 exact End.cellV (s := 1000004) rfl Try.underlying35 rfl (size35.of rfl) rfl rfl rfl
theorem Merge_big (us vs : List Us) (hf : Fits us) (hg : Fits vs) (hn : us.length ≤ 1099511627776) (hm : vs.length ≤ 1099511627776) (h : chkU us = 0) (h' : chkU vs = 0) (h2 : 65536 < us.length + vs.length) : Fn Try.prog 13 [hdD (rowD us.length (usR us)) [], hdD (rowD vs.length (usR vs)) []] (.v (.tuple #[aggV [.slice none 0 0], .int .i64 3])) := by
 refine Fn.of Try.func13 rfl (by kernel_rfl) Try.ntmps13 (by simp) (fun w => [(0, old w.heap.size (hdD (rowD us.length (usR us)) [])), (1, old w.heap.size (hdD (rowD vs.length (usR vs)) []))]) (fun w => (Start.old rfl (Start.old rfl Start.nil))) fun w₀ => ?_
 refine A.nameHdR (t := 0) (k := 1000200) rfl fun A₀ q₀ => ?_
 refine A.nameHdR (t := 1) (k := 1000201) rfl fun A₁ q₁ => ?_
 refine GS ?_
 refine TN 0 ?_
 refine RN ?_
 refine ⟨_, _, eff_box (n := 44) (d := 2) (k := 1000002) rfl (by decide), fun b2 hb2 => ?_⟩
 have hBb2 := hb2.1
 refine TN 1 ?_
 refine RN ?_
 refine ⟨_, _, eff_box (n := 44) (d := 3) (k := 1000003) rfl (by decide), fun b3 hb3 => ?_⟩
 have hBb3 := hb3.1
 have hlt_b2_b3 : b2 < b3 := hb3.2 1000002 _ _ _ rfl
 refine TN 2 ?_
 refine RN ?_
 refine ⟨_, _, eff_alloc (n := 44) (d := 4) (k := 1000004) zero35 (by decide), fun b4 hb4 => ?_⟩
 have hBb4 := hb4.1
 have hlt_b2_b4 : b2 < b4 := hb4.2 1000002 _ _ _ rfl
 have hlt_b3_b4 : b3 < b4 := hb4.2 1000003 _ _ _ rfl
 refine TL ?_
 refine RA rfl ?_
 refine RN ?_
 refine A.seq ?_
 refine GD ?_
 refine TL ?_
 refine RS (OpOk.hdRow (ok_loadA (s := 1000002) (by decide) Try.underlying35 rfl (size35.of (rfl)) rfl rfl) (k := 1000200) (by decide) rfl) ?_
 refine RS (ok_call (Check_fn us hf hn) (Args.cons rfl (Le.old _ _) Args.nil)) ?_
 refine RS (OpOk.hdRow (ok_loadA (s := 1000003) (by decide) Try.underlying35 rfl (size35.of (rfl)) rfl rfl) (k := 1000201) (by decide) rfl) ?_
 refine RS (ok_call (Check_fn vs hg hm) (Args.cons rfl (Le.old _ _) Args.nil)) ?_
 refine RS (OpOk.le (ok_buildF (m := 2) [.int .i64 (chkU us), .int .i64 (chkU vs)] Try.underlying101 info36 rfl (by decide) (by decide) rfl ⟨rfl, rfl, rfl, rfl, trivial⟩ rfl) fresh_rowD) ?_
 refine RS (ok_call (Or_fn (chkU us) (chkU vs)) (A1 rfl)) ?_
 refine RA rfl ?_
 refine RN ?_
 refine GS ?_
 refine TL ?_
 refine RM rfl ?_
 refine RBS rfl rfl rfl (.bool false) (by simp [h, h']) ?_
 refine RN ?_
 refine A.no rfl ?_
 refine A.skip ?_
 refine EN ?_
 refine GS ?_
 refine TL ?_
 refine RS (ok_field field35_0 (by decide) rfl) ?_
 refine RS (ok_loadV (s := 1000002) (by decide) Try.underlying22 rfl rfl rfl (rfl)) ?_
 refine RS (ok_lenV Try.underlying22 rfl) ?_
 refine RS (ok_field field35_0 (by decide) rfl) ?_
 refine RS (ok_loadV (s := 1000003) (by decide) Try.underlying22 rfl rfl rfl (rfl)) ?_
 refine RS (ok_lenV Try.underlying22 rfl) ?_
 refine RBS rfl rfl rfl (nI (us.length + vs.length)) (by rw [wrap_i64 (by omega) (by omega)]; rfl) ?_
 refine RA rfl ?_
 refine RN ?_
 refine A.seq ?_
 refine GS ?_
 refine TL ?_
 refine RM rfl ?_
 refine RBS rfl rfl rfl (.bool true) (by simp; omega) ?_
 refine RN ?_
 refine A.yes rfl ?_
 refine GS ?_
 refine TF 1 ?_
 refine RS (ok_lit [] [.slice none 0 0] (fun _ _ => rfl) (by kernel_rfl)) ?_
 refine RN ?_
 refine ⟨_, eff_storeA (n := 44) (s := 1000004) (size35.of (rfl)) rfl rfl (rfl) hBb4 rfl (rfl) (LV 4 rfl (LB 1000002 rfl (LB 1000003 rfl (LO 1000200 rfl (LO 1000201 rfl LN))))), ?_⟩
 refine TL ?_
 refine RA rfl ?_
 refine RN ?_
 refine A.sub (KC 4 rfl (KC 5 rfl (KC 1000002 rfl (KC 1000003 rfl (KC 1000004 rfl (KC 1000200 rfl (KC 1000201 rfl KN))))))) ?_
 refine A.ret ?_
 refine End.ret_then ?_
 exact End.cellV (s := 1000004) rfl Try.underlying35 rfl (size35.of rfl) rfl rfl rfl
set_option maxHeartbeats 1000000 in
theorem Merge_okB (us vs : List Us) (hf : Fits us) (hg : Fits vs) (hn : us.length ≤ 1099511627776) (hm : vs.length ≤ 1099511627776) (h : chkU us = 0) (h' : chkU vs = 0) (h2 : us.length + vs.length ≤ 65536) : FnB Try.prog 13 [hdD (rowD us.length (usR us)) [], hdD (rowD vs.length (usR vs)) []] (fun B => newD B 31 (fun b => .tuple #[aggV [.slice (some ⟨b, 0, none⟩) (us.length + vs.length) (us.length + vs.length)], .int .i64 0]) (usR (us ++ vs))) := by
 refine FnB.of Try.func13 rfl (by kernel_rfl) Try.ntmps13 (by simp) (fun w => [(0, old w.heap.size (hdD (rowD us.length (usR us)) [])), (1, old w.heap.size (hdD (rowD vs.length (usR vs)) []))]) (fun w => (Start.old rfl (Start.old rfl Start.nil))) fun w₀ => ?_
 refine A.nameHdR (t := 0) (k := 1000200) rfl fun A₀ q₀ => ?_
 refine A.nameHdR (t := 1) (k := 1000201) rfl fun A₁ q₁ => ?_
 refine GS ?_
 refine TN 0 ?_
 refine RN ?_
 refine ⟨_, _, eff_box (n := 44) (d := 2) (k := 1000002) rfl (by decide), fun b2 hb2 => ?_⟩
 have hBb2 := hb2.1
 refine TN 1 ?_
 refine RN ?_
 refine ⟨_, _, eff_box (n := 44) (d := 3) (k := 1000003) rfl (by decide), fun b3 hb3 => ?_⟩
 have hBb3 := hb3.1
 have hlt_b2_b3 : b2 < b3 := hb3.2 1000002 _ _ _ rfl
 refine TN 2 ?_
 refine RN ?_
 refine ⟨_, _, eff_alloc (n := 44) (d := 4) (k := 1000004) zero35 (by decide), fun b4 hb4 => ?_⟩
 have hBb4 := hb4.1
 have hlt_b2_b4 : b2 < b4 := hb4.2 1000002 _ _ _ rfl
 have hlt_b3_b4 : b3 < b4 := hb4.2 1000003 _ _ _ rfl
 refine TL ?_
 refine RA rfl ?_
 refine RN ?_
 refine A.seq ?_
 refine GD ?_
 refine TL ?_
 refine RS (OpOk.hdRow (ok_loadA (s := 1000002) (by decide) Try.underlying35 rfl (size35.of (rfl)) rfl rfl) (k := 1000200) (by decide) rfl) ?_
 refine RS (ok_call (Check_fn us hf hn) (Args.cons rfl (Le.old _ _) Args.nil)) ?_
 refine RS (OpOk.hdRow (ok_loadA (s := 1000003) (by decide) Try.underlying35 rfl (size35.of (rfl)) rfl rfl) (k := 1000201) (by decide) rfl) ?_
 refine RS (ok_call (Check_fn vs hg hm) (Args.cons rfl (Le.old _ _) Args.nil)) ?_
 refine RS (OpOk.le (ok_buildF (m := 2) [.int .i64 (chkU us), .int .i64 (chkU vs)] Try.underlying101 info36 rfl (by decide) (by decide) rfl ⟨rfl, rfl, rfl, rfl, trivial⟩ rfl) fresh_rowD) ?_
 refine RS (ok_call (Or_fn (chkU us) (chkU vs)) (A1 rfl)) ?_
 refine RA rfl ?_
 refine RN ?_
 refine GS ?_
 refine TL ?_
 refine RM rfl ?_
 refine RBS rfl rfl rfl (.bool false) (by simp [h, h']) ?_
 refine RN ?_
 refine A.no rfl ?_
 refine A.skip ?_
 refine EN ?_
 refine GS ?_
 refine TL ?_
 refine RS (ok_field field35_0 (by decide) rfl) ?_
 refine RS (ok_loadV (s := 1000002) (by decide) Try.underlying22 rfl rfl rfl (rfl)) ?_
 refine RS (ok_lenV Try.underlying22 rfl) ?_
 refine RS (ok_field field35_0 (by decide) rfl) ?_
 refine RS (ok_loadV (s := 1000003) (by decide) Try.underlying22 rfl rfl rfl (rfl)) ?_
 refine RS (ok_lenV Try.underlying22 rfl) ?_
 refine RBS rfl rfl rfl (nI (us.length + vs.length)) (by rw [wrap_i64 (by omega) (by omega)]; rfl) ?_
 refine RA rfl ?_
 refine RN ?_
 refine A.seq ?_
 refine GS ?_
 refine TL ?_
 refine RM rfl ?_
 refine RBS rfl rfl rfl (.bool false) (by simp; omega) ?_
 refine RN ?_
 refine A.no rfl ?_
 refine A.skip ?_
 refine EN ?_
 refine GS ?_
 refine TN 1 ?_
 refine RM rfl ?_
 refine RN ?_
 refine ⟨_, _, eff_name (n := 44) (d := 31) (k := 1000031) rfl rfl (fun B' => ok_makeK (us.length + vs.length) Try.underlying22 infoU (by decide) rfl rfl (by omega)) (by decide) (by decide), fun b31 hb31 => ?_⟩
 have hBb31 := hb31.1
 have hlt_b2_b31 : b2 < b31 := hb31.2 1000002 _ _ _ rfl
 have hlt_b3_b31 : b3 < b31 := hb31.2 1000003 _ _ _ rfl
 have hlt_b4_b31 : b4 < b31 := hb31.2 1000004 _ _ _ rfl
 refine TL ?_
 refine RA rfl ?_
 refine RN ?_
 refine A.sub (KC 2 rfl (KC 3 rfl (KC 4 rfl (KC 8 rfl (KC 1000002 rfl (KC 1000003 rfl (KC 1000004 rfl (KC 1000031 rfl (KC 1000200 rfl (KC 1000201 rfl KN)))))))))) ?_
 refine GS ?_
 refine TF 3 ?_
 refine RM rfl ?_
 refine RS (ok_field field35_0 (by decide) rfl) ?_
 refine RS (ok_loadV (s := 1000002) (by decide) Try.underlying22 rfl rfl rfl (rfl)) ?_
 refine RN ?_
 refine ⟨_, eff_copyK (s := 1000031) (k := 1000200) (sn := us.length) Try.underlying22 infoU rfl rfl rfl (usR_one' _) (usR_length hf) (by omega) (by decide) (by omega) rfl (by simp [madeCells]; omega) (by decide) (LV 3 rfl (LV 4 rfl (LV 8 rfl (LT 1000002 rfl (LT 1000003 rfl (LT 1000004 rfl (LO 1000200 rfl (LO 1000201 rfl LN)))))))), ?_⟩
 refine TL ?_
 refine RA rfl ?_
 refine RN ?_
 refine GD ?_
 refine TD 5 ?_
 refine RM rfl ?_
 refine RM rfl ?_
 refine RS (ok_sliceLoK us.length Try.underlying22 infoU rfl rfl (by omega)) ?_
 refine RS (ok_field field35_0 (by decide) rfl) ?_
 refine RS (ok_loadV (s := 1000003) (by decide) Try.underlying22 rfl rfl rfl (rfl)) ?_
 refine RN ?_
 refine ⟨_, eff_copyK (s := 1000031) (k := 1000201) (sn := vs.length) Try.underlying22 infoU rfl rfl rfl (usR_one' _) (usR_length hg) (by omega) (by decide) (by omega) rfl (mergeFit hf hg _) (by decide) (LV 4 rfl (LV 8 rfl (LT 1000002 rfl (LT 1000003 rfl (LT 1000004 rfl (LO 1000200 rfl (LO 1000201 rfl LN))))))), ?_⟩
 refine TL ?_
 refine RN ?_
 refine GS ?_
 refine TF 2 ?_
 refine RM rfl ?_
 refine RS (ok_litS [(0, .slice (some ⟨b31, 0, none⟩) (us.length + vs.length) (us.length + vs.length))] [.slice (some ⟨b31, 0, none⟩) (us.length + vs.length) (us.length + vs.length)] ⟨rfl, rfl, trivial⟩ (buildL _ _ _)) ?_
 refine RN ?_
 refine ⟨_, eff_storeA (n := 44) (s := 1000004) (size35.of (rfl)) rfl rfl (rfl) hBb4 rfl (rfl) (LV 4 rfl (LB 1000002 rfl (LB 1000003 rfl (LT 1000031 rfl (LO 1000200 rfl (LO 1000201 rfl LN)))))), ?_⟩
 refine TL ?_
 refine RA rfl ?_
 refine RN ?_
 refine A.ret ?_
 exact End.newT (s := 1000004) (kg := 1000031) rfl Try.underlying35 rfl (size35.of rfl) rfl rfl rfl rfl hBb31 rfl (mergeRow hf hg _ rfl)
theorem Add_bad (us : List Us) (u : Us) (hf : Fits us) (hu : u.Fit) (hn : us.length ≤ 1099511627776) (h : (if chkU us ≠ 0 then chkU us else chkU [u]) ≠ 0) : Fn Try.prog 11 [hdD (rowD us.length (usR us)) [], .v (aggV (usV u))] (.v (.tuple #[aggV [.slice none 0 0], .int .i64 (if chkU us ≠ 0 then chkU us else chkU [u])])) := by
 refine Fn.of Try.func11 rfl (by kernel_rfl) Try.ntmps11 (by simp) (fun w => [(0, old w.heap.size (hdD (rowD us.length (usR us)) [])), (1, .v (aggV (usV u)))]) (fun w => (Start.old rfl (Start.v rfl Start.nil))) fun w₀ => ?_
 refine A.nameHdR (t := 0) (k := 1000200) rfl fun A₀ q₀ => ?_
 refine GS ?_
 refine TN 0 ?_
 refine RN ?_
 refine ⟨_, _, eff_box (n := 13) (d := 2) (k := 1000002) rfl (by decide), fun b2 hb2 => ?_⟩
 have hBb2 := hb2.1
 refine TN 1 ?_
 refine RN ?_
 refine ⟨_, _, eff_box (n := 13) (d := 3) (k := 1000003) rfl (by decide), fun b3 hb3 => ?_⟩
 have hBb3 := hb3.1
 refine TN 2 ?_
 refine RN ?_
 refine ⟨_, _, eff_alloc (n := 13) (d := 4) (k := 1000004) zero35 (by decide), fun b4 hb4 => ?_⟩
 have hBb4 := hb4.1
 have hlt_b2_b4 : b2 < b4 := hb4.2 1000002 _ _ _ rfl
 refine TL ?_
 refine RA rfl ?_
 refine RN ?_
 refine GS ?_
 refine TF 7 ?_
 refine RS (OpOk.hdRow (ok_loadA (s := 1000002) (by decide) Try.underlying35 rfl (size35.of (rfl)) rfl rfl) (k := 1000200) (by decide) rfl) ?_
 refine RS (ok_loadA (s := 1000003) (by decide) Try.underlying31 rfl (size31.of (usV_length hu)) rfl rfl) ?_
 refine RS (ok_build1K Try.underlying22 infoU rfl (by decide) (by decide) rfl (usV_length hu)) ?_
 refine RS (ok_buildS [] rfl rfl (fun _ _ _ h => oneP_slice h) trivial (fun A m c => buildL A m c)) ?_
 refine RS (ok_call (Merge_bad us [u] hf (fun v hv => by rw [List.mem_singleton.1 hv]; exact hu) hn (by simp) h) (Args.cons rfl (Le.old _ _) (Args.cons rfl (hd_le (oneP_rowD.trans (Le.eq (congrArg (rowD 1) (usR_one u).symm)))) Args.nil))) ?_
 refine RS (ok_extractV (xs := [_, _]) rfl rfl) ?_
 refine RS (ok_extractV (xs := [_, _]) rfl rfl) ?_
 refine RN ?_
 refine ⟨_, eff_storeA (n := 13) (s := 1000004) (size35.of (rfl)) rfl rfl (rfl) hBb4 rfl (rfl) (LV 4 rfl (LV 12 rfl (LB 1000002 rfl (LT 1000003 rfl (LO 1000200 rfl LN))))), ?_⟩
 refine TL ?_
 refine RA rfl ?_
 refine RN ?_
 refine A.ret ?_
 exact End.cellV (s := 1000004) rfl Try.underlying35 rfl (size35.of rfl) rfl rfl rfl
theorem Add_big (us : List Us) (u : Us) (hf : Fits us) (hu : u.Fit) (hn : us.length ≤ 1099511627776) (h : chkU us = 0) (h' : chkU [u] = 0) (h2 : 65536 < us.length + 1) : Fn Try.prog 11 [hdD (rowD us.length (usR us)) [], .v (aggV (usV u))] (.v (.tuple #[aggV [.slice none 0 0], .int .i64 3])) := by
 refine Fn.of Try.func11 rfl (by kernel_rfl) Try.ntmps11 (by simp) (fun w => [(0, old w.heap.size (hdD (rowD us.length (usR us)) [])), (1, .v (aggV (usV u)))]) (fun w => (Start.old rfl (Start.v rfl Start.nil))) fun w₀ => ?_
 refine A.nameHdR (t := 0) (k := 1000200) rfl fun A₀ q₀ => ?_
 refine GS ?_
 refine TN 0 ?_
 refine RN ?_
 refine ⟨_, _, eff_box (n := 13) (d := 2) (k := 1000002) rfl (by decide), fun b2 hb2 => ?_⟩
 have hBb2 := hb2.1
 refine TN 1 ?_
 refine RN ?_
 refine ⟨_, _, eff_box (n := 13) (d := 3) (k := 1000003) rfl (by decide), fun b3 hb3 => ?_⟩
 have hBb3 := hb3.1
 refine TN 2 ?_
 refine RN ?_
 refine ⟨_, _, eff_alloc (n := 13) (d := 4) (k := 1000004) zero35 (by decide), fun b4 hb4 => ?_⟩
 have hBb4 := hb4.1
 have hlt_b2_b4 : b2 < b4 := hb4.2 1000002 _ _ _ rfl
 refine TL ?_
 refine RA rfl ?_
 refine RN ?_
 refine GS ?_
 refine TF 7 ?_
 refine RS (OpOk.hdRow (ok_loadA (s := 1000002) (by decide) Try.underlying35 rfl (size35.of (rfl)) rfl rfl) (k := 1000200) (by decide) rfl) ?_
 refine RS (ok_loadA (s := 1000003) (by decide) Try.underlying31 rfl (size31.of (usV_length hu)) rfl rfl) ?_
 refine RS (ok_build1K Try.underlying22 infoU rfl (by decide) (by decide) rfl (usV_length hu)) ?_
 refine RS (ok_buildS [] rfl rfl (fun _ _ _ h => oneP_slice h) trivial (fun A m c => buildL A m c)) ?_
 refine RS (ok_call (Merge_big us [u] hf (fun v hv => by rw [List.mem_singleton.1 hv]; exact hu) hn (by simp) h h' (by simpa using h2)) (Args.cons rfl (Le.old _ _) (Args.cons rfl (hd_le (oneP_rowD.trans (Le.eq (congrArg (rowD 1) (usR_one u).symm)))) Args.nil))) ?_
 refine RS (ok_extractV (xs := [_, _]) rfl rfl) ?_
 refine RS (ok_extractV (xs := [_, _]) rfl rfl) ?_
 refine RN ?_
 refine ⟨_, eff_storeA (n := 13) (s := 1000004) (size35.of (rfl)) rfl rfl (rfl) hBb4 rfl (rfl) (LV 4 rfl (LV 12 rfl (LB 1000002 rfl (LT 1000003 rfl (LO 1000200 rfl LN))))), ?_⟩
 refine TL ?_
 refine RA rfl ?_
 refine RN ?_
 refine A.ret ?_
 exact End.cellV (s := 1000004) rfl Try.underlying35 rfl (size35.of rfl) rfl rfl rfl
theorem Add_okB (us : List Us) (u : Us) (hf : Fits us) (hu : u.Fit) (hn : us.length ≤ 1099511627776) (h : chkU us = 0) (h' : chkU [u] = 0) (h2 : us.length + 1 ≤ 65536) : FnB Try.prog 11 [hdD (rowD us.length (usR us)) [], .v (aggV (usV u))] (fun B => newD B 31 (fun b => .tuple #[aggV [.slice (some ⟨b, 0, none⟩) (us.length + 1) (us.length + 1)], .int .i64 0]) (usR (us ++ [u]))) := by
 refine FnB.of Try.func11 rfl (by kernel_rfl) Try.ntmps11 (by simp) (fun w => [(0, old w.heap.size (hdD (rowD us.length (usR us)) [])), (1, .v (aggV (usV u)))]) (fun w => (Start.old rfl (Start.v rfl Start.nil))) fun w₀ => ?_
 refine A.nameHdR (t := 0) (k := 1000200) rfl fun A₀ q₀ => ?_
 refine GS ?_
 refine TN 0 ?_
 refine RN ?_
 refine ⟨_, _, eff_box (n := 13) (d := 2) (k := 1000002) rfl (by decide), fun b2 hb2 => ?_⟩
 have hBb2 := hb2.1
 refine TN 1 ?_
 refine RN ?_
 refine ⟨_, _, eff_box (n := 13) (d := 3) (k := 1000003) rfl (by decide), fun b3 hb3 => ?_⟩
 have hBb3 := hb3.1
 refine TN 2 ?_
 refine RN ?_
 refine ⟨_, _, eff_alloc (n := 13) (d := 4) (k := 1000004) zero35 (by decide), fun b4 hb4 => ?_⟩
 have hBb4 := hb4.1
 have hlt_b2_b4 : b2 < b4 := hb4.2 1000002 _ _ _ rfl
 refine TL ?_
 refine RA rfl ?_
 refine RN ?_
 refine GS ?_
 refine TN 4 ?_
 refine RS (OpOk.hdRow (ok_loadA (s := 1000002) (by decide) Try.underlying35 rfl (size35.of (rfl)) rfl rfl) (k := 1000200) (by decide) rfl) ?_
 refine RS (ok_loadA (s := 1000003) (by decide) Try.underlying31 rfl (size31.of (usV_length hu)) rfl rfl) ?_
 refine RS (ok_build1K Try.underlying22 infoU rfl (by decide) (by decide) rfl (usV_length hu)) ?_
 refine RS (ok_buildS [] rfl rfl (fun _ _ _ h => oneP_slice h) trivial (fun A m c => buildL A m c)) ?_
 refine RN ?_
 refine ⟨_, _, eff_name (n := 13) (d := 10) (k := 1000010) rfl rfl (fun B' => ok_callB (Merge_okB us [u] hf (fun v hv => by rw [List.mem_singleton.1 hv]; exact hu) hn (by simp) h h' (by simpa using h2)) newD_mono (Args.cons rfl (Le.old _ _) (Args.cons rfl (hd_le (oneP_rowD.trans (Le.eq (congrArg (rowD 1) (usR_one u).symm)))) Args.nil))) (by decide) (by decide), fun b10 hb10 => ?_⟩
 have hBb10 := hb10.1
 have hlt_b2_b10 : b2 < b10 := hb10.2 1000002 _ _ _ rfl
 have hlt_b3_b10 : b3 < b10 := hb10.2 1000003 _ _ _ rfl
 have hlt_b4_b10 : b4 < b10 := hb10.2 1000004 _ _ _ rfl
 refine TF 7 ?_
 refine RS (ok_extractV (xs := [_, _]) rfl rfl) ?_
 refine RS (ok_extractV (xs := [_, _]) rfl rfl) ?_
 refine RN ?_
 refine ⟨_, eff_storeA (n := 13) (s := 1000004) (size35.of (rfl)) rfl rfl (rfl) hBb4 rfl (rfl) (LV 4 rfl (LV 12 rfl (LB 1000002 rfl (LT 1000003 rfl (LT 1000010 rfl (LO 1000200 rfl LN)))))), ?_⟩
 refine TL ?_
 refine RA rfl ?_
 refine RN ?_
 refine A.ret ?_
 exact End.newT (s := 1000004) (kg := 1000010) rfl Try.underlying35 rfl (size35.of rfl) rfl rfl rfl rfl hBb10 rfl rfl
end Go.Proofs.Ythhmimnkfklhdaa
namespace Go.Proofs.Ythhmimnkfklhdaa
open Go Go.RowKit
set_option linter.unusedVariables false
set_option linter.unusedSimpArgs false
variable {κ : Cx}
/-- The cells xs stand at A, in a block from lo on that holds cells of type e. -/
def RowX (lo : Nat) (e : TypeId) (B : Nat) (w : World) (A : Option Addr) (xs : List Value) : Prop :=
  ∀ (j : Nat) (u : Value), xs[j]? = some u → ∃ ad, A = some ad ∧ lo ≤ ad.block ∧ ad.block < B ∧ (∃ cur fr, w.heap[ad.block]? = some (.cells cur e fr)) ∧ w.cell? (ad.add j) = some u
theorem RowX.row {lo : Nat} {e : TypeId} {B : Nat} {w : World} {A : Option Addr} {xs : List Value} (h : RowX lo e B w A xs) : RowIn B w A xs := fun j u hu => by
  obtain ⟨ad, h1, _, h3, _, h5⟩ := h j u hu
  exact ⟨ad, h1, h3, h5⟩
theorem cell_block {w w' : World} {a : Addr} (h : w'.heap[a.block]? = w.heap[a.block]?) : w'.cell? a = w.cell? a := by unfold World.cell?; rw [h]
theorem RowX.other {lo : Nat} {e : TypeId} {B B' : Nat} {w w' : World} {A : Option Addr} {xs : List Value} (h : RowX lo e B w A xs) (hB : B ≤ B') (hk : ∀ b cur fr, lo ≤ b → b < B → w.heap[b]? = some (.cells cur e fr) → w'.heap[b]? = w.heap[b]?) : RowX lo e B' w' A xs := fun j u hu => by
  obtain ⟨ad, h1, h2, h3, ⟨cur, fr, h4⟩, h5⟩ := h j u hu
  have h6 := hk ad.block cur fr h2 h3 h4
  refine ⟨ad, h1, h2, by omega, ⟨cur, fr, by rw [h6]; exact h4⟩, ?_⟩
  have h7 : w'.cell? (ad.add j) = w.cell? (ad.add j) := cell_block (by rw [block_of_add]; exact h6)
  rw [h7]; exact h5
def natR (L : List Nat) : List Value := L.map fun x : Nat => Value.int .i64 (x : Int)
/-- The lists Ls stand in the slices vs, and these at A. -/
def ListsF (lo : Nat) (eL eI : TypeId) (A : Option Addr) (vs : List Value) (Ls : List (List Nat)) (B : Nat) (w : World) : Prop :=
  RowX lo eL B w A vs ∧ ∀ (k : Nat) (v : Value) (L : List Nat), vs[k]? = some v → Ls[k]? = some L → ∃ A' q, v = .slice A' L.length q ∧ RowX lo eI B w A' (natR L)
theorem ListsF.other {lo : Nat} {eL eI : TypeId} {A : Option Addr} {vs : List Value} {Ls : List (List Nat)} {B B' : Nat} {w w' : World} (h : ListsF lo eL eI A vs Ls B w) (hB : B ≤ B') (hk : ∀ b cur e fr, lo ≤ b → b < B → (e = eL ∨ e = eI) → w.heap[b]? = some (.cells cur e fr) → w'.heap[b]? = w.heap[b]?) : ListsF lo eL eI A vs Ls B' w' :=
  ⟨h.1.other hB fun b cur fr h1 h2 h3 => hk b cur _ fr h1 h2 (.inl rfl) h3, fun k v L hv hL => by
    obtain ⟨A', q, h1, h2⟩ := h.2 k v L hv hL
    exact ⟨A', q, h1, h2.other hB fun b cur fr h1 h2 h3 => hk b cur _ fr h1 h2 (.inr rfl) h3⟩⟩
def listsM (lo : Nat) (eL eI : TypeId) (A : Option Addr) (vs : List Value) (Ls : List (List Nat)) : D :=
  .p (fun B w _ => ListsF lo eL eI A vs Ls B w) (fun B w w' _ g h => h.other (Nat.le_refl _) fun b _ _ _ _ hb _ _ => g.block b hb) (fun B B' w _ g h => h.other g fun _ _ _ _ _ _ _ _ => rfl)
theorem Surv.lists {B T g lo : Nat} {eL eI : TypeId} {A : Option Addr} {vs : List Value} {Ls : List (List Nat)} (h : g < lo ∨ (eL ≠ T ∧ eI ≠ T)) : Surv B T g (listsM lo eL eI A vs Ls) := fun w w' x k hl =>
  ListsF.other hl k.size fun b cur e fr h1 h2 he hh => k.other b h2 fun hbg => by
    subst hbg
    rcases h with h | ⟨h3, h4⟩
    · omega
    · have := k.row _ _ _ hh
      rcases he with rfl | rfl
      · exact h3 this
      · exact h4 this
/-- A slice of lists as Lists says. -/
def partsD (us : List Us) (eL eI : TypeId) (lo : Nat) : D :=
  .p (fun B w x => ∃ (Ls : List (List Nat)) (vs : List Value) (A : Option Addr) (q : Nat), Lists us Ls ∧ vs.length = Ls.length ∧ vs.length ≤ us.length ∧ x = .slice A vs.length q ∧ ListsF lo eL eI A vs Ls B w)
    (fun B w w' _ g ⟨Ls, vs, A, q, h1, h2, h0, h3, h4⟩ => ⟨Ls, vs, A, q, h1, h2, h0, h3, h4.other (Nat.le_refl _) fun b _ _ _ _ hb _ _ => g.block b hb⟩) (fun B B' w _ g ⟨Ls, vs, A, q, h1, h2, h0, h3, h4⟩ => ⟨Ls, vs, A, q, h1, h2, h0, h3, h4.other g fun _ _ _ _ _ _ _ _ => rfl⟩)
theorem partsD_mono {us : List Us} {eL eI : TypeId} (B B' : Nat) (h : B ≤ B') : Le (partsD us eL eI B') (partsD us eL eI B) := fun B w x ⟨Ls, vs, A, q, h1, h2, h0, h3, h4, h5⟩ => ⟨Ls, vs, A, q, h1, h2, h0, h3, fun j u hu => by
    obtain ⟨ad, k1, k2, k3⟩ := h4 j u hu
    exact ⟨ad, k1, by omega, k3⟩, fun k v L hv hL => by
    obtain ⟨A', q', k1, k2⟩ := h5 k v L hv hL
    exact ⟨A', q', k1, fun j u hu => by
      obtain ⟨ad, l1, l2, l3⟩ := k2 j u hu
      exact ⟨ad, l1, by omega, l3⟩⟩⟩
section
variable {P : Program} {n : Nat} {E : Env} {w₀ : World} {c : Code} {Q : Exit → Act → World → Prop}
/-- One of the lists, by its value. -/
theorem A.openList {t k k' lo : Nat} {eL eI : TypeId} {A₀ : Option Addr} {vs : List Value} {Ls : List (List Nat)} {v : Value} {L : List Nat} {i : Nat} (ht : E.look t = some (.v v)) (hk : E.look k = some (listsM lo eL eI A₀ vs Ls)) (hv : vs[i]? = some v) (hL : Ls[i]? = some L)
    (h : ∀ (A' : Option Addr) (q : Nat), A κ P w₀ n c ((t, .v (.slice A' L.length q)) :: (k', memR A' (natR L)) :: E) Q) : A κ P w₀ n c E Q := fun a w g hs => by
  obtain ⟨A', q, h1, h2⟩ := (hs.of k _ hk).2 i v L hv hL
  exact h A' q a w g ((hs.push (t := k') (d := memR A' (natR L)) h2.row).push (d := .v (.slice A' L.length q)) (by rw [← h1]; exact hs.of t _ ht))
end
/-! ### Results whose parts get names -/
theorem St.pushes {n B : Nat} {E : Env} {a : Act} {w : World} (h : St κ n B E a w) (hnv : n ≤ vbase) : ∀ (F : Env), (∀ q ∈ F, vbase ≤ q.1 ∧ q.2.Of w undef) → St κ n B (F ++ E) a w
  | [], _ => h
  | (k, d) :: F, hF => by
    have h1 := hF (k, d) (by simp)
    exact (St.pushes h hnv F fun q hq => hF q (by simp [hq])).push (t := k) (d := d) (by rw [Array.getD_eq_getD_getElem?, Array.getElem?_eq_none (by rw [h.size]; omega)]; exact h1.2)
theorem eff_nameG {P : Program} {n B : Nat} {ops : Array Oper} {E : Env} {o : Oper} {dst : Nat} {ι : Type} {d : Nat → D} (val : ι → Value) (G : ι → Prop) (F : Nat → ι → Env) (ht : o.dst = some dst) (hg : o.guard = none) (hok : ∀ B', OpOk P B' o E (d B'))
    (hopen : ∀ lo w x, (d lo).Of w x → ∃ i, G i ∧ x = val i ∧ ∀ q ∈ F lo i, vbase ≤ q.1 ∧ q.2.Of w undef) (hdn : dst < n) (hnv : n ≤ vbase) :
    EffG P n B ops o E (fun q : Nat × ι => NewB B E q.1 ∧ G q.2) (fun q => (dst, .v (val q.2)) :: (F q.1 q.2 ++ E)) := by
  intro κ a w K Q h hK
  rw [if_pos (by simp [Region.wanted, hg])]
  refine wp_of_out ht ((hok w.heap.size a.eval w (Nat.le_refl _) (h.virt hnv) fun x _ u hu => h.at_ x _ hu).mono ?_)
  rintro x w' ⟨hgr, hd⟩
  obtain ⟨i, hG, hx, hF⟩ := hopen _ _ _ hd
  exact hK (w.heap.size, i) _ _ ⟨⟨h.base, fun s b' e ys hs => (h.of s _ hs).1⟩, hG⟩ (Below.mono hgr h.base) (St.put (St.pushes (h.grow hgr) hnv _ hF) hdn hx)
theorem RunTK.newG {P : Program} {n B : Nat} {ops : Array Oper} {draw : Bool} {C : Env → Prop} {o : Oper} {E : Env} {s : Nat} (p : Nat) (hsp : s ≤ p) (ho : ops[p]? = some o) (hb : draw = false ∨ barrier ops p = true)
    (h : RunK P B ops ((ops.toList.drop s).take (p - s)) E (fun E₁ => ∃ (ι : Type) (G : ι → Prop) (E₂ : ι → Env), EffG P n B ops o E₁ G E₂ ∧ ∀ i, G i → RunTK P n B ops draw C (p + 1) (E₂ i))) : RunTK P n B ops draw C s E := by
  obtain ⟨E₁, h1, ι, G, E₂, h2, h3⟩ := h
  exact .effG hsp ho hb h1 h2 h3
theorem lst1_any {Ls : List (List Nat)} {p : Nat → Bool} {f : List Nat → Bool} {m : Nat} (hm : m = Ls.length) (h : ∀ k, k < m → p k = f Ls[k]!) : decide (lst1 p m < m) = Ls.any f := by
  subst hm
  obtain ⟨h1, h2, h3⟩ := lst1_spec p Ls.length
  rw [Bool.eq_iff_iff, List.any_eq_true, decide_eq_true_iff]
  constructor
  · intro hl
    exact ⟨Ls[lst1 p Ls.length], List.getElem_mem hl, by rw [← getElem!_pos Ls _ hl, ← h _ hl]; exact h3 hl⟩
  · rintro ⟨L, hL, hf⟩
    obtain ⟨k, hk, rfl⟩ := List.getElem_of_mem hL
    rcases Nat.lt_or_ge (lst1 p Ls.length) Ls.length with hl | hl
    · exact hl
    · have := h2 k (by omega)
      rw [h k hk, getElem!_pos Ls k hk, hf] at this; cases this
section
variable {P : Program} {B : Nat} {E : Env}
theorem OpOk.rowL {o : Oper} {A₀ : Option Addr} {q k lo : Nat} {eL eI : TypeId} {vs : List Value} {Ls : List (List Nat)} (h : OpOk P B o E (.v (.slice A₀ vs.length q))) (hk : vbase ≤ k) (hl : E.look k = some (listsM lo eL eI A₀ vs Ls)) : OpOk P B o E (rowD vs.length vs) := fun ρ w hB hv hρ => by
  refine (h ρ w hB hv hρ).mono fun x w' hx => ⟨hx.1, ?_⟩
  have h2 : (listsM lo eL eI A₀ vs Ls).Of w' undef := D.Of.grow (hv k _ hk hl) hx.1
  exact ⟨A₀, q, hx.2, h2.1.row⟩
theorem parts_open {us : List Us} {eL eI : TypeId} {k : Nat} (hk : vbase ≤ k := by decide) (lo : Nat) (w : World) (x : Value) (h : (partsD us eL eI lo).Of w x) : ∃ i : List (List Nat) × List Value × Option Addr × Nat, (Lists us i.1 ∧ i.2.1.length = i.1.length ∧ i.2.1.length ≤ us.length) ∧ x = .slice i.2.2.1 i.2.1.length i.2.2.2 ∧ ∀ q ∈ [(k, listsM lo eL eI i.2.2.1 i.2.1 i.1)], vbase ≤ q.1 ∧ q.2.Of w undef := by
  obtain ⟨Ls, vs, A, q, h1, h2, h3, h4, h5⟩ := h
  exact ⟨(Ls, vs, A, q), ⟨h1, h2, h3⟩, h4, fun q hq => by rw [List.mem_singleton.1 hq]; exact ⟨hk, h5⟩⟩
end
section
variable {P : Program} {n : Nat} {w₀ : World} {E : Env}
/-- Three results: a value, a number's variable, a value. -/
theorem End.tct {fn : Func} {r r' s k b : Nat} {T e : TypeId} {td : TypeDesc} {u v v₀ : Value} (hr : fn.results = #[.tmp r, .cell s T, .tmp r']) (ht : P.underlying T = some td) (hp : (match td with | .struct _ | .array _ _ => true | _ => false) = false)
    (h1 : E.look r = some (.v u)) (h2 : E.look s = some (.v (.pointer (some ⟨b, 0, none⟩)))) (h3 : E.look k = some (blk b e [v₀])) (h4 : E.look r' = some (.v v)) :
    End Cx.top w₀ n E (BP P fn (PostOf w₀ (.v (.tuple #[u, v₀, v]))) .ret) := fun a w gr hs => by
  have k1 : a.tmps[r]?.getD undef = u := by rw [← Array.getD_eq_getD_getElem?]; exact hs.of r _ h1
  have k2 : a.tmps[s]?.getD undef = .pointer (some ⟨b, 0, none⟩) := by rw [← Array.getD_eq_getD_getElem?]; exact hs.of s _ h2
  have k4 : a.tmps[r']?.getD undef = v := by rw [← Array.getD_eq_getD_getElem?]; exact hs.of r' _ h4
  obtain ⟨_, hh⟩ := hs.of k _ h3
  have hl : (loadVar T ⟨b, 0, none⟩).run P w = .ok v₀ w := by
    have hagg : (isAgg T).run P w = .ok false w := by
      unfold isAgg
      rw [Sem.run_bind, run_underlying ht w]
      cases td <;> simp_all
    have hc : w.cell? ⟨b, 0, none⟩ = some v₀ := by simp [World.cell?, hh]
    simp [loadVar, Sem.run_bind, hagg, hc]
  exact BP.ret hs.defers ⟨.tuple #[u, v₀, v], by simp [results, hr, k1, k2, k4, asAddr, hl], _, rfl, gr, rfl⟩
end
end Go.Proofs.Ythhmimnkfklhdaa
namespace Go.Proofs.Ythhmimnkfklhdaa
open Go Go.RowKit
open Go.ChangeMaps (setBlock)
set_option linter.unusedVariables false
set_option linter.unusedSimpArgs false
variable {κ : Cx}
abbrev Key := List UInt8 × Nat × Nat
def keyV (k : Key) : List Value := k.1.map byteV ++ [.int .u32 (k.2.1 : Int), .int .u64 (k.2.2 : Int)]
abbrev Grp := List (Key × List Nat)
def KeysFit (G : Grp) : Prop := ∀ p ∈ G, p.1.1.length = 16
def entsF : Grp → List Value → Nat → List MapEntry
  | p :: G, v :: vs, s => { key := aggV (keyV p.1), val := v, born := s } :: entsF G vs (s + 1)
  | _, _, _ => []
theorem entsF_length : ∀ {G : Grp} {vs : List Value} {s : Nat}, vs.length = G.length → (entsF G vs s).length = G.length
  | [], [], _, _ => rfl
  | _ :: G, _ :: vs, s, h => by simp only [entsF, List.length_cons]; rw [entsF_length (by simpa using h)]
theorem entsF_get : ∀ {G : Grp} {vs : List Value} {s j : Nat}, vs.length = G.length → (hj : j < G.length) → ∃ v, vs[j]? = some v ∧ (entsF G vs s)[j]? = some { key := aggV (keyV G[j].1), val := v, born := s + j }
  | p :: G, v :: vs, s, 0, _, _ => ⟨v, rfl, rfl⟩
  | p :: G, v :: vs, s, j + 1, h, hj => by
    obtain ⟨u, h1, h2⟩ := entsF_get (G := G) (vs := vs) (s := s + 1) (j := j) (by simpa using h) (by simpa using hj)
    exact ⟨u, by simpa using h1, by simp only [entsF, List.getElem?_cons_succ, List.getElem_cons_succ]; rw [h2, show s + 1 + j = s + (j + 1) from by omega]⟩
theorem entsF_append : ∀ {G : Grp} {vs : List Value} {s : Nat} {p : Key × List Nat} {v : Value}, vs.length = G.length → entsF (G ++ [p]) (vs ++ [v]) s = entsF G vs s ++ [{ key := aggV (keyV p.1), val := v, born := s + G.length }]
  | [], [], s, p, v, _ => rfl
  | q :: G, u :: vs, s, p, v, h => by
    simp only [List.cons_append, entsF, List.length_cons]
    rw [entsF_append (by simpa using h), show s + 1 + G.length = s + (G.length + 1) from by omega]
theorem entsF_set : ∀ {G : Grp} {vs : List Value} {s j : Nat} {x : Value}, vs.length = G.length → (entsF G vs s).modify j (fun e => { e with val := x }) = entsF G (vs.set j x) s
  | [], [], _, _, _, _ => by simp [entsF]
  | p :: G, v :: vs, s, 0, x, _ => by simp [entsF]
  | p :: G, v :: vs, s, j + 1, x, h => by simp only [entsF, List.modify_succ_cons, List.set_cons_succ]; rw [entsF_set (by simpa using h)]
theorem entsF_keys : ∀ {G G' : Grp} {vs : List Value} {s : Nat}, G.map (·.1) = G'.map (·.1) → entsF G vs s = entsF G' vs s
  | [], [], _, _, _ => rfl
  | p :: G, q :: G', [], _, _ => rfl
  | p :: G, q :: G', v :: vs, s, h => by
    simp only [List.map_cons, List.cons.injEq] at h
    simp only [entsF, h.1]; rw [entsF_keys h.2]
  | [], _ :: _, _, _, h => by cases h
  | _ :: _, [], _, _, h => by cases h
theorem entsF_born : ∀ {G : Grp} {vs : List Value} {s : Nat}, ∀ x ∈ entsF G vs s, s ≤ x.born ∧ x.born < s + G.length
  | p :: G, v :: vs, s, x, hx => by
    simp only [entsF, List.mem_cons] at hx
    rcases hx with rfl | hx
    · simp
    · have := entsF_born x hx; simp only [List.length_cons]; omega
  | [], vs, s, x, hx => by simp [entsF] at hx
  | _ :: _, [], s, x, hx => by simp [entsF] at hx
theorem entsF_nodup : ∀ {G : Grp} {vs : List Value} {s : Nat}, ((entsF G vs s).map (·.born)).Nodup
  | p :: G, v :: vs, s => by
    simp only [entsF, List.map_cons, List.nodup_cons]
    refine ⟨fun h => ?_, entsF_nodup⟩
    obtain ⟨x, hx, he⟩ := List.mem_map.1 h
    have := entsF_born x hx; omega
  | [], vs, s => by simp [entsF]
  | _ :: _, [], s => by simp [entsF]
theorem entsF_findIdx : ∀ {G : Grp} {vs : List Value} {s j : Nat}, vs.length = G.length → j < G.length → (entsF G vs s).findIdx? (fun e => ((e.born : Nat) : Int) == (((s + j : Nat)) : Int)) = some j
  | p :: G, v :: vs, s, 0, h, hj => by simp [entsF, List.findIdx?_cons]
  | p :: G, v :: vs, s, j + 1, h, hj => by
    have := entsF_findIdx (G := G) (vs := vs) (s := s + 1) (j := j) (by simpa using h) (by simpa using hj)
    rw [show s + 1 + j = s + (j + 1) from by omega] at this
    rw [entsF, List.findIdx?_cons, this]
    have hne : (((s : Nat) : Int) == ((s + (j + 1) : Nat) : Int)) = false := by rw [beq_eq_false_iff_ne]; omega
    simp only [hne]; simp
def idxG (k : Key) : Grp → Nat
  | [] => 0
  | p :: G => if k = p.1 then 0 else idxG k G + 1
theorem idxG_le (k : Key) : ∀ G, idxG k G ≤ G.length
  | [] => Nat.le_refl _
  | p :: G => by unfold idxG; split <;> simp; exact idxG_le k G
theorem idxG_key (k : Key) : ∀ (G : Grp) (h : idxG k G < G.length), G[idxG k G].1 = k
  | p :: G, h => by
    by_cases hk : k = p.1
    · simp [idxG, hk]
    · simp only [idxG, if_neg hk, List.getElem_cons_succ]; exact idxG_key k G (by simpa [idxG, hk] using h)
def entG (k : Key) (G : Grp) : Grp := if idxG k G < G.length then G else G ++ [(k, [])]
def entV (k : Key) (G : Grp) (vs : List Value) : List Value := if idxG k G < G.length then vs else vs ++ [.slice none 0 0]
theorem idxG_lt (k : Key) (G : Grp) : idxG k G < (entG k G).length := by
  unfold entG; split
  · assumption
  · have := idxG_le k G; simp; omega
theorem entV_length {k : Key} {G : Grp} {vs : List Value} (h : vs.length = G.length) : (entV k G vs).length = (entG k G).length := by
  unfold entV entG; split <;> simp [h]
theorem entG_key (k : Key) (G : Grp) : ∃ L, (entG k G)[idxG k G]? = some (k, L) := by
  unfold entG; split
  · rename_i h
    exact ⟨G[idxG k G].2, by rw [List.getElem?_eq_getElem h]; exact congrArg some (Prod.ext (idxG_key k G h) rfl)⟩
  · rename_i h
    have : idxG k G = G.length := by have := idxG_le k G; omega
    exact ⟨[], by rw [this]; simp⟩
theorem KeysFit.ent {k : Key} {G : Grp} (h : KeysFit G) (hk : k.1.length = 16) : KeysFit (entG k G) := by
  unfold entG; split
  · exact h
  · intro p hp
    rcases List.mem_append.1 hp with hp | hp
    · exact h p hp
    · rw [List.mem_singleton.1 hp]; exact hk
theorem keyV_inj {a b : Key} (ha : a.1.length = 16) (hb : b.1.length = 16) (h : keyV a = keyV b) : a = b := by
  unfold keyV at h
  obtain ⟨h1, h2⟩ := List.append_inj h (by simp [ha, hb])
  have h3 := bytes_inj h1
  simp only [List.cons.injEq, Value.int.injEq, true_and, and_true] at h2
  obtain ⟨a1, a2, a3⟩ := a
  obtain ⟨b1, b2, b3⟩ := b
  simp only at h2 h3 ⊢
  obtain ⟨h4, h5⟩ := h2
  rw [h3, show a2 = b2 by omega, show a3 = b3 by omega]
theorem kinKey {k : Key} (h : k.1.length = 16) : Kin (fun _ _ => True) (List.replicate 16 .u8 ++ [.u32, .u64]) (keyV k) := by
  refine ⟨by simp [keyV, h], fun i q hq => ?_⟩
  unfold keyV
  rcases Nat.lt_or_ge i 16 with hi | hi
  · rw [List.getElem?_append_left (by simpa using hi)] at hq
    rw [List.getElem?_append_left (by simpa [h] using hi)]
    exact (kinY h).2 i q hq
  · rw [List.getElem?_append_right (by simpa using hi)] at hq
    rw [List.getElem?_append_right (by simpa [h] using hi)]
    simp only [List.length_replicate, List.length_map, h] at hq ⊢
    rcases Nat.lt_or_ge (i - 16) 1 with hj | hj
    · rw [show i - 16 = 0 by omega] at hq ⊢; simp at hq; subst hq; exact ⟨_, rfl, trivial⟩
    · rcases Nat.lt_or_ge (i - 16) 2 with hj2 | hj2
      · rw [show i - 16 = 1 by omega] at hq ⊢; simp at hq; subst hq; exact ⟨_, rfl, trivial⟩
      · rw [List.getElem?_eq_none (by simpa using hj2)] at hq; cases hq
/-- What is asked of the map's types. -/
structure MapTy (P : Program) (mt kt et : TypeId) : Prop where
  ty : P.underlying mt = some (.map kt et)
  st : ∃ fs, P.underlying kt = some (.struct fs)
  fl : flat P 20 kt = some (List.replicate 16 .u8 ++ [.u32, .u64])
  ag : isAggT P kt = true
  check : ∀ (cs : List Value) (w : World), cs.length = 18 → (Instr.checkKey false 10000 kt (aggV cs)).run P w = .ok () w
  zero : ∀ w : World, (zeroValue et).run P w = .ok (.slice none 0 0) w
section
variable {P : Program} {mt kt et : TypeId}
theorem keyV_length {k : Key} (h : k.1.length = 16) : (keyV k).length = 18 := by simp [keyV, h]
theorem MapTy.eqK (T : MapTy P mt kt et) {a b : Key} (ha : a.1.length = 16) (hb : b.1.length = 16) (w : World) : (Op.equal kt (aggV (keyV a)) (aggV (keyV b))).run P w = .ok (decide (a = b)) w :=
  equal_flat (P := P) 20 T.fl (by decide) T.ag (kinKey ha) (kinKey hb) _ (by rw [decide_eq_true_iff]; exact ⟨fun h => by rw [h], keyV_inj ha hb⟩) w
theorem MapTy.asking (T : MapTy P mt kt et) {k : Key} (hk : k.1.length = 16) (w : World) : ∀ (G : Grp) (vs : List Value) (s i : Nat), vs.length = G.length → KeysFit G →
    (Instr.findAsking kt (aggV (keyV k)) (entsF G vs s) i).run P w = .ok (if idxG k G < G.length then some (i + idxG k G, vs.getD (idxG k G) undef) else none) w
  | [], [], s, i, _, _ => by simp [entsF, Instr.findAsking, idxG]
  | p :: G, v :: vs, s, i, h, hf => by
    have he := T.eqK hk (hf p (by simp)) w
    have ih := T.asking hk w G vs (s + 1) (i + 1) (by simpa using h) (fun q hq => hf q (by simp [hq]))
    simp only [entsF, Instr.findAsking, Sem.run_bind, he, Result.andThen_ok, idxG]
    by_cases hkp : k = p.1
    · simp [hkp]
    · simp only [hkp, decide_false, Bool.false_eq_true, if_false, ih]
      by_cases hl : idxG k G < G.length
      · rw [if_pos hl, if_pos (by simpa using hl)]; simp [Nat.add_assoc, Nat.add_comm 1]
      · rw [if_neg hl, if_neg (by simpa using hl)]
theorem MapTy.find (T : MapTy P mt kt et) {k : Key} (hk : k.1.length = 16) (w : World) {G : Grp} {vs : List Value} (h : vs.length = G.length) (hf : KeysFit G) :
    (Instr.findKey kt (aggV (keyV k)) (entsF G vs 0)).run P w = .ok (if idxG k G < G.length then some (idxG k G, vs.getD (idxG k G) undef) else none) w := by
  obtain ⟨fs, hs⟩ := T.st
  have ha := T.asking hk w G vs 0 0 h hf
  simp only [Nat.zero_add] at ha
  unfold Instr.findKey
  simp only [Sem.run_bind, run_underlying hs, Result.andThen_ok]
  cases G with
  | nil =>
    cases vs with
    | nil => simp [entsF, Instr.findNow, idxG]
    | cons => cases h
  | cons p G =>
    cases vs with
    | nil => cases h
    | cons v vs =>
      have hn : Instr.findNow (TypeDesc.struct fs) (aggV (keyV k)) (entsF (p :: G) (v :: vs) 0) 0 = none := by simp [entsF, Instr.findNow, Instr.sameNow]
      rw [hn]; exact ha
theorem sameBits_ints : ∀ (cs : List Value), (∀ c ∈ cs, ∃ k n, c = .int k n) → ((cs.zip cs).all fun (x, y) => Instr.sameBits 9999 x y) = true
  | [], _ => rfl
  | c :: cs, h => by
    obtain ⟨k, n, rfl⟩ := h c (by simp)
    rw [List.zip_cons_cons, List.all_cons, sameBits_ints cs (fun d hd => h d (by simp [hd]))]
    simp [Instr.sameBits]
theorem stays_key (k : Key) (w : World) : (Instr.keyThatStays (aggV (keyV k)) (aggV (keyV k))).run P w = .ok (aggV (keyV k)) w := by
  have h : Instr.sameBits 10000 (aggV (keyV k)) (aggV (keyV k)) = true := by
    have := sameBits_ints (keyV k) (fun c hc => by
      simp only [keyV, List.mem_append, List.mem_map, List.mem_cons, List.not_mem_nil, or_false] at hc
      rcases hc with ⟨b, _, rfl⟩ | rfl | rfl <;> exact ⟨_, _, rfl⟩)
    simp only [aggV, Instr.sameBits, beq_self_eq_true, Bool.true_and]
    exact this
  simp [Instr.keyThatStays, h]
theorem run_mapEntry (T : MapTy P mt kt et) {k : Key} (hk : k.1.length = 16) {w : World} {b : Nat} {G : Grp} {vs : List Value} (hb : w.heap[b]? = some (.map (entsF G vs 0).toArray G.length)) (h : vs.length = G.length) (hf : KeysFit G) :
    (Instr.mapEntry mt (.map (some b)) (aggV (keyV k))).run P w = .ok (.tuple #[(entV k G vs).getD (idxG k G) undef, .int .i64 ((idxG k G : Nat) : Int)]) (setBlock w b (.map (entsF (entG k G) (entV k G vs) 0).toArray (entG k G).length)) := by
  have hfind := T.find hk w h hf
  by_cases hl : idxG k G < G.length
  · rw [if_pos hl] at hfind
    obtain ⟨v, hv, he⟩ := entsF_get (s := 0) h hl
    have hmod : (entsF G vs 0).toArray.modify (idxG k G) (fun e => { e with key := aggV (keyV k) }) = (entsF G vs 0).toArray := by
      apply Array.ext'
      rw [Array.toList_modify]
      have : (entsF G vs 0).modify (idxG k G) (fun e => { e with key := aggV (keyV k) }) = entsF G vs 0 := by
        apply List.ext_getElem?
        intro i
        rw [List.getElem?_modify]
        by_cases hi : idxG k G = i
        · subst hi; rw [he]; simp [idxG_key k G hl]
        · simp [hi]
      exact this
    have hg : ((entsF G vs 0).toArray[idxG k G]?) = some { key := aggV (keyV k), val := v, born := idxG k G } := by
      rw [List.getElem?_toArray, he, Nat.zero_add, idxG_key k G hl]
    simp only [Instr.mapEntry, Sem.run_bind, run_underlying T.ty, Result.andThen_ok, MapKept.run_getObj_map hb, T.check _ w (keyV_length hk), hfind, hg, Option.map_some, Option.getD_some, stays_key, hmod, MapKept.run_setObj_map _ hb, Sem.run_pure, entG, entV, if_pos hl]
    rfl
  · rw [if_neg hl] at hfind
    have hi : idxG k G = G.length := by have := idxG_le k G; omega
    have hpush : (entsF G vs 0).toArray.push { key := aggV (keyV k), val := .slice none 0 0, born := G.length } = (entsF (G ++ [(k, [])]) (vs ++ [.slice none 0 0]) 0).toArray := by
      rw [entsF_append h]; simp
    simp only [Instr.mapEntry, Sem.run_bind, run_underlying T.ty, Result.andThen_ok, MapKept.run_getObj_map hb, T.check _ w (keyV_length hk), hfind, T.zero, hpush, MapKept.run_setObj_map _ hb, Sem.run_pure, entG, entV, if_neg hl]
    have : (vs ++ [Value.slice none 0 0]).getD (idxG k G) undef = .slice none 0 0 := by rw [hi, ← h]; simp
    rw [this, hi]
    simp [setBlock, goInt]
theorem run_entryStore {w : World} {b j : Nat} {G : Grp} {vs : List Value} {v : Value} (hb : w.heap[b]? = some (.map (entsF G vs 0).toArray G.length)) (h : vs.length = G.length) (hj : j < G.length) :
    (Instr.entryStore mt (.map (some b)) (.int .i64 (j : Int)) v).run P w = .ok () (setBlock w b (.map (entsF G (vs.set j v) 0).toArray G.length)) := by
  have hf : (entsF G vs 0).toArray.findIdx? (fun e => ((e.born : Nat) : Int) == ((j : Nat) : Int)) = some j := by
    have := entsF_findIdx (s := 0) h hj
    rw [Nat.zero_add] at this
    rw [List.findIdx?_toArray]; exact this
  have hm : (entsF G vs 0).toArray.modify j (fun e => { e with val := v }) = (entsF G (vs.set j v) 0).toArray := by
    apply Array.ext'
    rw [Array.toList_modify]; exact entsF_set h
  simp only [Instr.entryStore, Sem.run_bind, MapKept.run_getObj_map hb, Result.andThen_ok, asInt, asIntOf, Sem.run_pure, hf, hm, MapKept.run_setObj_map _ hb]
  rfl
end
end Go.Proofs.Ythhmimnkfklhdaa
namespace Go.Proofs.Ythhmimnkfklhdaa
open Go Go.RowKit
open Go.ChangeMaps (setBlock)
set_option linter.unusedVariables false
set_option linter.unusedSimpArgs false
variable {κ : Cx}
/-- The slices vs own the lists, each in a block of its own. -/
def RowsS (lo : Nat) (e : TypeId) (vs : List Value) (Ls : List (List Nat)) (B : Nat) (w : World) : Prop :=
  (∀ (j : Nat) (v : Value) (L : List Nat), vs[j]? = some v → Ls[j]? = some L → w.ownsRow lo e 1 v L.length (natR L) ∧ ∀ g, v.ownBlock = some g → g < B) ∧
  ∀ (i j : Nat) (v v' : Value) (g : Nat), vs[i]? = some v → vs[j]? = some v' → v.ownBlock = some g → v'.ownBlock = some g → i = j
theorem ownsRow_other {w w' : World} {lo n : Nat} {e : TypeId} {v : Value} {xs : List Value} (h : w.ownsRow lo e 1 v n xs) (hk : ∀ g cur fr, v.ownBlock = some g → lo ≤ g → w.heap[g]? = some (.cells cur e fr) → w'.heap[g]? = w.heap[g]?) : w'.ownsRow lo e 1 v n xs := by
  obtain ⟨h1, h2⟩ := h
  refine ⟨h1, h2.imp id ?_⟩
  rintro ⟨g, cap, cur, rfl, hb, hh, hr⟩
  exact ⟨g, cap, cur, rfl, hb, by rw [hk g cur _ rfl hb hh]; exact hh, hr⟩
theorem RowsS.other {lo : Nat} {e : TypeId} {vs : List Value} {Ls : List (List Nat)} {B B' : Nat} {w w' : World} (h : RowsS lo e vs Ls B w) (hB : B ≤ B') (hk : ∀ g cur fr, lo ≤ g → g < B → w.heap[g]? = some (.cells cur e fr) → w'.heap[g]? = w.heap[g]?) : RowsS lo e vs Ls B' w' :=
  ⟨fun j v L hv hL => by
    obtain ⟨h1, h2⟩ := h.1 j v L hv hL
    exact ⟨ownsRow_other h1 fun g cur fr hg hb hh => hk g cur fr hb (h2 g hg) hh, fun g hg => Nat.lt_of_lt_of_le (h2 g hg) hB⟩, h.2⟩
/-- Block b is the map with these entries. -/
def MapS (lo : Nat) (e : TypeId) (b : Nat) (vs : List Value) (G : Grp) (B : Nat) (w : World) : Prop :=
  lo ≤ b ∧ b < B ∧ vs.length = G.length ∧ KeysFit G ∧ w.heap[b]? = some (.map (entsF G vs 0).toArray G.length) ∧ RowsS lo e vs (G.map (·.2)) B w
theorem MapS.other {lo : Nat} {e : TypeId} {b : Nat} {vs : List Value} {G : Grp} {B B' : Nat} {w w' : World} (h : MapS lo e b vs G B w) (hB : B ≤ B') (hm : w'.heap[b]? = w.heap[b]?) (hk : ∀ g cur fr, lo ≤ g → g < B → w.heap[g]? = some (.cells cur e fr) → w'.heap[g]? = w.heap[g]?) : MapS lo e b vs G B' w' := by
  obtain ⟨h1, h2, h3, h4, h5, h6⟩ := h
  exact ⟨h1, by omega, h3, h4, by rw [hm]; exact h5, h6.other hB hk⟩
def mapM (lo : Nat) (e : TypeId) (b : Nat) (vs : List Value) (G : Grp) : D :=
  .p (fun B w _ => MapS lo e b vs G B w) (fun B w w' _ g h => h.other (Nat.le_refl _) (g.block b h.2.1) fun k _ _ _ hk _ => g.block k hk) (fun B B' w _ g h => h.other g rfl fun _ _ _ _ _ _ => rfl)
/-- .. where the slice of entry j has gone into v, which owns L. -/
def MapX (lo : Nat) (e : TypeId) (b : Nat) (vs : List Value) (G : Grp) (j : Nat) (v : Value) (L : List Nat) (B : Nat) (w : World) : Prop :=
  lo ≤ b ∧ b < B ∧ vs.length = G.length ∧ KeysFit G ∧ w.heap[b]? = some (.map (entsF G vs 0).toArray G.length) ∧ RowsS lo e (vs.set j v) ((G.map (·.2)).set j L) B w
def mapX (lo : Nat) (e : TypeId) (b : Nat) (vs : List Value) (G : Grp) (j : Nat) (v : Value) (L : List Nat) : D :=
  .p (fun B w _ => MapX lo e b vs G j v L B w) (fun B w w' _ g ⟨h1, h2, h3, h4, h5, h6⟩ => ⟨h1, h2, h3, h4, by rw [g.block b h2]; exact h5, h6.other (Nat.le_refl _) fun k _ _ _ hk _ => g.block k hk⟩)
    (fun B B' w _ g ⟨h1, h2, h3, h4, h5, h6⟩ => ⟨h1, Nat.lt_of_lt_of_le h2 g, h3, h4, h5, h6.other g fun _ _ _ _ _ _ => rfl⟩)
/-! ### What survives a write of a block that holds no cells -/
structure WroteO (b : Nat) (w w' : World) : Prop where
  os : w'.os = w.os
  tape : w'.tape = w.tape
  output : w'.output = w.output
  size : w.heap.size ≤ w'.heap.size
  obj : ∀ cs e fr, w.heap[b]? ≠ some (.cells cs e fr)
  other : ∀ k, k < w.heap.size → k ≠ b → w'.heap[k]? = w.heap[k]?
def SurvO (b : Nat) (d : D) : Prop := ∀ w w' x, WroteO b w w' → d.Of w x → d.Of w' x
theorem SurvO.v {b : Nat} (y : Value) : SurvO b (.v y) := fun _ _ _ _ h => h
theorem WroteO.under {b : Nat} {w w' : World} (h : WroteO b w w') {k : Nat} (hg : k ≤ b) (hk : k ≤ w.heap.size) : Below k w w' := ⟨h.os, h.tape, h.output, h.size, fun j hj => h.other j (by omega) (by omega)⟩
theorem SurvO.old {b B' : Nat} {d : D} (h : B' ≤ b) : SurvO b (Go.Proofs.Ythhmimnkfklhdaa.old B' d) := fun _ _ _ k ⟨h1, h2⟩ => ⟨Nat.le_trans h1 k.size, D.OfB.keep h2 (k.under h h1)⟩
theorem SurvO.blk {b b' : Nat} {e : TypeId} {xs : List Value} : SurvO b (Go.Proofs.Ythhmimnkfklhdaa.blk b' e xs) := fun _ _ _ k ⟨h1, h2⟩ => ⟨Nat.lt_of_lt_of_le h1 k.size, (k.other b' h1 fun hb => by subst hb; exact k.obj _ _ _ h2).trans h2⟩
theorem SurvO.own {b base n : Nat} {e : TypeId} {xs : List Value} : SurvO b (Go.Proofs.Ythhmimnkfklhdaa.own base e n xs) := fun w w' x k ⟨h1, h2⟩ => by
  refine ⟨ownsRow_other h1 fun g cur fr hg _ hh => k.other g (h2 g hg) fun hb => by subst hb; exact k.obj _ _ _ hh, fun g hg => Nat.lt_of_lt_of_le (h2 g hg) k.size⟩
def LeftO (b : Nat) (E' E : Env) : Prop := ∀ p ∈ E', E.look p.1 = some p.2 ∧ SurvO b p.2
theorem LeftO.nil {b : Nat} {E : Env} : LeftO b [] E := fun _ h => by cases h
theorem LeftO.cons {b : Nat} {E E' : Env} {t : Nat} {d : D} (h : E.look t = some d) (hs : SurvO b d) (hr : LeftO b E' E) : LeftO b ((t, d) :: E') E := fun p hp => by
  rcases List.mem_cons.1 hp with rfl | hp
  · exact ⟨h, hs⟩
  · exact hr p hp
theorem LeftO.st {n B b : Nat} {E E' : Env} {a : Act} {w w' : World} (hl : LeftO b E' E) (h : St κ n B E a w) (k : WroteO b w w') : St κ n B E' a w' :=
  ⟨Nat.le_trans h.base k.size, h.defers, h.size, fun t d hd => by
    obtain ⟨h1, h2⟩ := hl _ (look_mem hd)
    exact h2 _ _ _ k (h.of t d h1)⟩
theorem wroteO_set {w : World} {b : Nat} {o : Obj} (hb : b < w.heap.size) (hc : ∀ cs e fr, w.heap[b]? ≠ some (.cells cs e fr)) : WroteO b w (setBlock w b o) :=
  ⟨rfl, rfl, rfl, by simp [setBlock], hc, fun k hk hne => by simp [setBlock, Array.getElem?_setIfInBounds_ne (Ne.symm hne)]⟩
theorem setBlock_at {w : World} {b : Nat} {o : Obj} (hb : b < w.heap.size) : (setBlock w b o).heap[b]? = some o := by simp [setBlock, hb]
theorem setBlock_ne {w : World} {b k : Nat} {o : Obj} (h : k ≠ b) : (setBlock w b o).heap[k]? = w.heap[k]? := by simp [setBlock, Array.getElem?_setIfInBounds_ne (Ne.symm h)]
theorem setBlock_size {w : World} {b : Nat} {o : Obj} : (setBlock w b o).heap.size = w.heap.size := by simp [setBlock]
section
variable {P : Program} {n B : Nat} {ops : Array Oper} {E : Env} {ty : TypeId} {pos : String} {after : Array Edge}
theorem eff_makeMap {mt kt et : TypeId} {dst s e : Nat} (T : MapTy P mt kt et) (hrun : ∀ w : World, (Instr.makeMap mt none).run P w = .ok (.map (some w.heap.size)) (w.alloc (.map #[] 0))) (hdst : dst < n) (hnv : n ≤ vbase) (hs : vbase ≤ s) :
    EffG P n B ops ⟨some dst, .makeMap mt none, ty, pos, after, none⟩ E (NewB B E) (fun b => (dst, .v (.map (some b))) :: (s, mapM B e b [] []) :: E) := by
  intro κ a w K Q h hK
  have hexec : (execOp a.eval ⟨some dst, .makeMap mt none, ty, pos, after, none⟩).run P w = .ok (.value (.map (some w.heap.size))) (w.alloc (.map #[] 0)) := by
    simp [execOp, hrun]
  rw [if_pos (by simp [Region.wanted])]
  refine opR (by nofun) ?_
  unfold Oper.wp
  rw [hexec, Oper.upon_value]
  have hg : Below B w (w.alloc (.map #[] 0)) := (Below.refl B w).alloc h.base _
  refine hK w.heap.size _ _ ⟨h.base, fun s' b' e' ys hs' => (h.of s' _ hs').1⟩ hg (St.put (St.pushes (h.grow (Grow.alloc w _)) hnv [(s, mapM B e w.heap.size [] [])] fun q hq => ?_) hdst rfl)
  rw [List.mem_singleton.1 hq]
  exact ⟨hs, h.base, by simp, rfl, (fun p hp => by cases hp), heap_alloc_new w _, (fun j v L hv => by cases hv), (fun i j v v' g hv => by cases hv)⟩
theorem eff_mapEntry {mt kt et : TypeId} {m x : Operand} {k : Key} {dst s b lo e : Nat} {vs : List Value} {G : Grp} {E' : Env} (T : MapTy P mt kt et) (hk : k.1.length = 16) (hm : E.at m = some (.v (.map (some b)))) (hx : E.at x = some (.v (aggV (keyV k)))) (hs : E.look s = some (mapM lo e b vs G)) (hlo : B ≤ lo) (hdst : dst < n) (hnv : n ≤ vbase) (hsv : vbase ≤ s) (hl : LeftO b E' E) :
    Eff P n B ops ⟨some dst, .mapEntry mt m x, ty, pos, after, none⟩ E ((dst, .v (.tuple #[(entV k G vs).getD (idxG k G) undef, .int .i64 ((idxG k G : Nat) : Int)])) :: ([(s, mapM lo e b (entV k G vs) (entG k G))] ++ E')) := by
  intro κ a w K Q h hK
  have hme : a.eval m = _ := h.at_ m _ hm
  have hxe : a.eval x = _ := h.at_ x _ hx
  obtain ⟨h1, h2, h3, h4, h5, h6⟩ := h.of s _ hs
  have hr := run_mapEntry T hk h5 h3 h4
  have hexec : (execOp a.eval ⟨some dst, .mapEntry mt m x, ty, pos, after, none⟩).run P w = .ok (.value (.tuple #[(entV k G vs).getD (idxG k G) undef, .int .i64 ((idxG k G : Nat) : Int)])) (setBlock w b (.map (entsF (entG k G) (entV k G vs) 0).toArray (entG k G).length)) := by
    simp [execOp, hme, hxe, hr]
  have hc : ∀ cs e fr, w.heap[b]? ≠ some (.cells cs e fr) := fun _ _ _ hh => by rw [h5] at hh; cases hh
  have hwr := wroteO_set (o := .map (entsF (entG k G) (entV k G vs) 0).toArray (entG k G).length) h2 hc
  rw [if_pos (by simp [Region.wanted])]
  refine opR (by nofun) ?_
  unfold Oper.wp
  rw [hexec, Oper.upon_value]
  refine hK _ _ (hwr.under (Nat.le_trans hlo h1) h.base) (St.put (St.pushes (hl.st h hwr) hnv _ fun q hq => ?_) hdst rfl)
  rw [List.mem_singleton.1 hq]
  refine ⟨hsv, h1, by rw [setBlock_size]; exact h2, entV_length h3, h4.ent hk, setBlock_at h2, ?_⟩
  have h7 : RowsS lo e vs (G.map (·.2)) (setBlock w b (.map (entsF (entG k G) (entV k G vs) 0).toArray (entG k G).length)).heap.size (setBlock w b (.map (entsF (entG k G) (entV k G vs) 0).toArray (entG k G).length)) :=
    h6.other (by rw [setBlock_size]; exact Nat.le_refl _) fun g cur fr _ _ hh => setBlock_ne fun hg => by subst hg; exact hc _ _ _ hh
  generalize setBlock w b (.map (entsF (entG k G) (entV k G vs) 0).toArray (entG k G).length) = w' at h7 ⊢
  unfold entV entG
  split
  · exact h7
  · refine ⟨fun j v L hv hL => ?_, fun i j v v' g hv hv' hg hg' => ?_⟩
    · rw [List.map_append] at hL
      rcases Nat.lt_or_ge j vs.length with hj | hj
      · rw [List.getElem?_append_left hj] at hv
        rw [List.getElem?_append_left (by rw [List.length_map]; omega)] at hL
        exact h7.1 j v L hv hL
      · rw [List.getElem?_append_right hj] at hv
        rw [List.getElem?_append_right (by rw [List.length_map]; omega), List.length_map, ← h3] at hL
        cases hi : j - vs.length with
        | zero =>
          rw [hi] at hv hL
          simp only [List.getElem?_cons_zero, Option.some.injEq, List.map_cons] at hv hL
          subst hv; subst hL
          exact ⟨World.ownsRow_nil _ _ _ _, fun g hg => by simp [Value.ownBlock] at hg⟩
        | succ i => rw [hi] at hv; simp at hv
    · have nl : ∀ (i : Nat) (v : Value), (vs ++ [Value.slice none 0 0])[i]? = some v → v.ownBlock = some g → vs[i]? = some v := fun i v hv hg => by
        rcases Nat.lt_or_ge i vs.length with hj | hj
        · rwa [List.getElem?_append_left hj] at hv
        · rw [List.getElem?_append_right hj] at hv
          cases hi : i - vs.length with
          | zero => rw [hi] at hv; simp only [List.getElem?_cons_zero, Option.some.injEq] at hv; subst hv; simp [Value.ownBlock] at hg
          | succ i => rw [hi] at hv; simp at hv
      exact h7.2 i j v v' g (nl i v hv hg) (nl j v' hv' hg') hg hg'
theorem set_get {α : Type} {l : List α} {j i : Nat} {x y : α} (h : (l.set j x)[i]? = some y) : (i = j ∧ y = x ∧ j < l.length) ∨ (i ≠ j ∧ l[i]? = some y) := by
  rw [List.getElem?_set] at h
  by_cases hij : j = i
  · subst hij
    rw [if_pos rfl] at h
    split at h
    · rename_i hl; injection h with h; exact .inl ⟨rfl, h.symm, hl⟩
    · cases h
  · rw [if_neg hij] at h; exact .inr ⟨Ne.symm hij, h⟩
theorem eff_appendM {t e : TypeId} {z : Value} {nb : Nat} {r x : Operand} {b j s dst base' : Nat} {y : Nat} {v : Value} {L : List Nat} {vs : List Value} {G : Grp} {E' : Env} (ht : P.underlying t = some (.slice e)) (hinfo : InfoIs P e z nb) (hnb : nb ≤ 64) (hz1 : z.cells.size = 1)
    (hr : E.at r = some (.v v)) (hv : vs[j]? = some v) (hL : (G.map (·.2))[j]? = some L) (hs : E.look s = some (mapM B e b vs G)) (hx : E.at x = some (fresh base' e [.int .i64 (y : Int)] 1)) (hk : L.length ≤ 1099511627776) (hdst : dst < n) (hnv : n ≤ vbase) (hsv : vbase ≤ s) (hl : ∀ g, B ≤ g → LeftS B e g E' E) :
    EffG P n B ops ⟨some dst, .call { callee := .builtin .append, args := #[r, x], argTypes := #[t, t] }, ty, pos, after, none⟩ E (fun v' : Value => v'.oneCell' = true) (fun v' => (dst, .v v') :: ([(s, mapX B e b vs G j v' (L ++ [y]))] ++ E')) := by
  obtain ⟨i, hi, hz, hsz, hby⟩ := hinfo.get
  intro κ a w K Q h hK
  have hre : a.eval r = v := h.at_ r _ hr
  obtain ⟨bb, hxe, _, hbb, hbh⟩ := h.at_ x _ hx
  have hxe : a.eval x = .slice (some ⟨bb, 0, none⟩) 1 1 := hxe
  obtain ⟨h1, h2, h3, h4, h5, h6⟩ := h.of s _ hs
  obtain ⟨hown, hvb⟩ := h6.1 j v L hv hL
  have hbyt : (L.length + 1) * i.bytes ≤ (L.length + 1) * 64 := Nat.mul_le_mul_left _ (by omega)
  obtain ⟨v', w', hrun, k1, k2, _, k3⟩ := run_append_own_at (P := P) w B t ty e i z 1 i.bytes ht hi hz hsz rfl hz1 (by decide) v L.length (natR L) hown ⟨bb, 0, none⟩ 1 1 [.int .i64 (y : Int)] rfl (fun q u hu => by
      rw [show (⟨bb, 0, none⟩ : Addr).add q = ⟨bb, q, none⟩ from by unfold Addr.add; split <;> simp_all]
      simp [World.cell?, hbh]; simpa using hu) (fun u hu => by rw [List.mem_singleton.1 hu]; rfl) (by simp only [maxLen]; omega) (by omega) h.base
  have hexec : (execOp a.eval ⟨some dst, .call { callee := .builtin .append, args := #[r, x], argTypes := #[t, t] }, ty, pos, after, none⟩).run P w = .ok (.value v') w' := by
    simp [execOp, resolve, invoke, builtin, hre, hxe, hrun]
  rw [if_pos (by simp [Region.wanted])]
  refine opR (by nofun) ?_
  unfold Oper.wp
  rw [hexec, Oper.upon_value]
  have hbase : ∀ g, v.ownBlock = some g → B ≤ g := fun g hg => by
    rcases hown.2 with ⟨hv, _⟩ | ⟨g', cap, cur, hv, hb, _⟩
    · rw [hv] at hg; simp [Value.ownBlock] at hg
    · rw [hv] at hg; simp [Value.ownBlock] at hg; omega
  have hbel : Below B w w' := (Below.refl B w).grown k2 h.base hbase
  have hlt : ∀ g, v'.ownBlock = some g → g < w'.heap.size := fun g hg => by
    rcases k1.2 with ⟨hv, _⟩ | ⟨g', cap, cur, hv, _, hh, _⟩
    · rw [hv] at hg; simp [Value.ownBlock] at hg
    · rw [hv] at hg; simp [Value.ownBlock] at hg; subst hg
      rcases Nat.lt_or_ge g' w'.heap.size with h | h
      · exact h
      · rw [Array.getElem?_eq_none h] at hh; cases hh
  have hwr : ∃ g, B ≤ g ∧ Wrote B e g w w' := by
    rcases hown.2 with ⟨hv, _⟩ | ⟨g', cap, cur, hv, hb, hh, _⟩
    · refine ⟨w.heap.size, h.base, h.base, k2.os, k2.tape, k2.output, k2.size, fun o hx => ?_, fun k hk _ => k2.block k hk (by rw [hv]; simp [Value.ownBlock])⟩
      rw [Array.getElem?_eq_none (Nat.le_refl _)] at hx; cases hx
    · refine ⟨g', hb, hb, k2.os, k2.tape, k2.output, k2.size, fun o hx => ?_, fun k hk hne => k2.block k hk (by rw [hv]; simp [Value.ownBlock]; omega)⟩
      rw [hh] at hx; injection hx with hx; exact ⟨_, _, hx.symm⟩
  obtain ⟨g, hg, hwr⟩ := hwr
  have hmap : w'.heap[b]? = w.heap[b]? := k2.block b h2 (by
    intro hb
    rcases hown.2 with ⟨hv, _⟩ | ⟨g', cap, cur, hv, _, hh, _⟩
    · rw [hv] at hb; simp [Value.ownBlock] at hb
    · rw [hv] at hb; simp [Value.ownBlock] at hb; subst hb; rw [h5] at hh; cases hh)
  refine hK v' _ _ (by rcases k1.2 with ⟨hv, _⟩ | ⟨_, _, _, hv, _⟩ <;> rw [hv] <;> rfl) hbel (St.put (St.pushes ((hl g hg).st h hwr) hnv _ fun q hq => ?_) hdst rfl)
  rw [List.mem_singleton.1 hq]
  have oth : ∀ (i : Nat) (u : Value), i ≠ j → vs[i]? = some u → ∀ g, u.ownBlock = some g → w'.heap[g]? = w.heap[g]? := fun i u hij hu g hg => k2.block g ((h6.1 i u _ hu (List.getElem?_eq_getElem (by rw [List.length_map, ← h3]; exact (List.getElem?_eq_some_iff.1 hu).1))).2 g hg) (fun hgv => hij (h6.2 i j u v g hu hv hg hgv.symm))
  have old : ∀ (i : Nat) (u : Value), vs[i]? = some u → ∀ g, u.ownBlock = some g → g < w.heap.size := fun i u hu g hg => (h6.1 i u _ hu (List.getElem?_eq_getElem (by rw [List.length_map, ← h3]; exact (List.getElem?_eq_some_iff.1 hu).1))).2 g hg
  refine ⟨hsv, h1, Nat.lt_of_lt_of_le h2 k2.size, h3, h4, by rw [hmap]; exact h5, fun i u M hu hM => ?_, fun i i' u u' g hu hu' hg hg' => ?_⟩
  · rcases set_get hu with ⟨hij, hu1, hlt1⟩ | ⟨hij, hu1⟩
    · rcases set_get hM with ⟨_, hM1, _⟩ | ⟨hij2, _⟩
      · rw [hu1, hM1]; exact ⟨by simpa [natR] using k1, hlt⟩
      · exact absurd hij hij2
    · rcases set_get hM with ⟨h7, _⟩ | ⟨_, hM1⟩
      · exact absurd h7 hij
      · obtain ⟨h7, h8⟩ := h6.1 i u M hu1 hM1
        exact ⟨ownsRow_other h7 fun g _ _ hg _ _ => oth i u hij hu1 g hg, fun g hg => Nat.lt_of_lt_of_le (h8 g hg) k2.size⟩
  · have new : ∀ (i : Nat) (u : Value), i ≠ j → vs[i]? = some u → u.ownBlock = some g → v'.ownBlock ≠ some g := fun i u hij hu hg hg' => by
      rcases k3 with h9 | h9
      · rw [h9] at hg'; exact hij (h6.2 i j u v g hu hv hg hg')
      · rw [h9] at hg'; injection hg' with hg'; have := old i u hu g hg; omega
    rcases set_get hu with ⟨hij, hu1, _⟩ | ⟨hij, hu1⟩ <;> rcases set_get hu' with ⟨hij', hu1', _⟩ | ⟨hij', hu1'⟩
    · rw [hij, hij']
    · exact absurd (hu1 ▸ hg) (new i' u' hij' hu1' hg')
    · exact absurd (hu1' ▸ hg') (new i u hij hu1 hg)
    · exact h6.2 i i' u u' g hu1 hu1' hg hg'
theorem eff_entryStore {mt : TypeId} {m st r : Operand} {b j s lo e : Nat} {k : Key} {v : Value} {L L₀ : List Nat} {vs : List Value} {G : Grp} {E' : Env} (hm : E.at m = some (.v (.map (some b)))) (hst : E.at st = some (.v (.int .i64 (j : Int)))) (hr : E.at r = some (.v v)) (hs : E.look s = some (mapX lo e b vs G j v L)) (hj : G[j]? = some (k, L₀))
    (hlo : B ≤ lo) (hnv : n ≤ vbase) (hsv : vbase ≤ s) (hl : LeftO b E' E) :
    Eff P n B ops ⟨none, .entryStore mt m st r, ty, pos, after, none⟩ E ([(s, mapM lo e b (vs.set j v) (G.set j (k, L)))] ++ E') := by
  intro κ a w K Q h hK
  have hme : a.eval m = _ := h.at_ m _ hm
  have hse : a.eval st = _ := h.at_ st _ hst
  have hre : a.eval r = _ := h.at_ r _ hr
  obtain ⟨h1, h2, h3, h4, h5, h6⟩ := h.of s _ hs
  have hjl : j < G.length := (List.getElem?_eq_some_iff.1 hj).1
  have hrun := run_entryStore (P := P) (mt := mt) (v := v) h5 h3 hjl
  have hexec : (execOp a.eval ⟨none, .entryStore mt m st r, ty, pos, after, none⟩).run P w = .ok .skip (setBlock w b (.map (entsF G (vs.set j v) 0).toArray G.length)) := by
    simp [execOp, hme, hse, hre, hrun]
  have hc : ∀ cs e fr, w.heap[b]? ≠ some (.cells cs e fr) := fun _ _ _ hh => by rw [h5] at hh; cases hh
  have hwr := wroteO_set (o := .map (entsF G (vs.set j v) 0).toArray G.length) h2 hc
  rw [if_pos (by simp [Region.wanted])]
  refine opR (by nofun) ?_
  unfold Oper.wp
  rw [hexec, Oper.upon_skip]
  have hkeys : (G.set j (k, L)).map (·.1) = G.map (·.1) := by
    rw [List.map_set]
    apply List.ext_getElem?
    intro i
    rw [List.getElem?_set]
    split
    · rename_i hi; subst hi
      rw [List.length_map, if_pos hjl, List.getElem?_map, hj]; rfl
    · rfl
  refine hK _ _ (hwr.under (Nat.le_trans hlo h1) h.base) ?_
  show St κ n B _ a _
  refine St.pushes (hl.st h hwr) hnv _ fun q hq => ?_
  rw [List.mem_singleton.1 hq]
  refine ⟨hsv, h1, by rw [setBlock_size]; exact h2, by simp [h3], fun p hp => ?_, ?_, ?_⟩
  · have hp' : p.1 ∈ (G.set j (k, L)).map (·.1) := List.mem_map_of_mem hp
    rw [hkeys] at hp'
    obtain ⟨q', hq', he⟩ := List.mem_map.1 hp'
    rw [← he]; exact h4 q' hq'
  · rw [entsF_keys hkeys, List.length_set]; exact setBlock_at h2
  · have : (G.set j (k, L)).map (·.2) = (G.map (·.2)).set j L := by rw [List.map_set]
    rw [this]
    exact h6.other (by rw [setBlock_size]; exact Nat.le_refl _) fun g cur fr _ _ hh => setBlock_ne fun hg => by subst hg; exact hc _ _ _ hh
end
end Go.Proofs.Ythhmimnkfklhdaa
namespace Go.Proofs.Ythhmimnkfklhdaa
open Go Go.RowKit
set_option linter.unusedVariables false
set_option linter.unusedSimpArgs false
variable {κ : Cx}
/-- All blocks but b and the row of v are as they were. -/
structure KeptB (b : Nat) (v : Value) (w w' : World) : Prop where
  os : w'.os = w.os
  tape : w'.tape = w.tape
  output : w'.output = w.output
  size : w.heap.size ≤ w'.heap.size
  other : ∀ k, k < w.heap.size → k ≠ b → v.ownBlock ≠ some k → w'.heap[k]? = w.heap[k]?
theorem KeptB.under {b : Nat} {v : Value} {w w' : World} (h : KeptB b v w w') {k : Nat} (hb : k ≤ b) (hv : ∀ g, v.ownBlock = some g → k ≤ g) (hk : k ≤ w.heap.size) : Below k w w' :=
  ⟨h.os, h.tape, h.output, h.size, fun j hj => h.other j (by omega) (by omega) fun hg => by have := hv j hg; omega⟩
def selfP (b : Nat) : Value := .pointer (some ⟨b, 0, none⟩)
/-- The row has gone from v to v'. -/
def RowTo (v v' : Value) (n : Nat) : Prop := v'.ownBlock = v.ownBlock ∨ ∃ g, v'.ownBlock = some g ∧ n ≤ g
structure Adds (T e : TypeId) (lo b : Nat) (v : Value) (bs add : List Value) (w w' : World) (v' : Value) : Prop where
  kept : KeptB b v w w'
  blk : w'.heap[b]? = some (.cells #[selfP b, v'] T (0, 0))
  own : w'.ownsRow lo e 1 v' (bs.length + add.length) (bs ++ add)
  row : RowTo v v' w.heap.size
  ne : v'.ownBlock ≠ some b
/-- A contract: called with a pointer to such a struct, and the values us, f adds bytes to it and returns r. -/
structure FnAdd (P : Program) (f : FuncId) (T e : TypeId) (us : List Value) (add : List Value) (r : Value) : Prop where
  body : HasBody P f
  calls : ∀ (lo b : Nat) (v : Value) (bs : List Value) (w : World), lo ≤ b → b < w.heap.size → w.heap[b]? = some (.cells #[selfP b, v] T (0, 0)) → w.ownsRow lo e 1 v bs.length bs → v.ownBlock ≠ some b → bs.length + add.length ≤ 1099511627776 → (∀ x ∈ bs, x.oneCell' = true) →
    Calls P f (selfP b :: us).toArray w fun en w' => en = .returned r ∧ ∃ v', Adds T e lo b v bs add w w' v'
theorem ownsRow_lt {w : World} {lo n : Nat} {e : TypeId} {v : Value} {xs : List Value} (h : w.ownsRow lo e 1 v n xs) : ∀ g, v.ownBlock = some g → lo ≤ g ∧ g < w.heap.size := fun g hg => by
  rcases h.2 with ⟨rfl, _⟩ | ⟨g', cap, cur, rfl, hb, hh, _⟩
  · simp [Value.ownBlock] at hg
  · simp [Value.ownBlock] at hg; subst hg
    refine ⟨hb, ?_⟩
    rcases Nat.lt_or_ge g' w.heap.size with h | h
    · exact h
    · rw [Array.getElem?_eq_none h] at hh; cases hh
/-! ### What survives -/
def SurvA (b : Nat) (v : Value) (d : D) : Prop := ∀ w w' x, KeptB b v w w' → d.Of w x → d.Of w' x
theorem SurvA.v {b : Nat} {v : Value} (y : Value) : SurvA b v (.v y) := fun _ _ _ _ h => h
theorem SurvA.old {b B' : Nat} {v : Value} {d : D} (h : B' ≤ b) (hv : ∀ g, v.ownBlock = some g → B' ≤ g) : SurvA b v (Go.Proofs.Ythhmimnkfklhdaa.old B' d) := fun _ _ _ k ⟨h1, h2⟩ => ⟨Nat.le_trans h1 k.size, D.OfB.keep h2 (k.under h hv h1)⟩
theorem SurvA.blk {b b' : Nat} {v : Value} {e : TypeId} {xs : List Value} (h : b' ≠ b) (hv : v.ownBlock ≠ some b') : SurvA b v (Go.Proofs.Ythhmimnkfklhdaa.blk b' e xs) := fun _ _ _ k ⟨h1, h2⟩ => ⟨Nat.lt_of_lt_of_le h1 k.size, (k.other b' h1 h hv).trans h2⟩
/-- Since w₁ all blocks but b and the row of v₀ are as they were. -/
def keptD (b : Nat) (v₀ : Value) (w₁ : World) : D :=
  .p (fun B w _ => w₁.heap.size ≤ B ∧ KeptB b v₀ w₁ w) (fun _ _ _ _ h ⟨h1, h2⟩ => ⟨h1, ⟨h.os.trans h2.os, h.tape.trans h2.tape, h.output.trans h2.output, Nat.le_trans h2.size h.size, fun k hk hb hv => (h.block k (Nat.lt_of_lt_of_le hk h1)).trans (h2.other k hk hb hv)⟩⟩)
    (fun _ _ _ _ h ⟨h1, h2⟩ => ⟨Nat.le_trans h1 h, h2⟩)
theorem SurvA.kept {b : Nat} {v v₀ : Value} {w₁ : World} (h : RowTo v₀ v w₁.heap.size) : SurvA b v (keptD b v₀ w₁) := fun w w' x k ⟨h1, h2⟩ =>
  ⟨Nat.le_trans h1 k.size, ⟨k.os.trans h2.os, k.tape.trans h2.tape, k.output.trans h2.output, Nat.le_trans h2.size k.size, fun j hj hb hv => (k.other j (Nat.lt_of_lt_of_le hj h1) hb (fun hg => by
    rcases h with h | ⟨g, h3, h4⟩
    · rw [h] at hg; exact hv hg
    · rw [h3] at hg; injection hg with hg; omega)).trans (h2.other j hj hb hv)⟩⟩
theorem Surv.keptD {B T g b : Nat} {v₀ : Value} {w₁ : World} (h : w₁.heap.size ≤ g) : Surv B T g (Go.Proofs.Ythhmimnkfklhdaa.keptD b v₀ w₁) := fun w w' x k ⟨h1, h2⟩ =>
  ⟨Nat.le_trans h1 k.size, ⟨k.os.trans h2.os, k.tape.trans h2.tape, k.output.trans h2.output, Nat.le_trans h2.size k.size, fun j hj hb hv => (k.other j (Nat.lt_of_lt_of_le hj h1) (by omega)).trans (h2.other j hj hb hv)⟩⟩
def LeftA (b : Nat) (v : Value) (E' E : Env) : Prop := ∀ p ∈ E', E.look p.1 = some p.2 ∧ SurvA b v p.2
theorem LeftA.nil {b : Nat} {v : Value} {E : Env} : LeftA b v [] E := fun _ h => by cases h
theorem LeftA.cons {b : Nat} {v : Value} {E E' : Env} {t : Nat} {d : D} (h : E.look t = some d) (hs : SurvA b v d) (hr : LeftA b v E' E) : LeftA b v ((t, d) :: E') E := fun p hp => by
  rcases List.mem_cons.1 hp with rfl | hp
  · exact ⟨h, hs⟩
  · exact hr p hp
theorem LeftA.st {n B b : Nat} {v : Value} {E E' : Env} {a : Act} {w w' : World} (hl : LeftA b v E' E) (h : St κ n B E a w) (k : KeptB b v w w') : St κ n B E' a w' :=
  ⟨Nat.le_trans h.base k.size, h.defers, h.size, fun t d hd => by
    obtain ⟨h1, h2⟩ := hl _ (look_mem hd)
    exact h2 _ _ _ k (h.of t d h1)⟩
/-- What the new row's value is known by: that of before, or above all that is named. -/
def GoesTo (B : Nat) (E : Env) (b : Nat) (v v' : Value) : Prop := (v'.ownBlock = v.ownBlock ∨ ∃ g, v'.ownBlock = some g ∧ NewB B E g ∧ ∀ s b₀ v₀ w₁, E.look s = some (keptD b₀ v₀ w₁) → w₁.heap.size ≤ g) ∧ v'.ownBlock ≠ some b ∧ ∀ g, v'.ownBlock = some g → B ≤ g
section
variable {P : Program} {n B : Nat} {ops : Array Oper} {E : Env} {ty : TypeId} {pos : String} {after : Array Edge}
theorem eff_callAdd {f : FuncId} {T e : TypeId} {us add bs : List Value} {r v : Value} {x : Operand} {xs : List Operand} {argTypes : Array TypeId} {dst s s' b : Nat} {E' : Env} (hf : FnAdd P f T e us add r) (args : Array Operand) (hargs : args.toList = x :: xs) (hx : E.at x = some (.v (selfP b))) (hxs : VArgs E us xs)
    (hs : E.look s = some (blk b T [selfP b, v])) (hs' : E.look s' = some (ownM B v e bs.length bs)) (hB : B ≤ b) (hne : v.ownBlock ≠ some b) (hlen : bs.length + add.length ≤ 1099511627776) (h1 : ∀ y ∈ bs, y.oneCell' = true) (hdst : dst < n) (hnv : n ≤ vbase) (hsv : vbase ≤ s) (hsv' : vbase ≤ s') (hl : LeftA b v E' E) :
    EffG P n B ops ⟨some dst, .call { callee := .value (.func f), args := args, argTypes := argTypes }, ty, pos, after, none⟩ E (GoesTo B E b v) (fun v' => (dst, .v r) :: ([(s, blk b T [selfP b, v']), (s', ownM B v' e (bs ++ add).length (bs ++ add))] ++ E')) := by
  intro κ a w K Q h hK
  obtain ⟨fn, k1, k2, k3⟩ := hf.body
  have hfun : a.eval (.func f) = .func (.func f) #[] #[] := h.at_ (.func f) _ rfl
  have hxe : a.eval x = selfP b := h.at_ x _ hx
  have hue : xs.map a.eval = us := hxs.map fun y _ u hy => h.at_ y _ hy
  have hall : args.map a.eval = (selfP b :: us).toArray := by
    apply Array.ext'
    rw [Array.toList_map, hargs, List.map_cons, hxe, hue]
  have hrun : (execOp a.eval ⟨some dst, .call { callee := .value (.func f), args := args, argTypes := argTypes }, ty, pos, after, none⟩).run P w = .ok (.enter f (selfP b :: us).toArray) w := by
    have h2' : ¬ fn.name = "runtime.NumGoroutine" := by simpa using k2
    have h3' : ¬ fn.body = none := by intro h; rw [h] at k3; cases k3
    simp [execOp, resolve, Deferred.ofValue, hfun, invoke, callFunc, k1, h2', h3', hall]
  obtain ⟨hlt, hh⟩ := h.of s _ hs
  obtain ⟨hown, hvb⟩ := h.of s' _ hs'
  rw [if_pos (by simp [Region.wanted])]
  refine opR (by nofun) ?_
  unfold Oper.wp
  rw [hrun, Oper.upon_enter]
  refine Calls.mono (hf.calls B b v bs w hB hlt hh hown hne hlen h1) ?_
  rintro en w' ⟨rfl, v', hk, hb', ho', hr', hn'⟩
  have hbase := fun g hg => (ownsRow_lt hown g hg).1
  have hbel : Below B w w' := hk.under hB hbase h.base
  refine hK v' _ _ ⟨hr'.imp id ?_, hn', fun g hg => (ownsRow_lt ho' g hg).1⟩ hbel (St.put (St.pushes (hl.st h hk) hnv _ fun q hq => ?_) hdst rfl)
  · rintro ⟨g, hg, hge⟩
    exact ⟨g, hg, ⟨Nat.le_trans h.base hge, fun s b' e ys hs => Nat.lt_of_lt_of_le (h.of s _ hs).1 hge⟩, fun s b₀ v₀ w₁ hs => Nat.le_trans (h.of s _ hs).1 hge⟩
  · simp only [List.mem_cons, List.not_mem_nil, or_false] at hq
    rcases hq with rfl | rfl
    · exact ⟨hsv, Nat.lt_of_lt_of_le hlt hk.size, hb'⟩
    · exact ⟨hsv', by rw [List.length_append]; exact ho', fun g hg => (ownsRow_lt ho' g hg).2⟩
/-- A new block in a function that adds: it lies above the memory of before. -/
theorem eff_allocK {T : TypeId} {zs : List Value} {d k kw b₀ : Nat} {v₀ : Value} {w₁ : World} (hz : ZeroIs P T zs) (hdn : d < n) (hw : E.look kw = some (keptD b₀ v₀ w₁)) :
    EffG P n B ops ⟨some d, .alloc T, ty, pos, after, none⟩ E (fun b => NewB B E b ∧ w₁.heap.size ≤ b) (fun b => (d, .v (.pointer (some ⟨b, 0, none⟩))) :: (k, blk b T zs) :: E) := by
  obtain ⟨i, z, hi, hz, hc⟩ := hz.get
  intro κ a w K Q h hK
  have hrun : (execOp a.eval ⟨some d, .alloc T, ty, pos, after, none⟩).run P w = .ok (.value (.pointer (some ⟨w.heap.size, 0, none⟩))) (w.alloc (.cells zs.toArray T)) := by
    simp [execOp, Instr.alloc, zeroValue, typeInfo, hi, hz, newVar, newRow, hc]
  rw [if_pos (by simp [Region.wanted])]
  refine opR (by nofun) ?_
  unfold Oper.wp
  rw [hrun, Oper.upon_value]
  have hst := h.grow (Grow.alloc w (.cells zs.toArray T))
  refine hK w.heap.size _ _ ⟨⟨h.base, fun s b' e ys hs => (h.of s _ hs).1⟩, (h.of kw _ hw).1⟩ ((Below.refl B w).alloc h.base _) (St.put (hst.push ?_) hdn rfl)
  exact ⟨by simp, heap_alloc_new w _⟩
end
theorem FnAdd.of {P : Program} {n : Nat} {f : FuncId} {fn : Func} {c : Code} {T e : TypeId} {us add : List Value} (hf : P.funcs[f]? = some fn) (hb : fn.body = some c) (hname : (fn.name == "runtime.NumGoroutine") = false) (hn : fn.ntmps = n) (hds : us.length + 1 ≤ n) (hnv : n ≤ vbase)
    (h : ∀ (w₀ w₁ : World) (b : Nat) (v : Value) (bs : List Value), w₀.heap.size ≤ b → b < w₁.heap.size → v.ownBlock ≠ some b → (∀ g, v.ownBlock = some g → w₀.heap.size ≤ g ∧ g < w₁.heap.size) → bs.length + add.length ≤ 1099511627776 → (∀ x ∈ bs, x.oneCell' = true) →
      A Cx.top P w₀ n c (((selfP b :: us).mapIdx fun j u => (j, D.v u)) ++ [(1000101, blk b T [selfP b, v]), (1000102, ownM w₀.heap.size v e bs.length bs), (1000103, keptD b v w₁)]) (BP P fn fun en w' => en = .returned (.tuple #[]) ∧ ∃ v', Adds T e w₀.heap.size b v bs add w₁ w' v')) :
    FnAdd P f T e us add (.tuple #[]) := by
  refine ⟨⟨fn, hf, hname, by rw [hb]; rfl⟩, fun lo b v bs w hlo hlt hh hown hne hlen h1 => ?_⟩
  have hlow : lo ≤ w.heap.size := by omega
  have hsz := cutW_size (w := w) (g := lo) hlow
  have hmem : ∀ p ∈ (selfP b :: us).mapIdx fun j u => (j, D.v u), ∃ u, p.2 = .v u ∧ (selfP b :: us)[p.1]? = some u := fun p hp => by
    obtain ⟨j, hj, rfl⟩ := List.mem_mapIdx.1 hp
    exact ⟨_, rfl, List.getElem?_eq_getElem hj⟩
  have hA := h (cutW w lo) w b v bs (by rw [hsz]; exact hlo) hlt hne (fun g hg => by rw [hsz]; exact ownsRow_lt hown g hg) hlen h1
  rw [hsz] at hA
  refine callsIn_FR.1 (callsIn_of_wp_marks (F := FR none) (n := 0) hf hb trivial (hA _ w (cutW_below hlow) ⟨by rw [hsz]; exact hlow, rfl, ?_, fun t d hd => ?_⟩))
  · simp [hn]; omega
  · show d.Of w (((selfP b :: us).toArray ++ Array.replicate (fn.ntmps - (selfP b :: us).toArray.size) undef).getD t undef)
    rcases List.mem_append.1 (look_mem hd) with hm | hm
    · obtain ⟨u, h2, h3⟩ := hmem _ hm
      simp only at h2 h3
      have hj : t < (selfP b :: us).length := (List.getElem?_eq_some_iff.1 h3).1
      rw [Array.getD_eq_getD_getElem?, Array.getElem?_append_left (by simpa using hj)]
      subst h2
      rw [List.getElem?_toArray, h3]; rfl
    · have hund : vbase ≤ t → ((selfP b :: us).toArray ++ Array.replicate (fn.ntmps - (selfP b :: us).toArray.size) undef).getD t undef = undef := fun ht => by
        rw [Array.getD_eq_getD_getElem?, Array.getElem?_eq_none (by simp [hn]; omega)]; rfl
      simp only [List.mem_cons, List.not_mem_nil, or_false, Prod.mk.injEq] at hm
      rcases hm with ⟨rfl, rfl⟩ | ⟨rfl, rfl⟩ | ⟨rfl, rfl⟩
      · exact ⟨hlt, hh⟩
      · exact ⟨hown, fun g hg => (ownsRow_lt hown g hg).2⟩
      · exact ⟨Nat.le_refl _, rfl, rfl, rfl, Nat.le_refl _, fun _ _ _ _ => rfl⟩
theorem GoesTo.row {B b b₀ s : Nat} {E : Env} {v v₀ v' : Value} {w₁ : World} (h : GoesTo B E b v v') (hr : RowTo v₀ v w₁.heap.size) (hs : E.look s = some (keptD b₀ v₀ w₁)) : RowTo v₀ v' w₁.heap.size := by
  rcases h.1 with h | ⟨g, h1, _, h2⟩
  · rcases hr with hr | ⟨g, h1, h2⟩
    · exact .inl (h.trans hr)
    · exact .inr ⟨g, h.trans h1, h2⟩
  · exact .inr ⟨g, h1, h2 _ _ _ _ hs⟩
theorem GoesTo.off {B b b' s : Nat} {E : Env} {v v' : Value} {e : TypeId} {xs : List Value} (h : GoesTo B E b v v') (hs : E.look s = some (blk b' e xs)) (hv : v.ownBlock ≠ some b') : v'.ownBlock ≠ some b' := by
  rcases h.1 with h | ⟨g, h1, h2, _⟩
  · rw [h]; exact hv
  · rw [h1]; intro h; injection h with h; have := h2.2 _ _ _ _ hs; omega
theorem OpOk.freshK {P : Program} {B : Nat} {E : Env} {o : Oper} {e : TypeId} {xs : List Value} {m kw b₀ : Nat} {v₀ : Value} {w₁ : World} (h : ∀ B', OpOk P B' o E (fresh B' e xs m)) (hk : vbase ≤ kw) (hw : E.look kw = some (keptD b₀ v₀ w₁)) : OpOk P B o E (fresh w₁.heap.size e xs m) := fun ρ w hB hv hρ =>
  h w₁.heap.size ρ w (hv kw _ hk hw).1 hv hρ
section
variable {P : Program} {n : Nat} {w₀ : World} {E : Env}
theorem A.openK {c : Code} {Q : Exit → Act → World → Prop} {t k lo m : Nat} {e : TypeId} {xs : List Value} (ht : E.look t = some (fresh lo e xs m)) (h : ∀ b, lo ≤ b → A κ P w₀ n c ((t, .v (.slice (some ⟨b, 0, none⟩) m xs.length)) :: (k, blk b e xs) :: E) Q) : A κ P w₀ n c E Q := fun a w g hs => by
  obtain ⟨b, h1, h2, h3, h4⟩ := hs.of t _ ht
  exact h b h2 a w g ((hs.push (t := k) (d := blk b e xs) ⟨h3, h4⟩).push (d := .v (.slice (some ⟨b, 0, none⟩) m xs.length)) h1)
theorem End.added {fn : Func} {w₁ : World} {T e : TypeId} {b : Nat} {v v' : Value} {bs add xs : List Value} {m : Nat} (hr : fn.results = #[]) (h1 : E.look 1000101 = some (blk b T [selfP b, v'])) (h2 : E.look 1000102 = some (ownM w₀.heap.size v' e m xs)) (h3 : E.look 1000103 = some (keptD b v w₁))
    (hx : xs = bs ++ add) (hm : m = bs.length + add.length) (hrow : RowTo v v' w₁.heap.size) (hne : v'.ownBlock ≠ some b) :
    End Cx.top w₀ n E (BP P fn (fun en w' => en = .returned (.tuple #[]) ∧ ∃ v', Adds T e w₀.heap.size b v bs add w₁ w' v') .normal) := fun a w _ hs => by
  subst hx; subst hm
  show LeavesInM (FR none) 0 P fn a.tmps _ a.defers .returning w
  rw [show a.defers = [] from hs.defers]
  exact ⟨.tuple #[], by simp [results, hr], rfl, v', (hs.of _ _ h3).2, (hs.of _ _ h1).2, (hs.of _ _ h2).1, hrow, hne⟩
end
end Go.Proofs.Ythhmimnkfklhdaa
namespace Go.Proofs.Ythhmimnkfklhdaa
open Go Go.RowKit
set_option linter.unusedVariables false
set_option linter.unusedSimpArgs false
set_option maxRecDepth 20000
theorem copyCheck_used (b : Nat) (w : World) (h : w.cell? ⟨b, 0, none⟩ = some (.pointer (some ⟨b, 0, none⟩))) : Calls Try.prog 49 #[.pointer (some ⟨b, 0, none⟩)] w fun e w' => e = .returned (.tuple #[]) ∧ w' = w :=
 Any.Builder_copyCheck_used { Try.lays165 with } Try.Builder_Extra_165.toX72 b w h
set_option maxHeartbeats 1000000 in
set_option maxRecDepth 100000 in
theorem writeByte_calls (lo b : Nat) (v : Value) (bs : List Value) (c : Int) (w : World) (hlo : lo ≤ b) (hlt : b < w.heap.size) (hbk : w.heap[b]? = some (.cells #[selfP b, v] 69 (0, 0))) (hown : w.ownsRow lo 5 1 v bs.length bs) (hne : v.ownBlock ≠ some b) (hlen : bs.length + 1 ≤ 1099511627776) :
  Calls Try.prog 54 #[.pointer (some ⟨b, 0, none⟩), .int .u8 c] w fun e w' => e = .returned .nilIface ∧ ∃ v', Adds 69 5 lo b v bs [.int .u8 c] w w' v' := by
 have HL := Lib.hid hlen; clear hlen
 obtain ⟨i0, hi, hz, hs, hy⟩ := info5.get
 have c0 : w.cell? ⟨b, 0, none⟩ = some (.pointer (some ⟨b, 0, none⟩)) := by rw [Lib.cell_of_heap hbk]; rfl
 have c1 : w.cell? ⟨b, 1, none⟩ = some v := by rw [Lib.cell_of_heap hbk]; rfl
 go_enter Try.func54, Try.ntmps54
 go_wp2_with (go_at_call 49; refine (copyCheck_used b _ c0).mono ?_)
 rintro e w1 ⟨rfl, rfl⟩
 go_wp2_with (at_builtin; refine wpList_append_own_at _ rfl _ _ 67 rfl lo 5 i0 (.int .u8 0) 1 1 Try.underlying67 hi hz hs hy rfl (by decide) _ _ _ rfl (hown.alloc _) ⟨w1.heap.size, 0, none⟩ 1 1 [.int .u8 c] rfl rfl ?c1 ?c2 ?c3 ?c4 ?c5 ?_)
 case c1 =>
  intro j u hj
  match j, hj with
  | 0, hj => simp at hj; subst hj; simp [Addr.add]
  | j + 1, hj => simp at hj
 case c2 => intro u hu; simp at hu; subst hu; rfl
 case c3 => have := HL.out; unfold maxLen; omega
 case c4 => have := HL.out; omega
 case c5 => simp; omega
 intro v' w2 hown' hgrow _ hat
 have hb2 : w2.heap[b]? = some (.cells #[selfP b, v] 69 (0, 0)) := by
  rw [hgrow.block b (by simp; omega) (fun e => hne e.symm), Lib.alloc_old w1 _ b hlt]
  exact hbk
 have d0 : w2.cell? ⟨b, 0, none⟩ = some (.pointer (some ⟨b, 0, none⟩)) := by rw [Lib.cell_of_heap hb2]; rfl
 have d1 : w2.cell? ⟨b, 1, none⟩ = some v := by rw [Lib.cell_of_heap hb2]; rfl
 have f1 : w2.frozen? ⟨b, 1, none⟩ = false := Lib.frozen_of_heap hb2 1
 have hv' : v'.ownBlock ≠ some b := by
  rcases hat with h | h
  ·rw [h]; exact hne
  ·rw [h]; intro h2; injection h2 with h2; first | omega | (simp at h2; omega)
 obtain ⟨g, cap, rfl⟩ : ∃ g cap, v' = .slice (some ⟨g, 0, none⟩) (bs.length + 1) cap := by
  rcases hown'.2 with ⟨_, h0⟩ | ⟨g, cap, cur, hv, _⟩
  ·omega
  ·exact ⟨g, cap, hv⟩
 go_wp2
 go_ret
 have hsz : w1.heap.size ≤ w2.heap.size := by
  have := hgrow.size
  first | omega | (simp at this; omega)
 have hset : ∀ k, k ≠ b → (w2.setCell ⟨b, 1, none⟩ (.slice (some ⟨g, 0, none⟩) (bs.length + 1) cap)).heap[k]? = w2.heap[k]? := fun k hk => by
  simp [World.setCell, Array.getElem?_modify, Ne.symm hk]
 refine ⟨rfl, _, ⟨hgrow.os, hgrow.tape, hgrow.output, by simpa [World.setCell] using hsz, fun k hk hkb hkv => ?_⟩, ?_, ?_, ?_, hv'⟩
 ·rw [hset k hkb, hgrow.block k (by simp; omega) (fun h => hkv h.symm), Lib.alloc_old w1 _ k hk]
 ·simp [World.setCell, Array.getElem?_modify, hb2, selfP]
 ·refine ownsRow_other (by simpa using hown') fun k cur fr hk _ _ => hset k fun hkb => hv' (by rw [hk, hkb])
 ·rcases hat with h | h
  ·exact .inl h
  ·exact .inr ⟨_, h, by simp⟩
theorem writeByte_add (c : Int) : FnAdd Try.prog 54 69 5 [.int .u8 c] [.int .u8 c] .nilIface :=
 ⟨⟨_, Try.func54, by kernel_rfl, rfl⟩, fun lo b v bs w h1 h2 h3 h4 h5 h6 _ => writeByte_calls lo b v bs c w h1 h2 h3 h4 h5 h6⟩


def useL (u : Us) : List UInt8 := u.key ++ nonceL u.s u.c ++ be 4 u.f ++ be 4 u.l
theorem useL_length {u : Us} (hu : u.Fit) : (useL u).length = 36 := by simp [useL, hu.1, nonceL_length, be_length]
def digL : List UInt8 := [48, 49, 50, 51, 52, 53, 54, 55, 56, 57, 97, 98, 99, 100, 101, 102]
def hexD (n : Nat) : UInt8 := digL.getD n 0
def hexL (l : List UInt8) : List UInt8 := l.flatMap fun b => [hexD (b.toNat / 16), hexD (b.toNat % 16)]
def lineL (u : Us) : List UInt8 := hexL (useL u) ++ [10]
theorem hexL_length (l : List UInt8) : (hexL l).length = 2 * l.length := by
 induction l with
 | nil => rfl
 | cons b l ih => simp only [hexL, List.flatMap_cons, List.length_append, List.length_cons] at ih ⊢; simp [ih]; omega
theorem hexL_succ {l : List UInt8} {i : Nat} (hi : i < l.length) : hexL (l.take (i + 1)) = hexL (l.take i) ++ [hexD (l[i].toNat / 16)] ++ [hexD (l[i].toNat % 16)] := by
 rw [List.take_succ_eq_append_getElem hi]; unfold hexL; rw [List.flatMap_append, List.append_assoc]; rfl
theorem lineL_length {u : Us} (hu : u.Fit) : (lineL u).length = 73 := by simp [lineL, hexL_length, useL_length hu]
theorem dig_at {n : Nat} (h : n < 16) : digL[n]? = some (hexD n) := by
 unfold hexD; rw [List.getD_eq_getElem?_getD, List.getElem?_eq_getElem (by simpa [digL] using h)]; rfl
theorem and15 (b : UInt8) : IntKind.u8.wrap (BitVec.ofInt IntKind.u8.bits (b.toNat : Int) &&& BitVec.ofInt IntKind.u8.bits 15).toNat = ((b.toNat % 16 : Nat) : Int) := by
 have h : ∀ n : Fin 256, IntKind.u8.wrap (BitVec.ofInt IntKind.u8.bits (n.val : Int) &&& BitVec.ofInt IntKind.u8.bits 15).toNat = ((n.val % 16 : Nat) : Int) := by decide
 exact h ⟨b.toNat, b.toNat_lt⟩
theorem shr4 (b : UInt8) : ((b.toNat : Int).fdiv (2 ^ min (4 : Int).toNat IntKind.u8.bits)) = ((b.toNat / 16 : Nat) : Int) := by
 have h : ∀ n : Fin 256, (n.val : Int).fdiv (2 ^ min (4 : Int).toNat IntKind.u8.bits) = ((n.val / 16 : Nat) : Int) := by decide
 exact h ⟨b.toNat, b.toNat_lt⟩
theorem list_lst4 {c : Nat} {d₁ e₁ d₂ e₂ d₃ e₃ d₄ e₄ : D} (h₁ : Le d₁ e₁) (h₂ : Le d₂ e₂) (h₃ : Le d₃ e₃) (h₄ : Le d₄ e₄) : Le (list [d₁, d₂, d₃, d₄] c) (lst [e₁, e₂, e₃, e₄]) := (list_le (ds := [d₁, d₂, d₃, d₄]) (es := [e₁, e₂, e₃, e₄]) rfl fun j d e hd he => by
 match j, hd, he with
 | 0, hd, he => simp at hd he; subst hd; subst he; exact h₁
 | 1, hd, he => simp at hd he; subst hd; subst he; exact h₂
 | 2, hd, he => simp at hd he; subst hd; subst he; exact h₃
 | 3, hd, he => simp at hd he; subst hd; subst he; exact h₄
 | j + 4, hd, _ => simp at hd).trans (le_lst _ _)
structure WrG (b b21 lo n : Nat) (v : Value) (m : Nat) (x : Nat × Value) : Prop where
 le : x.1 ≤ m
 row : RowTo v x.2 n
 ne : x.2.ownBlock ≠ some b
 ne21 : x.2.ownBlock ≠ some b21
theorem one_snoc {bs : List Value} (h : ∀ x ∈ bs, x.oneCell' = true) (c : Int) : ∀ x ∈ bs ++ [.int .u8 c], x.oneCell' = true := fun x hx => by
 rcases List.mem_append.1 hx with hx | hx
 ·exact h x hx
 ·rw [List.mem_singleton.1 hx]; rfl
theorem one_cells {bs : List Value} (h : ∀ x ∈ bs, x.oneCell' = true) (l : List UInt8) : ∀ x ∈ bs ++ l.map byteV, x.oneCell' = true := fun x hx => by
 rcases List.mem_append.1 hx with hx | hx
 ·exact h x hx
 ·obtain ⟨b, _, rfl⟩ := List.mem_map.1 hx; rfl
theorem writeLine_add (u : Us) (hu : u.Fit) : FnAdd Try.prog 28 69 5 [aggV (usV u)] ((lineL u).map byteV) (.tuple #[]) := by
 refine FnAdd.of (us := [aggV (usV u)]) (add := (lineL u).map byteV) Try.func28 rfl (by kernel_rfl) Try.ntmps28 (by simp) (by decide) fun w₀ w₁ b v bs hBb hbw hvb hvr hlen h1 => ?_
 rw [List.length_map, lineL_length hu] at hlen
 show A Cx.top _ w₀ _ _ [(0, .v (selfP b)), (1, .v (aggV (usV u))), (1000101, blk b 69 [selfP b, v]), (1000102, ownM w₀.heap.size v 5 bs.length bs), (1000103, keptD b v w₁)] _
 refine GS ?_
 refine TN 0 ?_
 refine RN ?_
 refine ⟨_, _, eff_box (n := 40) (d := 3) (k := 1000003) rfl (by decide), fun b3 hb3 => ?_⟩
 have hBb3 := hb3.1
 refine TL ?_
 refine RN ?_
 refine GS ?_
 refine RunTK.newG 2 (by decide) rfl (.inl rfl) ?_
 refine RS (ok_field field31_1 (by decide) rfl) ?_
 refine RS (ok_loadP (s := 1000003) (by decide) Try.underlying29 rfl size29 rfl rfl (us_fit hu) (us_rng hu)) ?_
 refine RN ?_
 refine ⟨_, _, _, eff_allocK (k := 1000004) (kw := 1000103) zero29 (by decide) rfl, fun b4 hb4 => ?_⟩
 have hBb4 := hb4.1.1
 have hlt_b_b4 := hb4.1.2 1000101 _ _ _ rfl
 refine TF 3 ?_
 refine RN ?_
 refine ⟨_, eff_storeA (n := 40) (s := 1000004) (size29.of (rfl)) rfl rfl (rfl) hBb4 rfl (rfl) (LV 0 rfl (LV 3 rfl (LV 4 rfl (LT 1000003 rfl (LT 1000101 rfl (LeftS.cons (t := 1000102) rfl ((Surv.ownM (fun hg => by have h1 := (hvr _ hg).2; have h2 := hb4.2; omega))) (LeftS.cons (t := 1000103) rfl ((Surv.keptD hb4.2)) LN))))))), ?_⟩
 refine TL ?_
 refine RN ?_
 refine A.seq ?_
 refine GD ?_
 refine TL ?_
 refine RS (ok_field field31_0 (by decide) rfl) ?_
 refine RS (OpOk.fact (ok_sliceX (l := 0) (h := 16) (m := 16) Try.underlying23 info5 rfl (.inr ⟨rfl, rfl⟩) (.inr ⟨rfl, rfl, rfl⟩) (.inr ⟨rfl, rfl⟩) (by decide) (by decide) (by decide) (.inl (by decide))) (d := byt u.key) (s := 1000003) (by decide) rfl (slice_byt u.key hu.1.symm (by decide) (by decide) (us_key hu))) ?_
 refine RS (ok_field field29_0 (by decide) rfl) ?_
 refine RS (ok_loadP (s := 1000004) (by decide) Try.underlying27 rfl size27 rfl rfl (by simp [rV]) (rfl)) ?_
 refine RS (ok_call (Put_fn u.s u.c hu.2.1 hu.2.2.1) (A1 rfl)) ?_
 refine RS (ok_field field29_1 (by decide) rfl) ?_
 refine RS (ok_loadV (s := 1000004) (by decide) Try.underlying24 rfl rfl rfl (rfl)) ?_
 refine RS (ok_call ((Put32_fn ((u.f : Nat) : Int) (by omega) (by have := hu.2.2.2.1; omega)).le (d' := bytes (be 4 u.f) 4) (Le.refl _)) (A1 rfl)) ?_
 refine RS (ok_field field29_2 (by decide) rfl) ?_
 refine RS (ok_loadV (s := 1000004) (by decide) Try.underlying24 rfl rfl rfl (rfl)) ?_
 refine RS (ok_call ((Put32_fn ((u.l : Nat) : Int) (by omega) (by have := hu.2.2.2.2; omega)).le (d' := bytes (be 4 u.l) 4) (Le.refl _)) (A1 rfl)) ?_
 refine RS (ok_build [byt u.key, bytes (nonceL u.s u.c) 12, bytes (be 4 u.f) 4, bytes (be 4 u.l) 4] Try.underlying125 info67 rfl (by decide) (by decide) rfl ⟨rfl, rfl, rfl, rfl, rfl, rfl, rfl, rfl, trivial⟩ (fun d hd w x h => by simp only [List.mem_cons, List.not_mem_nil, or_false] at hd; rcases hd with rfl | rfl | rfl | rfl <;> first | exact list_one h | exact lst_one h)) ?_
 refine RS ((OpOk.freshK (kw := 1000103) (fun B' => OpOk.le (ok_callB (Join_fnB [u.key, nonceL u.s u.c, be 4 u.f, be 4 u.l] (by simp) (by simp [hu.1, nonceL_length, be_length])) (fun _ _ => fresh_mono _ _) (Args.cons rfl (list_lst4 (Le.refl _) (le_byt _ 12) (le_byt _ 4) (le_byt _ 4)) Args.nil)) (Le.eq (d := fresh _ 5 ([u.key, nonceL u.s u.c, be 4 u.f, be 4 u.l].flatten.map byteV) [u.key, nonceL u.s u.c, be 4 u.f, be 4 u.l].flatten.length) (e := fresh _ 5 ((useL u).map byteV) 36) (by rw [show [u.key, nonceL u.s u.c, be 4 u.f, be 4 u.l].flatten = useL u from by simp [useL], useL_length hu]))) (by decide) rfl)) ?_
 refine RS (ok_lenB Try.underlying67 rfl ((fresh_bytes (useL_length hu).symm (by decide)).trans (le_byt _ _))) ?_; refine RZ (.int .i64 36) (congrArg (fun k : Nat => Value.int .i64 (k : Int)) (useL_length hu)) ?_
 refine RM rfl ?_
 refine RN ?_
 refine A.openK (t := 21) (k := 1000021) rfl fun b21 hb21 => ?_
 rw [List.length_map, useL_length hu]
 refine A.block ?_
 refine A.loop (ι := Nat × Value) (fun x => WrG b b21 w₀.heap.size w₁.heap.size v (useL u).length x) (fun x => [(0, .v (selfP b)), (21, .v (.slice (some ⟨b21, 0, none⟩) 36 36)), (1000021, blk b21 5 ((useL u).map byteV)), (22, .v (.int .i64 36)), (23, .v (nI (x.1))), (1000101, blk b 69 [selfP b, x.2]), (1000102, ownM w₀.heap.size x.2 5 (bs ++ (hexL ((useL u).take x.1)).map byteV).length (bs ++ (hexL ((useL u).take x.1)).map byteV)), (1000103, keptD b v w₁)]) (fun x => (useL u).length - x.1) (0, v) ?_ ?_ ?_
 ·exact ⟨Nat.zero_le _, .inl rfl, hvb, fun h => by have := (hvr _ h).2; omega⟩
 ·exact (KC 0 rfl (KC 21 rfl (KC 1000021 rfl (KC 22 rfl (KE 23 rfl (by rfl) (KC 1000101 rfl (KE 1000102 rfl (by simp [hexL]) (KC 1000103 rfl KN))))))))
 intro x hx
 refine GS ?_
 refine TL ?_
 refine RB rfl rfl rfl ?_
 refine RN ?_
 refine A.seq ?_
 refine A.cond rfl (fun hc24 => ?_) (fun hc24 => ?_)
 ·have hi : x.1 < (useL u).length := by have h := hc24; rw [useL_length hu]; simp at h; omega
  have hi36 : x.1 < 36 := by rw [← useL_length hu]; exact hi
  refine A.skip ?_
  refine EN ?_
  refine A.seq ?_
  refine A.block ?_
  refine GS ?_
  refine TL ?_
  refine RS (ok_indexV x.1 Try.underlying67 info5 rfl rfl rfl (by have := useL_length hu; omega)) ?_
  refine RS (ok_loadV (u := byteV (useL u)[x.1]) (s := 1000021) (by decide) Try.underlying5 rfl rfl rfl (by rw [Nat.zero_add, List.getElem?_map, List.getElem?_eq_getElem hi]; rfl)) ?_
  refine RA rfl ?_
  refine RN ?_
  refine GS ?_
  refine RunTK.newG 4 (by decide) rfl (.inl rfl) ?_
  refine RM rfl ?_
  refine RM rfl ?_
  refine RS (ok_shr rfl rfl (by decide)) ?_; refine RZ (nB ((useL u)[x.1].toNat / 16)) (congrArg (Value.int .u8) (shr4 _)) ?_
  refine RS (ok_strIndex ((useL u)[x.1].toNat / 16) Try.underlying9 rfl rfl rfl (dig_at (by have := (useL u)[x.1].toNat_lt; omega))) ?_
  refine RN ?_
  refine ⟨_, _, _, eff_callAdd (s := 1000101) (s' := 1000102) (bs := bs ++ (hexL ((useL u).take x.1)).map byteV) (writeByte_add ((hexD ((useL u)[x.1].toNat / 16)).toNat : Int)) #[_, _] rfl rfl ⟨rfl, trivial⟩ rfl rfl hBb (hx.ne) (by have := hx.le; rw [useL_length hu] at this; have h2 := hi; rw [useL_length hu] at h2; simp only [List.length_append, List.length_map, hexL_length, List.length_take, List.length_cons, List.length_nil]; omega) (one_cells h1 _) (by decide) (by decide) (by decide) (by decide) (LeftA.cons (t := 0) rfl (SurvA.v _) (LeftA.cons (t := 6) rfl (SurvA.v _) (LeftA.cons (t := 21) rfl (SurvA.v _) (LeftA.cons (t := 1000021) rfl (SurvA.blk (by omega) (hx.ne21)) (LeftA.cons (t := 22) rfl (SurvA.v _) (LeftA.cons (t := 23) rfl (SurvA.v _) (LeftA.cons (t := 1000103) rfl (SurvA.kept (hx.row)) LeftA.nil))))))), fun v31 hv31 => ?_⟩
  refine TL ?_
  refine RN ?_
  refine GE ?_
  refine RunTK.newG 4 (by decide) rfl (.inl rfl) ?_
  refine RM rfl ?_
  refine RM rfl ?_
  refine RBS rfl rfl rfl (nB ((useL u)[x.1].toNat % 16)) (congrArg (Value.int .u8) (and15 _)) ?_
  refine RS (ok_strIndex ((useL u)[x.1].toNat % 16) Try.underlying9 rfl rfl rfl (dig_at (by omega))) ?_
  refine RN ?_
  refine ⟨_, _, _, eff_callAdd (s := 1000101) (s' := 1000102) (bs := (bs ++ (hexL ((useL u).take x.1)).map byteV) ++ [.int .u8 ((hexD ((useL u)[x.1].toNat / 16)).toNat : Int)]) (writeByte_add ((hexD ((useL u)[x.1].toNat % 16)).toNat : Int)) #[_, _] rfl rfl ⟨rfl, trivial⟩ rfl rfl hBb (hv31.2.1) (by have := hx.le; rw [useL_length hu] at this; have h2 := hi; rw [useL_length hu] at h2; simp only [List.length_append, List.length_map, hexL_length, List.length_take, List.length_cons, List.length_nil]; omega) (one_snoc (one_cells h1 _) _) (by decide) (by decide) (by decide) (by decide) (LeftA.cons (t := 0) rfl (SurvA.v _) (LeftA.cons (t := 6) rfl (SurvA.v _) (LeftA.cons (t := 21) rfl (SurvA.v _) (LeftA.cons (t := 1000021) rfl (SurvA.blk (by omega) (hv31.off (s := 1000021) rfl hx.ne21)) (LeftA.cons (t := 22) rfl (SurvA.v _) (LeftA.cons (t := 23) rfl (SurvA.v _) (LeftA.cons (t := 1000103) rfl (SurvA.kept (hv31.row hx.row (s := 1000103) rfl)) LeftA.nil))))))), fun v36 hv36 => ?_⟩
  refine TL ?_
  refine RN ?_
  refine End.normal_block ?_
  refine EN ?_
  refine GE ?_
  refine TL ?_
  refine RBS rfl rfl rfl (nI (x.1 + 1)) (by rw [wrap_i64 (by omega) (by omega)]; rfl) ?_
  refine RM rfl ?_
  refine RN ?_
  refine End.normal_then ?_
  refine End.again (x.1 + 1, v36) ?_ ?_ ?_
  ·exact ⟨by omega, hv36.row (hv31.row hx.row (s := 1000103) rfl) (s := 1000103) rfl, hv36.2.1, hv36.off (s := 1000021) rfl (hv31.off (s := 1000021) rfl hx.ne21)⟩
  ·show (useL u).length - (x.1 + 1) < (useL u).length - x.1; omega
  ·exact (KC 0 rfl (KC 21 rfl (KC 1000021 rfl (KC 22 rfl (KC 23 rfl (KC 1000101 rfl (KE 1000102 rfl (by rw [hexL_succ hi]; simp [byteV]) (KC 1000103 rfl KN))))))))
 ·have hi2 : x.1 = 36 := by have h := hx.le; rw [useL_length hu] at h; simp at hc24; omega
  refine A.exit ?_
  refine End.exit_then ?_
  refine End.exit_then ?_
  refine End.exit_here ?_
  refine EN ?_
  refine GE ?_
  refine RunTK.newG 1 (by decide) rfl (.inl rfl) ?_
  refine RM rfl ?_
  refine RN ?_
  refine ⟨_, _, _, eff_callAdd (s := 1000101) (s' := 1000102) (bs := bs ++ (hexL ((useL u).take x.1)).map byteV) (writeByte_add 10) #[_, _] rfl rfl ⟨rfl, trivial⟩ rfl rfl hBb hx.ne (by simp only [List.length_append, List.length_map, hexL_length, List.length_take, List.length_cons, List.length_nil]; omega) (one_cells h1 _) (by decide) (by decide) (by decide) (by decide) (LeftA.cons (t := 1000103) rfl (SurvA.kept hx.row) LeftA.nil), fun v39 hv39 => ?_⟩
  refine TL ?_
  refine RN ?_
  refine End.added rfl rfl rfl rfl ?_ ?_ (hv39.row hx.row (s := 1000103) rfl) hv39.2.1
  ·rw [hi2, List.take_of_length_le (by rw [useL_length hu]; decide)]; simp [lineL, byteV]
  ·rw [hi2, List.take_of_length_le (by rw [useL_length hu]; decide)]; simp [lineL]
theorem zero69 : ZeroIs Try.prog 69 ([.pointer none] ++ [.slice none 0 0]) := by unfold ZeroIs; kernel_rfl
def textL (us : List Us) : List UInt8 := us.flatMap lineL
theorem textL_succ {us : List Us} {i : Nat} (hi : i < us.length) : textL (us.take (i + 1)) = textL (us.take i) ++ lineL us[i] := by
 rw [List.take_succ_eq_append_getElem hi]; unfold textL; rw [List.flatMap_append]; simp
theorem textL_length : ∀ {us : List Us}, Fits us → (textL us).length = 73 * us.length
 | [], _ => rfl
 | u :: us, h => by
  have := textL_length h.cons.2
  simp only [textL, List.flatMap_cons, List.length_append, List.length_cons] at this ⊢
  rw [lineL_length h.cons.1, this]; omega
def LeftG (b : Nat) (E' E : Env) : Prop := ∀ p ∈ E', E.look p.1 = some p.2 ∧ Stays b p.2
theorem LeftG.nil {b : Nat} {E : Env} : LeftG b [] E := fun _ h => by cases h
theorem LeftG.cons {b : Nat} {E E' : Env} {t : Nat} {d : D} (h : E.look t = some d) (hs : Stays b d) (hr : LeftG b E' E) : LeftG b ((t, d) :: E') E := fun p hp => by
 rcases List.mem_cons.1 hp with rfl | hp
 ·exact ⟨h, hs⟩
 ·exact hr p hp
theorem Stays.blkB {B b : Nat} {e : TypeId} {xs : List Value} (h : b < B) : Stays B (Go.Proofs.Ythhmimnkfklhdaa.blk b e xs) := fun w w' x g hB ⟨h1, h2⟩ => ⟨Nat.lt_of_lt_of_le h1 g.size, (g.block b h).trans h2⟩
theorem Stays.oldB {B B' : Nat} {d : D} (h : B' ≤ B) : Stays B (Go.Proofs.Ythhmimnkfklhdaa.old B' d) := fun w w' x g hB ⟨h1, h2⟩ => ⟨Nat.le_trans h1 g.size, D.OfB.keep h2 (g.mono h)⟩
section
variable {n B : Nat} {ops : Array Oper} {E : Env} {ty : TypeId} {pos : String} {after : Array Edge}
theorem eff_grow {x y : Operand} {argTypes : Array TypeId} {dst s s' b m : Nat} {E' : Env} (hx : E.at x = some (.v (selfP b))) (hy : E.at y = some (.v (.int .i64 (m : Int)))) (hs : E.look s = some (blk b 69 [.pointer none, .slice none 0 0])) (hm : m ≤ 281474976710656) (hB : B ≤ b) (hdst : dst < n) (hnv : n ≤ vbase) (hsv : vbase ≤ s) (hsv' : vbase ≤ s') (hl : LeftG b E' E) :
  EffG Try.prog n B ops ⟨some dst, .call { callee := .value (.func 27), args := #[x, y], argTypes := argTypes }, ty, pos, after, none⟩ E (fun v : Value => v.ownBlock ≠ some b ∧ ∀ g, v.ownBlock = some g → b < g) (fun v => (dst, .v (.tuple #[])) :: ([(s, blk b 69 [selfP b, v]), (s', ownM B v 5 0 [])] ++ E')) := by
 intro κ a w K Q h hK
 have hfun : a.eval (.func 27) = .func (.func 27) #[] #[] := h.at_ (.func 27) _ rfl
 have hxe : a.eval x = selfP b := h.at_ x _ hx
 have hye : a.eval y = .int .i64 (m : Int) := h.at_ y _ hy
 have eg : ∀ args w, (callFunc 27 args).run Try.prog w = .ok (.enter 27 args) w := enters_of Try.func27 (by kernel_rfl) rfl
 have hrun : (execOp a.eval ⟨some dst, .call { callee := .value (.func 27), args := #[x, y], argTypes := argTypes }, ty, pos, after, none⟩).run Try.prog w = .ok (.enter 27 #[selfP b, .int .i64 (m : Int)]) w := by
  have := eg #[selfP b, .int .i64 (m : Int)] w
  simp [execOp, resolve, Deferred.ofValue, hfun, invoke, hxe, hye, this]
 obtain ⟨hlt, hh⟩ := h.of s _ hs
 rw [if_pos (by simp [Region.wanted])]
 refine opR (by nofun) ?_
 unfold Oper.wp
 rw [hrun, Oper.upon_enter]
 refine Calls.mono (Try.Builder_Grow_fresh b b m w (Nat.le_refl _) hh (Nat.le_of_lt hlt) hm) ?_
 rintro en w' ⟨rfl, ⟨_, v, hb', ho', hn'⟩, hbel⟩
 have hrow : ∀ g, v.ownBlock = some g → b < g ∧ g < w'.heap.size := fun g hg => by
  obtain ⟨h1, h2⟩ := ownsRow_lt ho' g hg
  exact ⟨Nat.lt_of_le_of_ne h1 (fun he => hn' (by rw [hg, he])), h2⟩
 have hst : St κ n B E' a w' := ⟨Nat.le_trans h.base hbel.size, h.defers, h.size, fun t d hd => by
  obtain ⟨h1, h2⟩ := hl _ (look_mem hd)
  exact h2 _ _ _ hbel (Nat.le_of_lt hlt) (h.of t d h1)⟩
 refine hK v _ _ ⟨hn', fun g hg => (hrow g hg).1⟩ (hbel.mono hB) (St.put (St.pushes hst hnv _ fun q hq => ?_) hdst rfl)
 simp only [List.mem_cons, List.not_mem_nil, or_false] at hq
 rcases hq with rfl | rfl
 ·exact ⟨hsv, Nat.lt_of_lt_of_le hlt hbel.size, hb'⟩
 ·refine ⟨hsv', ⟨ho'.1, ho'.2.imp id ?_⟩, fun g hg => (hrow g hg).2⟩
  rintro ⟨g, cap, cur, h1, h2, h3⟩
  exact ⟨g, cap, cur, h1, Nat.le_trans hB h2, h3⟩
theorem eff_string {x : Operand} {argTypes : Array TypeId} {dst s s' b m : Nat} {v : Value} {l : List UInt8} {E' : Env} (hx : E.at x = some (.v (selfP b))) (hs : E.look s = some (blk b 69 [selfP b, v])) (hs' : E.look s' = some (ownM B v 5 m (l.map byteV))) (hne : v.ownBlock ≠ some b) (hB : B ≤ b) (hdst : dst < n) (hnv : n ≤ vbase) (hl : LeftG B E' E) :
  Eff Try.prog n B ops ⟨some dst, .call { callee := .value (.func 29), args := #[x], argTypes := argTypes }, ty, pos, after, none⟩ E ((dst, .v (.string ⟨l.toArray⟩)) :: E') := by
 intro κ a w K Q h hK
 have hfun : a.eval (.func 29) = .func (.func 29) #[] #[] := h.at_ (.func 29) _ rfl
 have hxe : a.eval x = selfP b := h.at_ x _ hx
 have eg : ∀ args w, (callFunc 29 args).run Try.prog w = .ok (.enter 29 args) w := enters_of Try.func29 (by kernel_rfl) rfl
 have hrun : (execOp a.eval ⟨some dst, .call { callee := .value (.func 29), args := #[x], argTypes := argTypes }, ty, pos, after, none⟩).run Try.prog w = .ok (.enter 29 #[selfP b]) w := by
  have := eg #[selfP b] w
  simp [execOp, resolve, Deferred.ofValue, hfun, invoke, hxe, this]
 obtain ⟨hlt, hh⟩ := h.of s _ hs
 obtain ⟨hown, hvb⟩ := h.of s' _ hs'
 rw [if_pos (by simp [Region.wanted])]
 refine opR (by nofun) ?_
 unfold Oper.wp
 rw [hrun, Oper.upon_enter]
 have hbld : Lib.IsBuilder 69 5 B b (Lib.byteCells l) w := .inr ⟨hB, v, hh, by
  have h1 := hown.1
  have hm : m = (Lib.byteCells l).length := by simpa [Lib.byteCells] using h1.symm
  rw [← hm]; exact hown, hne⟩
 refine Calls.mono (Try.Builder_String_any B b l w hbld h.base) ?_
 rintro en w' ⟨rfl, hbel⟩
 have hst : St κ n B E' a w' := ⟨Nat.le_trans h.base hbel.size, h.defers, h.size, fun t d hd => by
  obtain ⟨h1, h2⟩ := hl _ (look_mem hd)
  exact h2 _ _ _ hbel h.base (h.of t d h1)⟩
 exact hK _ _ hbel (St.put hst hdst rfl)
end
structure TxG (b B : Nat) (m : Nat) (x : Nat × Value) : Prop where
 le : x.1 ≤ m
 ne : x.2.ownBlock ≠ some b
 low : ∀ g, x.2.ownBlock = some g → B ≤ g
theorem bytes_cells (l : List UInt8) : ∀ x ∈ l.map byteV, x.oneCell' = true := fun x hx => by
 obtain ⟨b, _, rfl⟩ := List.mem_map.1 hx; rfl
theorem Text_bad (us : List Us) (hf : Fits us) (hn : us.length ≤ 1099511627776) (h : chkU us ≠ 0) : Fn Try.prog 14 [hdD (rowD us.length (usR us)) []] (.v (.tuple #[.string ⟨#[]⟩, .int .i64 (chkU us)])) := by
 refine Fn.of Try.func14 rfl (by kernel_rfl) Try.ntmps14 (by simp) (fun w => [(0, old w.heap.size (hdD (rowD us.length (usR us)) []))]) (fun w => (Start.old rfl Start.nil)) fun w₀ => ?_
 refine A.nameHdR (t := 0) (k := 1000200) rfl fun A₀ q₀ => ?_
 refine GS ?_
 refine TN 0 ?_
 refine RN ?_
 refine ⟨_, _, eff_box (n := 33) (d := 1) (k := 1000001) rfl (by decide), fun b1 hb1 => ?_⟩
 have hBb1 := hb1.1
 refine TL ?_
 refine RA rfl ?_
 refine RA rfl ?_
 refine RN ?_
 refine A.seq ?_
 refine GS ?_
 refine TL ?_
 refine RS (OpOk.hdRow (ok_loadA (s := 1000001) (by decide) Try.underlying35 rfl (size35.of (rfl)) rfl rfl) (k := 1000200) (by decide) rfl) ?_
 refine RS (ok_call (Check_fn us hf hn) (Args.cons rfl (Le.old _ _) Args.nil)) ?_
 refine RA rfl ?_
 refine RN ?_
 refine GS ?_
 refine TL ?_
 refine RM rfl ?_
 refine RBS rfl rfl rfl (.bool true) (by simpa using h) ?_
 refine RN ?_
 refine A.yes rfl ?_
 refine GS ?_
 refine TL ?_
 refine RM rfl ?_
 refine RA rfl ?_
 refine RA rfl ?_
 refine RN ?_
 refine A.ret ?_
 refine End.ret_then ?_
 exact End.ret2V rfl rfl rfl
theorem Text_big (us : List Us) (hf : Fits us) (hn : us.length ≤ 1099511627776) (h : chkU us = 0) (h2 : 1048576 < us.length * 73) : Fn Try.prog 14 [hdD (rowD us.length (usR us)) []] (.v (.tuple #[.string ⟨#[]⟩, .int .i64 3])) := by
 refine Fn.of Try.func14 rfl (by kernel_rfl) Try.ntmps14 (by simp) (fun w => [(0, old w.heap.size (hdD (rowD us.length (usR us)) []))]) (fun w => (Start.old rfl Start.nil)) fun w₀ => ?_
 refine A.nameHdR (t := 0) (k := 1000200) rfl fun A₀ q₀ => ?_
 refine GS ?_
 refine TN 0 ?_
 refine RN ?_
 refine ⟨_, _, eff_box (n := 33) (d := 1) (k := 1000001) rfl (by decide), fun b1 hb1 => ?_⟩
 have hBb1 := hb1.1
 refine TL ?_
 refine RA rfl ?_
 refine RA rfl ?_
 refine RN ?_
 refine A.seq ?_
 refine GS ?_
 refine TL ?_
 refine RS (OpOk.hdRow (ok_loadA (s := 1000001) (by decide) Try.underlying35 rfl (size35.of (rfl)) rfl rfl) (k := 1000200) (by decide) rfl) ?_
 refine RS (ok_call (Check_fn us hf hn) (Args.cons rfl (Le.old _ _) Args.nil)) ?_
 refine RA rfl ?_
 refine RN ?_
 refine GS ?_
 refine TL ?_
 refine RM rfl ?_
 refine RBS rfl rfl rfl (.bool false) (by simp [h]) ?_
 refine RN ?_
 refine A.no rfl ?_
 refine A.skip ?_
 refine EN ?_
 refine GS ?_
 refine TL ?_
 refine RS (ok_field field35_0 (by decide) rfl) ?_
 refine RS (ok_loadV (s := 1000001) (by decide) Try.underlying22 rfl rfl rfl (rfl)) ?_
 refine RS (ok_lenV Try.underlying22 rfl) ?_
 refine RBS rfl rfl rfl (nI (us.length * 73)) (by rw [wrap_i64 (by omega) (by omega)]; exact congrArg (Value.int .i64) (by omega)) ?_
 refine RA rfl ?_
 refine RN ?_
 refine A.seq ?_
 refine GS ?_
 refine TL ?_
 refine RM rfl ?_
 refine RBS rfl rfl rfl (.bool true) (by simp; omega) ?_
 refine RN ?_
 refine A.yes rfl ?_
 refine GS ?_
 refine TL ?_
 refine RA rfl ?_
 refine RA rfl ?_
 refine RN ?_
 refine A.ret ?_
 refine End.ret_then ?_
 exact End.ret2V rfl rfl rfl
set_option maxHeartbeats 2000000 in
theorem Text_ok (us : List Us) (hf : Fits us) (hn : us.length ≤ 1099511627776) (h : chkU us = 0) (h2 : us.length * 73 ≤ 1048576) : Fn Try.prog 14 [hdD (rowD us.length (usR us)) []] (.v (.tuple #[.string ⟨(textL us).toArray⟩, .int .i64 0])) := by
 refine Fn.of Try.func14 rfl (by kernel_rfl) Try.ntmps14 (by simp) (fun w => [(0, old w.heap.size (hdD (rowD us.length (usR us)) []))]) (fun w => (Start.old rfl Start.nil)) fun w₀ => ?_
 refine A.nameHdR (t := 0) (k := 1000200) rfl fun A₀ q₀ => ?_
 refine GS ?_
 refine TN 0 ?_
 refine RN ?_
 refine ⟨_, _, eff_box (n := 33) (d := 1) (k := 1000001) rfl (by decide), fun b1 hb1 => ?_⟩
 have hBb1 := hb1.1
 refine TL ?_
 refine RA rfl ?_
 refine RA rfl ?_
 refine RN ?_
 refine A.seq ?_
 refine GS ?_
 refine TL ?_
 refine RS (OpOk.hdRow (ok_loadA (s := 1000001) (by decide) Try.underlying35 rfl (size35.of (rfl)) rfl rfl) (k := 1000200) (by decide) rfl) ?_
 refine RS (ok_call (Check_fn us hf hn) (Args.cons rfl (Le.old _ _) Args.nil)) ?_
 refine RA rfl ?_
 refine RN ?_
 refine GS ?_
 refine TL ?_
 refine RM rfl ?_
 refine RBS rfl rfl rfl (.bool false) (by simp [h]) ?_
 refine RN ?_
 refine A.no rfl ?_
 refine A.skip ?_
 refine EN ?_
 refine GS ?_
 refine TL ?_
 refine RS (ok_field field35_0 (by decide) rfl) ?_
 refine RS (ok_loadV (s := 1000001) (by decide) Try.underlying22 rfl rfl rfl (rfl)) ?_
 refine RS (ok_lenV Try.underlying22 rfl) ?_
 refine RBS rfl rfl rfl (nI (us.length * 73)) (by rw [wrap_i64 (by omega) (by omega)]; exact congrArg (Value.int .i64) (by omega)) ?_
 refine RA rfl ?_
 refine RN ?_
 refine A.seq ?_
 refine GS ?_
 refine TL ?_
 refine RM rfl ?_
 refine RBS rfl rfl rfl (.bool false) (by simp; omega) ?_
 refine RN ?_
 refine A.no rfl ?_
 refine A.skip ?_
 refine EN ?_
 refine GS ?_
 refine TN 0 ?_
 refine RN ?_
 refine ⟨_, _, eff_alloc (n := 33) (d := 6) (k := 1000006) zero69 (by decide), fun b6 hb6 => ?_⟩
 have hBb6 := hb6.1
 refine TL ?_
 refine RN ?_
 refine GS ?_
 refine RunTK.newG 1 (by decide) rfl (.inl rfl) ?_
 refine RM rfl ?_
 refine RN ?_
 refine ⟨_, _, _, eff_grow (s := 1000006) (s' := 1000102) rfl rfl rfl (by omega) hBb6 (by decide) (by decide) (by decide) (by decide) (LeftG.cons (t := 1) rfl (Stays.v _ _) (LeftG.cons (t := 6) rfl (Stays.v _ _) (LeftG.cons (t := 1000001) rfl (Stays.blkB (hb6.2 1000001 _ _ _ rfl)) (LeftG.cons (t := 1000200) rfl (Stays.oldB hBb6) LeftG.nil)))), fun v21 hv21 => ?_⟩
 refine TL ?_
 refine RN ?_
 refine A.seq ?_
 refine GS ?_
 refine TL ?_
 refine RS (ok_field field35_0 (by decide) rfl) ?_
 refine RS (ok_loadV (s := 1000001) (by decide) Try.underlying22 rfl rfl rfl (rfl)) ?_
 refine RS (ok_lenV Try.underlying22 rfl) ?_
 refine RM rfl ?_
 refine RN ?_
 refine A.block ?_
 refine A.loop (ι := Nat × Value) (fun x => TxG b6 w₀.heap.size us.length x) (fun x => [(6, .v (selfP b6)), (23, .v (.slice A₀ us.length q₀)), (24, .v (nI (us.length))), (25, .v (nI (x.1))), (1000200, old w₀.heap.size (memR A₀ (usR us))), (1000006, blk b6 69 [selfP b6, x.2]), (1000102, ownM w₀.heap.size x.2 5 ((textL (us.take x.1)).map byteV).length ((textL (us.take x.1)).map byteV))]) (fun x => us.length - x.1) (0, v21) ?_ ?_ ?_
 ·exact ⟨Nat.zero_le _, hv21.1, fun g hg => by have := hv21.2 g hg; omega⟩
 ·exact (KC 6 rfl (KC 23 rfl (KC 24 rfl (KE 25 rfl (by rfl) (KC 1000200 rfl (KC 1000006 rfl (KE 1000102 rfl (by simp [textL]) KN)))))))
 intro x hx
 refine GS ?_
 refine TL ?_
 refine RB rfl rfl rfl ?_
 refine RN ?_
 refine A.seq ?_
 refine A.cond rfl (fun hc26 => ?_) (fun hc26 => ?_)
 ·have hi : x.1 < us.length := by have h := hc26; simp at h; omega
  refine A.skip ?_
  refine EN ?_
  refine A.seq ?_
  refine A.block ?_
  refine GS ?_
  refine TN 2 ?_
  refine RS (ok_indexR (s := 1000200) x.1 Try.underlying22 infoU rfl rfl (by decide) rfl hi (usR_lt hf hi)) ?_
  refine RS (ok_loadElemP Try.underlying31 rfl (size31.of (by rw [usR_at hf hi, usV_length (hf.get hi)])) rfl) ?_; refine RZ (aggV (usV us[x.1])) (congrArg aggV (usR_at hf hi)) ?_
  refine RN ?_
  refine ⟨_, _, eff_alloc (n := 33) (d := 8) (k := 1000008) zero31 (by decide), fun b8 hb8 => ?_⟩
  have hBb8 := hb8.1
  refine TF 3 ?_
  refine RN ?_
  refine ⟨_, eff_storeA (n := 33) (s := 1000008) (size31.of (usV_length (hf.get hi))) rfl rfl (usV_one _) hBb8 rfl (by rw [usV_length (hf.get hi)]; rfl) (LV 6 rfl (LV 8 rfl (LV 23 rfl (LV 24 rfl (LV 25 rfl (LT 1000006 rfl (LeftS.cons (t := 1000102) rfl ((Surv.ownMT (by decide))) (LO 1000200 rfl LN)))))))), ?_⟩
  refine TL ?_
  refine RN ?_
  refine GE ?_
  refine RunTK.newG 1 (by decide) rfl (.inl rfl) ?_
  refine RS (ok_loadA (s := 1000008) (by decide) Try.underlying31 rfl (size31.of (usV_length (hf.get hi))) rfl rfl) ?_
  refine RN ?_
  refine ⟨_, _, _, eff_callAdd (s := 1000006) (s' := 1000102) (bs := ((textL (us.take x.1)).map byteV)) (writeLine_add us[x.1] (hf.get hi)) #[_, _] rfl rfl ⟨rfl, trivial⟩ rfl rfl hBb6 hx.ne (by simp only [List.length_map]; rw [textL_length (fun u hu => hf u (List.mem_of_mem_take hu)), lineL_length (hf.get hi)]; simp only [List.length_take]; omega) (bytes_cells _) (by decide) (by decide) (by decide) (by decide) (LeftA.cons (t := 6) rfl (SurvA.v _) (LeftA.cons (t := 23) rfl (SurvA.v _) (LeftA.cons (t := 24) rfl (SurvA.v _) (LeftA.cons (t := 25) rfl (SurvA.v _) (LeftA.cons (t := 1000200) rfl (SurvA.old hBb6 hx.low) LeftA.nil))))), fun v30 hv30 => ?_⟩
  refine TL ?_
  refine RN ?_
  refine End.normal_block ?_
  refine EN ?_
  refine GE ?_
  refine TL ?_
  refine RBS rfl rfl rfl (nI (x.1 + 1)) (by rw [wrap_i64 (by omega) (by omega)]; rfl) ?_
  refine RM rfl ?_
  refine RN ?_
  refine End.normal_then ?_
  refine End.again (x.1 + 1, v30) ?_ ?_ ?_
  ·exact ⟨hi, hv30.2.1, hv30.2.2⟩
  ·show us.length - (x.1 + 1) < us.length - x.1; omega
  ·exact (KC 6 rfl (KC 23 rfl (KC 24 rfl (KC 25 rfl (KC 1000200 rfl (KC 1000006 rfl (KE 1000102 rfl (by rw [textL_succ hi, List.map_append]) KN)))))))
 ·have hi2 : x.1 = us.length := by have h := hx.le; simp at hc26; omega
  refine A.exit ?_
  refine End.exit_then ?_
  refine End.exit_then ?_
  refine End.exit_here ?_
  refine EN ?_
  refine GS ?_
  refine TF 0 ?_
  refine RN ?_
  refine ⟨_, eff_string (s := 1000006) (s' := 1000102) rfl rfl (Eq.trans rfl (congrArg (fun l : List Us => some (ownM w₀.heap.size x.2 5 ((textL (us.take x.1)).map byteV).length ((textL l).map byteV))) (show us.take x.1 = us by rw [hi2, List.take_of_length_le (Nat.le_refl _)]))) hx.ne hBb6 (by decide) (by decide) LeftG.nil, ?_⟩
  refine TL ?_
  refine RA rfl ?_
  refine RA rfl ?_
  refine RN ?_
  refine A.ret ?_
  exact End.ret2V rfl rfl rfl
end Go.Proofs.Ythhmimnkfklhdaa
namespace Go.Proofs.Ythhmimnkfklhdaa
open Go Go.RowKit
set_option linter.unusedVariables false
set_option linter.unusedSimpArgs false
variable {κ : Cx}
/-! ### Drawn regions with guards whose changes of memory are no barriers -/
section
variable {P : Program} {B : Nat} {ops : Array Oper} {E : Env} {C : Env → Prop} {o : Oper} {rest : List Oper} {t : Nat} {d : D} {ms : List Mk}
theorem RunX.guarded {st : Bool} {kl : Option Nat} {j : Nat} {want : Bool} {s : Nat} (ht : o.dst = some t) (hg : o.guard = some (j, want)) (hj : ((ops[j]?).bind (·.dst)) = some s) (hE : E.look s = some (.v (.bool want))) (h : OpOk P B o E d) (hs : st = true → Stays B d) (hr : RunX P B ops rest ((t, d) :: E) ms C) : RunX P B ops (o :: rest) E (⟨false, st, kl⟩ :: ms) C := by
  obtain ⟨ds, E', h1, h2⟩ := hr
  exact ⟨_, E', .cons ht (.inl ⟨by simp only [GuardIs, hg]; exact ⟨s, hj, .inl ⟨want, hE, by cases want <;> rfl⟩⟩, h.x⟩) hs h1, h2⟩
theorem RunX.effg {st : Bool} {kl : Option Nat} {j : Nat} {want : Bool} {s : Nat} (ht : o.dst = some t) (hg : o.guard = some (j, want)) (hj : ((ops[j]?).bind (·.dst)) = some s) (hE : E.look s = some (.v (.bool want))) (h : OpOkX true P B o E d) (hs : st = true → Stays B d) (hr : RunX P B ops rest ((t, d) :: E) ms C) : RunX P B ops (o :: rest) E (⟨true, st, kl⟩ :: ms) C := by
  obtain ⟨ds, E', h1, h2⟩ := hr
  exact ⟨_, E', .cons ht (.inl ⟨by simp only [GuardIs, hg]; exact ⟨s, hj, .inl ⟨want, hE, by cases want <;> rfl⟩⟩, h⟩) hs h1, h2⟩
theorem RunX.skipped {kl : Option Nat} {j : Nat} {want c : Bool} {s : Nat} (ht : o.dst = some t) (hg : o.guard = some (j, want)) (hj : ((ops[j]?).bind (·.dst)) = some s) (hE : E.look s = some (.v (.bool c))) (hc : (c == want) = false) (hr : RunX P B ops rest ((t, .v undef) :: E) ms C) : RunX P B ops (o :: rest) E (⟨false, true, kl⟩ :: ms) C := by
  obtain ⟨ds, E', h1, h2⟩ := hr
  exact ⟨_, E', .cons ht (.inr ⟨by simp only [GuardIs, hg]; exact ⟨s, hj, .inl ⟨c, hE, hc.symm⟩⟩, rfl⟩) (fun _ => Stays.v _ _) h1, h2⟩
theorem RunX.skippedU {kl : Option Nat} {j : Nat} {want : Bool} {s : Nat} (ht : o.dst = some t) (hg : o.guard = some (j, want)) (hj : ((ops[j]?).bind (·.dst)) = some s) (hE : E.look s = some (.v undef)) (hr : RunX P B ops rest ((t, .v undef) :: E) ms C) : RunX P B ops (o :: rest) E (⟨false, true, kl⟩ :: ms) C := by
  obtain ⟨ds, E', h1, h2⟩ := hr
  exact ⟨_, E', .cons ht (.inr ⟨by simp only [GuardIs, hg]; first | exact ⟨s, hj, .inr ⟨hE, trivial⟩⟩ | exact ⟨s, hj, .inr ⟨hE, rfl⟩⟩, rfl⟩) (fun _ => Stays.v _ _) h1, h2⟩
end
/-! ### Rows of structs that are appended to -/
/-- A slice without elements and without room, new. -/
def own0 (base : Nat) (e : TypeId) : D :=
  .p (fun B w x => ∃ g, x = .slice (some ⟨g, 0, none⟩) 0 0 ∧ base ≤ g ∧ g < B ∧ w.heap[g]? = some (.cells #[] e (0, 0)))
    (fun _ _ _ _ k ⟨g, h1, h2, h3, h4⟩ => ⟨g, h1, h2, h3, (k.block g h3).trans h4⟩) (fun _ _ _ _ k ⟨g, h1, h2, h3, h4⟩ => ⟨g, h1, h2, Nat.lt_of_lt_of_le h3 k, h4⟩)
section
variable {P : Program} {B : Nat} {E : Env} {dst : Option Tmp} {ty : TypeId} {pos : String} {after : Array Edge} {guard : Option (Nat × Bool)}
theorem ok_build0P {t e : TypeId} {z : Value} {sz nb : Nat} (ht : P.underlying t = some (.slice e)) (hinfo : InfoP P e z sz nb) : OpOk P B ⟨dst, .buildSlice t 0 #[], ty, pos, after, guard⟩ E (own0 B e) := fun ρ w hB _ _ => by
  obtain ⟨i, hi, hz, hs, _⟩ := hinfo.get
  refine out_val (x := .slice (some ⟨w.heap.size, 0, none⟩) 0 0) (w' := w.alloc (.cells #[] e)) ?_ ⟨Grow.alloc w _, w.heap.size, rfl, hB, by simp, heap_alloc_new w _⟩
  simp [execOp, Instr.buildSlice, run_underlying ht, sizeOf, typeInfo, hi, Instr.fill, newRow]
  rw [show (Array.map (fun _ => (default : Value)) (Array.range 0)) = #[] from Array.eq_empty_of_size_eq_zero (by simp)]
theorem lt_of_row {w : World} {base sz n : Nat} {e : TypeId} {v : Value} {xs : List Value} (h : w.ownsRow base e sz v n xs) : ∀ g, v.ownBlock = some g → g < w.heap.size := fun g hg => by
  rcases h.2 with ⟨hv, _⟩ | ⟨g', cap, cur, hv, _, hh, _⟩
  · rw [hv] at hg; simp [Value.ownBlock] at hg
  · rw [hv] at hg; simp [Value.ownBlock] at hg; subst hg
    rcases Nat.lt_or_ge g' w.heap.size with h | h
    · exact h
    · rw [Array.getElem?_eq_none h] at hh; cases hh
theorem ok_append0P {t e : TypeId} {z : Value} {sz nb m : Nat} {r x : Operand} {f : D} {ys : List Value} (ht : P.underlying t = some (.slice e)) (hinfo : InfoP P e z sz nb) (hsz : 0 < sz) (hnb : nb ≤ 64) (hz1 : z.cells.size = sz)
    (hr : E.at r = some (own0 B e)) (hx : E.at x = some f) (hf : Le f (rowD m ys)) (hl : ys.length = m * sz) (hk : m ≤ 1099511627776) :
    OpOk P B ⟨dst, .call { callee := .builtin .append, args := #[r, x], argTypes := #[t, t] }, ty, pos, after, guard⟩ E (ownP B e sz m ys) := fun ρ w hB hv hρ => by
  obtain ⟨i, hi, hz, hs, hby⟩ := hinfo.get
  obtain ⟨g, hre, hg1, hg2, hg3⟩ := hρ r (by simp [Op.operands, Call.operands]) _ hr
  obtain ⟨A, c, hxe, hrow⟩ := hf.of (hρ x (by simp [Op.operands, Call.operands]) _ hx)
  rcases Nat.eq_zero_or_pos m with h0 | h0
  · subst h0
    have hy : ys = [] := List.length_eq_zero_iff.1 (by omega)
    subst hy
    refine out_val (x := .slice (some ⟨g, 0, none⟩) 0 0) (w' := w) ?_ ⟨Grow.refl w, ⟨by simp, .inr ⟨g, 0, #[], rfl, hg1, hg3, by simp, by simp, by simp, by simp⟩⟩, fun j hj => by simp [Value.ownBlock] at hj; omega⟩
    have : (Builtin.append_ #[t, t] ty #[.slice (some ⟨g, 0, none⟩) 0 0, .slice A 0 c]).run P w = .ok (.slice (some ⟨g, 0, none⟩) 0 0) w := by
      cases A <;> simp [Builtin.append_, run_underlying ht, sizeOf, typeInfo, hi, Builtin.lenOf, Builtin.firstCells, storeCells, loadCells, loadCellsFrom]
    simp [execOp, resolve, invoke, builtin, hre, hxe, this]
  · obtain ⟨ad, rfl⟩ : ∃ ad, A = some ad := by
      have h1 : 0 < ys.length := by rw [hl]; exact Nat.mul_pos h0 hsz
      obtain ⟨ad, h2, _⟩ := hrow 0 _ (List.getElem?_eq_getElem h1)
      exact ⟨ad, h2⟩
    have hbb : m * i.bytes ≤ m * 64 := Nat.mul_le_mul_left _ (by omega)
    obtain ⟨v', w', h2, h3, h4⟩ := run_append_arg_grows (P := P) w t ty e i z sz i.bytes ht hi hz hs rfl hz1 hsz ⟨g, 0, none⟩ 0 0 [] (by simp) (fun j u hu => by simp at hu) ad m c ys hl (fun j u hu => by obtain ⟨ad', h5, _, h6⟩ := hrow j u hu; injection h5 with h5; subst h5; exact h6) (by omega) (by simp only [maxLen]; omega) (by rw [Nat.zero_add]; omega)
    rw [Nat.zero_add, List.nil_append] at h3
    refine out_val (x := v') (w' := w') (by simp [execOp, resolve, invoke, builtin, hre, hxe, h2]) ⟨(Below.refl w.heap.size w).grown h4 (Nat.le_refl _) (fun g hg => by cases hg), ⟨h3.1, h3.2.imp id ?_⟩, lt_of_row h3⟩
    rintro ⟨g, cap, cur, h5, h6, h7⟩; exact ⟨g, cap, cur, h5, by omega, h7⟩
theorem append_ownP {t e : TypeId} {z : Value} {sz nb k m : Nat} {v x : Value} {xs ys : List Value} {w : World} {A : Option Addr} {c : Nat} (ht : P.underlying t = some (.slice e)) (hinfo : InfoP P e z sz nb) (hsz : 0 < sz) (hnb : nb ≤ 64) (hz1 : z.cells.size = sz)
    (hown : w.ownsRow B e sz v k xs) (hxe : x = .slice A m c) (hrow : RowIn w.heap.size w A ys) (h1 : ys.all (·.oneCell') = true) (hl : ys.length = m * sz) (hk : k + m ≤ 1099511627776) (hB : B ≤ w.heap.size) :
    ∃ v' w', (Builtin.append_ #[t, t] ty #[v, x]).run P w = .ok v' w' ∧ w'.ownsRow B e sz v' (k + m) (xs ++ ys) ∧ Below B w w' := by
  obtain ⟨i, hi, hz, hs, hby⟩ := hinfo.get
  subst hxe
  have hbase : ∀ g, v.ownBlock = some g → B ≤ g := fun g hg => by
    rcases hown.2 with ⟨hv, _⟩ | ⟨g', cap, cur, hv, hb, _⟩
    · rw [hv] at hg; simp [Value.ownBlock] at hg
    · rw [hv] at hg; simp [Value.ownBlock] at hg; omega
  cases A with
  | none =>
    have hy : ys = [] := by
      cases ys with
      | nil => rfl
      | cons y ys => obtain ⟨_, h0, _⟩ := hrow 0 y rfl; cases h0
    subst hy
    have h0 : m = 0 := by
      have : m * sz = 0 := by simpa using hl.symm
      rcases Nat.mul_eq_zero.1 this with h | h
      · exact h
      · omega
    subst h0
    refine ⟨v, w, ?_, by simpa using hown, Below.refl _ _⟩
    rcases hown.2 with ⟨hv, hn0⟩ | ⟨g, cap, cur, hv, _, _, hnc, _⟩
    · rw [hv]; simp [Builtin.append_, run_underlying ht, sizeOf, typeInfo, hi, Builtin.lenOf, Builtin.firstCells]
    · rw [hv]; simp [Builtin.append_, run_underlying ht, sizeOf, typeInfo, hi, Builtin.lenOf, Builtin.firstCells, hnc, storeCells]
  | some ad =>
    have hbb : (k + m) * i.bytes ≤ (k + m) * 64 := Nat.mul_le_mul_left _ (by omega)
    obtain ⟨v', w', h2, h3, h4, _, _⟩ := run_append_own_at (P := P) w B t ty e i z sz i.bytes ht hi hz hs rfl hz1 hsz v k xs hown ad m c ys hl (fun j u hu => by obtain ⟨ad', h5, _, h6⟩ := hrow j u hu; injection h5 with h5; subst h5; exact h6) (fun u hu => List.all_eq_true.1 h1 u hu) (by simp only [maxLen]; omega) (by omega) hB
    exact ⟨v', w', h2, h3, (Below.refl B w).grown h4 hB hbase⟩
theorem okx_appendP {t e : TypeId} {z : Value} {sz nb k m : Nat} {r x : Operand} {f : D} {xs ys : List Value} (ht : P.underlying t = some (.slice e)) (hinfo : InfoP P e z sz nb) (hsz : 0 < sz) (hnb : nb ≤ 64) (hz1 : z.cells.size = sz)
    (hr : E.at r = some (ownP B e sz k xs)) (hx : E.at x = some f) (hf : Le f (rowD m ys)) (h1 : ys.all (·.oneCell') = true) (hl : ys.length = m * sz) (hk : k + m ≤ 1099511627776) :
    OpOkX true P B ⟨dst, .call { callee := .builtin .append, args := #[r, x], argTypes := #[t, t] }, ty, pos, after, guard⟩ E (ownP B e sz (k + m) (xs ++ ys)) := fun ρ w hB _ hρ => by
  obtain ⟨hown, hob⟩ := hρ r (by simp [Op.operands, Call.operands]) _ hr
  obtain ⟨A, c, hxe, hrow⟩ := hf.of (hρ x (by simp [Op.operands, Call.operands]) _ hx)
  obtain ⟨v', w', hrun, h3, h4⟩ := append_ownP (ty := ty) ht hinfo hsz hnb hz1 hown hxe hrow h1 hl hk hB
  exact out_val (x := v') (w' := w') (by simp [execOp, resolve, invoke, builtin, hrun]) ⟨h4, h3, lt_of_row h3⟩
end
/-! ### Slices without spare capacity -/
def rowN (n : Nat) (xs : List Value) : D :=
  .p (fun B w x => ∃ A, x = .slice A n n ∧ RowIn B w A xs) (fun _ _ _ _ g ⟨A, h1, h2⟩ => ⟨A, h1, D.OfB.keep (d := memR A xs) (x := undef) h2 g⟩) (fun _ _ _ _ g ⟨A, h1, h2⟩ => ⟨A, h1, D.OfB.up (d := memR A xs) (x := undef) h2 g⟩)
section
variable {P : Program} {n : Nat} {E : Env} {w₀ : World} {c : Code} {Q : Exit → Act → World → Prop}
theorem A.nameHdN {t k B' m : Nat} {xs rest : List Value} (ht : E.look t = some (old B' (hdD (rowN m xs) rest))) (h : ∀ (A₀ : Option Addr), A κ P w₀ n c ((t, .v (aggV (.slice A₀ m m :: rest))) :: (k, old B' (memR A₀ xs)) :: E) Q) : A κ P w₀ n c E Q := fun a w g hs => by
  obtain ⟨hB, v, h1, h2, A₀, h3, h4⟩ := hs.of t _ ht
  subst h3
  exact h A₀ a w g ((hs.push (t := k) (d := old B' (memR A₀ xs)) ⟨hB, h4⟩).push (d := .v (aggV (.slice A₀ m m :: rest))) h2)
/-- What is known at a later point holds of what was there at that point. -/
def UpTo (w : World) (E' E : Env) : Prop := ∀ p ∈ E', ∃ d, E.look p.1 = some d ∧ (p.2 = d ∨ p.2 = old w.heap.size d ∨ ∃ B₀ d₀, d = old B₀ d₀ ∧ p.2 = old w.heap.size d₀)
theorem UpTo.nil {w : World} {E : Env} : UpTo w [] E := fun _ h => by cases h
theorem UpTo.same {w : World} {E E' : Env} {t : Nat} {d : D} (h : E.look t = some d) (hr : UpTo w E' E) : UpTo w ((t, d) :: E') E := fun p hp => by
  rcases List.mem_cons.1 hp with rfl | hp
  · exact ⟨d, h, .inl rfl⟩
  · exact hr p hp
theorem UpTo.new {w : World} {E E' : Env} {t : Nat} {d : D} (h : E.look t = some d) (hr : UpTo w E' E) : UpTo w ((t, old w.heap.size d) :: E') E := fun p hp => by
  rcases List.mem_cons.1 hp with rfl | hp
  · exact ⟨d, h, .inr (.inl rfl)⟩
  · exact hr p hp
theorem UpTo.old {w : World} {E E' : Env} {t B₀ : Nat} {d : D} (h : E.look t = some (Go.Proofs.Ythhmimnkfklhdaa.old B₀ d)) (hr : UpTo w E' E) : UpTo w ((t, Go.Proofs.Ythhmimnkfklhdaa.old w.heap.size d) :: E') E := fun p hp => by
  rcases List.mem_cons.1 hp with rfl | hp
  · exact ⟨_, h, .inr (.inr ⟨B₀, d, rfl, rfl⟩)⟩
  · exact hr p hp
/-- The rest of a function, at a base of its own: whatever is there by then is old. -/
theorem A.raise (E' : World → Env) (hE : ∀ w, UpTo w (E' w) E) (h : ∀ w₁, Grow w₀ w₁ → A κ P w₁ n c (E' w₁) Q) : A κ P w₀ n c E Q := fun a w g hs => by
  refine h w g a w (Below.refl _ _) ⟨Nat.le_refl _, hs.defers, hs.size, fun t d hd => ?_⟩
  obtain ⟨d', hd', h1⟩ := hE w _ (look_mem hd)
  have h2 := hs.of t d' hd'
  rcases h1 with h1 | h1 | ⟨B₀, d₀, h1, h3⟩
  · simp only at h1; rw [h1]; exact h2
  · simp only at h1; rw [h1]; exact ⟨Nat.le_refl _, h2⟩
  · subst h1; simp only at h3; rw [h3]; exact ⟨Nat.le_refl _, D.OfB.up h2.2 h2.1⟩
theorem End.ret1U {w₁ : World} {fn : Func} {r : Nat} {d e : D} (hg : Grow w₀ w₁) (hr : fn.results = #[.tmp r]) (he : E.look r = some e) (hl : Le e d) : End Cx.top w₁ n E (BP P fn (PostOf w₀ d) .ret) := fun a w g hs =>
  BP.ret hs.defers ⟨a.tmps.getD r undef, by simp [results, hr], _, rfl, Grow.trans hg g, hl.of (hs.of r e he)⟩
/-- A slice that came in, handed back in a struct's variable. -/
theorem End.hdRow {fn : Func} {r s b k m q B' : Nat} {T e : TypeId} {A₀ : Option Addr} {xs : List Value} {td : TypeDesc} (hr : fn.results = #[.cell r T]) (ht : P.underlying T = some td) (hp : (match td with | .struct _ | .array _ _ => true | _ => false) = true) (hsz : SizeIs P T 1)
    (h1 : E.look r = some (.v (.pointer (some ⟨b, 0, none⟩)))) (h2 : E.look s = some (blk b e [.slice A₀ m q])) (hk : E.look k = some (old B' (memR A₀ xs))) :
    End Cx.top w₀ n E (BP P fn (PostOf w₀ (hdD (rowD m xs) [])) .ret) := fun a w gr hs => by
  have h3 : a.tmps[r]?.getD undef = .pointer (some ⟨b, 0, none⟩) := by rw [← Array.getD_eq_getD_getElem?]; exact hs.of r _ h1
  obtain ⟨_, hh⟩ := hs.of s _ h2
  obtain ⟨hB, hrow⟩ := hs.of k _ hk
  exact BP.ret hs.defers ⟨aggV [.slice A₀ m q], by simp [results, hr, h3, asAddr, load_cell (xs := [.slice A₀ m q]) ht hp hsz hh], _, rfl, gr, _, rfl, rfl, A₀, q, rfl, D.OfB.up (d := memR A₀ xs) (x := undef) hrow hB⟩
end
section
variable {P : Program} {B : Nat} {E : Env}
theorem OpOk.hdBlkN {o : Oper} {b m k : Nat} {e : TypeId} {xs : List Value} (h : OpOk P B o E (.v (aggV [.slice (some ⟨b, 0, none⟩) m m]))) (hk : vbase ≤ k) (hl : E.look k = some (blk b e xs)) : OpOk P B o E (hdD (rowN m xs) []) := fun ρ w hB hv hρ => by
  refine (h ρ w hB hv hρ).mono fun x w' hx => ⟨hx.1, ?_⟩
  have h2 : (blk b e xs).Of w' undef := D.Of.grow (hv k _ hk hl) hx.1
  exact ⟨_, rfl, hx.2, _, rfl, blk_rowIn h2.1 h2.2⟩
end
section
variable {P : Program} {B : Nat} {E : Env}
theorem OpOk.hdBlkO {o : Oper} {b m k B' : Nat} {e : TypeId} {xs : List Value} (h : OpOk P B o E (.v (aggV [.slice (some ⟨b, 0, none⟩) m m]))) (hk : vbase ≤ k) (hl : E.look k = some (blk b e xs)) (hb : b < B') (hB : B' ≤ B) : OpOk P B o E (old B' (hdD (rowN m xs) [])) := fun ρ w hBw hv hρ => by
  refine (h ρ w hBw hv hρ).mono fun x w' hx => ⟨hx.1, ?_⟩
  have h2 : (blk b e xs).Of w' undef := D.Of.grow (hv k _ hk hl) hx.1
  exact ⟨Nat.le_trans hB (Nat.le_trans hBw hx.1.size), _, rfl, hx.2, _, rfl, blk_rowIn hb h2.2⟩
theorem OpOk.rowBlkO {o : Oper} {b m q k B' : Nat} {e : TypeId} {xs : List Value} (h : OpOk P B o E (.v (.slice (some ⟨b, 0, none⟩) m q))) (hk : vbase ≤ k) (hl : E.look k = some (blk b e xs)) (hb : b < B') (hB : B' ≤ B) : OpOk P B o E (old B' (rowD m xs)) := fun ρ w hBw hv hρ => by
  refine (h ρ w hBw hv hρ).mono fun x w' hx => ⟨hx.1, ?_⟩
  have h2 : (blk b e xs).Of w' undef := D.Of.grow (hv k _ hk hl) hx.1
  exact ⟨Nat.le_trans hB (Nat.le_trans hBw hx.1.size), _, _, hx.2, blk_rowIn hb h2.2⟩
theorem OpOk.rowO2 {o : Oper} {A₀ : Option Addr} {m q k B' B'' : Nat} {xs : List Value} (h : OpOk P B o E (.v (.slice A₀ m q))) (hk : vbase ≤ k) (hl : E.look k = some (old B'' (old B' (memR A₀ xs)))) : OpOk P B o E (old B'' (rowD m xs)) := fun ρ w hB hv hρ => by
  refine (h ρ w hB hv hρ).mono fun x w' hx => ⟨hx.1, ?_⟩
  have h2 : (old B'' (old B' (memR A₀ xs))).Of w' undef := D.Of.grow (hv k _ hk hl) hx.1
  exact ⟨h2.1, A₀, q, hx.2, D.OfB.up (d := memR A₀ xs) (x := undef) h2.2.2 h2.2.1⟩
variable {dst : Option Tmp} {ty : TypeId} {pos : String} {after : Array Edge} {guard : Option (Nat × Bool)}
/-- A literal of structs: a new row, known whole. -/
theorem ok_buildG {t e : TypeId} {z : Value} {nb sz m : Nat} {ps : Array (Nat × Operand)} (us : List (Nat × Value)) (ys : List Value) (ht : P.underlying t = some (.slice e)) (hs : InfoP P e z sz nb) (hl : LitS E us ps.toList)
    (hfill : Instr.fill (fun j => some (j * sz, sz)) ((Array.range (m * sz)).map (z.cells[· % z.cells.size]!)) us = some ys.toArray) (h0 : m * sz ≤ 65536) (h1 : 0 < m * sz) :
    OpOk P B ⟨dst, .buildSlice t m ps, ty, pos, after, guard⟩ E (newD B e (fun b => .slice (some ⟨b, 0, none⟩) m m) ys) := fun ρ w hB _ hρ => by
  obtain ⟨i, hi, hzv, hsize, _⟩ := hs.get
  have hp : ps.toList.map (fun p => (p.1, ρ p.2)) = us := hl.map fun x hx v hv => hρ x (by simpa [Op.operands] using hx) _ hv
  have hr := run_buildSlice (P := P) w t e m (ps.map fun (i, x) => (i, ρ x)) ys.toArray i z ht hi hzv (by rw [hsize]; omega) (by rw [hsize]; omega) (by rw [hsize, Array.toList_map]; exact (congrArg _ hp).trans hfill)
  exact out_val (x := .slice (some ⟨w.heap.size, 0, none⟩) m m) (w' := w.alloc (.cells ys.toArray e)) (by simp [execOp, hr]) ⟨Grow.alloc w _, w.heap.size, rfl, hB, by simp, heap_alloc_new w _⟩
theorem newD_rowD {B m : Nat} {e : TypeId} {xs : List Value} : Le (newD B e (fun b => .slice (some ⟨b, 0, none⟩) m m) xs) (rowD m xs) := fun B w x ⟨b, h1, _, h3, h4⟩ => ⟨_, _, h1, blk_rowIn h3 h4⟩
/-- Part of a slice whose row is known by name. -/
theorem ok_sliceRB {t e e' : TypeId} {z : Value} {nb sz : Nat} {x o : Operand} {lo : Option Operand} {b len c k : Nat} {kd : IntKind} {xs : List Value} (l h : Nat) (ht : P.underlying t = some (.slice e)) (hs : InfoP P e z sz nb) (hx : E.at x = some (.v (.slice (some ⟨b, 0, none⟩) len c)))
    (hk : vbase ≤ k) (hb : E.look k = some (blk b e' xs)) (hlo : (lo = none ∧ l = 0) ∨ ∃ o' kd', lo = some o' ∧ E.at o' = some (.v (.int kd' (l : Int)))) (ho : E.at o = some (.v (.int kd (h : Int)))) (hl : l ≤ h) (hh : h ≤ c) (hlt : l < h) :
    OpOk P B ⟨dst, .slice t x lo (some o) none, ty, pos, after, guard⟩ E (rowD (h - l) ((xs.drop (l * sz)).take ((h - l) * sz))) := fun ρ w _ hv hρ => by
  have h1 : ρ x = _ := hρ x (by simp [Op.operands]) _ hx
  have h2 : ρ o = .int kd (h : Int) := hρ o (by simp [Op.operands]) _ ho
  obtain ⟨hb1, hb2⟩ := hv k _ hk hb
  obtain ⟨info, hinfo, _, hsize, _⟩ := hs.get
  refine out_val (x := .slice (some ((⟨b, 0, none⟩ : Addr).add (l * sz))) (h - l) (c - l)) (w' := w) ?_ ⟨Grow.refl w, _, _, rfl, fun j u hu => ⟨_, rfl, by rw [block_of_add]; exact hb1, ?_⟩⟩
  · have hc : ¬ c = l := by omega
    rcases hlo with ⟨rfl, rfl⟩ | ⟨o', kd', rfl, h3⟩
    · simp [execOp, h1, h2, Instr.sliceAt, Instr.slice, run_underlying ht, Instr.sliceBounds, Instr.sliceBound, asIntOf, sizeOf, typeInfo, hinfo, hsize, hh, hc]
    · have h4 : ρ o' = .int kd' (l : Int) := hρ o' (by simp [Op.operands]) _ h3
      simp [execOp, h1, h2, h4, Instr.sliceAt, Instr.slice, run_underlying ht, Instr.sliceBounds, Instr.sliceBound, asIntOf, sizeOf, typeInfo, hinfo, hsize, hh, hl, hc]
  · rw [add_of_add, show (⟨b, 0, none⟩ : Addr).add (l * sz + j) = ⟨b, l * sz + j, none⟩ from by unfold Addr.add; split <;> simp_all]
    rw [List.getElem?_take] at hu
    split at hu
    · rw [List.getElem?_drop] at hu; simp [World.cell?, hb2]; simpa using hu
    · cases hu
/-- An element of a slice of which its cells are known. -/
theorem ok_indexRD {t e : TypeId} {z : Value} {sz nb : Nat} {x i : Operand} {k : Nat} {f : D} {xs : List Value} {ki : IntKind} (m : Nat) (ht : P.underlying t = some (.slice e)) (hs : InfoP P e z sz nb) (hx : E.at x = some f) (hf : Le f (rowD k xs))
    (hi : E.at i = some (.v (.int ki (m : Int)))) (hm : m < k) (hlt : m * sz < xs.length) :
    OpOk P B ⟨dst, .indexAddr t x i, ty, pos, after, guard⟩ E (elemP ((xs.drop (m * sz)).take sz)) := fun ρ w _ hv hρ => by
  obtain ⟨A, q, h1, hrow⟩ := hf.of (hρ x (by simp [Op.operands]) _ hx)
  have hi' : ρ i = .int ki m := hρ i (by simp [Op.operands]) _ hi
  obtain ⟨info, hinfo, _, hsize, _⟩ := hs.get
  obtain ⟨ad, hA, hab, _⟩ := hrow (m * sz) _ (List.getElem?_eq_getElem hlt)
  subst hA
  refine out_val (x := .pointer (some (ad.add (m * sz)))) (w' := w) ?_ ⟨Grow.refl w, _, rfl, by rw [block_of_add]; omega, fun j u hu => ?_⟩
  · simp [execOp, h1, hi', Instr.indexAt, asIntOf, run_underlying ht, sizeOf, typeInfo, hinfo, hsize, hm]
  · rw [List.getElem?_take] at hu
    split at hu
    · rw [List.getElem?_drop] at hu
      obtain ⟨ad', hA', _, h4⟩ := hrow (m * sz + j) u hu
      injection hA' with hA'; subst hA'
      rw [add_of_add]; exact h4
    · cases hu
theorem ok_lenRD {t e : TypeId} {x : Operand} {f : D} {k : Nat} {xs : List Value} (ht : P.underlying t = some (.slice e)) (hx : E.at x = some f) (hf : Le f (rowD k xs)) :
    OpOk P B ⟨dst, .call { callee := .builtin .len, args := #[x], argTypes := #[t] }, ty, pos, after, guard⟩ E (.v (.int .i64 (k : Int))) := fun ρ w _ _ hρ => by
  obtain ⟨A, q, h1, _⟩ := hf.of (hρ x (by simp [Op.operands, Call.operands]) _ hx)
  exact out_val (w' := w) (by simp [execOp, resolve, invoke, builtin, Builtin.len_, run_underlying ht, h1, goInt]) ⟨Grow.refl w, rfl⟩
end
/-! ### A new ledger in a new variable, in a drawn region -/
theorem Surv.newD {B T g base : Nat} {e : TypeId} {val : Nat → Value} {xs : List Value} (h : e ≠ T) : Surv B T g (Go.Proofs.Ythhmimnkfklhdaa.newD base e val xs) := fun w w' x k ⟨b, h1, h2, h3, h4⟩ => by
  refine ⟨b, h1, h2, Nat.lt_of_lt_of_le h3 k.size, ?_⟩
  by_cases hb : b = g
  · subst hb; exact absurd (k.row _ _ _ h4) h
  · exact (k.other b h3 hb).trans h4
section
variable {P : Program} {n B : Nat} {ops : Array Oper} {E : Env} {dst : Option Tmp} {ty : TypeId} {pos : String} {after : Array Edge} {guard : Option (Nat × Bool)}
theorem ok_extractN {x : Operand} {i Bx : Nat} {e : TypeId} {f : Nat → List Value} {g : Nat → Value} {xs : List Value} (hx : E.at x = some (newD Bx e (fun b => .tuple (f b).toArray) xs)) (hi : ∀ b, (f b)[i]? = some (g b)) : OpOk P B ⟨dst, .extract x i, ty, pos, after, guard⟩ E (newD Bx e g xs) := fun ρ w _ _ hρ => by
  obtain ⟨b, h1, h2, h3, h4⟩ := hρ x (by simp [Op.operands]) _ hx
  exact out_val (x := g b) (w' := w) (by simp [execOp, h1, Instr.extract, hi b]) ⟨Grow.refl w, b, rfl, h2, h3, h4⟩
theorem ok_extractC {x : Operand} {i Bx : Nat} {e : TypeId} {f : Nat → List Value} {u : Value} {xs : List Value} (hx : E.at x = some (newD Bx e (fun b => .tuple (f b).toArray) xs)) (hi : ∀ b, (f b)[i]? = some u) : OpOk P B ⟨dst, .extract x i, ty, pos, after, guard⟩ E (.v u) := fun ρ w _ _ hρ => by
  obtain ⟨b, h1, h2, h3, h4⟩ := hρ x (by simp [Op.operands]) _ hx
  exact out_val (x := u) (w' := w) (by simp [execOp, h1, Instr.extract, hi b]) ⟨Grow.refl w, rfl⟩
/-- Such a variable without its name: its value is a new ledger. -/
def freshN (base : Nat) (L : List Nat) (T e : TypeId) (m : Nat) (xs : List Value) : D :=
  .p (fun B w x => ∃ b c, x = .pointer (some ⟨b, 0, none⟩) ∧ base ≤ b ∧ (∀ b' ∈ L, b' < b) ∧ b < B ∧ w.heap[b]? = some (.cells ([.slice (some ⟨c, 0, none⟩) m m] : List Value).toArray T (0, 0)) ∧ base ≤ c ∧ c < B ∧ w.heap[c]? = some (.cells xs.toArray e (0, 0)))
    (fun _ _ _ _ g ⟨b, c, h1, h2, h3, h4, h5, h6, h7, h8⟩ => ⟨b, c, h1, h2, h3, h4, (g.block b h4).trans h5, h6, h7, (g.block c h7).trans h8⟩) (fun _ _ _ _ g ⟨b, c, h1, h2, h3, h4, h5, h6, h7, h8⟩ => ⟨b, c, h1, h2, h3, by omega, h5, h6, by omega, h8⟩)
theorem eff_storeFM {T e : TypeId} {x : Operand} {d m Bx base : Nat} {L : List Nat} {zs xs : List Value} {E' : Env} (hsz : SizeIs P T 1) (hbase : B ≤ base) (hp : E.look d = some (freshV base L T zs)) (hx : E.at x = some (newD Bx e (fun b => aggV [.slice (some ⟨b, 0, none⟩) m m]) xs)) (ho : zs.length = 1) (hne : e ≠ T) (hBx : base ≤ Bx) (hl : ∀ b, base ≤ b → LeftS B T b E' E) :
    Eff P n B ops ⟨none, .store T (.tmp d) x, ty, pos, after, none⟩ E ((d, freshN base L T e m xs) :: E') := by
  intro κ a w K Q h hK
  obtain ⟨b, hp', hb, hL, hlt, hh⟩ := h.of d _ hp
  have hp2 : a.eval (.tmp d) = .pointer (some ⟨b, 0, none⟩) := hp'
  obtain ⟨c, hx', hc, hcl, hch⟩ := h.at_ x _ hx
  have hcb : c ≠ b := fun hcb => hne (by subst hcb; rw [hh] at hch; injection hch with hch; injection hch with _ h2 _; exact h2.symm)
  have hrun : (execOp a.eval ⟨none, .store T (.tmp d) x, ty, pos, after, none⟩).run P w = .ok .skip (w.setRow b ([.slice (some ⟨c, 0, none⟩) m m] : List Value).toArray) := by
    have := run_storeVar_row (P := P) w b T T zs.toArray ([.slice (some ⟨c, 0, none⟩) m m] : List Value).toArray hh (by simpa [SizeIs] using hsz) (by simpa using ho) (by simp [Value.oneCell'])
    simp [execOp, hp2, hx', Instr.storeAt, Instr.sureAddr, aggV] at this ⊢
    rw [this]
    rfl
  rw [if_pos (by simp [Region.wanted])]
  refine opR (by nofun) ?_
  unfold Oper.wp
  rw [hrun, Oper.upon_skip]
  have hwr := Wrote.setRow (Nat.le_trans hbase hb) hh ([.slice (some ⟨c, 0, none⟩) m m] : List Value).toArray
  exact hK _ _ (hwr.below h.base) (((hl b hb).st h hwr).push (d := freshN base L T e m xs) ⟨b, c, hp', hb, hL, by simpa using hlt, setRow_heap w b _ _ T _ hh, Nat.le_trans hBx hc, by simpa using hcl, (setRow_other w b c _ hcb).trans hch⟩)
theorem A.openFreshN {κ : Cx} {w₀ : World} {c : Code} {Q : Exit → Act → World → Prop} {t k k' B' m : Nat} {L : List Nat} {T e : TypeId} {xs : List Value} (ht : E.look t = some (freshN B' L T e m xs)) (h : ∀ b c', B' ≤ b → B' ≤ c' → (∀ b' ∈ L, b' < b) → A κ P w₀ n c ((t, .v (.pointer (some ⟨b, 0, none⟩))) :: (k, blk b T [.slice (some ⟨c', 0, none⟩) m m]) :: (k', blk c' e xs) :: E) Q) : A κ P w₀ n c E Q := fun a w g hs => by
  obtain ⟨b, c', h1, h2, h3, h4, h5, h6, h7, h8⟩ := hs.of t _ ht
  exact h b c' h2 h6 h3 a w g (((hs.push (t := k') (d := blk c' e xs) ⟨h7, h8⟩).push (t := k) (d := blk b T [.slice (some ⟨c', 0, none⟩) m m]) ⟨h4, h5⟩).push (d := .v _) h1)
theorem A.openFreshV {κ : Cx} {w₀ : World} {c : Code} {Q : Exit → Act → World → Prop} {t k B' : Nat} {L : List Nat} {T : TypeId} {xs : List Value} (ht : E.look t = some (freshV B' L T xs)) (h : ∀ b, B' ≤ b → (∀ b' ∈ L, b' < b) → A κ P w₀ n c ((t, .v (.pointer (some ⟨b, 0, none⟩))) :: (k, blk b T xs) :: E) Q) : A κ P w₀ n c E Q := fun a w g hs => by
  obtain ⟨b, h1, h2, h3, h4, h5⟩ := hs.of t _ ht
  exact h b h2 h3 a w g ((hs.push (t := k) (d := blk b T xs) ⟨h4, h5⟩).push (d := .v _) h1)
end
end Go.Proofs.Ythhmimnkfklhdaa
namespace Go.Proofs.Ythhmimnkfklhdaa
open Go Go.RowKit
set_option linter.unusedVariables false
set_option linter.unusedSimpArgs false
variable {κ : Cx}
theorem Fn.exact2 {P : Program} {f : FuncId} {x y r : Value} (hb : HasBody P f) (h : ∀ w, Calls P f #[x, y] w fun e w' => e = .returned r ∧ Grow w w') : Fn P f [.v x, .v y] (.v r) := by
  refine ⟨hb, fun vs w hl hv => ?_⟩
  obtain ⟨a, b, rfl⟩ : ∃ a b, vs = [a, b] := by
    rcases vs with _ | ⟨a, _ | ⟨b, _ | ⟨c, r⟩⟩⟩
    · cases hl
    · simp at hl
    · exact ⟨a, b, rfl⟩
    · simp at hl
  have ha : a = x := hv 0 _ _ rfl rfl
  have hb' : b = y := hv 1 _ _ rfl rfl
  subst ha; subst hb'
  exact (h w).mono fun e w' ⟨he, hg⟩ => ⟨r, he, hg, rfl⟩
def strV (l : List UInt8) : Value := .string ⟨l.toArray⟩
theorem str_size (l : List UInt8) : (⟨l.toArray⟩ : ByteArray).size = l.length := by
  show l.toArray.size = l.length
  simp
theorem str_list (l : List UInt8) : (⟨l.toArray⟩ : ByteArray).toList = l := by rw [ByteArray.toList_eq]
section
variable {P : Program} {B : Nat} {E : Env} {dst : Option Tmp} {ty : TypeId} {pos : String} {after : Array Edge} {guard : Option (Nat × Bool)}
theorem ok_lenT {t : TypeId} {x : Operand} {l : List UInt8} (ht : P.underlying t = some .string) (hx : E.at x = some (.v (strV l))) :
    OpOk P B ⟨dst, .call { callee := .builtin .len, args := #[x], argTypes := #[t] }, ty, pos, after, guard⟩ E (.v (.int .i64 (l.length : Int))) := fun ρ w _ _ hρ => by
  have h1 : ρ x = .string ⟨l.toArray⟩ := hρ x (by simp [Op.operands, Call.operands]) _ hx
  have hs : (⟨l.toArray⟩ : ByteArray).size = l.length := str_size l
  exact out_val (w' := w) (by simp [execOp, resolve, invoke, builtin, Builtin.len_, run_underlying ht, h1, goInt, hs]) ⟨Grow.refl w, rfl⟩
theorem ok_neqT0 {t t' : TypeId} {x y : Operand} {l : List UInt8} (hx : E.at x = some (.v (strV l))) (hy : E.at y = some (.v (.string ⟨#[]⟩))) :
    OpOk P B ⟨dst, .binOp .neq t x y t', ty, pos, after, guard⟩ E (.v (.bool (decide (l ≠ [])))) := by
  have hb : binV .neq (.string ⟨l.toArray⟩) (.string ⟨#[]⟩) = some (.bool (decide (l ≠ []))) := by
    show some (Value.bool (!((⟨l.toArray⟩ : ByteArray).toList == (⟨([] : List UInt8).toArray⟩ : ByteArray).toList))) = _
    rw [str_list, str_list]
    cases l <;> rfl
  exact ok_bin hx hy hb
theorem extract_take (l : List UInt8) (a b : Nat) : (⟨l.toArray⟩ : ByteArray).extract a b = ⟨((l.take b).drop a).toArray⟩ := by
  rw [ByteArray.extract_mk, List.drop_take]
theorem ok_sliceTo {t : TypeId} {x o : Operand} {l : List UInt8} {kd : IntKind} (h : Nat) (ht : P.underlying t = some .string) (hx : E.at x = some (.v (strV l))) (ho : E.at o = some (.v (.int kd (h : Int)))) (hh : h ≤ l.length) :
    OpOk P B ⟨dst, .slice t x none (some o) none, ty, pos, after, guard⟩ E (.v (strV (l.take h))) := fun ρ w _ _ hρ => by
  have h1 : ρ x = .string ⟨l.toArray⟩ := hρ x (by simp [Op.operands]) _ hx
  have h2 : ρ o = .int kd (h : Int) := hρ o (by simp [Op.operands]) _ ho
  have hs : (⟨l.toArray⟩ : ByteArray).size = l.length := str_size l
  refine out_val (x := strV (l.take h)) (w' := w) ?_ ⟨Grow.refl w, rfl⟩
  simp [execOp, h1, h2, Instr.sliceAt, Instr.slice, run_underlying ht, Instr.sliceBounds, Instr.sliceBound, asIntOf, hs, hh, extract_take, strV]
theorem ok_sliceFrom {t : TypeId} {x o : Operand} {l : List UInt8} {kd : IntKind} (h : Nat) (ht : P.underlying t = some .string) (hx : E.at x = some (.v (strV l))) (ho : E.at o = some (.v (.int kd (h : Int)))) (hh : h ≤ l.length) :
    OpOk P B ⟨dst, .slice t x (some o) none none, ty, pos, after, guard⟩ E (.v (strV (l.drop h))) := fun ρ w _ _ hρ => by
  have h1 : ρ x = .string ⟨l.toArray⟩ := hρ x (by simp [Op.operands]) _ hx
  have h2 : ρ o = .int kd (h : Int) := hρ o (by simp [Op.operands]) _ ho
  have hs : (⟨l.toArray⟩ : ByteArray).size = l.length := str_size l
  refine out_val (x := strV (l.drop h)) (w' := w) ?_ ⟨Grow.refl w, rfl⟩
  simp [execOp, h1, h2, Instr.sliceAt, Instr.slice, run_underlying ht, Instr.sliceBounds, Instr.sliceBound, asIntOf, hs, hh, extract_take, strV]
theorem ok_make0K {t e : TypeId} {x y : Operand} {z : Value} {nb sz : Nat} {k k' : IntKind} (c : Nat) (ht : P.underlying t = some (.slice e)) (hinfo : InfoP P e z sz nb) (hnb : nb ≤ 64)
    (hx : E.at x = some (.v (.int k 0))) (hy : E.at y = some (.v (.int k' (c : Int)))) (hc : c ≤ 4398046511104) :
    OpOk P B ⟨dst, .makeSlice t x y, ty, pos, after, guard⟩ E (newD B e (fun b => .slice (some ⟨b, 0, none⟩) 0 c) (madeCells z.cells (c * sz)).toList) := fun ρ w hB _ hρ => by
  obtain ⟨i, hi, hz, hs, hb⟩ := hinfo.get
  have h1 : ρ x = _ := hρ x (by simp [Op.operands]) _ hx
  have h2 : ρ y = _ := hρ y (by simp [Op.operands]) _ hy
  have hbc : i.bytes * c ≤ 64 * c := Nat.mul_le_mul_right c (by omega)
  have hr := run_make (P := P) w t e i z ht hi hz k k' 0 (c : Int) (by omega) (by omega) (by rw [← Int.natCast_mul]; omega) (by omega)
  refine out_val (x := .slice (some ⟨w.heap.size, 0, none⟩) 0 c) (w' := w.alloc (.cells (madeCells z.cells (c * i.size)) e)) ?_ ⟨Grow.alloc w _, w.heap.size, rfl, hB, by simp, ?_⟩
  · simp only [execOp, h1, h2, Sem.run_bind, hr, Result.andThen_ok, Sem.run_pure, Int.toNat_natCast]; rfl
  · rw [← hs]; exact heap_alloc_new w _
end
section
variable {P : Program} {n B : Nat} {ops : Array Oper} {E : Env} {ty : TypeId} {pos : String} {after : Array Edge}
theorem eff_appendRoom {t e : TypeId} {z : Value} {nb sz : Nat} {r x : Operand} {b k c s dst : Nat} {e' : TypeId} {xs us : List Value} {E' : Env} (ht : P.underlying t = some (.slice e)) (hinfo : InfoP P e z sz nb)
    (hr : E.at r = some (.v (.slice (some ⟨b, 0, none⟩) k c))) (hx : E.at x = some (oneP us)) (hu : us.length = sz) (h1 : us.all (·.oneCell') = true) (hkc : k < c) (hb : B ≤ b) (hblk : E.look s = some (blk b e' xs)) (hfit : c * sz ≤ xs.length) (hnt : ∀ q, P.underlying t ≠ some (.int q)) (hdst : dst < n) (hl : LeftS B e' b E' E) :
    Eff P n B ops ⟨some dst, .call { callee := .builtin .append, args := #[r, x], argTypes := #[t, t] }, ty, pos, after, none⟩ E ((dst, .v (.slice (some ⟨b, 0, none⟩) (k + 1) c)) :: (s, blk b e' (xs.take (k * sz) ++ us ++ xs.drop (k * sz + sz))) :: E') := by
  subst hu
  obtain ⟨i, hi, _, hs, _⟩ := hinfo.get
  intro κ a w K Q h hK
  have hre : a.eval r = _ := h.at_ r _ hr
  obtain ⟨ad, hxe, _, hcell⟩ := h.at_ x _ hx
  obtain ⟨hlt, hh⟩ := h.of s _ hblk
  have hload := run_loadCells_list (P := P) w ad us hcell
  have hkf : k * us.length + us.length ≤ c * us.length := by
    have : (k + 1) * us.length ≤ c * us.length := Nat.mul_le_mul_right _ hkc
    rwa [Nat.add_mul, Nat.one_mul] at this
  have hst := run_storeCells_at P b (k * us.length) e' us 0 xs.toArray w hh (by simp; omega) (fun v hv => List.all_eq_true.1 h1 v hv)
  have haddr : (⟨b, 0, none⟩ : Addr).add (k * us.length) = ⟨b, k * us.length, none⟩ := by unfold Addr.add; split <;> simp_all
  have hrun : (Builtin.append_ #[t, t] ty #[a.eval r, a.eval x]).run P w = .ok (.slice (some ⟨b, 0, none⟩) (k + 1) c) (w.setRow b (xs.take (k * us.length) ++ us ++ xs.drop (k * us.length + us.length)).toArray) := by
    rw [hre, hxe]
    simp only [Nat.add_zero] at hst
    simp [Builtin.append_, run_underlying ht, Builtin.lenOf, Builtin.firstCells, sizeOf, typeInfo, hi, hs, haddr, hload]
    rw [if_pos (by omega)]
    simp [hst]
  have hexec : (execOp a.eval ⟨some dst, .call { callee := .builtin .append, args := #[r, x], argTypes := #[t, t] }, ty, pos, after, none⟩).run P w = .ok (.value (.slice (some ⟨b, 0, none⟩) (k + 1) c)) (w.setRow b (xs.take (k * us.length) ++ us ++ xs.drop (k * us.length + us.length)).toArray) := by
    simp [execOp, resolve, invoke, builtin, hrun]
  have hwr : Wrote B e' b w (w.setRow b (xs.take (k * us.length) ++ us ++ xs.drop (k * us.length + us.length)).toArray) := Wrote.setRow hb hh _
  rw [if_pos (by simp [Region.wanted])]
  refine opR (by nofun) ?_
  unfold Oper.wp
  rw [hexec, Oper.upon_value]
  exact hK _ _ (hwr.below h.base) (St.put ((hl.st h hwr).push (d := blk b e' (xs.take (k * us.length) ++ us ++ xs.drop (k * us.length + us.length))) ⟨by simpa [World.setRow] using hlt, by simp [World.setRow, Array.getElem?_modify, hh]⟩) hdst rfl)
end
section
variable {P : Program} {n : Nat} {w₀ : World} {E : Env}
theorem End.ret3V {fn : Func} {r s t : Nat} {u v x : Value} (hr : fn.results = #[.tmp r, .tmp s, .tmp t]) (h1 : E.look r = some (.v u)) (h2 : E.look s = some (.v v)) (h5 : E.look t = some (.v x)) : End Cx.top w₀ n E (BP P fn (PostOf w₀ (.v (.tuple #[u, v, x]))) .ret) := fun a w gr hs => by
  have h3 : a.tmps[r]?.getD undef = u := by rw [← Array.getD_eq_getD_getElem?]; exact hs.of r _ h1
  have h4 : a.tmps[s]?.getD undef = v := by rw [← Array.getD_eq_getD_getElem?]; exact hs.of s _ h2
  have h6 : a.tmps[t]?.getD undef = x := by rw [← Array.getD_eq_getD_getElem?]; exact hs.of t _ h5
  exact BP.ret hs.defers ⟨.tuple #[u, v, x], by simp [results, hr, h3, h4, h6], _, rfl, gr, rfl⟩
theorem End.cellVV {fn : Func} {r s b r' r'' : Nat} {T e' : TypeId} {td : TypeDesc} {ys : List Value} {v' v'' : Value} (hr : fn.results = #[.cell r T, .tmp r', .tmp r'']) (ht : P.underlying T = some td) (hp : (match td with | .struct _ | .array _ _ => true | _ => false) = true) (hsz : SizeIs P T ys.length)
    (h1 : E.look r = some (.v (.pointer (some ⟨b, 0, none⟩)))) (h2 : E.look s = some (blk b e' ys)) (h5 : E.look r' = some (.v v')) (h7 : E.look r'' = some (.v v'')) : End Cx.top w₀ n E (BP P fn (PostOf w₀ (.v (.tuple #[aggV ys, v', v'']))) .ret) := fun a w gr hs => by
  have h3 : a.tmps[r]?.getD undef = .pointer (some ⟨b, 0, none⟩) := by rw [← Array.getD_eq_getD_getElem?]; exact hs.of r _ h1
  have h6 : a.tmps[r']?.getD undef = v' := by rw [← Array.getD_eq_getD_getElem?]; exact hs.of r' _ h5
  have h8 : a.tmps[r'']?.getD undef = v'' := by rw [← Array.getD_eq_getD_getElem?]; exact hs.of r'' _ h7
  obtain ⟨_, hh⟩ := hs.of s _ h2
  exact BP.ret hs.defers ⟨.tuple #[aggV ys, v', v''], by simp [results, hr, h3, h6, h8, asAddr, load_cell ht hp hsz hh], _, rfl, gr, rfl⟩
theorem End.newVV {fn : Func} {r s b g kg r' r'' : Nat} {T e' e : TypeId} {td : TypeDesc} {ys zs xs : List Value} {v' v'' : Value} {val : Nat → Value} (hr : fn.results = #[.cell r T, .tmp r', .tmp r'']) (ht : P.underlying T = some td) (hp : (match td with | .struct _ | .array _ _ => true | _ => false) = true) (hsz : SizeIs P T ys.length)
    (h1 : E.look r = some (.v (.pointer (some ⟨b, 0, none⟩)))) (h2 : E.look s = some (blk b e' ys)) (h5 : E.look r' = some (.v v')) (h7 : E.look r'' = some (.v v'')) (h4 : E.look kg = some (blk g e zs)) (hg : w₀.heap.size ≤ g) (hv : val g = .tuple #[aggV ys, v', v'']) (hz : zs = xs) :
    End Cx.top w₀ n E (BP P fn (PostOf w₀ (newD w₀.heap.size e val xs)) .ret) := fun a w gr hs => by
  subst hz
  have h3 : a.tmps[r]?.getD undef = .pointer (some ⟨b, 0, none⟩) := by rw [← Array.getD_eq_getD_getElem?]; exact hs.of r _ h1
  have h6 : a.tmps[r']?.getD undef = v' := by rw [← Array.getD_eq_getD_getElem?]; exact hs.of r' _ h5
  have h8 : a.tmps[r'']?.getD undef = v'' := by rw [← Array.getD_eq_getD_getElem?]; exact hs.of r'' _ h7
  obtain ⟨_, hh⟩ := hs.of s _ h2
  obtain ⟨hl', hh'⟩ := hs.of kg _ h4
  exact BP.ret hs.defers ⟨.tuple #[aggV ys, v', v''], by simp [results, hr, h3, h6, h8, asAddr, load_cell ht hp hsz hh], _, rfl, gr, g, hv.symm, hg, hl', hh'⟩
end
end Go.Proofs.Ythhmimnkfklhdaa
