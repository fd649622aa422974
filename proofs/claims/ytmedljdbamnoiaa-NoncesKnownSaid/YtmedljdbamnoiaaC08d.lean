/-
 The laws of caissonlaw08, part two: the examples, the bytes of nonces.
-/
import Derived.Test.YtmedljdbamnoiaaShort
import Derived.Test.YtmedljdbamnoiaaC08c
namespace Go.Proofs.Ytmedljdbamnoiaa
open Go Go.RowKit
set_option linter.unusedVariables false
set_option maxRecDepth 100000
theorem flat25 : flat Try.prog 3 25 = some [.u32, .u64] := flatN

set_option maxHeartbeats 4000000 in
theorem lives8_fn  : Fn Try.prog 8 [] (.v (.bool true)) := by
 refine Fn.of Try.func8 rfl (by kernel_rfl) Try.ntmps8 (by simp) (fun w => []) (fun w => Start.nil) fun w₀ => ?_
 refine GS ?_
 refine TL ?_
 refine RA rfl ?_
 refine RN ?_
 refine GS ?_
 refine TN 0 ?_
 refine RN ?_
 refine ⟨_, _, eff_name (n := 172) (d := 31) (k := 1000031) rfl rfl (fun B' => ok_callB (New_C 2 10 4 (by decide) (by decide) (by unfold Valid; decide)) newD_mono (A3 rfl rfl rfl)) (by decide) (by decide), fun b31 hb31 => ?_⟩
 have hBb31 := hb31.1
 refine TN 4 ?_
 refine RM rfl ?_
 refine RS (ok_extractV rfl rfl) ?_
 refine RS (ok_extractV rfl rfl) ?_
 refine RN ?_
 refine ⟨_, _, eff_alloc (n := 172) (d := 1) (k := 1000001) zero36 (by decide), fun b1 hb1 => ?_⟩
 have hBb1 := hb1.1
 refine TF 5 ?_
 refine RN ?_
 refine ⟨_, eff_storeA (n := 172) (s := 1000001) (size36.of (rfl)) rfl rfl (rfl) hBb1 rfl (rfl) (LV 1 rfl (LV 33 rfl (LT 1000031 rfl LN))), ?_⟩
 refine TL ?_
 refine RA rfl ?_
 refine RN ?_
 refine GS ?_
 refine TN 1 ?_
 refine RS (OpOk.fact (ok_loadA (s := 1000001) (by decide) Try.underlying36 rfl (size36.of (rfl)) rfl rfl) (d := hdD (vlst (rowQ (List.replicate 2 0))) (alR 0 10 4)) (s := 1000031) (by decide) rfl (hd_ofL (rowQ (List.replicate 2 0)) (alR 0 10 4) (by simp [rowQ]) (Nat.le_refl _) (by decide) (by simp [rowQ]))) ?_
 refine RN ?_
 refine ⟨_, _, eff_name (n := 172) (d := 36) (k := 1000036) rfl rfl (fun B' => ok_callB (Extend_ok (List.replicate 2 0) 0 10 4 (by unfold Valid; decide) (by decide) (by decide)) newD_mono (A1 rfl)) (by decide) (by decide), fun b36 hb36 => ?_⟩
 have hBb36 := hb36.1
 have hlt_b1_b36 : b1 < b36 := hb36.2 1000001 _ _ _ rfl
 have hlt_b31_b36 : b31 < b36 := hb36.2 1000031 _ _ _ rfl
 refine TN 5 ?_
 refine RM rfl ?_
 refine RS (ok_extractV rfl rfl) ?_
 refine RS (ok_extractV rfl rfl) ?_
 refine RN ?_
 refine ⟨_, _, eff_alloc (n := 172) (d := 3) (k := 1000003) zero36 (by decide), fun b3 hb3 => ?_⟩
 have hBb3 := hb3.1
 have hlt_b1_b3 : b1 < b3 := hb3.2 1000001 _ _ _ rfl
 refine TF 6 ?_
 refine RN ?_
 refine ⟨_, eff_storeA (n := 172) (s := 1000003) (size36.of (rfl)) rfl rfl (rfl) hBb3 rfl (rfl) (LV 1 rfl (LV 2 rfl (LV 3 rfl (LV 38 rfl (LB 1000001 rfl (LT 1000031 rfl (LT 1000036 rfl LN))))))), ?_⟩
 refine TL ?_
 refine RA rfl ?_
 refine RN ?_
 refine A.seq ?_
 refine GS ?_
 refine TL ?_
 refine RS (ok_litS [(0, nW 1), (1, nQ 258)] [nW 1, nQ 258] ⟨rfl, rfl, rfl, rfl, trivial⟩ (buildN 1 258)) ?_
 refine RS (ok_call (Put_fn 1 258 (by decide) (by decide)) (A1 rfl)) ?_
 refine RS (ok_str Try.underlying26 Try.underlying5 Try.underlying9 rfl LA) ?_
 refine RBS rfl rfl rfl (.bool false) (by kernel_rfl) ?_
 refine RM rfl ?_
 refine RQ (ok_move rfl) ?_
 refine RQ (ok_bin rfl rfl rfl) ?_; refine RZ (.bool false) (by kernel_rfl) ?_
 refine RP rfl rfl ?_
 refine RM rfl ?_
 refine RQ (ok_move rfl) ?_
 refine RQ (ok_bin rfl rfl rfl) ?_; refine RZ (.bool false) (by kernel_rfl) ?_
 refine RP rfl rfl ?_
 refine RN ?_
 refine A.sub (KC 1 rfl (KC 3 rfl (KC 50 rfl (KC 1000001 rfl (KC 1000003 rfl (KC 1000031 rfl (KC 1000036 rfl KN))))))) ?_
 refine A.no rfl ?_
 refine A.skip ?_
 refine EN ?_
 refine GS ?_
 refine TN 6 ?_
 refine RS (OpOk.fact (ok_loadA (s := 1000001) (by decide) Try.underlying36 rfl (size36.of (rfl)) rfl rfl) (d := hdD (vlst (rowQ (List.replicate 2 0))) (alR 0 10 4)) (s := 1000031) (by decide) rfl (hd_ofL (rowQ (List.replicate 2 0)) (alR 0 10 4) (by simp [rowQ]) (Nat.le_refl _) (by decide) (by simp [rowQ]))) ?_
 refine RS (ok_call (Take_state (List.replicate 2 0) 0 10 4 0 (by decide) (by unfold Valid; decide) (by decide)) (A2 rfl rfl)) ?_
 refine RM rfl ?_
 refine RS (ok_extractV rfl rfl) ?_
 refine RS (ok_extractV rfl rfl) ?_
 refine RS (ok_extractV rfl rfl) ?_
 refine RN ?_
 refine ⟨_, _, eff_alloc (n := 172) (d := 5) (k := 1000005) zero25 (by decide), fun b5 hb5 => ?_⟩
 have hBb5 := hb5.1
 refine TN 7 ?_
 refine RN ?_
 refine ⟨_, _, eff_alloc (n := 172) (d := 6) (k := 1000006) zero36 (by decide), fun b6 hb6 => ?_⟩
 have hBb6 := hb6.1
 have hlt_b1_b6 : b1 < b6 := hb6.2 1000001 _ _ _ rfl
 have hlt_b3_b6 : b3 < b6 := hb6.2 1000003 _ _ _ rfl
 refine TF 8 ?_
 refine RN ?_
 refine ⟨_, eff_storeA (n := 172) (s := 1000005) (size25.of (rfl)) rfl rfl (rfl) hBb5 rfl (rfl) (LV 1 rfl (LV 3 rfl (LV 6 rfl (LV 55 rfl (LV 56 rfl (LT 1000001 rfl (LT 1000003 rfl (LT 1000006 rfl (LT 1000031 rfl (LT 1000036 rfl LN)))))))))), ?_⟩
 refine TF 9 ?_
 refine RN ?_
 refine ⟨_, eff_storeA (n := 172) (s := 1000006) (size36.of (rfl)) rfl rfl (rfl) hBb6 rfl (rfl) (LV 1 rfl (LV 3 rfl (LV 56 rfl (LB 1000001 rfl (LB 1000003 rfl (LT 1000005 rfl (LT 1000031 rfl (LT 1000036 rfl LN)))))))), ?_⟩
 refine TL ?_
 refine RA rfl ?_
 refine RN ?_
 refine GS ?_
 refine TN 6 ?_
 refine RS (OpOk.fact (ok_loadA (s := 1000001) (by decide) Try.underlying36 rfl (size36.of (rfl)) rfl rfl) (d := hdD (vlst (rowQ (List.replicate 2 0))) (alR 0 10 4)) (s := 1000031) (by decide) rfl (hd_ofL (rowQ (List.replicate 2 0)) (alR 0 10 4) (by simp [rowQ]) (Nat.le_refl _) (by decide) (by simp [rowQ]))) ?_
 refine RS (ok_call (Take_no (List.replicate 2 0) 0 10 4 2 (fun h => absurd h.2.1 (by decide))) (A2 rfl rfl)) ?_
 refine RM rfl ?_
 refine RS (ok_extractV rfl rfl) ?_
 refine RS (ok_extractV rfl rfl) ?_
 refine RS (ok_extractV rfl rfl) ?_
 refine RN ?_
 refine ⟨_, _, eff_alloc (n := 172) (d := 8) (k := 1000008) zero25 (by decide), fun b8 hb8 => ?_⟩
 have hBb8 := hb8.1
 have hlt_b5_b8 : b5 < b8 := hb8.2 1000005 _ _ _ rfl
 refine TN 7 ?_
 refine RN ?_
 refine ⟨_, _, eff_alloc (n := 172) (d := 9) (k := 1000009) zero36 (by decide), fun b9 hb9 => ?_⟩
 have hBb9 := hb9.1
 have hlt_b1_b9 : b1 < b9 := hb9.2 1000001 _ _ _ rfl
 have hlt_b3_b9 : b3 < b9 := hb9.2 1000003 _ _ _ rfl
 have hlt_b6_b9 : b6 < b9 := hb9.2 1000006 _ _ _ rfl
 refine TF 8 ?_
 refine RN ?_
 refine ⟨_, eff_storeA (n := 172) (s := 1000008) (size25.of (rfl)) rfl rfl (rfl) hBb8 rfl (rfl) (LV 1 rfl (LV 3 rfl (LV 7 rfl (LV 9 rfl (LV 61 rfl (LV 62 rfl (LT 1000001 rfl (LT 1000003 rfl (LB 1000005 rfl (LT 1000006 rfl (LT 1000009 rfl (LT 1000031 rfl (LT 1000036 rfl LN))))))))))))), ?_⟩
 refine TF 9 ?_
 refine RN ?_
 refine ⟨_, eff_storeA (n := 172) (s := 1000009) (size36.of (rfl)) rfl rfl (rfl) hBb9 rfl (rfl) (LV 1 rfl (LV 3 rfl (LV 7 rfl (LV 62 rfl (LB 1000001 rfl (LB 1000003 rfl (LT 1000005 rfl (LB 1000006 rfl (LT 1000008 rfl (LT 1000031 rfl (LT 1000036 rfl LN))))))))))), ?_⟩
 refine TL ?_
 refine RA rfl ?_
 refine RN ?_
 refine GS ?_
 refine TL ?_
 refine RS (OpOk.fact (ok_loadA (s := 1000001) (by decide) Try.underlying36 rfl (size36.of (rfl)) rfl rfl) (d := hdD (vlst (rowQ (List.replicate 2 0))) (alR 0 10 4)) (s := 1000031) (by decide) rfl (hd_ofL (rowQ (List.replicate 2 0)) (alR 0 10 4) (by simp [rowQ]) (Nat.le_refl _) (by decide) (by simp [rowQ]))) ?_
 refine RS (ok_call (Left_ok (List.replicate 2 0) 0 10 4 0 (by decide) (by unfold Valid; decide) (by decide)) (A2 rfl rfl)) ?_
 refine RM rfl ?_
 refine RS (ok_extractV rfl rfl) ?_
 refine RS (ok_extractV rfl rfl) ?_
 refine RA rfl ?_
 refine RA rfl ?_
 refine RN ?_
 refine A.sub (KC 3 rfl (KC 7 rfl (KC 10 rfl (KC 11 rfl (KC 12 rfl (KC 1000001 rfl (KC 1000003 rfl (KC 1000005 rfl (KC 1000006 rfl (KC 1000008 rfl (KC 1000009 rfl (KC 1000031 rfl (KC 1000036 rfl KN))))))))))))) ?_
 refine GS ?_
 refine TN 1 ?_
 refine RS (OpOk.fact (ok_loadA (s := 1000003) (by decide) Try.underlying36 rfl (size36.of (rfl)) rfl rfl) (d := hdD (vlst (rowQ (List.replicate 2 0))) (alR 4 10 4)) (s := 1000036) (by decide) rfl (hd_ofL (rowQ (List.replicate 2 0)) (alR 4 10 4) (by simp [rowQ]) (Nat.le_refl _) (by decide) (by simp [rowQ]))) ?_
 refine RN ?_
 refine ⟨_, _, eff_name (n := 172) (d := 70) (k := 1000070) rfl rfl (fun B' => ok_callB (Take_ok (List.replicate 2 0) 4 10 4 1 (by decide) (by unfold Valid; decide) (by decide) (by decide)) newD_mono (A2 rfl rfl)) (by decide) (by decide), fun b70 hb70 => ?_⟩
 have hBb70 := hb70.1
 have hlt_b1_b70 : b1 < b70 := hb70.2 1000001 _ _ _ rfl
 have hlt_b3_b70 : b3 < b70 := hb70.2 1000003 _ _ _ rfl
 have hlt_b5_b70 : b5 < b70 := hb70.2 1000005 _ _ _ rfl
 have hlt_b6_b70 : b6 < b70 := hb70.2 1000006 _ _ _ rfl
 have hlt_b8_b70 : b8 < b70 := hb70.2 1000008 _ _ _ rfl
 have hlt_b9_b70 : b9 < b70 := hb70.2 1000009 _ _ _ rfl
 have hlt_b31_b70 : b31 < b70 := hb70.2 1000031 _ _ _ rfl
 have hlt_b36_b70 : b36 < b70 := hb70.2 1000036 _ _ _ rfl
 refine TN 6 ?_
 refine RM rfl ?_
 refine RS (ok_extractV rfl rfl) ?_
 refine RS (ok_extractV rfl rfl) ?_
 refine RS (ok_extractV rfl rfl) ?_
 refine RN ?_
 refine ⟨_, _, eff_alloc (n := 172) (d := 13) (k := 1000013) zero25 (by decide), fun b13 hb13 => ?_⟩
 have hBb13 := hb13.1
 have hlt_b5_b13 : b5 < b13 := hb13.2 1000005 _ _ _ rfl
 have hlt_b8_b13 : b8 < b13 := hb13.2 1000008 _ _ _ rfl
 refine TN 7 ?_
 refine RN ?_
 refine ⟨_, _, eff_alloc (n := 172) (d := 14) (k := 1000014) zero36 (by decide), fun b14 hb14 => ?_⟩
 have hBb14 := hb14.1
 have hlt_b1_b14 : b1 < b14 := hb14.2 1000001 _ _ _ rfl
 have hlt_b3_b14 : b3 < b14 := hb14.2 1000003 _ _ _ rfl
 have hlt_b6_b14 : b6 < b14 := hb14.2 1000006 _ _ _ rfl
 have hlt_b9_b14 : b9 < b14 := hb14.2 1000009 _ _ _ rfl
 refine TF 8 ?_
 refine RN ?_
 refine ⟨_, eff_storeA (n := 172) (s := 1000013) (size25.of (rfl)) rfl rfl (rfl) hBb13 rfl (rfl) (LV 3 rfl (LV 7 rfl (LV 10 rfl (LV 11 rfl (LV 12 rfl (LV 13 rfl (LV 14 rfl (LV 72 rfl (LV 73 rfl (LT 1000001 rfl (LT 1000003 rfl (LB 1000005 rfl (LT 1000006 rfl (LB 1000008 rfl (LT 1000009 rfl (LT 1000014 rfl (LT 1000031 rfl (LT 1000036 rfl (LT 1000070 rfl LN))))))))))))))))))), ?_⟩
 refine TF 9 ?_
 refine RN ?_
 refine ⟨_, eff_storeA (n := 172) (s := 1000014) (size36.of (rfl)) rfl rfl (rfl) hBb14 rfl (rfl) (LV 3 rfl (LV 7 rfl (LV 10 rfl (LV 11 rfl (LV 12 rfl (LV 13 rfl (LV 14 rfl (LV 73 rfl (LB 1000001 rfl (LB 1000003 rfl (LT 1000005 rfl (LB 1000006 rfl (LT 1000008 rfl (LB 1000009 rfl (LT 1000013 rfl (LT 1000031 rfl (LT 1000036 rfl (LT 1000070 rfl LN)))))))))))))))))), ?_⟩
 refine TL ?_
 refine RA rfl ?_
 refine RN ?_
 refine A.seq ?_
 refine GS ?_
 refine TL ?_
 refine RM rfl ?_
 refine RBS rfl rfl rfl (.bool false) (by kernel_rfl) ?_
 refine RM rfl ?_
 refine RQ (ok_move rfl) ?_
 refine RQ (ok_bin rfl rfl rfl) ?_; refine RZ (.bool false) (by kernel_rfl) ?_
 refine RP rfl rfl ?_
 refine RM rfl ?_
 refine RQ (ok_move rfl) ?_
 refine RQ (ok_bin rfl rfl rfl) ?_; refine RZ (.bool false) (by kernel_rfl) ?_
 refine RP rfl rfl ?_
 refine RM rfl ?_
 refine RQ (ok_move rfl) ?_
 refine RQ (ok_bin rfl rfl rfl) ?_; refine RZ (.bool false) (by kernel_rfl) ?_
 refine RP rfl rfl ?_
 refine RM rfl ?_
 refine RQ (ok_loadA (s := 1000013) (by decide) Try.underlying25 rfl (size25.of (rfl)) rfl rfl) ?_
 refine RQ (ok_litS [(0, nW 1)] [nW 1, nQ 0] ⟨rfl, rfl, trivial⟩ (buildN0 1)) ?_
 refine RQ (ok_neqT (n := 3) true flatN (by decide) (by kernel_rfl) (by kernel_rfl) rfl rfl (kinN _ _) (kinN _ _) ⟨fun _ => by rfl, fun _ => rfl⟩) ?_; refine RZ (.bool false) (by kernel_rfl) ?_
 refine RP rfl rfl ?_
 refine RM rfl ?_
 refine RQ (ok_move rfl) ?_
 refine RQ (ok_bin rfl rfl rfl) ?_; refine RZ (.bool false) (by kernel_rfl) ?_
 refine RP rfl rfl ?_
 refine RM rfl ?_
 refine RQ (OpOk.fact (ok_loadA (s := 1000014) (by decide) Try.underlying36 rfl (size36.of (rfl)) rfl rfl) (d := hdD (vlist (rowQ [0, 1]) 2) (alR 4 10 4)) (s := 1000070) (by decide) rfl (hd_of (rowQ [0, 1]) (alR 4 10 4) rfl (Nat.le_refl _) (by decide) (by kernel_rfl))) ?_
 refine RQ (ok_buildF [qV 0, qV 1] Try.underlying34 info23 rfl (by decide) (by decide) rfl ⟨rfl, rfl, rfl, rfl, trivial⟩ rfl) ?_
 refine RQ (ok_buildS [(1, qV 4), (2, qV 10), (3, qV 4)] rfl rfl fresh_slice ⟨rfl, rfl, rfl, rfl, rfl, rfl, trivial⟩ (rest := alR 4 10 4) (fun B' n c => buildA B' n c 4 10 4)) ?_
 refine RQ (ok_call (same8_fn [0, 1] 4 10 4 (by decide)) (Args.cons rfl (Le.refl _) (Args.cons rfl (hd_le ((fresh_vlist (xs := rowQ [0, 1]) rfl (by decide)).trans (le_vlst _ _))) Args.nil))) ?_
 refine RQ (ok_not rfl) ?_; refine RZ (.bool false) (by kernel_rfl) ?_
 refine RP rfl rfl ?_
 refine RN ?_
 refine A.sub (KC 3 rfl (KC 103 rfl (KC 1000001 rfl (KC 1000003 rfl (KC 1000005 rfl (KC 1000006 rfl (KC 1000008 rfl (KC 1000009 rfl (KC 1000013 rfl (KC 1000014 rfl (KC 1000031 rfl (KC 1000036 rfl (KC 1000070 rfl KN))))))))))))) ?_
 refine A.no rfl ?_
 refine A.skip ?_
 refine EN ?_
 refine GS ?_
 refine TN 1 ?_
 refine RS (OpOk.fact (ok_loadA (s := 1000003) (by decide) Try.underlying36 rfl (size36.of (rfl)) rfl rfl) (d := hdD (vlst (rowQ (List.replicate 2 0))) (alR 4 10 4)) (s := 1000036) (by decide) rfl (hd_ofL (rowQ (List.replicate 2 0)) (alR 4 10 4) (by simp [rowQ]) (Nat.le_refl _) (by decide) (by simp [rowQ]))) ?_
 refine RN ?_
 refine ⟨_, _, eff_name (n := 172) (d := 106) (k := 1000106) rfl rfl (fun B' => ok_callB (Extend_ok (List.replicate 2 0) 4 10 4 (by unfold Valid; decide) (by decide) (by decide)) newD_mono (A1 rfl)) (by decide) (by decide), fun b106 hb106 => ?_⟩
 have hBb106 := hb106.1
 have hlt_b1_b106 : b1 < b106 := hb106.2 1000001 _ _ _ rfl
 have hlt_b3_b106 : b3 < b106 := hb106.2 1000003 _ _ _ rfl
 have hlt_b5_b106 : b5 < b106 := hb106.2 1000005 _ _ _ rfl
 have hlt_b6_b106 : b6 < b106 := hb106.2 1000006 _ _ _ rfl
 have hlt_b8_b106 : b8 < b106 := hb106.2 1000008 _ _ _ rfl
 have hlt_b9_b106 : b9 < b106 := hb106.2 1000009 _ _ _ rfl
 have hlt_b13_b106 : b13 < b106 := hb106.2 1000013 _ _ _ rfl
 have hlt_b14_b106 : b14 < b106 := hb106.2 1000014 _ _ _ rfl
 have hlt_b31_b106 : b31 < b106 := hb106.2 1000031 _ _ _ rfl
 have hlt_b36_b106 : b36 < b106 := hb106.2 1000036 _ _ _ rfl
 have hlt_b70_b106 : b70 < b106 := hb106.2 1000070 _ _ _ rfl
 refine TN 5 ?_
 refine RM rfl ?_
 refine RS (ok_extractV rfl rfl) ?_
 refine RS (ok_extractV rfl rfl) ?_
 refine RN ?_
 refine ⟨_, _, eff_alloc (n := 172) (d := 16) (k := 1000016) zero36 (by decide), fun b16 hb16 => ?_⟩
 have hBb16 := hb16.1
 have hlt_b1_b16 : b1 < b16 := hb16.2 1000001 _ _ _ rfl
 have hlt_b3_b16 : b3 < b16 := hb16.2 1000003 _ _ _ rfl
 have hlt_b6_b16 : b6 < b16 := hb16.2 1000006 _ _ _ rfl
 have hlt_b9_b16 : b9 < b16 := hb16.2 1000009 _ _ _ rfl
 have hlt_b14_b16 : b14 < b16 := hb16.2 1000014 _ _ _ rfl
 refine TF 6 ?_
 refine RN ?_
 refine ⟨_, eff_storeA (n := 172) (s := 1000016) (size36.of (rfl)) rfl rfl (rfl) hBb16 rfl (rfl) (LV 3 rfl (LV 16 rfl (LV 108 rfl (LB 1000001 rfl (LB 1000003 rfl (LT 1000005 rfl (LB 1000006 rfl (LT 1000008 rfl (LB 1000009 rfl (LT 1000013 rfl (LB 1000014 rfl (LT 1000031 rfl (LT 1000036 rfl (LT 1000070 rfl (LT 1000106 rfl LN))))))))))))))), ?_⟩
 refine TL ?_
 refine RA rfl ?_
 refine RN ?_
 refine GS ?_
 refine TN 5 ?_
 refine RS (OpOk.fact (ok_loadA (s := 1000016) (by decide) Try.underlying36 rfl (size36.of (rfl)) rfl rfl) (d := hdD (vlst (rowQ (List.replicate 2 0))) (alR 8 10 4)) (s := 1000106) (by decide) rfl (hd_ofL (rowQ (List.replicate 2 0)) (alR 8 10 4) (by simp [rowQ]) (Nat.le_refl _) (by decide) (by simp [rowQ]))) ?_
 refine RS (ok_call (Extend_nonce (List.replicate 2 0) 8 10 4 (by unfold Valid; decide) (by decide) (by decide)) (A1 rfl)) ?_
 refine RM rfl ?_
 refine RS (ok_extractV rfl rfl) ?_
 refine RS (ok_extractV rfl rfl) ?_
 refine RN ?_
 refine ⟨_, _, eff_alloc (n := 172) (d := 18) (k := 1000018) zero36 (by decide), fun b18 hb18 => ?_⟩
 have hBb18 := hb18.1
 have hlt_b1_b18 : b1 < b18 := hb18.2 1000001 _ _ _ rfl
 have hlt_b3_b18 : b3 < b18 := hb18.2 1000003 _ _ _ rfl
 have hlt_b6_b18 : b6 < b18 := hb18.2 1000006 _ _ _ rfl
 have hlt_b9_b18 : b9 < b18 := hb18.2 1000009 _ _ _ rfl
 have hlt_b14_b18 : b14 < b18 := hb18.2 1000014 _ _ _ rfl
 have hlt_b16_b18 : b16 < b18 := hb18.2 1000016 _ _ _ rfl
 refine TF 6 ?_
 refine RN ?_
 refine ⟨_, eff_storeA (n := 172) (s := 1000018) (size36.of (rfl)) rfl rfl (rfl) hBb18 rfl (rfl) (LV 3 rfl (LV 16 rfl (LV 17 rfl (LV 113 rfl (LB 1000001 rfl (LB 1000003 rfl (LT 1000005 rfl (LB 1000006 rfl (LT 1000008 rfl (LB 1000009 rfl (LT 1000013 rfl (LB 1000014 rfl (LB 1000016 rfl (LT 1000031 rfl (LT 1000036 rfl (LT 1000070 rfl (LT 1000106 rfl LN))))))))))))))))), ?_⟩
 refine TL ?_
 refine RA rfl ?_
 refine RN ?_
 refine GS ?_
 refine TN 1 ?_
 refine RS (OpOk.fact (ok_loadA (s := 1000003) (by decide) Try.underlying36 rfl (size36.of (rfl)) rfl rfl) (d := hdD (vlst (rowQ (List.replicate 2 0))) (alR 4 10 4)) (s := 1000036) (by decide) rfl (hd_ofL (rowQ (List.replicate 2 0)) (alR 4 10 4) (by simp [rowQ]) (Nat.le_refl _) (by decide) (by simp [rowQ]))) ?_
 refine RN ?_
 refine ⟨_, _, eff_name (n := 172) (d := 116) (k := 1000116) rfl rfl (fun B' => ok_callB (Crash_ok (List.replicate 2 0) 4 10 4 (by unfold Valid; decide)) newD_mono (A1 rfl)) (by decide) (by decide), fun b116 hb116 => ?_⟩
 have hBb116 := hb116.1
 have hlt_b1_b116 : b1 < b116 := hb116.2 1000001 _ _ _ rfl
 have hlt_b3_b116 : b3 < b116 := hb116.2 1000003 _ _ _ rfl
 have hlt_b5_b116 : b5 < b116 := hb116.2 1000005 _ _ _ rfl
 have hlt_b6_b116 : b6 < b116 := hb116.2 1000006 _ _ _ rfl
 have hlt_b8_b116 : b8 < b116 := hb116.2 1000008 _ _ _ rfl
 have hlt_b9_b116 : b9 < b116 := hb116.2 1000009 _ _ _ rfl
 have hlt_b13_b116 : b13 < b116 := hb116.2 1000013 _ _ _ rfl
 have hlt_b14_b116 : b14 < b116 := hb116.2 1000014 _ _ _ rfl
 have hlt_b16_b116 : b16 < b116 := hb116.2 1000016 _ _ _ rfl
 have hlt_b18_b116 : b18 < b116 := hb116.2 1000018 _ _ _ rfl
 have hlt_b31_b116 : b31 < b116 := hb116.2 1000031 _ _ _ rfl
 have hlt_b36_b116 : b36 < b116 := hb116.2 1000036 _ _ _ rfl
 have hlt_b70_b116 : b70 < b116 := hb116.2 1000070 _ _ _ rfl
 have hlt_b106_b116 : b106 < b116 := hb116.2 1000106 _ _ _ rfl
 refine TN 5 ?_
 refine RM rfl ?_
 refine RS (ok_extractV rfl rfl) ?_
 refine RS (ok_extractV rfl rfl) ?_
 refine RN ?_
 refine ⟨_, _, eff_alloc (n := 172) (d := 20) (k := 1000020) zero36 (by decide), fun b20 hb20 => ?_⟩
 have hBb20 := hb20.1
 have hlt_b1_b20 : b1 < b20 := hb20.2 1000001 _ _ _ rfl
 have hlt_b3_b20 : b3 < b20 := hb20.2 1000003 _ _ _ rfl
 have hlt_b6_b20 : b6 < b20 := hb20.2 1000006 _ _ _ rfl
 have hlt_b9_b20 : b9 < b20 := hb20.2 1000009 _ _ _ rfl
 have hlt_b14_b20 : b14 < b20 := hb20.2 1000014 _ _ _ rfl
 have hlt_b16_b20 : b16 < b20 := hb20.2 1000016 _ _ _ rfl
 have hlt_b18_b20 : b18 < b20 := hb20.2 1000018 _ _ _ rfl
 refine TF 6 ?_
 refine RN ?_
 refine ⟨_, eff_storeA (n := 172) (s := 1000020) (size36.of (rfl)) rfl rfl (rfl) hBb20 rfl (rfl) (LV 16 rfl (LV 17 rfl (LV 19 rfl (LV 20 rfl (LV 118 rfl (LB 1000001 rfl (LB 1000003 rfl (LT 1000005 rfl (LB 1000006 rfl (LT 1000008 rfl (LB 1000009 rfl (LT 1000013 rfl (LB 1000014 rfl (LB 1000016 rfl (LB 1000018 rfl (LT 1000031 rfl (LT 1000036 rfl (LT 1000070 rfl (LT 1000106 rfl (LT 1000116 rfl LN)))))))))))))))))))), ?_⟩
 refine TL ?_
 refine RA rfl ?_
 refine RN ?_
 refine GS ?_
 refine TN 4 ?_
 refine RS (ok_call (New_A 0 10 4 (by decide)) (A3 rfl rfl rfl)) ?_
 refine RM rfl ?_
 refine RS (ok_extractV rfl rfl) ?_
 refine RS (ok_extractV rfl rfl) ?_
 refine RN ?_
 refine ⟨_, _, eff_alloc (n := 172) (d := 22) (k := 1000022) zero36 (by decide), fun b22 hb22 => ?_⟩
 have hBb22 := hb22.1
 have hlt_b1_b22 : b1 < b22 := hb22.2 1000001 _ _ _ rfl
 have hlt_b3_b22 : b3 < b22 := hb22.2 1000003 _ _ _ rfl
 have hlt_b6_b22 : b6 < b22 := hb22.2 1000006 _ _ _ rfl
 have hlt_b9_b22 : b9 < b22 := hb22.2 1000009 _ _ _ rfl
 have hlt_b14_b22 : b14 < b22 := hb22.2 1000014 _ _ _ rfl
 have hlt_b16_b22 : b16 < b22 := hb22.2 1000016 _ _ _ rfl
 have hlt_b18_b22 : b18 < b22 := hb22.2 1000018 _ _ _ rfl
 have hlt_b20_b22 : b20 < b22 := hb22.2 1000020 _ _ _ rfl
 refine TF 5 ?_
 refine RN ?_
 refine ⟨_, eff_storeA (n := 172) (s := 1000022) (size36.of (rfl)) rfl rfl (rfl) hBb22 rfl (rfl) (LV 16 rfl (LV 17 rfl (LV 19 rfl (LV 20 rfl (LV 21 rfl (LV 122 rfl (LB 1000001 rfl (LB 1000003 rfl (LT 1000005 rfl (LB 1000006 rfl (LT 1000008 rfl (LB 1000009 rfl (LT 1000013 rfl (LB 1000014 rfl (LB 1000016 rfl (LB 1000018 rfl (LB 1000020 rfl (LT 1000031 rfl (LT 1000036 rfl (LT 1000070 rfl (LT 1000106 rfl (LT 1000116 rfl LN)))))))))))))))))))))), ?_⟩
 refine TL ?_
 refine RA rfl ?_
 refine RN ?_
 refine A.sub (KC 16 rfl (KC 17 rfl (KC 19 rfl (KC 20 rfl (KC 21 rfl (KC 23 rfl (KC 1000001 rfl (KC 1000003 rfl (KC 1000005 rfl (KC 1000006 rfl (KC 1000008 rfl (KC 1000009 rfl (KC 1000013 rfl (KC 1000014 rfl (KC 1000016 rfl (KC 1000018 rfl (KC 1000020 rfl (KC 1000022 rfl (KC 1000031 rfl (KC 1000036 rfl (KC 1000070 rfl (KC 1000106 rfl (KC 1000116 rfl KN))))))))))))))))))))))) ?_
 refine GS ?_
 refine TN 4 ?_
 refine RS (ok_call (New_A 9 10 4 (by decide)) (A3 rfl rfl rfl)) ?_
 refine RM rfl ?_
 refine RS (ok_extractV rfl rfl) ?_
 refine RS (ok_extractV rfl rfl) ?_
 refine RN ?_
 refine ⟨_, _, eff_alloc (n := 172) (d := 24) (k := 1000024) zero36 (by decide), fun b24 hb24 => ?_⟩
 have hBb24 := hb24.1
 have hlt_b1_b24 : b1 < b24 := hb24.2 1000001 _ _ _ rfl
 have hlt_b3_b24 : b3 < b24 := hb24.2 1000003 _ _ _ rfl
 have hlt_b6_b24 : b6 < b24 := hb24.2 1000006 _ _ _ rfl
 have hlt_b9_b24 : b9 < b24 := hb24.2 1000009 _ _ _ rfl
 have hlt_b14_b24 : b14 < b24 := hb24.2 1000014 _ _ _ rfl
 have hlt_b16_b24 : b16 < b24 := hb24.2 1000016 _ _ _ rfl
 have hlt_b18_b24 : b18 < b24 := hb24.2 1000018 _ _ _ rfl
 have hlt_b20_b24 : b20 < b24 := hb24.2 1000020 _ _ _ rfl
 have hlt_b22_b24 : b22 < b24 := hb24.2 1000022 _ _ _ rfl
 refine TF 5 ?_
 refine RN ?_
 refine ⟨_, eff_storeA (n := 172) (s := 1000024) (size36.of (rfl)) rfl rfl (rfl) hBb24 rfl (rfl) (LV 16 rfl (LV 17 rfl (LV 19 rfl (LV 20 rfl (LV 21 rfl (LV 23 rfl (LV 126 rfl (LB 1000001 rfl (LB 1000003 rfl (LT 1000005 rfl (LB 1000006 rfl (LT 1000008 rfl (LB 1000009 rfl (LT 1000013 rfl (LB 1000014 rfl (LB 1000016 rfl (LB 1000018 rfl (LB 1000020 rfl (LB 1000022 rfl (LT 1000031 rfl (LT 1000036 rfl (LT 1000070 rfl (LT 1000106 rfl (LT 1000116 rfl LN)))))))))))))))))))))))), ?_⟩
 refine TL ?_
 refine RA rfl ?_
 refine RN ?_
 refine GS ?_
 refine TN 4 ?_
 refine RS (ok_call (New_B 1 3 4 (by decide) (by decide) (by unfold Valid; decide)) (A3 rfl rfl rfl)) ?_
 refine RM rfl ?_
 refine RS (ok_extractV rfl rfl) ?_
 refine RS (ok_extractV rfl rfl) ?_
 refine RN ?_
 refine ⟨_, _, eff_alloc (n := 172) (d := 26) (k := 1000026) zero36 (by decide), fun b26 hb26 => ?_⟩
 have hBb26 := hb26.1
 have hlt_b1_b26 : b1 < b26 := hb26.2 1000001 _ _ _ rfl
 have hlt_b3_b26 : b3 < b26 := hb26.2 1000003 _ _ _ rfl
 have hlt_b6_b26 : b6 < b26 := hb26.2 1000006 _ _ _ rfl
 have hlt_b9_b26 : b9 < b26 := hb26.2 1000009 _ _ _ rfl
 have hlt_b14_b26 : b14 < b26 := hb26.2 1000014 _ _ _ rfl
 have hlt_b16_b26 : b16 < b26 := hb26.2 1000016 _ _ _ rfl
 have hlt_b18_b26 : b18 < b26 := hb26.2 1000018 _ _ _ rfl
 have hlt_b20_b26 : b20 < b26 := hb26.2 1000020 _ _ _ rfl
 have hlt_b22_b26 : b22 < b26 := hb26.2 1000022 _ _ _ rfl
 have hlt_b24_b26 : b24 < b26 := hb26.2 1000024 _ _ _ rfl
 refine TF 5 ?_
 refine RN ?_
 refine ⟨_, eff_storeA (n := 172) (s := 1000026) (size36.of (rfl)) rfl rfl (rfl) hBb26 rfl (rfl) (LV 16 rfl (LV 17 rfl (LV 19 rfl (LV 20 rfl (LV 21 rfl (LV 23 rfl (LV 25 rfl (LV 130 rfl (LB 1000001 rfl (LB 1000003 rfl (LT 1000005 rfl (LB 1000006 rfl (LT 1000008 rfl (LB 1000009 rfl (LT 1000013 rfl (LB 1000014 rfl (LB 1000016 rfl (LB 1000018 rfl (LB 1000020 rfl (LB 1000022 rfl (LB 1000024 rfl (LT 1000031 rfl (LT 1000036 rfl (LT 1000070 rfl (LT 1000106 rfl (LT 1000116 rfl LN)))))))))))))))))))))))))), ?_⟩
 refine TL ?_
 refine RA rfl ?_
 refine RN ?_
 refine GS ?_
 refine TN 4 ?_
 refine RS (ok_call (New_B 1 3 0 (by decide) (by decide) (by unfold Valid; decide)) (A3 rfl rfl rfl)) ?_
 refine RM rfl ?_
 refine RS (ok_extractV rfl rfl) ?_
 refine RS (ok_extractV rfl rfl) ?_
 refine RN ?_
 refine ⟨_, _, eff_alloc (n := 172) (d := 28) (k := 1000028) zero36 (by decide), fun b28 hb28 => ?_⟩
 have hBb28 := hb28.1
 have hlt_b1_b28 : b1 < b28 := hb28.2 1000001 _ _ _ rfl
 have hlt_b3_b28 : b3 < b28 := hb28.2 1000003 _ _ _ rfl
 have hlt_b6_b28 : b6 < b28 := hb28.2 1000006 _ _ _ rfl
 have hlt_b9_b28 : b9 < b28 := hb28.2 1000009 _ _ _ rfl
 have hlt_b14_b28 : b14 < b28 := hb28.2 1000014 _ _ _ rfl
 have hlt_b16_b28 : b16 < b28 := hb28.2 1000016 _ _ _ rfl
 have hlt_b18_b28 : b18 < b28 := hb28.2 1000018 _ _ _ rfl
 have hlt_b20_b28 : b20 < b28 := hb28.2 1000020 _ _ _ rfl
 have hlt_b22_b28 : b22 < b28 := hb28.2 1000022 _ _ _ rfl
 have hlt_b24_b28 : b24 < b28 := hb28.2 1000024 _ _ _ rfl
 have hlt_b26_b28 : b26 < b28 := hb28.2 1000026 _ _ _ rfl
 refine TF 5 ?_
 refine RN ?_
 refine ⟨_, eff_storeA (n := 172) (s := 1000028) (size36.of (rfl)) rfl rfl (rfl) hBb28 rfl (rfl) (LV 16 rfl (LV 17 rfl (LV 19 rfl (LV 20 rfl (LV 21 rfl (LV 23 rfl (LV 25 rfl (LV 27 rfl (LV 134 rfl (LB 1000001 rfl (LB 1000003 rfl (LT 1000005 rfl (LB 1000006 rfl (LT 1000008 rfl (LB 1000009 rfl (LT 1000013 rfl (LB 1000014 rfl (LB 1000016 rfl (LB 1000018 rfl (LB 1000020 rfl (LB 1000022 rfl (LB 1000024 rfl (LB 1000026 rfl (LT 1000031 rfl (LT 1000036 rfl (LT 1000070 rfl (LT 1000106 rfl (LT 1000116 rfl LN)))))))))))))))))))))))))))), ?_⟩
 refine TL ?_
 refine RA rfl ?_
 refine RN ?_
 refine GS ?_
 refine TL ?_
 refine RS (ok_field field36_1 (by decide) rfl) ?_
 refine RS (ok_loadV (s := 1000016) (by decide) Try.underlying23 rfl rfl rfl (rfl)) ?_
 refine RBS rfl rfl rfl (.bool true) (by kernel_rfl) ?_
 refine RM rfl ?_
 refine RQ (ok_move rfl) ?_
 refine RQ (ok_bin rfl rfl rfl) ?_; refine RZ (.bool true) (by kernel_rfl) ?_
 refine RP rfl rfl ?_
 refine RM rfl ?_
 refine RQ (ok_move rfl) ?_
 refine RQ (ok_bin rfl rfl rfl) ?_; refine RZ (.bool true) (by kernel_rfl) ?_
 refine RP rfl rfl ?_
 refine RM rfl ?_
 refine RQ (ok_move rfl) ?_
 refine RQ (ok_bin rfl rfl rfl) ?_; refine RZ (.bool true) (by kernel_rfl) ?_
 refine RP rfl rfl ?_
 refine RM rfl ?_
 refine RQ (OpOk.fact (ok_loadA (s := 1000020) (by decide) Try.underlying36 rfl (size36.of (rfl)) rfl rfl) (d := hdD (vlist (rowQ [4, 4]) 2) (alR 4 10 4)) (s := 1000116) (by decide) rfl (hd_of (rowQ [4, 4]) (alR 4 10 4) rfl (Nat.le_refl _) (by decide) (by kernel_rfl))) ?_
 refine RQ (ok_buildF [qV 4, qV 4] Try.underlying34 info23 rfl (by decide) (by decide) rfl ⟨rfl, rfl, rfl, rfl, trivial⟩ rfl) ?_
 refine RQ (ok_buildS [(1, qV 4), (2, qV 10), (3, qV 4)] rfl rfl fresh_slice ⟨rfl, rfl, rfl, rfl, rfl, rfl, trivial⟩ (rest := alR 4 10 4) (fun B' n c => buildA B' n c 4 10 4)) ?_
 refine RQ (ok_call (same8_fn [4, 4] 4 10 4 (by decide)) (Args.cons rfl (Le.refl _) (Args.cons rfl (hd_le ((fresh_vlist (xs := rowQ [4, 4]) rfl (by decide)).trans (le_vlst _ _))) Args.nil))) ?_
 refine RP rfl rfl ?_
 refine RM rfl ?_
 refine RQ (ok_move rfl) ?_
 refine RQ (ok_bin rfl rfl rfl) ?_; refine RZ (.bool true) (by kernel_rfl) ?_
 refine RP rfl rfl ?_
 refine RM rfl ?_
 refine RQ (ok_move rfl) ?_
 refine RQ (ok_bin rfl rfl rfl) ?_; refine RZ (.bool true) (by kernel_rfl) ?_
 refine RP rfl rfl ?_
 refine RM rfl ?_
 refine RQ (ok_move rfl) ?_
 refine RQ (ok_bin rfl rfl rfl) ?_; refine RZ (.bool true) (by kernel_rfl) ?_
 refine RP rfl rfl ?_
 refine RM rfl ?_
 refine RQ (ok_move rfl) ?_
 refine RQ (ok_bin rfl rfl rfl) ?_; refine RZ (.bool true) (by kernel_rfl) ?_
 refine RP rfl rfl ?_
 refine RA rfl ?_
 refine RN ?_
 refine A.sub (KC 0 rfl (KC 1000001 rfl (KC 1000003 rfl (KC 1000005 rfl (KC 1000006 rfl (KC 1000008 rfl (KC 1000009 rfl (KC 1000013 rfl (KC 1000014 rfl (KC 1000016 rfl (KC 1000018 rfl (KC 1000020 rfl (KC 1000022 rfl (KC 1000024 rfl (KC 1000026 rfl (KC 1000028 rfl (KC 1000031 rfl (KC 1000036 rfl (KC 1000070 rfl (KC 1000106 rfl (KC 1000116 rfl KN))))))))))))))))))))) ?_
 refine A.ret ?_
 exact End.ret1 rfl rfl (by first | exact Le.refl _ | exact Le.old _ _)
/-- What is read of any bytes. -/
def gS (l : List UInt8) : Nat := if l.length = 12 then (getV (l.take 4) 4).toNat else 0
def gC (l : List UInt8) : Nat := if l.length = 12 then (getV (l.drop 4) 8).toNat else 0
def gE (n : Nat) : Int := if n < 12 then 6 else if n = 12 then 0 else 5
theorem getV_nat (l : List UInt8) (k : Nat) : ((getV l k).toNat : Int) = getV l k := by unfold getV; split <;> simp
theorem Get_fn (l : List UInt8) : Fn Try.prog 10 [byt l] (tup [.v (aggV [nW (gS l), nQ (gC l)]), .v (.int .i64 (gE l.length))]) := by
 by_cases h4 : l.length < 4
 ·rw [gS, gC, gE, if_neg (by omega), if_neg (by omega), if_pos (by omega)]; exact Get_lo l h4
 by_cases h12 : l.length < 12
 ·rw [gS, gC, gE, if_neg (by omega), if_neg (by omega), if_pos h12]; exact Get_short l (by omega) h12
 by_cases h : l.length = 12
 ·rw [gS, gC, gE, if_pos h, if_pos h, if_neg (by omega), if_pos h]; simp only [nW, nQ, getV_nat]; exact Get_good l h
 ·rw [gS, gC, gE, if_neg h, if_neg h, if_neg (by omega), if_neg h]; exact Get_long l (by omega)
theorem gS_lt (l : List UInt8) : gS l < 4294967296 := by
 unfold gS
 split
 ·unfold getV
  split
  ·rename_i h; have := num_lt (l.take 4); rw [h] at this; omega
  ·decide
 ·decide
theorem gC_lt (l : List UInt8) : gC l < 18446744073709551616 := by
 unfold gC
 split
 ·unfold getV
  split
  ·rename_i h; have := num_lt (l.drop 4); rw [h] at this; omega
  ·decide
 ·decide
theorem be_getV {l : List UInt8} {k : Nat} (h : l.length = k) : be k (getV l k).toNat = l := by
 rw [getV, if_pos h, Int.toNat_natCast, be_num h]
theorem nonce_back {l : List UInt8} (h : l.length = 12) : nonceL (gS l) (gC l) = l := by
 rw [nonceL, gS, gC, if_pos h, if_pos h, be_getV (by simp; omega), be_getV (by simp; omega), List.take_append_drop]
theorem gS_nonce {s c : Nat} (hs : s < 4294967296) : gS (nonceL s c) = s := by
 rw [gS, if_pos (nonceL_length s c), show (nonceL s c).take 4 = be 4 s from by rw [nonceL, List.take_left' (be_length 4 s)], getV, if_pos (be_length 4 s), num_be, Nat.mod_eq_of_lt (by omega), Int.toNat_natCast]
theorem gC_nonce {s c : Nat} (hc : c < 18446744073709551616) : gC (nonceL s c) = c := by
 rw [gC, if_pos (nonceL_length s c), show (nonceL s c).drop 4 = be 8 c from by rw [nonceL, List.drop_left' (be_length 4 s)], getV, if_pos (be_length 8 c), num_be, Nat.mod_eq_of_lt (by omega), Int.toNat_natCast]
theorem gE_nonce (s c : Nat) : gE (nonceL s c).length = 0 := by rw [nonceL_length]; rfl

theorem Put_fnB (s c : Nat) (hs : s < 4294967296) (hc : c < 18446744073709551616) : FnB Try.prog 9 [.v (aggV ([nW s, nQ c]))] (fun B => fresh B 5 ((nonceL s c).map byteV) 12) := by
 refine FnB.of Try.func9 rfl (by kernel_rfl) Try.ntmps9 (by simp) (fun w => [(0, .v (aggV ([nW s, nQ c])))]) (fun w => (Start.v rfl Start.nil)) fun w₀ => ?_
 refine GS ?_
 refine TN 0 ?_
 refine RN ?_
 refine ⟨_, _, eff_box (n := 11) (d := 1) (k := 1000001) rfl (by decide), fun b1 hb1 => ?_⟩
 have hBb1 := hb1.1
 refine TL ?_
 refine RA rfl ?_
 refine RN ?_
 refine GD ?_
 refine TL ?_
 refine RS (ok_field field25_0 (by decide) rfl) ?_
 refine RS (ok_loadV (s := 1000001) (by decide) Try.underlying22 rfl rfl rfl (rfl)) ?_
 refine RS (ok_call ((Put32_fn ((s : Nat) : Int) (by omega) (by omega)).le (d' := bytes (be 4 s) 4) (Le.refl _)) (A1 rfl)) ?_
 refine RS (ok_field field25_1 (by decide) rfl) ?_
 refine RS (ok_loadV (s := 1000001) (by decide) Try.underlying23 rfl rfl rfl (rfl)) ?_
 refine RS (ok_call ((Put64_fn ((c : Nat) : Int) (by omega) (by omega)).le (d' := bytes (be 8 c) 8) (Le.refl _)) (A1 rfl)) ?_
 refine RS (ok_build [bytes (be 4 s) 4, bytes (be 8 c) 8] Try.underlying73 info26 rfl (by decide) (by decide) rfl ⟨rfl, rfl, rfl, rfl, trivial⟩ (fun d hd w x h => by simp only [List.mem_cons, List.not_mem_nil, or_false] at hd; rcases hd with rfl | rfl <;> exact list_one h)) ?_
 refine RS ((ok_callB (Join_fnB [be 4 s, be 8 c] (by simp) (by simp [be_length])) (fun _ _ => fresh_mono _ _) (Args.cons rfl (list_lst2 (le_byt _ 4) (le_byt _ 8)) Args.nil)).le (d' := fresh w₀.heap.size 5 ((nonceL s c).map byteV) 12) (Le.eq (by simp [be_length]; rfl))) ?_
 refine RA rfl ?_
 refine RN ?_
 refine A.ret ?_
 exact End.ret1 rfl rfl (by first | exact Le.refl _ | exact Le.old _ _)
theorem NoncesBytes_long (s c s' c' : Nat) (l : List UInt8) (hs : s < 4294967296) (hc : c < 18446744073709551616) (hs' : s' < 4294967296) (hc' : c' < 18446744073709551616) (h : 20 < l.length) : Fn Try.prog 3 [.v (aggV ([nW s, nQ c])), .v (aggV ([nW s', nQ c'])), byt l] (.v (.bool true)) := by
 refine Fn.of Try.func3 rfl (by kernel_rfl) Try.ntmps3 (by simp) (fun w => [(0, .v (aggV ([nW s, nQ c]))), (1, .v (aggV ([nW s', nQ c']))), (2, old w.heap.size (byt l))]) (fun w => (Start.v rfl (Start.v rfl (Start.old rfl Start.nil)))) fun w₀ => ?_
 refine GS ?_
 refine TN 0 ?_
 refine RN ?_
 refine ⟨_, _, eff_box (n := 120) (d := 3) (k := 1000003) rfl (by decide), fun b3 hb3 => ?_⟩
 have hBb3 := hb3.1
 refine TN 1 ?_
 refine RN ?_
 refine ⟨_, _, eff_box (n := 120) (d := 4) (k := 1000004) rfl (by decide), fun b4 hb4 => ?_⟩
 have hBb4 := hb4.1
 have hlt_b3_b4 : b3 < b4 := hb4.2 1000003 _ _ _ rfl
 refine TL ?_
 refine RA rfl ?_
 refine RN ?_
 refine A.seq ?_
 refine GS ?_
 refine TL ?_
 refine RM rfl ?_
 refine RS (ok_lenB Try.underlying26 rfl LA) ?_
 refine RBS rfl rfl rfl (.bool true) (by simp; omega) ?_
 refine RN ?_
 refine A.yes rfl ?_
 refine GS ?_
 refine TL ?_
 refine RS (ok_call lives8_fn Args.nil) ?_
 refine RA rfl ?_
 refine RN ?_
 refine A.ret ?_
 refine End.ret_then ?_
 exact End.ret1 rfl rfl (by first | exact Le.refl _ | exact Le.old _ _)
set_option maxHeartbeats 2000000 in
theorem NoncesBytes_less (s c s' c' : Nat) (l : List UInt8) (hs : s < 4294967296) (hc : c < 18446744073709551616) (hs' : s' < 4294967296) (hc' : c' < 18446744073709551616) (h0 : l.length ≤ 20) (h : (s < s' ∨ s = s' ∧ c < c')) : Fn Try.prog 3 [.v (aggV ([nW s, nQ c])), .v (aggV ([nW s', nQ c'])), byt l] (.v (.bool true)) := by
 refine Fn.of Try.func3 rfl (by kernel_rfl) Try.ntmps3 (by simp) (fun w => [(0, .v (aggV ([nW s, nQ c]))), (1, .v (aggV ([nW s', nQ c']))), (2, old w.heap.size (byt l))]) (fun w => (Start.v rfl (Start.v rfl (Start.old rfl Start.nil)))) fun w₀ => ?_
 refine GS ?_
 refine TN 0 ?_
 refine RN ?_
 refine ⟨_, _, eff_box (n := 120) (d := 3) (k := 1000003) rfl (by decide), fun b3 hb3 => ?_⟩
 have hBb3 := hb3.1
 refine TN 1 ?_
 refine RN ?_
 refine ⟨_, _, eff_box (n := 120) (d := 4) (k := 1000004) rfl (by decide), fun b4 hb4 => ?_⟩
 have hBb4 := hb4.1
 have hlt_b3_b4 : b3 < b4 := hb4.2 1000003 _ _ _ rfl
 refine TL ?_
 refine RA rfl ?_
 refine RN ?_
 refine A.seq ?_
 refine GS ?_
 refine TL ?_
 refine RM rfl ?_
 refine RS (ok_lenB Try.underlying26 rfl LA) ?_
 refine RBS rfl rfl rfl (.bool false) (by simp; omega) ?_
 refine RN ?_
 refine A.no rfl ?_
 refine A.skip ?_
 refine EN ?_
 refine GD ?_
 refine TL ?_
 refine RS (ok_loadA (s := 1000003) (by decide) Try.underlying25 rfl (size25.of (rfl)) rfl rfl) ?_
 refine RS (ok_callB (Put_fnB s c hs hc) (fun _ _ => fresh_mono _ _) (A1 rfl)) ?_
 refine RS (ok_loadA (s := 1000004) (by decide) Try.underlying25 rfl (size25.of (rfl)) rfl rfl) ?_
 refine RS (ok_callB (Put_fnB s' c' hs' hc') (fun _ _ => fresh_mono _ _) (A1 rfl)) ?_
 refine RA rfl ?_
 refine RA rfl ?_
 refine RN ?_
 refine GS ?_
 refine TN 5 ?_
 refine RM rfl ?_
 refine RS (ok_call (Get_fn (nonceL s c)) (Args.cons rfl ((fresh_bytes (nonceL_length s c).symm (by decide)).trans (le_byt _ _)) Args.nil)) ?_
 refine RM rfl ?_
 refine RS (ok_extract rfl rfl) ?_; refine RZ (aggV [nW s, nQ c]) (by rw [gS_nonce hs, gC_nonce hc]) ?_
 refine RS (ok_extract rfl rfl) ?_; refine RZ (.int .i64 0) (by rw [gE_nonce]) ?_
 refine RN ?_
 refine ⟨_, _, eff_alloc (n := 120) (d := 9) (k := 1000009) zero25 (by decide), fun b9 hb9 => ?_⟩
 have hBb9 := hb9.1
 have hlt_b3_b9 : b3 < b9 := hb9.2 1000003 _ _ _ rfl
 have hlt_b4_b9 : b4 < b9 := hb9.2 1000004 _ _ _ rfl
 refine TF 6 ?_
 refine RN ?_
 refine ⟨_, eff_storeA (n := 120) (s := 1000009) (size25.of (rfl)) rfl rfl (rfl) hBb9 rfl (rfl) (LO 2 rfl (LV 3 rfl (LV 4 rfl (LeftS.cons (t := 7) rfl (Surv.fresh (by decide)) (LeftS.cons (t := 8) rfl (Surv.fresh (by decide)) (LV 9 rfl (LV 26 rfl (LB 1000003 rfl (LB 1000004 rfl LN))))))))), ?_⟩
 refine TL ?_
 refine RA rfl ?_
 refine RN ?_
 refine GS ?_
 refine TL ?_
 refine RA rfl ?_
 refine RN ?_
 refine A.seq ?_
 refine GS ?_
 refine TL ?_
 refine RM rfl ?_
 refine RS (ok_str (l := nonceL s c) Try.underlying26 Try.underlying5 Try.underlying9 rfl ((fresh_bytes (nonceL_length s c).symm (by decide)).trans (le_byt _ _))) ?_
 refine RM rfl ?_
 refine RS (ok_str (l := nonceL s' c') Try.underlying26 Try.underlying5 Try.underlying9 rfl ((fresh_bytes (nonceL_length s' c').symm (by decide)).trans (le_byt _ _))) ?_
 refine RS (ok_slt rfl rfl) ?_; refine RZ (.bool true) (by rw [nonce_less hs hs' hc hc', decide_eq_true h]) ?_
 refine RN ?_
 refine A.sub (KC 2 rfl (KC 3 rfl (KC 4 rfl (KC 7 rfl (KC 8 rfl (KC 9 rfl (KC 10 rfl (KC 11 rfl (KC 31 rfl (KC 1000003 rfl (KC 1000004 rfl (KC 1000009 rfl KN)))))))))))) ?_
 refine A.yes rfl ?_
 refine GE ?_
 refine TL ?_
 refine RA rfl ?_
 refine RN ?_
 refine EN ?_
 refine A.seq ?_
 refine GS ?_
 refine TL ?_
 refine RM rfl ?_
 refine RS (ok_str (l := nonceL s c) Try.underlying26 Try.underlying5 Try.underlying9 rfl ((fresh_bytes (nonceL_length s c).symm (by decide)).trans (le_byt _ _))) ?_
 refine RM rfl ?_
 refine RS (ok_str (l := nonceL s' c') Try.underlying26 Try.underlying5 Try.underlying9 rfl ((fresh_bytes (nonceL_length s' c').symm (by decide)).trans (le_byt _ _))) ?_
 refine RS (ok_sgt rfl rfl) ?_; refine RZ (.bool false) (by rw [nonce_less hs hs' hc hc', nonce_eq hs hs' hc hc', decide_eq_true h, decide_eq_false (by omega)]; rfl) ?_
 refine RN ?_
 refine A.no rfl ?_
 refine A.skip ?_
 refine EN ?_
 refine A.seq ?_
 refine GD ?_
 refine TL ?_
 refine RM rfl ?_
 refine RS (ok_str (l := nonceL s c) Try.underlying26 Try.underlying5 Try.underlying9 rfl ((fresh_bytes (nonceL_length s c).symm (by decide)).trans (le_byt _ _))) ?_
 refine RS (ok_loadA (s := 1000003) (by decide) Try.underlying25 rfl (size25.of (rfl)) rfl rfl) ?_
 refine RS (ok_call (ref8Put_fn s c hs hc) (A1 rfl)) ?_
 refine RS (ok_str (l := nonceL s c) Try.underlying26 Try.underlying5 Try.underlying9 rfl LA) ?_
 refine RS (ok_sne rfl rfl) ?_; refine RZ (.bool false) (by simp) ?_
 refine RM rfl ?_
 refine RQ (ok_move rfl) ?_
 refine RQ (ok_cap Try.underlying26 rfl (fresh_bytes (nonceL_length s c).symm (by decide))) ?_
 refine RQ (ok_move rfl) ?_
 refine RQ (ok_lenB Try.underlying26 rfl ((fresh_bytes (nonceL_length s c).symm (by decide)).trans (le_byt _ _))) ?_
 refine RQ (ok_bin rfl rfl rfl) ?_; refine RZ (.bool false) (by rw [nonceL_length]; rfl) ?_
 refine RP rfl rfl ?_
 refine RM rfl ?_
 refine RQ (ok_loadA (s := 1000009) (by decide) Try.underlying25 rfl (size25.of (rfl)) rfl rfl) ?_
 refine RQ (ok_loadA (s := 1000003) (by decide) Try.underlying25 rfl (size25.of (rfl)) rfl rfl) ?_
 refine RQ (ok_neqT (n := 3) true flatN (by decide) (by kernel_rfl) (by kernel_rfl) rfl rfl (kinN _ _) (kinN _ _) ⟨fun _ => rfl, fun _ => rfl⟩) ?_; refine RZ (.bool false) (by rfl) ?_
 refine RP rfl rfl ?_
 refine RM rfl ?_
 refine RQ (ok_move rfl) ?_
 refine RQ (ok_bin rfl rfl rfl) ?_; refine RZ (.bool false) (by rfl) ?_
 refine RP rfl rfl ?_
 refine RM rfl ?_
 refine RQ (ok_loadA (s := 1000003) (by decide) Try.underlying25 rfl (size25.of (rfl)) rfl rfl) ?_
 refine RQ (ok_loadA (s := 1000004) (by decide) Try.underlying25 rfl (size25.of (rfl)) rfl rfl) ?_
 refine RQ (ok_call (Compare_fn s c s' c') (A2 rfl rfl)) ?_; refine RZ (.int .i64 (-1)) (congrArg (Value.int .i64) (cmpN_less h)) ?_
 refine RQ (ok_move rfl) ?_
 refine RQ (ok_bin rfl rfl rfl) ?_; refine RZ (.bool false) (by rfl) ?_
 refine RP rfl rfl ?_
 refine RM rfl ?_
 refine RQ (ok_loadA (s := 1000004) (by decide) Try.underlying25 rfl (size25.of (rfl)) rfl rfl) ?_
 refine RQ (ok_loadA (s := 1000003) (by decide) Try.underlying25 rfl (size25.of (rfl)) rfl rfl) ?_
 refine RQ (ok_call (Compare_fn s' c' s c) (A2 rfl rfl)) ?_; refine RZ (.int .i64 (1)) (congrArg (Value.int .i64) (by rw [cmpN_neg, cmpN_less h]; rfl)) ?_
 refine RQ (ok_move rfl) ?_
 refine RQ (ok_neg rfl) ?_; refine RZ (.int .i64 (1)) (by rfl) ?_
 refine RQ (ok_bin rfl rfl rfl) ?_; refine RZ (.bool false) (by rfl) ?_
 refine RP rfl rfl ?_
 refine RN ?_
 refine A.sub (KC 2 rfl (KC 73 rfl (KC 1000003 rfl (KC 1000004 rfl (KC 1000009 rfl KN))))) ?_
 refine A.no rfl ?_
 refine A.skip ?_
 refine EN ?_
 refine GS ?_
 refine TN 5 ?_
 refine RM rfl ?_
 refine RS (ok_call (Get_fn l) (Args.cons rfl (Le.old _ _) Args.nil)) ?_
 refine RM rfl ?_
 refine RS (ok_extract rfl rfl) ?_
 refine RS (ok_extract rfl rfl) ?_
 refine RN ?_
 refine ⟨_, _, eff_alloc (n := 120) (d := 12) (k := 1000012) zero25 (by decide), fun b12 hb12 => ?_⟩
 have hBb12 := hb12.1
 have hlt_b3_b12 : b3 < b12 := hb12.2 1000003 _ _ _ rfl
 have hlt_b4_b12 : b4 < b12 := hb12.2 1000004 _ _ _ rfl
 have hlt_b9_b12 : b9 < b12 := hb12.2 1000009 _ _ _ rfl
 refine TF 6 ?_
 refine RN ?_
 refine ⟨_, eff_storeA (n := 120) (s := 1000012) (size25.of (rfl)) rfl rfl (rfl) hBb12 rfl (rfl) (LO 2 rfl (LV 12 rfl (LV 78 rfl (LB 1000003 rfl (LB 1000004 rfl (LB 1000009 rfl LN)))))), ?_⟩
 refine TL ?_
 refine RA rfl ?_
 refine RN ?_
 refine A.seq ?_
 refine A.block ?_
 refine GS ?_
 refine TL ?_
 refine RM rfl ?_
 refine RS (ok_lenB Try.underlying26 rfl LA) ?_
 refine RB rfl rfl rfl ?_
 refine RA rfl ?_
 refine RN ?_
 refine A.cond rfl (fun hc79 => ?_) (fun hc79 => ?_)
 ·have h82 : l.length < 12 := by simp at hc79; omega
  refine GS ?_
  refine TL ?_
  refine RM rfl ?_
  refine RBS rfl rfl rfl (.bool true) (by rw [gE, if_pos h82]; rfl) ?_
  refine RM rfl ?_
  refine RQ (ok_loadA (s := 1000012) (by decide) Try.underlying25 rfl (size25.of (rfl)) rfl rfl) ?_
  refine RQ (ok_lit [] ([.int .u32 0] ++ [.int .u64 0]) (fun _ _ => rfl) (by kernel_rfl)) ?_
  refine RQ (ok_eqlT (n := 3) true flatN (by decide) (by kernel_rfl) (by kernel_rfl) rfl rfl (kinN _ _) (kinN _ _) ⟨fun _ => by rw [gS, gC, if_neg (by omega), if_neg (by omega)]; rfl, fun _ => rfl⟩) ?_
  refine RP rfl rfl ?_
  refine RM rfl ?_
  refine RQ (ok_call lives8_fn Args.nil) ?_
  refine RP rfl rfl ?_
  refine RA rfl ?_
  refine RN ?_
  refine A.ret ?_
  refine End.ret_block ?_
  refine End.ret_then ?_
  exact End.ret1 rfl rfl (by first | exact Le.refl _ | exact Le.old _ _)
 ·have h82 : 12 ≤ l.length := by simp at hc79; omega
  refine GS ?_
  refine TL ?_
  refine RM rfl ?_
  refine RS (ok_lenB Try.underlying26 rfl LA) ?_
  refine RB rfl rfl rfl ?_
  refine RA rfl ?_
  refine RN ?_
  refine A.cond rfl (fun hc93 => ?_) (fun hc93 => ?_)
  ·have h96 : 12 < l.length := by simp at hc93; omega
   refine GS ?_
   refine TL ?_
   refine RM rfl ?_
   refine RBS rfl rfl rfl (.bool true) (by rw [gE, if_neg (by omega), if_neg (by omega)]; rfl) ?_
   refine RM rfl ?_
   refine RQ (ok_loadA (s := 1000012) (by decide) Try.underlying25 rfl (size25.of (rfl)) rfl rfl) ?_
   refine RQ (ok_lit [] ([.int .u32 0] ++ [.int .u64 0]) (fun _ _ => rfl) (by kernel_rfl)) ?_
   refine RQ (ok_eqlT (n := 3) true flatN (by decide) (by kernel_rfl) (by kernel_rfl) rfl rfl (kinN _ _) (kinN _ _) ⟨fun _ => by rw [gS, gC, if_neg (by omega), if_neg (by omega)]; rfl, fun _ => rfl⟩) ?_
   refine RP rfl rfl ?_
   refine RM rfl ?_
   refine RQ (ok_call lives8_fn Args.nil) ?_
   refine RP rfl rfl ?_
   refine RA rfl ?_
   refine RN ?_
   refine A.sub (KC 6 rfl (KC 1000003 rfl (KC 1000004 rfl (KC 1000009 rfl (KC 1000012 rfl KN))))) ?_
   refine A.ret ?_
   refine End.ret_block ?_
   refine End.ret_then ?_
   exact End.ret1 rfl rfl (by first | exact Le.refl _ | exact Le.old _ _)
  ·have h12 : l.length = 12 := by simp at hc93; omega
   refine A.skip ?_
   refine End.normal_block ?_
   refine EN ?_
   refine GD ?_
   refine TL ?_
   refine RM rfl ?_
   refine RBS rfl rfl rfl (.bool true) (by rw [gE, if_neg (by omega), if_pos h12]; rfl) ?_
   refine RM rfl ?_
   refine RQ (ok_loadA (s := 1000012) (by decide) Try.underlying25 rfl (size25.of (rfl)) rfl rfl) ?_
   refine RQ (ok_call (Put_fn (gS l) (gC l) (gS_lt l) (gC_lt l)) (A1 rfl)) ?_
   refine RQ (ok_str (l := nonceL (gS l) (gC l)) Try.underlying26 Try.underlying5 Try.underlying9 rfl LA) ?_
   refine RQ (ok_move rfl) ?_
   refine RQ (ok_str (l := l) Try.underlying26 Try.underlying5 Try.underlying9 rfl LA) ?_
   refine RQ (ok_seq rfl rfl) ?_; refine RZ (.bool true) (by rw [nonce_back h12]; simp) ?_
   refine RP rfl rfl ?_
   refine RM rfl ?_
   refine RQ (ok_call lives8_fn Args.nil) ?_
   refine RP rfl rfl ?_
   refine RA rfl ?_
   refine RN ?_
   refine A.sub (KC 6 rfl (KC 1000003 rfl (KC 1000004 rfl (KC 1000009 rfl (KC 1000012 rfl KN))))) ?_
   refine A.ret ?_
   exact End.ret1 rfl rfl (by first | exact Le.refl _ | exact Le.old _ _)
set_option maxHeartbeats 2000000 in
theorem NoncesBytes_same (s c s' c' : Nat) (l : List UInt8) (hs : s < 4294967296) (hc : c < 18446744073709551616) (hs' : s' < 4294967296) (hc' : c' < 18446744073709551616) (h0 : l.length ≤ 20) (h : (s = s' ∧ c = c')) : Fn Try.prog 3 [.v (aggV ([nW s, nQ c])), .v (aggV ([nW s', nQ c'])), byt l] (.v (.bool true)) := by
 refine Fn.of Try.func3 rfl (by kernel_rfl) Try.ntmps3 (by simp) (fun w => [(0, .v (aggV ([nW s, nQ c]))), (1, .v (aggV ([nW s', nQ c']))), (2, old w.heap.size (byt l))]) (fun w => (Start.v rfl (Start.v rfl (Start.old rfl Start.nil)))) fun w₀ => ?_
 refine GS ?_
 refine TN 0 ?_
 refine RN ?_
 refine ⟨_, _, eff_box (n := 120) (d := 3) (k := 1000003) rfl (by decide), fun b3 hb3 => ?_⟩
 have hBb3 := hb3.1
 refine TN 1 ?_
 refine RN ?_
 refine ⟨_, _, eff_box (n := 120) (d := 4) (k := 1000004) rfl (by decide), fun b4 hb4 => ?_⟩
 have hBb4 := hb4.1
 have hlt_b3_b4 : b3 < b4 := hb4.2 1000003 _ _ _ rfl
 refine TL ?_
 refine RA rfl ?_
 refine RN ?_
 refine A.seq ?_
 refine GS ?_
 refine TL ?_
 refine RM rfl ?_
 refine RS (ok_lenB Try.underlying26 rfl LA) ?_
 refine RBS rfl rfl rfl (.bool false) (by simp; omega) ?_
 refine RN ?_
 refine A.no rfl ?_
 refine A.skip ?_
 refine EN ?_
 refine GD ?_
 refine TL ?_
 refine RS (ok_loadA (s := 1000003) (by decide) Try.underlying25 rfl (size25.of (rfl)) rfl rfl) ?_
 refine RS (ok_callB (Put_fnB s c hs hc) (fun _ _ => fresh_mono _ _) (A1 rfl)) ?_
 refine RS (ok_loadA (s := 1000004) (by decide) Try.underlying25 rfl (size25.of (rfl)) rfl rfl) ?_
 refine RS (ok_callB (Put_fnB s' c' hs' hc') (fun _ _ => fresh_mono _ _) (A1 rfl)) ?_
 refine RA rfl ?_
 refine RA rfl ?_
 refine RN ?_
 refine GS ?_
 refine TN 5 ?_
 refine RM rfl ?_
 refine RS (ok_call (Get_fn (nonceL s c)) (Args.cons rfl ((fresh_bytes (nonceL_length s c).symm (by decide)).trans (le_byt _ _)) Args.nil)) ?_
 refine RM rfl ?_
 refine RS (ok_extract rfl rfl) ?_; refine RZ (aggV [nW s, nQ c]) (by rw [gS_nonce hs, gC_nonce hc]) ?_
 refine RS (ok_extract rfl rfl) ?_; refine RZ (.int .i64 0) (by rw [gE_nonce]) ?_
 refine RN ?_
 refine ⟨_, _, eff_alloc (n := 120) (d := 9) (k := 1000009) zero25 (by decide), fun b9 hb9 => ?_⟩
 have hBb9 := hb9.1
 have hlt_b3_b9 : b3 < b9 := hb9.2 1000003 _ _ _ rfl
 have hlt_b4_b9 : b4 < b9 := hb9.2 1000004 _ _ _ rfl
 refine TF 6 ?_
 refine RN ?_
 refine ⟨_, eff_storeA (n := 120) (s := 1000009) (size25.of (rfl)) rfl rfl (rfl) hBb9 rfl (rfl) (LO 2 rfl (LV 3 rfl (LV 4 rfl (LeftS.cons (t := 7) rfl (Surv.fresh (by decide)) (LeftS.cons (t := 8) rfl (Surv.fresh (by decide)) (LV 9 rfl (LV 26 rfl (LB 1000003 rfl (LB 1000004 rfl LN))))))))), ?_⟩
 refine TL ?_
 refine RA rfl ?_
 refine RN ?_
 refine GS ?_
 refine TL ?_
 refine RA rfl ?_
 refine RN ?_
 refine A.seq ?_
 refine GS ?_
 refine TL ?_
 refine RM rfl ?_
 refine RS (ok_str (l := nonceL s c) Try.underlying26 Try.underlying5 Try.underlying9 rfl ((fresh_bytes (nonceL_length s c).symm (by decide)).trans (le_byt _ _))) ?_
 refine RM rfl ?_
 refine RS (ok_str (l := nonceL s' c') Try.underlying26 Try.underlying5 Try.underlying9 rfl ((fresh_bytes (nonceL_length s' c').symm (by decide)).trans (le_byt _ _))) ?_
 refine RS (ok_slt rfl rfl) ?_; refine RZ (.bool false) (by rw [nonce_less hs hs' hc hc', decide_eq_false (by omega)]) ?_
 refine RN ?_
 refine A.sub (KC 2 rfl (KC 3 rfl (KC 4 rfl (KC 7 rfl (KC 8 rfl (KC 9 rfl (KC 10 rfl (KC 11 rfl (KC 31 rfl (KC 1000003 rfl (KC 1000004 rfl (KC 1000009 rfl KN)))))))))))) ?_
 refine A.no rfl ?_
 refine A.skip ?_
 refine EN ?_
 refine A.seq ?_
 refine GS ?_
 refine TL ?_
 refine RM rfl ?_
 refine RS (ok_str (l := nonceL s c) Try.underlying26 Try.underlying5 Try.underlying9 rfl ((fresh_bytes (nonceL_length s c).symm (by decide)).trans (le_byt _ _))) ?_
 refine RM rfl ?_
 refine RS (ok_str (l := nonceL s' c') Try.underlying26 Try.underlying5 Try.underlying9 rfl ((fresh_bytes (nonceL_length s' c').symm (by decide)).trans (le_byt _ _))) ?_
 refine RS (ok_sgt rfl rfl) ?_; refine RZ (.bool false) (by rw [nonce_less hs hs' hc hc', nonce_eq hs hs' hc hc', decide_eq_false (by omega), decide_eq_true h]; rfl) ?_
 refine RN ?_
 refine A.no rfl ?_
 refine A.skip ?_
 refine EN ?_
 refine A.seq ?_
 refine GD ?_
 refine TL ?_
 refine RM rfl ?_
 refine RS (ok_str (l := nonceL s c) Try.underlying26 Try.underlying5 Try.underlying9 rfl ((fresh_bytes (nonceL_length s c).symm (by decide)).trans (le_byt _ _))) ?_
 refine RS (ok_loadA (s := 1000003) (by decide) Try.underlying25 rfl (size25.of (rfl)) rfl rfl) ?_
 refine RS (ok_call (ref8Put_fn s c hs hc) (A1 rfl)) ?_
 refine RS (ok_str (l := nonceL s c) Try.underlying26 Try.underlying5 Try.underlying9 rfl LA) ?_
 refine RS (ok_sne rfl rfl) ?_; refine RZ (.bool false) (by simp) ?_
 refine RM rfl ?_
 refine RQ (ok_move rfl) ?_
 refine RQ (ok_cap Try.underlying26 rfl (fresh_bytes (nonceL_length s c).symm (by decide))) ?_
 refine RQ (ok_move rfl) ?_
 refine RQ (ok_lenB Try.underlying26 rfl ((fresh_bytes (nonceL_length s c).symm (by decide)).trans (le_byt _ _))) ?_
 refine RQ (ok_bin rfl rfl rfl) ?_; refine RZ (.bool false) (by rw [nonceL_length]; rfl) ?_
 refine RP rfl rfl ?_
 refine RM rfl ?_
 refine RQ (ok_loadA (s := 1000009) (by decide) Try.underlying25 rfl (size25.of (rfl)) rfl rfl) ?_
 refine RQ (ok_loadA (s := 1000003) (by decide) Try.underlying25 rfl (size25.of (rfl)) rfl rfl) ?_
 refine RQ (ok_neqT (n := 3) true flatN (by decide) (by kernel_rfl) (by kernel_rfl) rfl rfl (kinN _ _) (kinN _ _) ⟨fun _ => rfl, fun _ => rfl⟩) ?_; refine RZ (.bool false) (by rfl) ?_
 refine RP rfl rfl ?_
 refine RM rfl ?_
 refine RQ (ok_move rfl) ?_
 refine RQ (ok_bin rfl rfl rfl) ?_; refine RZ (.bool false) (by rfl) ?_
 refine RP rfl rfl ?_
 refine RM rfl ?_
 refine RQ (ok_loadA (s := 1000003) (by decide) Try.underlying25 rfl (size25.of (rfl)) rfl rfl) ?_
 refine RQ (ok_loadA (s := 1000004) (by decide) Try.underlying25 rfl (size25.of (rfl)) rfl rfl) ?_
 refine RQ (ok_call (Compare_fn s c s' c') (A2 rfl rfl)) ?_; refine RZ (.int .i64 (0)) (congrArg (Value.int .i64) (cmpN_same h)) ?_
 refine RQ (ok_move rfl) ?_
 refine RQ (ok_bin rfl rfl rfl) ?_; refine RZ (.bool false) (by rfl) ?_
 refine RP rfl rfl ?_
 refine RM rfl ?_
 refine RQ (ok_loadA (s := 1000004) (by decide) Try.underlying25 rfl (size25.of (rfl)) rfl rfl) ?_
 refine RQ (ok_loadA (s := 1000003) (by decide) Try.underlying25 rfl (size25.of (rfl)) rfl rfl) ?_
 refine RQ (ok_call (Compare_fn s' c' s c) (A2 rfl rfl)) ?_; refine RZ (.int .i64 (0)) (congrArg (Value.int .i64) (by rw [cmpN_neg, cmpN_same h]; rfl)) ?_
 refine RQ (ok_move rfl) ?_
 refine RQ (ok_neg rfl) ?_; refine RZ (.int .i64 (0)) (by rfl) ?_
 refine RQ (ok_bin rfl rfl rfl) ?_; refine RZ (.bool false) (by rfl) ?_
 refine RP rfl rfl ?_
 refine RN ?_
 refine A.sub (KC 2 rfl (KC 73 rfl (KC 1000003 rfl (KC 1000004 rfl (KC 1000009 rfl KN))))) ?_
 refine A.no rfl ?_
 refine A.skip ?_
 refine EN ?_
 refine GS ?_
 refine TN 5 ?_
 refine RM rfl ?_
 refine RS (ok_call (Get_fn l) (Args.cons rfl (Le.old _ _) Args.nil)) ?_
 refine RM rfl ?_
 refine RS (ok_extract rfl rfl) ?_
 refine RS (ok_extract rfl rfl) ?_
 refine RN ?_
 refine ⟨_, _, eff_alloc (n := 120) (d := 12) (k := 1000012) zero25 (by decide), fun b12 hb12 => ?_⟩
 have hBb12 := hb12.1
 have hlt_b3_b12 : b3 < b12 := hb12.2 1000003 _ _ _ rfl
 have hlt_b4_b12 : b4 < b12 := hb12.2 1000004 _ _ _ rfl
 have hlt_b9_b12 : b9 < b12 := hb12.2 1000009 _ _ _ rfl
 refine TF 6 ?_
 refine RN ?_
 refine ⟨_, eff_storeA (n := 120) (s := 1000012) (size25.of (rfl)) rfl rfl (rfl) hBb12 rfl (rfl) (LO 2 rfl (LV 12 rfl (LV 78 rfl (LB 1000003 rfl (LB 1000004 rfl (LB 1000009 rfl LN)))))), ?_⟩
 refine TL ?_
 refine RA rfl ?_
 refine RN ?_
 refine A.seq ?_
 refine A.block ?_
 refine GS ?_
 refine TL ?_
 refine RM rfl ?_
 refine RS (ok_lenB Try.underlying26 rfl LA) ?_
 refine RB rfl rfl rfl ?_
 refine RA rfl ?_
 refine RN ?_
 refine A.cond rfl (fun hc79 => ?_) (fun hc79 => ?_)
 ·have h82 : l.length < 12 := by simp at hc79; omega
  refine GS ?_
  refine TL ?_
  refine RM rfl ?_
  refine RBS rfl rfl rfl (.bool true) (by rw [gE, if_pos h82]; rfl) ?_
  refine RM rfl ?_
  refine RQ (ok_loadA (s := 1000012) (by decide) Try.underlying25 rfl (size25.of (rfl)) rfl rfl) ?_
  refine RQ (ok_lit [] ([.int .u32 0] ++ [.int .u64 0]) (fun _ _ => rfl) (by kernel_rfl)) ?_
  refine RQ (ok_eqlT (n := 3) true flatN (by decide) (by kernel_rfl) (by kernel_rfl) rfl rfl (kinN _ _) (kinN _ _) ⟨fun _ => by rw [gS, gC, if_neg (by omega), if_neg (by omega)]; rfl, fun _ => rfl⟩) ?_
  refine RP rfl rfl ?_
  refine RM rfl ?_
  refine RQ (ok_call lives8_fn Args.nil) ?_
  refine RP rfl rfl ?_
  refine RA rfl ?_
  refine RN ?_
  refine A.ret ?_
  refine End.ret_block ?_
  refine End.ret_then ?_
  exact End.ret1 rfl rfl (by first | exact Le.refl _ | exact Le.old _ _)
 ·have h82 : 12 ≤ l.length := by simp at hc79; omega
  refine GS ?_
  refine TL ?_
  refine RM rfl ?_
  refine RS (ok_lenB Try.underlying26 rfl LA) ?_
  refine RB rfl rfl rfl ?_
  refine RA rfl ?_
  refine RN ?_
  refine A.cond rfl (fun hc93 => ?_) (fun hc93 => ?_)
  ·have h96 : 12 < l.length := by simp at hc93; omega
   refine GS ?_
   refine TL ?_
   refine RM rfl ?_
   refine RBS rfl rfl rfl (.bool true) (by rw [gE, if_neg (by omega), if_neg (by omega)]; rfl) ?_
   refine RM rfl ?_
   refine RQ (ok_loadA (s := 1000012) (by decide) Try.underlying25 rfl (size25.of (rfl)) rfl rfl) ?_
   refine RQ (ok_lit [] ([.int .u32 0] ++ [.int .u64 0]) (fun _ _ => rfl) (by kernel_rfl)) ?_
   refine RQ (ok_eqlT (n := 3) true flatN (by decide) (by kernel_rfl) (by kernel_rfl) rfl rfl (kinN _ _) (kinN _ _) ⟨fun _ => by rw [gS, gC, if_neg (by omega), if_neg (by omega)]; rfl, fun _ => rfl⟩) ?_
   refine RP rfl rfl ?_
   refine RM rfl ?_
   refine RQ (ok_call lives8_fn Args.nil) ?_
   refine RP rfl rfl ?_
   refine RA rfl ?_
   refine RN ?_
   refine A.sub (KC 6 rfl (KC 1000003 rfl (KC 1000004 rfl (KC 1000009 rfl (KC 1000012 rfl KN))))) ?_
   refine A.ret ?_
   refine End.ret_block ?_
   refine End.ret_then ?_
   exact End.ret1 rfl rfl (by first | exact Le.refl _ | exact Le.old _ _)
  ·have h12 : l.length = 12 := by simp at hc93; omega
   refine A.skip ?_
   refine End.normal_block ?_
   refine EN ?_
   refine GD ?_
   refine TL ?_
   refine RM rfl ?_
   refine RBS rfl rfl rfl (.bool true) (by rw [gE, if_neg (by omega), if_pos h12]; rfl) ?_
   refine RM rfl ?_
   refine RQ (ok_loadA (s := 1000012) (by decide) Try.underlying25 rfl (size25.of (rfl)) rfl rfl) ?_
   refine RQ (ok_call (Put_fn (gS l) (gC l) (gS_lt l) (gC_lt l)) (A1 rfl)) ?_
   refine RQ (ok_str (l := nonceL (gS l) (gC l)) Try.underlying26 Try.underlying5 Try.underlying9 rfl LA) ?_
   refine RQ (ok_move rfl) ?_
   refine RQ (ok_str (l := l) Try.underlying26 Try.underlying5 Try.underlying9 rfl LA) ?_
   refine RQ (ok_seq rfl rfl) ?_; refine RZ (.bool true) (by rw [nonce_back h12]; simp) ?_
   refine RP rfl rfl ?_
   refine RM rfl ?_
   refine RQ (ok_call lives8_fn Args.nil) ?_
   refine RP rfl rfl ?_
   refine RA rfl ?_
   refine RN ?_
   refine A.sub (KC 6 rfl (KC 1000003 rfl (KC 1000004 rfl (KC 1000009 rfl (KC 1000012 rfl KN))))) ?_
   refine A.ret ?_
   exact End.ret1 rfl rfl (by first | exact Le.refl _ | exact Le.old _ _)
set_option maxHeartbeats 2000000 in
theorem NoncesBytes_more (s c s' c' : Nat) (l : List UInt8) (hs : s < 4294967296) (hc : c < 18446744073709551616) (hs' : s' < 4294967296) (hc' : c' < 18446744073709551616) (h0 : l.length ≤ 20) (h : ¬ (s < s' ∨ s = s' ∧ c < c')) (h2 : ¬ (s = s' ∧ c = c')) : Fn Try.prog 3 [.v (aggV ([nW s, nQ c])), .v (aggV ([nW s', nQ c'])), byt l] (.v (.bool true)) := by
 refine Fn.of Try.func3 rfl (by kernel_rfl) Try.ntmps3 (by simp) (fun w => [(0, .v (aggV ([nW s, nQ c]))), (1, .v (aggV ([nW s', nQ c']))), (2, old w.heap.size (byt l))]) (fun w => (Start.v rfl (Start.v rfl (Start.old rfl Start.nil)))) fun w₀ => ?_
 refine GS ?_
 refine TN 0 ?_
 refine RN ?_
 refine ⟨_, _, eff_box (n := 120) (d := 3) (k := 1000003) rfl (by decide), fun b3 hb3 => ?_⟩
 have hBb3 := hb3.1
 refine TN 1 ?_
 refine RN ?_
 refine ⟨_, _, eff_box (n := 120) (d := 4) (k := 1000004) rfl (by decide), fun b4 hb4 => ?_⟩
 have hBb4 := hb4.1
 have hlt_b3_b4 : b3 < b4 := hb4.2 1000003 _ _ _ rfl
 refine TL ?_
 refine RA rfl ?_
 refine RN ?_
 refine A.seq ?_
 refine GS ?_
 refine TL ?_
 refine RM rfl ?_
 refine RS (ok_lenB Try.underlying26 rfl LA) ?_
 refine RBS rfl rfl rfl (.bool false) (by simp; omega) ?_
 refine RN ?_
 refine A.no rfl ?_
 refine A.skip ?_
 refine EN ?_
 refine GD ?_
 refine TL ?_
 refine RS (ok_loadA (s := 1000003) (by decide) Try.underlying25 rfl (size25.of (rfl)) rfl rfl) ?_
 refine RS (ok_callB (Put_fnB s c hs hc) (fun _ _ => fresh_mono _ _) (A1 rfl)) ?_
 refine RS (ok_loadA (s := 1000004) (by decide) Try.underlying25 rfl (size25.of (rfl)) rfl rfl) ?_
 refine RS (ok_callB (Put_fnB s' c' hs' hc') (fun _ _ => fresh_mono _ _) (A1 rfl)) ?_
 refine RA rfl ?_
 refine RA rfl ?_
 refine RN ?_
 refine GS ?_
 refine TN 5 ?_
 refine RM rfl ?_
 refine RS (ok_call (Get_fn (nonceL s c)) (Args.cons rfl ((fresh_bytes (nonceL_length s c).symm (by decide)).trans (le_byt _ _)) Args.nil)) ?_
 refine RM rfl ?_
 refine RS (ok_extract rfl rfl) ?_; refine RZ (aggV [nW s, nQ c]) (by rw [gS_nonce hs, gC_nonce hc]) ?_
 refine RS (ok_extract rfl rfl) ?_; refine RZ (.int .i64 0) (by rw [gE_nonce]) ?_
 refine RN ?_
 refine ⟨_, _, eff_alloc (n := 120) (d := 9) (k := 1000009) zero25 (by decide), fun b9 hb9 => ?_⟩
 have hBb9 := hb9.1
 have hlt_b3_b9 : b3 < b9 := hb9.2 1000003 _ _ _ rfl
 have hlt_b4_b9 : b4 < b9 := hb9.2 1000004 _ _ _ rfl
 refine TF 6 ?_
 refine RN ?_
 refine ⟨_, eff_storeA (n := 120) (s := 1000009) (size25.of (rfl)) rfl rfl (rfl) hBb9 rfl (rfl) (LO 2 rfl (LV 3 rfl (LV 4 rfl (LeftS.cons (t := 7) rfl (Surv.fresh (by decide)) (LeftS.cons (t := 8) rfl (Surv.fresh (by decide)) (LV 9 rfl (LV 26 rfl (LB 1000003 rfl (LB 1000004 rfl LN))))))))), ?_⟩
 refine TL ?_
 refine RA rfl ?_
 refine RN ?_
 refine GS ?_
 refine TL ?_
 refine RA rfl ?_
 refine RN ?_
 refine A.seq ?_
 refine GS ?_
 refine TL ?_
 refine RM rfl ?_
 refine RS (ok_str (l := nonceL s c) Try.underlying26 Try.underlying5 Try.underlying9 rfl ((fresh_bytes (nonceL_length s c).symm (by decide)).trans (le_byt _ _))) ?_
 refine RM rfl ?_
 refine RS (ok_str (l := nonceL s' c') Try.underlying26 Try.underlying5 Try.underlying9 rfl ((fresh_bytes (nonceL_length s' c').symm (by decide)).trans (le_byt _ _))) ?_
 refine RS (ok_slt rfl rfl) ?_; refine RZ (.bool false) (by rw [nonce_less hs hs' hc hc', decide_eq_false (by omega)]) ?_
 refine RN ?_
 refine A.sub (KC 2 rfl (KC 3 rfl (KC 4 rfl (KC 7 rfl (KC 8 rfl (KC 9 rfl (KC 10 rfl (KC 11 rfl (KC 31 rfl (KC 1000003 rfl (KC 1000004 rfl (KC 1000009 rfl KN)))))))))))) ?_
 refine A.no rfl ?_
 refine A.skip ?_
 refine EN ?_
 refine A.seq ?_
 refine GS ?_
 refine TL ?_
 refine RM rfl ?_
 refine RS (ok_str (l := nonceL s c) Try.underlying26 Try.underlying5 Try.underlying9 rfl ((fresh_bytes (nonceL_length s c).symm (by decide)).trans (le_byt _ _))) ?_
 refine RM rfl ?_
 refine RS (ok_str (l := nonceL s' c') Try.underlying26 Try.underlying5 Try.underlying9 rfl ((fresh_bytes (nonceL_length s' c').symm (by decide)).trans (le_byt _ _))) ?_
 refine RS (ok_sgt rfl rfl) ?_; refine RZ (.bool true) (by rw [nonce_less hs hs' hc hc', nonce_eq hs hs' hc hc', decide_eq_false (by omega), decide_eq_false (by omega)]; rfl) ?_
 refine RN ?_
 refine A.yes rfl ?_
 refine GE ?_
 refine TL ?_
 refine RA rfl ?_
 refine RN ?_
 refine EN ?_
 refine A.seq ?_
 refine GD ?_
 refine TL ?_
 refine RM rfl ?_
 refine RS (ok_str (l := nonceL s c) Try.underlying26 Try.underlying5 Try.underlying9 rfl ((fresh_bytes (nonceL_length s c).symm (by decide)).trans (le_byt _ _))) ?_
 refine RS (ok_loadA (s := 1000003) (by decide) Try.underlying25 rfl (size25.of (rfl)) rfl rfl) ?_
 refine RS (ok_call (ref8Put_fn s c hs hc) (A1 rfl)) ?_
 refine RS (ok_str (l := nonceL s c) Try.underlying26 Try.underlying5 Try.underlying9 rfl LA) ?_
 refine RS (ok_sne rfl rfl) ?_; refine RZ (.bool false) (by simp) ?_
 refine RM rfl ?_
 refine RQ (ok_move rfl) ?_
 refine RQ (ok_cap Try.underlying26 rfl (fresh_bytes (nonceL_length s c).symm (by decide))) ?_
 refine RQ (ok_move rfl) ?_
 refine RQ (ok_lenB Try.underlying26 rfl ((fresh_bytes (nonceL_length s c).symm (by decide)).trans (le_byt _ _))) ?_
 refine RQ (ok_bin rfl rfl rfl) ?_; refine RZ (.bool false) (by rw [nonceL_length]; rfl) ?_
 refine RP rfl rfl ?_
 refine RM rfl ?_
 refine RQ (ok_loadA (s := 1000009) (by decide) Try.underlying25 rfl (size25.of (rfl)) rfl rfl) ?_
 refine RQ (ok_loadA (s := 1000003) (by decide) Try.underlying25 rfl (size25.of (rfl)) rfl rfl) ?_
 refine RQ (ok_neqT (n := 3) true flatN (by decide) (by kernel_rfl) (by kernel_rfl) rfl rfl (kinN _ _) (kinN _ _) ⟨fun _ => rfl, fun _ => rfl⟩) ?_; refine RZ (.bool false) (by rfl) ?_
 refine RP rfl rfl ?_
 refine RM rfl ?_
 refine RQ (ok_move rfl) ?_
 refine RQ (ok_bin rfl rfl rfl) ?_; refine RZ (.bool false) (by rfl) ?_
 refine RP rfl rfl ?_
 refine RM rfl ?_
 refine RQ (ok_loadA (s := 1000003) (by decide) Try.underlying25 rfl (size25.of (rfl)) rfl rfl) ?_
 refine RQ (ok_loadA (s := 1000004) (by decide) Try.underlying25 rfl (size25.of (rfl)) rfl rfl) ?_
 refine RQ (ok_call (Compare_fn s c s' c') (A2 rfl rfl)) ?_; refine RZ (.int .i64 (1)) (congrArg (Value.int .i64) (cmpN_more h h2)) ?_
 refine RQ (ok_move rfl) ?_
 refine RQ (ok_bin rfl rfl rfl) ?_; refine RZ (.bool false) (by rfl) ?_
 refine RP rfl rfl ?_
 refine RM rfl ?_
 refine RQ (ok_loadA (s := 1000004) (by decide) Try.underlying25 rfl (size25.of (rfl)) rfl rfl) ?_
 refine RQ (ok_loadA (s := 1000003) (by decide) Try.underlying25 rfl (size25.of (rfl)) rfl rfl) ?_
 refine RQ (ok_call (Compare_fn s' c' s c) (A2 rfl rfl)) ?_; refine RZ (.int .i64 (-1)) (congrArg (Value.int .i64) (by rw [cmpN_neg, cmpN_more h h2])) ?_
 refine RQ (ok_move rfl) ?_
 refine RQ (ok_neg rfl) ?_; refine RZ (.int .i64 (-1)) (by rfl) ?_
 refine RQ (ok_bin rfl rfl rfl) ?_; refine RZ (.bool false) (by rfl) ?_
 refine RP rfl rfl ?_
 refine RN ?_
 refine A.sub (KC 2 rfl (KC 73 rfl (KC 1000003 rfl (KC 1000004 rfl (KC 1000009 rfl KN))))) ?_
 refine A.no rfl ?_
 refine A.skip ?_
 refine EN ?_
 refine GS ?_
 refine TN 5 ?_
 refine RM rfl ?_
 refine RS (ok_call (Get_fn l) (Args.cons rfl (Le.old _ _) Args.nil)) ?_
 refine RM rfl ?_
 refine RS (ok_extract rfl rfl) ?_
 refine RS (ok_extract rfl rfl) ?_
 refine RN ?_
 refine ⟨_, _, eff_alloc (n := 120) (d := 12) (k := 1000012) zero25 (by decide), fun b12 hb12 => ?_⟩
 have hBb12 := hb12.1
 have hlt_b3_b12 : b3 < b12 := hb12.2 1000003 _ _ _ rfl
 have hlt_b4_b12 : b4 < b12 := hb12.2 1000004 _ _ _ rfl
 have hlt_b9_b12 : b9 < b12 := hb12.2 1000009 _ _ _ rfl
 refine TF 6 ?_
 refine RN ?_
 refine ⟨_, eff_storeA (n := 120) (s := 1000012) (size25.of (rfl)) rfl rfl (rfl) hBb12 rfl (rfl) (LO 2 rfl (LV 12 rfl (LV 78 rfl (LB 1000003 rfl (LB 1000004 rfl (LB 1000009 rfl LN)))))), ?_⟩
 refine TL ?_
 refine RA rfl ?_
 refine RN ?_
 refine A.seq ?_
 refine A.block ?_
 refine GS ?_
 refine TL ?_
 refine RM rfl ?_
 refine RS (ok_lenB Try.underlying26 rfl LA) ?_
 refine RB rfl rfl rfl ?_
 refine RA rfl ?_
 refine RN ?_
 refine A.cond rfl (fun hc79 => ?_) (fun hc79 => ?_)
 ·have h82 : l.length < 12 := by simp at hc79; omega
  refine GS ?_
  refine TL ?_
  refine RM rfl ?_
  refine RBS rfl rfl rfl (.bool true) (by rw [gE, if_pos h82]; rfl) ?_
  refine RM rfl ?_
  refine RQ (ok_loadA (s := 1000012) (by decide) Try.underlying25 rfl (size25.of (rfl)) rfl rfl) ?_
  refine RQ (ok_lit [] ([.int .u32 0] ++ [.int .u64 0]) (fun _ _ => rfl) (by kernel_rfl)) ?_
  refine RQ (ok_eqlT (n := 3) true flatN (by decide) (by kernel_rfl) (by kernel_rfl) rfl rfl (kinN _ _) (kinN _ _) ⟨fun _ => by rw [gS, gC, if_neg (by omega), if_neg (by omega)]; rfl, fun _ => rfl⟩) ?_
  refine RP rfl rfl ?_
  refine RM rfl ?_
  refine RQ (ok_call lives8_fn Args.nil) ?_
  refine RP rfl rfl ?_
  refine RA rfl ?_
  refine RN ?_
  refine A.ret ?_
  refine End.ret_block ?_
  refine End.ret_then ?_
  exact End.ret1 rfl rfl (by first | exact Le.refl _ | exact Le.old _ _)
 ·have h82 : 12 ≤ l.length := by simp at hc79; omega
  refine GS ?_
  refine TL ?_
  refine RM rfl ?_
  refine RS (ok_lenB Try.underlying26 rfl LA) ?_
  refine RB rfl rfl rfl ?_
  refine RA rfl ?_
  refine RN ?_
  refine A.cond rfl (fun hc93 => ?_) (fun hc93 => ?_)
  ·have h96 : 12 < l.length := by simp at hc93; omega
   refine GS ?_
   refine TL ?_
   refine RM rfl ?_
   refine RBS rfl rfl rfl (.bool true) (by rw [gE, if_neg (by omega), if_neg (by omega)]; rfl) ?_
   refine RM rfl ?_
   refine RQ (ok_loadA (s := 1000012) (by decide) Try.underlying25 rfl (size25.of (rfl)) rfl rfl) ?_
   refine RQ (ok_lit [] ([.int .u32 0] ++ [.int .u64 0]) (fun _ _ => rfl) (by kernel_rfl)) ?_
   refine RQ (ok_eqlT (n := 3) true flatN (by decide) (by kernel_rfl) (by kernel_rfl) rfl rfl (kinN _ _) (kinN _ _) ⟨fun _ => by rw [gS, gC, if_neg (by omega), if_neg (by omega)]; rfl, fun _ => rfl⟩) ?_
   refine RP rfl rfl ?_
   refine RM rfl ?_
   refine RQ (ok_call lives8_fn Args.nil) ?_
   refine RP rfl rfl ?_
   refine RA rfl ?_
   refine RN ?_
   refine A.sub (KC 6 rfl (KC 1000003 rfl (KC 1000004 rfl (KC 1000009 rfl (KC 1000012 rfl KN))))) ?_
   refine A.ret ?_
   refine End.ret_block ?_
   refine End.ret_then ?_
   exact End.ret1 rfl rfl (by first | exact Le.refl _ | exact Le.old _ _)
  ·have h12 : l.length = 12 := by simp at hc93; omega
   refine A.skip ?_
   refine End.normal_block ?_
   refine EN ?_
   refine GD ?_
   refine TL ?_
   refine RM rfl ?_
   refine RBS rfl rfl rfl (.bool true) (by rw [gE, if_neg (by omega), if_pos h12]; rfl) ?_
   refine RM rfl ?_
   refine RQ (ok_loadA (s := 1000012) (by decide) Try.underlying25 rfl (size25.of (rfl)) rfl rfl) ?_
   refine RQ (ok_call (Put_fn (gS l) (gC l) (gS_lt l) (gC_lt l)) (A1 rfl)) ?_
   refine RQ (ok_str (l := nonceL (gS l) (gC l)) Try.underlying26 Try.underlying5 Try.underlying9 rfl LA) ?_
   refine RQ (ok_move rfl) ?_
   refine RQ (ok_str (l := l) Try.underlying26 Try.underlying5 Try.underlying9 rfl LA) ?_
   refine RQ (ok_seq rfl rfl) ?_; refine RZ (.bool true) (by rw [nonce_back h12]; simp) ?_
   refine RP rfl rfl ?_
   refine RM rfl ?_
   refine RQ (ok_call lives8_fn Args.nil) ?_
   refine RP rfl rfl ?_
   refine RA rfl ?_
   refine RN ?_
   refine A.sub (KC 6 rfl (KC 1000003 rfl (KC 1000004 rfl (KC 1000009 rfl (KC 1000012 rfl KN))))) ?_
   refine A.ret ?_
   exact End.ret1 rfl rfl (by first | exact Le.refl _ | exact Le.old _ _)
theorem NoncesBytes_fn (s c s' c' : Nat) (l : List UInt8) (hs : s < 4294967296) (hc : c < 18446744073709551616) (hs' : s' < 4294967296) (hc' : c' < 18446744073709551616) : Fn Try.prog 3 [.v (aggV ([nW s, nQ c])), .v (aggV ([nW s', nQ c'])), byt l] (.v (.bool true)) := by
 by_cases h0 : l.length ≤ 20
 ·by_cases h : (s < s' ∨ s = s' ∧ c < c')
  ·exact NoncesBytes_less s c s' c' l hs hc hs' hc' h0 h
  ·by_cases h2 : (s = s' ∧ c = c')
   ·exact NoncesBytes_same s c s' c' l hs hc hs' hc' h0 h2
   ·exact NoncesBytes_more s c s' c' l hs hc hs' hc' h0 h h2
 ·exact NoncesBytes_long s c s' c' l hs hc hs' hc' (by omega)
set_option maxHeartbeats 4000000 in
theorem NoncesKnown_fn  : Fn Try.prog 7 [] (.v (.bool true)) := by
 refine Fn.of Try.func7 rfl (by kernel_rfl) Try.ntmps7 (by simp) (fun w => []) (fun w => Start.nil) fun w₀ => ?_
 refine GS ?_
 refine TL ?_
 refine RA rfl ?_
 refine RN ?_
 refine GS ?_
 refine TL ?_
 refine RA rfl ?_
 refine RN ?_
 refine GS ?_
 refine TN 2 ?_
 refine RM rfl ?_
 refine RBS rfl rfl rfl (nQ 18446744073709551614) (by kernel_rfl) ?_
 refine RN ?_
 refine ⟨_, _, eff_nameF (c := 1) rfl (n := 126) (d := 21) (k := 1000021) rfl rfl (fun B' => ok_buildF [qV 18446744073709551614] Try.underlying34 info23 rfl (by decide) (by decide) rfl ⟨rfl, rfl, trivial⟩ rfl) (by decide) (by decide), fun b21 hb21 => ?_⟩
 have hBb21 := hb21.1
 refine TN 6 ?_
 refine RM rfl ?_
 refine RM rfl ?_
 refine RS (ok_litS [(0, .slice (some ⟨b21, 0, none⟩) (1) (1)), (1, qV 18446744073709551615), (2, qV 18446744073709551615), (3, qV 4294967296)] (.slice (some ⟨b21, 0, none⟩) (1) (1) :: alR 18446744073709551615 18446744073709551615 4294967296) ⟨rfl, rfl, rfl, rfl, rfl, rfl, rfl, rfl, trivial⟩ (buildA _ _ _ _ _ _)) ?_
 refine RN ?_
 refine ⟨_, _, eff_alloc (n := 126) (d := 2) (k := 1000002) zero36 (by decide), fun b2 hb2 => ?_⟩
 have hBb2 := hb2.1
 refine TF 7 ?_
 refine RN ?_
 refine ⟨_, eff_storeA (n := 126) (s := 1000002) (size36.of (rfl)) rfl rfl (rfl) hBb2 rfl (rfl) (LV 1 rfl (LV 2 rfl (LT 1000021 rfl LN))), ?_⟩
 refine TL ?_
 refine RN ?_
 refine GS ?_
 refine TN 1 ?_
 refine RS (OpOk.fact (ok_loadA (s := 1000002) (by decide) Try.underlying36 rfl (size36.of (rfl)) rfl rfl) (d := hdD (vlst (rowQ [18446744073709551614])) (alR 18446744073709551615 18446744073709551615 4294967296)) (s := 1000021) (by decide) rfl (hd_ofL (rowQ [18446744073709551614]) (alR 18446744073709551615 18446744073709551615 4294967296) rfl (Nat.le_refl _) (by decide) rfl)) ?_
 refine RN ?_
 refine ⟨_, _, eff_name (n := 126) (d := 27) (k := 1000027) rfl rfl (fun B' => ok_callB (Take_ok [18446744073709551614] 18446744073709551615 18446744073709551615 4294967296 0 (by decide) (by unfold Valid; decide) (by decide) (by decide)) newD_mono (A2 rfl rfl)) (by decide) (by decide), fun b27 hb27 => ?_⟩
 have hBb27 := hb27.1
 have hlt_b2_b27 : b2 < b27 := hb27.2 1000002 _ _ _ rfl
 have hlt_b21_b27 : b21 < b27 := hb27.2 1000021 _ _ _ rfl
 refine TN 6 ?_
 refine RM rfl ?_
 refine RS (ok_extractV rfl rfl) ?_
 refine RS (ok_extractV rfl rfl) ?_
 refine RS (ok_extractV rfl rfl) ?_
 refine RN ?_
 refine ⟨_, _, eff_alloc (n := 126) (d := 3) (k := 1000003) zero25 (by decide), fun b3 hb3 => ?_⟩
 have hBb3 := hb3.1
 refine TN 7 ?_
 refine RN ?_
 refine ⟨_, _, eff_alloc (n := 126) (d := 4) (k := 1000004) zero36 (by decide), fun b4 hb4 => ?_⟩
 have hBb4 := hb4.1
 have hlt_b2_b4 : b2 < b4 := hb4.2 1000002 _ _ _ rfl
 refine TF 8 ?_
 refine RN ?_
 refine ⟨_, eff_storeA (n := 126) (s := 1000003) (size25.of (rfl)) rfl rfl (rfl) hBb3 rfl (rfl) (LV 1 rfl (LV 2 rfl (LV 3 rfl (LV 4 rfl (LV 29 rfl (LV 30 rfl (LT 1000002 rfl (LT 1000004 rfl (LT 1000021 rfl (LT 1000027 rfl LN)))))))))), ?_⟩
 refine TF 9 ?_
 refine RN ?_
 refine ⟨_, eff_storeA (n := 126) (s := 1000004) (size36.of (rfl)) rfl rfl (rfl) hBb4 rfl (rfl) (LV 1 rfl (LV 2 rfl (LV 3 rfl (LV 4 rfl (LV 30 rfl (LB 1000002 rfl (LT 1000003 rfl (LT 1000021 rfl (LT 1000027 rfl LN))))))))), ?_⟩
 refine TL ?_
 refine RA rfl ?_
 refine RN ?_
 refine GS ?_
 refine TN 6 ?_
 refine RS (OpOk.fact (ok_loadA (s := 1000004) (by decide) Try.underlying36 rfl (size36.of (rfl)) rfl rfl) (d := hdD (vlst (rowQ ([18446744073709551614].set 0 ([18446744073709551614].getD 0 0 + 1)))) (alR 18446744073709551615 18446744073709551615 4294967296)) (s := 1000027) (by decide) rfl (hd_ofL (rowQ ([18446744073709551614].set 0 ([18446744073709551614].getD 0 0 + 1))) (alR 18446744073709551615 18446744073709551615 4294967296) rfl (Nat.le_refl _) (by decide) rfl)) ?_
 refine RS (ok_call (Take_state ([18446744073709551614].set 0 ([18446744073709551614].getD 0 0 + 1)) 18446744073709551615 18446744073709551615 4294967296 0 (by decide) (by unfold Valid; decide) (by decide)) (A2 rfl rfl)) ?_
 refine RM rfl ?_
 refine RS (ok_extractV rfl rfl) ?_
 refine RS (ok_extractV rfl rfl) ?_
 refine RS (ok_extractV rfl rfl) ?_
 refine RN ?_
 refine ⟨_, _, eff_alloc (n := 126) (d := 6) (k := 1000006) zero25 (by decide), fun b6 hb6 => ?_⟩
 have hBb6 := hb6.1
 have hlt_b3_b6 : b3 < b6 := hb6.2 1000003 _ _ _ rfl
 refine TN 7 ?_
 refine RN ?_
 refine ⟨_, _, eff_alloc (n := 126) (d := 7) (k := 1000007) zero36 (by decide), fun b7 hb7 => ?_⟩
 have hBb7 := hb7.1
 have hlt_b2_b7 : b2 < b7 := hb7.2 1000002 _ _ _ rfl
 have hlt_b4_b7 : b4 < b7 := hb7.2 1000004 _ _ _ rfl
 refine TF 8 ?_
 refine RN ?_
 refine ⟨_, eff_storeA (n := 126) (s := 1000006) (size25.of (rfl)) rfl rfl (rfl) hBb6 rfl (rfl) (LV 1 rfl (LV 2 rfl (LV 3 rfl (LV 4 rfl (LV 5 rfl (LV 7 rfl (LV 35 rfl (LV 36 rfl (LT 1000002 rfl (LB 1000003 rfl (LT 1000004 rfl (LT 1000007 rfl (LT 1000021 rfl (LT 1000027 rfl LN)))))))))))))), ?_⟩
 refine TF 9 ?_
 refine RN ?_
 refine ⟨_, eff_storeA (n := 126) (s := 1000007) (size36.of (rfl)) rfl rfl (rfl) hBb7 rfl (rfl) (LV 1 rfl (LV 2 rfl (LV 3 rfl (LV 4 rfl (LV 5 rfl (LV 36 rfl (LB 1000002 rfl (LT 1000003 rfl (LB 1000004 rfl (LT 1000006 rfl (LT 1000021 rfl (LT 1000027 rfl LN)))))))))))), ?_⟩
 refine TL ?_
 refine RA rfl ?_
 refine RN ?_
 refine A.sub (KC 1 rfl (KC 2 rfl (KC 3 rfl (KC 4 rfl (KC 5 rfl (KC 8 rfl (KC 1000002 rfl (KC 1000003 rfl (KC 1000004 rfl (KC 1000006 rfl (KC 1000007 rfl (KC 1000021 rfl (KC 1000027 rfl KN))))))))))))) ?_
 refine GS ?_
 refine TN 5 ?_
 refine RS (OpOk.fact (ok_loadA (s := 1000004) (by decide) Try.underlying36 rfl (size36.of (rfl)) rfl rfl) (d := hdD (vlst (rowQ ([18446744073709551614].set 0 ([18446744073709551614].getD 0 0 + 1)))) (alR 18446744073709551615 18446744073709551615 4294967296)) (s := 1000027) (by decide) rfl (hd_ofL (rowQ ([18446744073709551614].set 0 ([18446744073709551614].getD 0 0 + 1))) (alR 18446744073709551615 18446744073709551615 4294967296) rfl (Nat.le_refl _) (by decide) rfl)) ?_
 refine RS (ok_call (Extend_nonce ([18446744073709551614].set 0 ([18446744073709551614].getD 0 0 + 1)) 18446744073709551615 18446744073709551615 4294967296 (by unfold Valid; decide) (by decide) (by decide)) (A1 rfl)) ?_
 refine RM rfl ?_
 refine RS (ok_extractV rfl rfl) ?_
 refine RS (ok_extractV rfl rfl) ?_
 refine RN ?_
 refine ⟨_, _, eff_alloc (n := 126) (d := 9) (k := 1000009) zero36 (by decide), fun b9 hb9 => ?_⟩
 have hBb9 := hb9.1
 have hlt_b2_b9 : b2 < b9 := hb9.2 1000002 _ _ _ rfl
 have hlt_b4_b9 : b4 < b9 := hb9.2 1000004 _ _ _ rfl
 have hlt_b7_b9 : b7 < b9 := hb9.2 1000007 _ _ _ rfl
 refine TF 6 ?_
 refine RN ?_
 refine ⟨_, eff_storeA (n := 126) (s := 1000009) (size36.of (rfl)) rfl rfl (rfl) hBb9 rfl (rfl) (LV 1 rfl (LV 2 rfl (LV 3 rfl (LV 5 rfl (LV 8 rfl (LV 41 rfl (LB 1000002 rfl (LT 1000003 rfl (LB 1000004 rfl (LT 1000006 rfl (LB 1000007 rfl (LT 1000021 rfl (LT 1000027 rfl LN))))))))))))), ?_⟩
 refine TL ?_
 refine RA rfl ?_
 refine RN ?_
 refine A.seq ?_
 refine GS ?_
 refine TL ?_
 refine RS (ok_loadA (s := 1000003) (by decide) Try.underlying25 rfl (size25.of (rfl)) rfl rfl) ?_
 refine RM rfl ?_
 refine RBS rfl rfl rfl (nQ 18446744073709551614) (by kernel_rfl) ?_
 refine RS (ok_litS [(1, nQ 18446744073709551614)] [nW 0, nQ 18446744073709551614] ⟨rfl, rfl, trivial⟩ (buildN1 18446744073709551614)) ?_
 refine RS (ok_neqT (n := 3) true flatN (by decide) (by kernel_rfl) (by kernel_rfl) rfl rfl (kinN _ _) (kinN _ _) ⟨fun _ => by rfl, fun _ => rfl⟩) ?_; refine RZ (.bool false) (by kernel_rfl) ?_
 refine RM rfl ?_
 refine RQ (ok_move rfl) ?_
 refine RQ (ok_bin rfl rfl rfl) ?_; refine RZ (.bool false) (by kernel_rfl) ?_
 refine RP rfl rfl ?_
 refine RM rfl ?_
 refine RQ (ok_move rfl) ?_
 refine RQ (ok_bin rfl rfl rfl) ?_; refine RZ (.bool false) (by kernel_rfl) ?_
 refine RP rfl rfl ?_
 refine RM rfl ?_
 refine RQ (ok_move rfl) ?_
 refine RQ (ok_bin rfl rfl rfl) ?_; refine RZ (.bool false) (by kernel_rfl) ?_
 refine RP rfl rfl ?_
 refine RN ?_
 refine A.sub (KC 1 rfl (KC 2 rfl (KC 58 rfl (KC 1000002 rfl (KC 1000003 rfl (KC 1000004 rfl (KC 1000006 rfl (KC 1000007 rfl (KC 1000009 rfl (KC 1000021 rfl (KC 1000027 rfl KN))))))))))) ?_
 refine A.no rfl ?_
 refine A.skip ?_
 refine EN ?_
 refine GS ?_
 refine TF 3 ?_
 refine RM rfl ?_
 refine RBS rfl rfl rfl (nQ 18446744069414584319) (by kernel_rfl) ?_
 refine RS (ok_field field36_1 (by decide) rfl) ?_
 refine RN ?_
 refine ⟨_, eff_storeS (n := 126) (s := 1000002) info23 rfl rfl rfl hBb2 rfl (by simp [alR]) (LV 1 rfl (LV 2 rfl (LT 1000003 rfl (LB 1000004 rfl (LT 1000006 rfl (LB 1000007 rfl (LB 1000009 rfl (LT 1000021 rfl (LT 1000027 rfl LN))))))))), ?_⟩
 refine TL ?_
 refine RN ?_
 refine GS ?_
 refine TN 2 ?_
 refine RS (ok_field field36_1 (by decide) rfl) ?_
 refine RS (ok_loadV (s := 1000002) (by decide) Try.underlying23 rfl rfl rfl (rfl)) ?_
 refine RN ?_
 refine ⟨_, _, eff_nameF (c := 2) rfl (n := 126) (d := 64) (k := 1000064) rfl rfl (fun B' => ok_buildF [qV 0, qV 18446744069414584319] Try.underlying34 info23 rfl (by decide) (by decide) rfl ⟨rfl, rfl, rfl, rfl, trivial⟩ rfl) (by decide) (by decide), fun b64 hb64 => ?_⟩
 have hBb64 := hb64.1
 have hlt_b2_b64 : b2 < b64 := hb64.2 1000002 _ _ _ rfl
 have hlt_b3_b64 : b3 < b64 := hb64.2 1000003 _ _ _ rfl
 have hlt_b4_b64 : b4 < b64 := hb64.2 1000004 _ _ _ rfl
 have hlt_b6_b64 : b6 < b64 := hb64.2 1000006 _ _ _ rfl
 have hlt_b7_b64 : b7 < b64 := hb64.2 1000007 _ _ _ rfl
 have hlt_b9_b64 : b9 < b64 := hb64.2 1000009 _ _ _ rfl
 have hlt_b21_b64 : b21 < b64 := hb64.2 1000021 _ _ _ rfl
 have hlt_b27_b64 : b27 < b64 := hb64.2 1000027 _ _ _ rfl
 refine TF 4 ?_
 refine RS (ok_field field36_0 (by decide) rfl) ?_
 refine RN ?_
 refine ⟨_, eff_storeS (n := 126) (s := 1000002) info34 rfl rfl rfl hBb2 rfl (by simp) (LV 1 rfl (LV 2 rfl (LT 1000003 rfl (LB 1000004 rfl (LT 1000006 rfl (LB 1000007 rfl (LB 1000009 rfl (LT 1000021 rfl (LT 1000027 rfl (LT 1000064 rfl LN)))))))))), ?_⟩
 refine TL ?_
 refine RN ?_
 refine GS ?_
 refine TN 1 ?_
 refine RS (OpOk.fact (ok_loadA (s := 1000002) (by decide) Try.underlying36 rfl (size36.of (rfl)) rfl rfl) (d := hdD (vlst (rowQ [0, 18446744069414584319])) (alR 18446744069414584319 18446744073709551615 4294967296)) (s := 1000064) (by decide) rfl (hd_ofL (rowQ [0, 18446744069414584319]) (alR 18446744069414584319 18446744073709551615 4294967296) rfl (Nat.le_refl _) (by decide) rfl)) ?_
 refine RN ?_
 refine ⟨_, _, eff_name (n := 126) (d := 68) (k := 1000068) rfl rfl (fun B' => ok_callB (Extend_ok [0, 18446744069414584319] 18446744069414584319 18446744073709551615 4294967296 (by unfold Valid; decide) (by decide) (by decide)) newD_mono (A1 rfl)) (by decide) (by decide), fun b68 hb68 => ?_⟩
 have hBb68 := hb68.1
 have hlt_b2_b68 : b2 < b68 := hb68.2 1000002 _ _ _ rfl
 have hlt_b3_b68 : b3 < b68 := hb68.2 1000003 _ _ _ rfl
 have hlt_b4_b68 : b4 < b68 := hb68.2 1000004 _ _ _ rfl
 have hlt_b6_b68 : b6 < b68 := hb68.2 1000006 _ _ _ rfl
 have hlt_b7_b68 : b7 < b68 := hb68.2 1000007 _ _ _ rfl
 have hlt_b9_b68 : b9 < b68 := hb68.2 1000009 _ _ _ rfl
 have hlt_b21_b68 : b21 < b68 := hb68.2 1000021 _ _ _ rfl
 have hlt_b27_b68 : b27 < b68 := hb68.2 1000027 _ _ _ rfl
 have hlt_b64_b68 : b64 < b68 := hb68.2 1000064 _ _ _ rfl
 refine TN 5 ?_
 refine RM rfl ?_
 refine RS (ok_extractV rfl rfl) ?_
 refine RS (ok_extractV rfl rfl) ?_
 refine RN ?_
 refine ⟨_, _, eff_alloc (n := 126) (d := 11) (k := 1000011) zero36 (by decide), fun b11 hb11 => ?_⟩
 have hBb11 := hb11.1
 have hlt_b2_b11 : b2 < b11 := hb11.2 1000002 _ _ _ rfl
 have hlt_b4_b11 : b4 < b11 := hb11.2 1000004 _ _ _ rfl
 have hlt_b7_b11 : b7 < b11 := hb11.2 1000007 _ _ _ rfl
 have hlt_b9_b11 : b9 < b11 := hb11.2 1000009 _ _ _ rfl
 refine TF 6 ?_
 refine RN ?_
 refine ⟨_, eff_storeA (n := 126) (s := 1000011) (size36.of (rfl)) rfl rfl (rfl) hBb11 rfl (rfl) (LV 1 rfl (LV 2 rfl (LV 11 rfl (LV 70 rfl (LB 1000002 rfl (LT 1000003 rfl (LB 1000004 rfl (LT 1000006 rfl (LB 1000007 rfl (LB 1000009 rfl (LT 1000021 rfl (LT 1000027 rfl (LT 1000064 rfl (LT 1000068 rfl LN)))))))))))))), ?_⟩
 refine TL ?_
 refine RA rfl ?_
 refine RN ?_
 refine GS ?_
 refine TF 4 ?_
 refine RS (ok_field field36_1 (by decide) rfl) ?_
 refine RS (ok_loadV (s := 1000002) (by decide) Try.underlying23 rfl rfl rfl (rfl)) ?_
 refine RBS rfl rfl rfl (nQ 18446744069414584320) (by kernel_rfl) ?_
 refine RS (ok_field field36_1 (by decide) rfl) ?_
 refine RN ?_
 refine ⟨_, eff_storeS (n := 126) (s := 1000002) info23 rfl rfl rfl hBb2 rfl (by simp [alR]) (LV 1 rfl (LV 2 rfl (LV 11 rfl (LV 12 rfl (LT 1000003 rfl (LB 1000004 rfl (LT 1000006 rfl (LB 1000007 rfl (LB 1000009 rfl (LB 1000011 rfl (LT 1000021 rfl (LT 1000027 rfl (LT 1000064 rfl (LT 1000068 rfl LN)))))))))))))), ?_⟩
 refine TL ?_
 refine RN ?_
 refine GS ?_
 refine TN 5 ?_
 refine RS (OpOk.fact (ok_loadA (s := 1000002) (by decide) Try.underlying36 rfl (size36.of (rfl)) rfl rfl) (d := hdD (vlst (rowQ [0, 18446744069414584319])) (alR 18446744069414584320 18446744073709551615 4294967296)) (s := 1000064) (by decide) rfl (hd_ofL (rowQ [0, 18446744069414584319]) (alR 18446744069414584320 18446744073709551615 4294967296) rfl (Nat.le_refl _) (by decide) rfl)) ?_
 refine RS (ok_call (Extend_nonce [0, 18446744069414584319] 18446744069414584320 18446744073709551615 4294967296 (by unfold Valid; decide) (by decide) (by decide)) (A1 rfl)) ?_
 refine RM rfl ?_
 refine RS (ok_extractV rfl rfl) ?_
 refine RS (ok_extractV rfl rfl) ?_
 refine RN ?_
 refine ⟨_, _, eff_alloc (n := 126) (d := 13) (k := 1000013) zero36 (by decide), fun b13 hb13 => ?_⟩
 have hBb13 := hb13.1
 have hlt_b2_b13 : b2 < b13 := hb13.2 1000002 _ _ _ rfl
 have hlt_b4_b13 : b4 < b13 := hb13.2 1000004 _ _ _ rfl
 have hlt_b7_b13 : b7 < b13 := hb13.2 1000007 _ _ _ rfl
 have hlt_b9_b13 : b9 < b13 := hb13.2 1000009 _ _ _ rfl
 have hlt_b11_b13 : b11 < b13 := hb13.2 1000011 _ _ _ rfl
 refine TF 6 ?_
 refine RN ?_
 refine ⟨_, eff_storeA (n := 126) (s := 1000013) (size36.of (rfl)) rfl rfl (rfl) hBb13 rfl (rfl) (LV 1 rfl (LV 11 rfl (LV 12 rfl (LV 79 rfl (LB 1000002 rfl (LT 1000003 rfl (LB 1000004 rfl (LT 1000006 rfl (LB 1000007 rfl (LB 1000009 rfl (LB 1000011 rfl (LT 1000021 rfl (LT 1000027 rfl (LT 1000064 rfl (LT 1000068 rfl LN))))))))))))))), ?_⟩
 refine TL ?_
 refine RA rfl ?_
 refine RN ?_
 refine A.sub (KC 1 rfl (KC 11 rfl (KC 12 rfl (KC 14 rfl (KC 1000002 rfl (KC 1000003 rfl (KC 1000004 rfl (KC 1000006 rfl (KC 1000007 rfl (KC 1000009 rfl (KC 1000011 rfl (KC 1000013 rfl (KC 1000021 rfl (KC 1000027 rfl (KC 1000064 rfl (KC 1000068 rfl KN)))))))))))))))) ?_
 refine GS ?_
 refine TN 1 ?_
 refine RM rfl ?_
 refine RN ?_
 refine ⟨_, _, eff_name (n := 126) (d := 82) (k := 1000082) rfl rfl (fun B' => ok_callB (New_C 8 18446744073709551615 4294967296 (by decide) (by decide) (by unfold Valid; decide)) newD_mono (A3 rfl rfl rfl)) (by decide) (by decide), fun b82 hb82 => ?_⟩
 have hBb82 := hb82.1
 have hlt_b2_b82 : b2 < b82 := hb82.2 1000002 _ _ _ rfl
 have hlt_b3_b82 : b3 < b82 := hb82.2 1000003 _ _ _ rfl
 have hlt_b4_b82 : b4 < b82 := hb82.2 1000004 _ _ _ rfl
 have hlt_b6_b82 : b6 < b82 := hb82.2 1000006 _ _ _ rfl
 have hlt_b7_b82 : b7 < b82 := hb82.2 1000007 _ _ _ rfl
 have hlt_b9_b82 : b9 < b82 := hb82.2 1000009 _ _ _ rfl
 have hlt_b11_b82 : b11 < b82 := hb82.2 1000011 _ _ _ rfl
 have hlt_b13_b82 : b13 < b82 := hb82.2 1000013 _ _ _ rfl
 have hlt_b21_b82 : b21 < b82 := hb82.2 1000021 _ _ _ rfl
 have hlt_b27_b82 : b27 < b82 := hb82.2 1000027 _ _ _ rfl
 have hlt_b64_b82 : b64 < b82 := hb82.2 1000064 _ _ _ rfl
 have hlt_b68_b82 : b68 < b82 := hb82.2 1000068 _ _ _ rfl
 refine TN 5 ?_
 refine RM rfl ?_
 refine RS (ok_extractV rfl rfl) ?_
 refine RS (ok_extractV rfl rfl) ?_
 refine RN ?_
 refine ⟨_, _, eff_alloc (n := 126) (d := 15) (k := 1000015) zero36 (by decide), fun b15 hb15 => ?_⟩
 have hBb15 := hb15.1
 have hlt_b2_b15 : b2 < b15 := hb15.2 1000002 _ _ _ rfl
 have hlt_b4_b15 : b4 < b15 := hb15.2 1000004 _ _ _ rfl
 have hlt_b7_b15 : b7 < b15 := hb15.2 1000007 _ _ _ rfl
 have hlt_b9_b15 : b9 < b15 := hb15.2 1000009 _ _ _ rfl
 have hlt_b11_b15 : b11 < b15 := hb15.2 1000011 _ _ _ rfl
 have hlt_b13_b15 : b13 < b15 := hb15.2 1000013 _ _ _ rfl
 refine TF 6 ?_
 refine RN ?_
 refine ⟨_, eff_storeA (n := 126) (s := 1000015) (size36.of (rfl)) rfl rfl (rfl) hBb15 rfl (rfl) (LV 1 rfl (LV 11 rfl (LV 12 rfl (LV 14 rfl (LV 15 rfl (LV 84 rfl (LB 1000002 rfl (LT 1000003 rfl (LB 1000004 rfl (LT 1000006 rfl (LB 1000007 rfl (LB 1000009 rfl (LB 1000011 rfl (LB 1000013 rfl (LT 1000021 rfl (LT 1000027 rfl (LT 1000064 rfl (LT 1000068 rfl (LT 1000082 rfl LN))))))))))))))))))), ?_⟩
 refine TL ?_
 refine RA rfl ?_
 refine RN ?_
 refine GS ?_
 refine TN 5 ?_
 refine RM rfl ?_
 refine RS (ok_call (New_B 8 18446744073709551615 4294967297 (by decide) (by decide) (by unfold Valid; decide)) (A3 rfl rfl rfl)) ?_
 refine RM rfl ?_
 refine RS (ok_extractV rfl rfl) ?_
 refine RS (ok_extractV rfl rfl) ?_
 refine RN ?_
 refine ⟨_, _, eff_alloc (n := 126) (d := 17) (k := 1000017) zero36 (by decide), fun b17 hb17 => ?_⟩
 have hBb17 := hb17.1
 have hlt_b2_b17 : b2 < b17 := hb17.2 1000002 _ _ _ rfl
 have hlt_b4_b17 : b4 < b17 := hb17.2 1000004 _ _ _ rfl
 have hlt_b7_b17 : b7 < b17 := hb17.2 1000007 _ _ _ rfl
 have hlt_b9_b17 : b9 < b17 := hb17.2 1000009 _ _ _ rfl
 have hlt_b11_b17 : b11 < b17 := hb17.2 1000011 _ _ _ rfl
 have hlt_b13_b17 : b13 < b17 := hb17.2 1000013 _ _ _ rfl
 have hlt_b15_b17 : b15 < b17 := hb17.2 1000015 _ _ _ rfl
 refine TF 6 ?_
 refine RN ?_
 refine ⟨_, eff_storeA (n := 126) (s := 1000017) (size36.of (rfl)) rfl rfl (rfl) hBb17 rfl (rfl) (LV 1 rfl (LV 11 rfl (LV 12 rfl (LV 14 rfl (LV 15 rfl (LV 16 rfl (LV 89 rfl (LB 1000002 rfl (LT 1000003 rfl (LB 1000004 rfl (LT 1000006 rfl (LB 1000007 rfl (LB 1000009 rfl (LB 1000011 rfl (LB 1000013 rfl (LB 1000015 rfl (LT 1000021 rfl (LT 1000027 rfl (LT 1000064 rfl (LT 1000068 rfl (LT 1000082 rfl LN))))))))))))))))))))), ?_⟩
 refine TL ?_
 refine RA rfl ?_
 refine RN ?_
 refine GS ?_
 refine TL ?_
 refine RM rfl ?_
 refine RBS rfl rfl rfl (.bool true) (by kernel_rfl) ?_
 refine RM rfl ?_
 refine RQ (ok_field field36_1 (by decide) rfl) ?_
 refine RQ (ok_loadV (s := 1000011) (by decide) Try.underlying23 rfl rfl rfl (rfl)) ?_
 refine RQ (ok_move rfl) ?_
 refine RQ (ok_bin rfl rfl rfl) ?_; refine RZ (.bool true) (by kernel_rfl) ?_
 refine RP rfl rfl ?_
 refine RM rfl ?_
 refine RQ (ok_move rfl) ?_
 refine RQ (ok_bin rfl rfl rfl) ?_; refine RZ (.bool true) (by kernel_rfl) ?_
 refine RP rfl rfl ?_
 refine RM rfl ?_
 refine RQ (ok_move rfl) ?_
 refine RQ (ok_bin rfl rfl rfl) ?_; refine RZ (.bool true) (by kernel_rfl) ?_
 refine RP rfl rfl ?_
 refine RM rfl ?_
 refine RQ (ok_field field36_0 (by decide) rfl) ?_
 refine RQ (ok_loadV (s := 1000015) (by decide) Try.underlying34 rfl rfl rfl (rfl)) ?_
 refine RQ (ok_lenV Try.underlying34 rfl) ?_
 refine RQ (ok_bin rfl rfl rfl) ?_; refine RZ (.bool true) (by kernel_rfl) ?_
 refine RP rfl rfl ?_
 refine RM rfl ?_
 refine RQ (ok_move rfl) ?_
 refine RQ (ok_bin rfl rfl rfl) ?_; refine RZ (.bool true) (by kernel_rfl) ?_
 refine RP rfl rfl ?_
 refine RM rfl ?_
 refine RQ (ok_move rfl) ?_
 refine RQ (ok_litS [(0, nW 4294967295), (1, nQ 18446744073709551615)] [nW 4294967295, nQ 18446744073709551615] ⟨rfl, rfl, rfl, rfl, trivial⟩ (buildN 4294967295 18446744073709551615)) ?_
 refine RQ (ok_lit [] ([.int .u32 0] ++ [.int .u64 0]) (fun _ _ => rfl) (by kernel_rfl)) ?_
 refine RQ (ok_make 12 Try.underlying26 info5 (by decide) rfl rfl rfl rfl rfl (by decide)) ?_
 refine RQ (ok_call (NoncesBytes_fn 4294967295 18446744073709551615 0 0 (List.replicate 12 0) (by decide) (by decide) (by decide) (by decide)) (Args.cons rfl (Le.refl _) (Args.cons rfl (Le.refl _) (Args.cons rfl ((Le.eq (by rfl)).trans ((fresh_bytes (l := List.replicate 12 0) rfl (by decide)).trans (le_byt _ _))) Args.nil)))) ?_
 refine RP rfl rfl ?_
 refine RM rfl ?_
 refine RQ (ok_call lives8_fn Args.nil) ?_
 refine RP rfl rfl ?_
 refine RA rfl ?_
 refine RN ?_
 refine A.sub (KC 0 rfl (KC 1000002 rfl (KC 1000003 rfl (KC 1000004 rfl (KC 1000006 rfl (KC 1000007 rfl (KC 1000009 rfl (KC 1000011 rfl (KC 1000013 rfl (KC 1000015 rfl (KC 1000017 rfl (KC 1000021 rfl (KC 1000027 rfl (KC 1000064 rfl (KC 1000068 rfl (KC 1000082 rfl KN)))))))))))))))) ?_
 refine A.ret ?_
 exact End.ret1 rfl rfl (by first | exact Le.refl _ | exact Le.old _ _)
end Go.Proofs.Ytmedljdbamnoiaa
