/-
 The laws of caissonlaw08, part four: NoncesSteps.
-/
import Derived.Test.YtmedljdbamnoiaaShort
import Derived.Test.YtmedljdbamnoiaaC08d
namespace Go.Proofs.Ytmedljdbamnoiaa
open Go Go.RowKit
set_option linter.unusedVariables false

set_option maxHeartbeats 8000000 in
theorem NS_E_P (us cs : List Nat) (M R O m l r k s : Nat) (hOf : FnB Try.prog 21 [hdD (vlst (us.map sV)) [nB M, nB R, .int .u16 ((O : Nat) : Int)]] (fun B => hdD (own B 23 cs.length (rowQ cs)) (alR m l r))) (hV : Valid cs m l r) (hm64 : m < 18446744073709551615) (hl64 : l < 18446744073709551616) (hr64 : m + r < 18446744073709551616) (hk : k < 256) (hs : s = k % cs.length) (hc : cs.getD s 0 = m) (hq : l < m + r) : Fn Try.prog 5 [hdD (vlst (us.map sV)) [nB M, nB R, .int .u16 ((O : Nat) : Int)], .v (nB k)] (.v (.bool true)) := by
 have hn0 : 0 < cs.length := hV.1
 have hn8 : cs.length ≤ 8 := hV.2.1
 have hml : m ≤ l := hV.2.2.2.1
 have hs1 : s < cs.length := by rw [hs]; exact Nat.mod_lt _ hn0
 have hgm : cs.getD s 0 ≤ m := getD_le hV.2.2.1
 have hm64 : m < 18446744073709551616 := by omega
 refine Fn.of Try.func5 rfl (by kernel_rfl) Try.ntmps5 (by simp) (fun w => [(0, old w.heap.size (hdD (vlst (us.map sV)) [nB M, nB R, .int .u16 ((O : Nat) : Int)])), (1, .v (nB k))]) (fun w => (Start.old rfl (Start.v rfl Start.nil))) fun w₀ => ?_
 refine A.nameHd (t := 0) (k := 1000200) rfl fun v hv => ?_
 refine GS ?_
 refine TN 0 ?_
 refine RN ?_
 refine ⟨_, _, eff_box (n := 182) (d := 2) (k := 1000002) rfl (by decide), fun b2 hb2 => ?_⟩
 have hBb2 := hb2.1
 refine TL ?_
 refine RA rfl ?_
 refine RN ?_
 refine GS ?_
 refine RunTK.nameZ 1 (by decide) rfl (.inl rfl) ?_
 refine RS (OpOk.hdO (ok_loadA (s := 1000002) (by decide) Try.underlying51 rfl (size51.of (rfl)) rfl rfl) hv (k := 1000200) (by decide) rfl) ?_
 refine RN ?_
 refine ⟨21, 1000021, _, 23, _, _, hn0, rfl, rfl, fun B' => ok_callB hOf own_mono2 (Args.cons rfl (Le.old _ _) Args.nil), by decide, by decide, fun b21 z21 hb21 hz21 => ?_⟩
 have hBb21 := hb21.1
 have hlt_b2_b21 : b2 < b21 := hb21.2 1000002 _ _ _ rfl
 refine TN 2 ?_
 refine RN ?_
 refine ⟨_, _, eff_alloc (n := 182) (d := 5) (k := 1000005) zero36 (by decide), fun b5 hb5 => ?_⟩
 have hBb5 := hb5.1
 refine TF 3 ?_
 refine RN ?_
 refine ⟨_, eff_storeA (n := 182) (s := 1000005) (size36.of (rfl)) rfl rfl (rfl) hBb5 rfl (rfl) (LV 1 rfl (LV 2 rfl (LV 5 rfl (LT 1000002 rfl (LT 1000021 rfl (LO 1000200 rfl LN)))))), ?_⟩
 refine TL ?_
 refine RN ?_
 refine GS ?_
 refine TL ?_
 refine RM rfl ?_
 refine RS (ok_conv Try.underlying5 Try.underlying3 rfl) ?_; refine RZ (nI k) (by rw [wrapN_i64 (by omega)]) ?_
 refine RS (ok_field field36_0 (by decide) rfl) ?_
 refine RS (ok_loadV (s := 1000005) (by decide) Try.underlying34 rfl rfl rfl (rfl)) ?_
 refine RS (ok_lenV Try.underlying34 rfl) ?_
 refine RS (ok_rem rfl rfl (by omega)) ?_; refine RZ (nI s) (by rw [hs]; exact congrArg (Value.int .i64) (Int.ofNat_tmod _ _).symm) ?_
 refine RA rfl ?_
 refine RN ?_
 refine GS ?_
 refine TL ?_
 refine RS (ok_field field36_0 (by decide) rfl) ?_
 refine RS (ok_loadV (s := 1000005) (by decide) Try.underlying34 rfl rfl rfl (rfl)) ?_
 refine RM rfl ?_
 refine RS (ok_indexV s Try.underlying34 info23 rfl rfl rfl (by omega)) ?_
 refine RS (ok_loadV (s := 1000021) (by decide) Try.underlying23 rfl rfl rfl (by rw [Nat.zero_add]; exact rowQ_getA hs1)) ?_
 refine RA rfl ?_
 refine RN ?_
 refine GS ?_
 refine TL ?_
 refine RS (OpOk.fact (ok_loadA (s := 1000005) (by decide) Try.underlying36 rfl (size36.of (rfl)) rfl rfl) (d := hdD (vlst (rowQ cs)) (alR m l r)) (s := 1000021) (by decide) rfl (hd_ofL (rowQ cs) (alR m l r) (rowQ_length _).symm (Nat.le_add_right _ _) hz21 (rowQ_take _ _))) ?_
 refine RM rfl ?_
 refine RS (ok_call (Left_ok cs m l r s hs1 hV hm64) (A2 rfl rfl)) ?_
 refine RM rfl ?_
 refine RS (ok_extractV rfl rfl) ?_
 refine RS (ok_extractV rfl rfl) ?_
 refine RA rfl ?_
 refine RA rfl ?_
 refine RN ?_
 refine A.sub (KC 2 rfl (KC 5 rfl (KC 6 rfl (KC 7 rfl (KC 8 rfl (KC 9 rfl (KC 1000002 rfl (KC 1000005 rfl (KC 1000021 rfl (KC 1000200 rfl KN)))))))))) ?_
 refine GS ?_
 refine TN 7 ?_
 refine RS (OpOk.fact (ok_loadA (s := 1000005) (by decide) Try.underlying36 rfl (size36.of (rfl)) rfl rfl) (d := hdD (vlst (rowQ cs)) (alR m l r)) (s := 1000021) (by decide) rfl (hd_ofL (rowQ cs) (alR m l r) (rowQ_length _).symm (Nat.le_add_right _ _) hz21 (rowQ_take _ _))) ?_
 refine RM rfl ?_
 refine RS (ok_call (Take_state cs m l r s hs1 hV hc) (A2 rfl rfl)) ?_
 refine RM rfl ?_
 refine RS (ok_extractV rfl rfl) ?_
 refine RS (ok_extractV rfl rfl) ?_
 refine RS (ok_extractV rfl rfl) ?_
 refine RN ?_
 refine ⟨_, _, eff_alloc (n := 182) (d := 10) (k := 1000010) zero25 (by decide), fun b10 hb10 => ?_⟩
 have hBb10 := hb10.1
 refine TN 8 ?_
 refine RN ?_
 refine ⟨_, _, eff_alloc (n := 182) (d := 11) (k := 1000011) zero36 (by decide), fun b11 hb11 => ?_⟩
 have hBb11 := hb11.1
 have hlt_b5_b11 : b5 < b11 := hb11.2 1000005 _ _ _ rfl
 refine TF 9 ?_
 refine RN ?_
 refine ⟨_, eff_storeA (n := 182) (s := 1000010) (size25.of (rfl)) rfl rfl (rfl) hBb10 rfl (rfl) (LV 2 rfl (LV 5 rfl (LV 6 rfl (LV 7 rfl (LV 8 rfl (LV 9 rfl (LV 10 rfl (LV 11 rfl (LV 44 rfl (LV 45 rfl (LT 1000002 rfl (LT 1000005 rfl (LT 1000011 rfl (LT 1000021 rfl (LO 1000200 rfl LN))))))))))))))), ?_⟩
 refine TF 10 ?_
 refine RN ?_
 refine ⟨_, eff_storeA (n := 182) (s := 1000011) (size36.of (rfl)) rfl rfl (rfl) hBb11 rfl (rfl) (LV 2 rfl (LV 5 rfl (LV 6 rfl (LV 7 rfl (LV 8 rfl (LV 9 rfl (LV 10 rfl (LV 11 rfl (LV 45 rfl (LT 1000002 rfl (LB 1000005 rfl (LT 1000010 rfl (LT 1000021 rfl (LO 1000200 rfl LN)))))))))))))), ?_⟩
 refine TL ?_
 refine RA rfl ?_
 refine RN ?_
 refine GS ?_
 refine RunTK.nameZ 1 (by decide) rfl (.inl rfl) ?_
 refine RS (OpOk.hdO (ok_loadA (s := 1000002) (by decide) Try.underlying51 rfl (size51.of (rfl)) rfl rfl) hv (k := 1000200) (by decide) rfl) ?_
 refine RN ?_
 refine ⟨47, 1000047, _, 23, _, _, hn0, rfl, rfl, fun B' => ok_callB hOf own_mono2 (Args.cons rfl (Le.old _ _) Args.nil), by decide, by decide, fun b47 z47 hb47 hz47 => ?_⟩
 have hBb47 := hb47.1
 have hlt_b2_b47 : b2 < b47 := hb47.2 1000002 _ _ _ rfl
 have hlt_b5_b47 : b5 < b47 := hb47.2 1000005 _ _ _ rfl
 have hlt_b10_b47 : b10 < b47 := hb47.2 1000010 _ _ _ rfl
 have hlt_b11_b47 : b11 < b47 := hb47.2 1000011 _ _ _ rfl
 have hlt_b21_b47 : b21 < b47 := hb47.2 1000021 _ _ _ rfl
 refine TN 2 ?_
 refine RN ?_
 refine ⟨_, _, eff_alloc (n := 182) (d := 13) (k := 1000013) zero36 (by decide), fun b13 hb13 => ?_⟩
 have hBb13 := hb13.1
 have hlt_b5_b13 : b5 < b13 := hb13.2 1000005 _ _ _ rfl
 have hlt_b11_b13 : b11 < b13 := hb13.2 1000011 _ _ _ rfl
 refine TF 3 ?_
 refine RN ?_
 refine ⟨_, eff_storeA (n := 182) (s := 1000013) (size36.of (rfl)) rfl rfl (rfl) hBb13 rfl (rfl) (LV 2 rfl (LV 5 rfl (LV 6 rfl (LV 7 rfl (LV 8 rfl (LV 9 rfl (LV 10 rfl (LV 11 rfl (LV 12 rfl (LV 13 rfl (LT 1000002 rfl (LB 1000005 rfl (LT 1000010 rfl (LB 1000011 rfl (LT 1000021 rfl (LT 1000047 rfl (LO 1000200 rfl LN))))))))))))))))), ?_⟩
 refine TL ?_
 refine RN ?_
 refine A.seq ?_
 refine GS ?_
 refine TL ?_
 refine RM rfl ?_
 refine RS (ok_field field36_1 (by decide) rfl) ?_
 refine RS (ok_loadV (s := 1000005) (by decide) Try.underlying23 rfl rfl rfl (rfl)) ?_
 refine RM rfl ?_
 refine RBS rfl rfl rfl (nQ (m - cs.getD s 0)) (by rw [wrap_u64 (by omega) (by omega)]; exact congrArg (Value.int .u64) (by omega)) ?_
 refine RBS rfl rfl rfl (.bool false) (by simp) ?_
 refine RM rfl ?_
 refine RQ (ok_move rfl) ?_
 refine RQ (ok_bin rfl rfl rfl) ?_; refine RZ (.bool false) (by rfl) ?_
 refine RP rfl rfl ?_
 refine RN ?_
 refine A.sub (KC 2 rfl (KC 5 rfl (KC 6 rfl (KC 7 rfl (KC 10 rfl (KC 11 rfl (KC 12 rfl (KC 13 rfl (KC 57 rfl (KC 1000002 rfl (KC 1000005 rfl (KC 1000010 rfl (KC 1000011 rfl (KC 1000013 rfl (KC 1000021 rfl (KC 1000047 rfl (KC 1000200 rfl KN))))))))))))))))) ?_
 refine A.no rfl ?_
 refine A.skip ?_
 refine EN ?_
 refine A.seq ?_
 refine GS ?_
 refine TL ?_
 refine RM rfl ?_
 refine RS (ok_field field36_1 (by decide) rfl) ?_
 refine RS (ok_loadV (s := 1000005) (by decide) Try.underlying23 rfl rfl rfl (rfl)) ?_
 refine RBS rfl rfl rfl (.bool true) (congrArg Value.bool (beq_iff_eq.2 (by omega))) ?_
 refine RN ?_
 refine A.yes rfl ?_
 refine GS ?_
 refine TL ?_
 refine RM rfl ?_
 refine RBS rfl rfl rfl (.bool false) (by rfl) ?_
 refine RM rfl ?_
 refine RQ (ok_loadA (s := 1000010) (by decide) Try.underlying25 rfl (size25.of (rfl)) rfl rfl) ?_
 refine RQ (ok_lit [] ([.int .u32 0] ++ [.int .u64 0]) (fun _ _ => rfl) (by kernel_rfl)) ?_
 refine RQ (ok_neqT (n := 3) true flatN (by decide) (by kernel_rfl) (by kernel_rfl) rfl rfl (kinN _ _) (kinN _ _) ⟨fun _ => rfl, fun _ => rfl⟩) ?_; refine RZ (.bool false) (by rfl) ?_
 refine RP rfl rfl ?_
 refine RM rfl ?_
 refine RQ (ok_field field36_0 (by decide) rfl) ?_
 refine RQ (ok_loadV (s := 1000011) (by decide) Try.underlying34 rfl rfl rfl (rfl)) ?_
 refine RQ (ok_lenV Try.underlying34 rfl) ?_
 refine RQ (ok_bin rfl rfl rfl) ?_; refine RZ (.bool false) (by rfl) ?_
 refine RP rfl rfl ?_
 refine RN ?_
 refine A.no rfl ?_
 refine A.skip ?_
 refine EN ?_
 refine GS ?_
 refine TN 5 ?_
 refine RS (OpOk.fact (ok_loadA (s := 1000005) (by decide) Try.underlying36 rfl (size36.of (rfl)) rfl rfl) (d := hdD (vlst (rowQ cs)) (alR m l r)) (s := 1000021) (by decide) rfl (hd_ofL (rowQ cs) (alR m l r) (rowQ_length _).symm (Nat.le_add_right _ _) hz21 (rowQ_take _ _))) ?_
 refine RS (ok_call (Extend_nonce cs m l r hV hl64 (by omega)) (A1 rfl)) ?_
 refine RM rfl ?_
 refine RS (ok_extractV rfl rfl) ?_
 refine RS (ok_extractV rfl rfl) ?_
 refine RN ?_
 refine ⟨_, _, eff_alloc (n := 182) (d := 14) (k := 1000014) zero36 (by decide), fun b14 hb14 => ?_⟩
 have hBb14 := hb14.1
 have hlt_b5_b14 : b5 < b14 := hb14.2 1000005 _ _ _ rfl
 have hlt_b11_b14 : b11 < b14 := hb14.2 1000011 _ _ _ rfl
 have hlt_b13_b14 : b13 < b14 := hb14.2 1000013 _ _ _ rfl
 refine TF 6 ?_
 refine RN ?_
 refine ⟨_, eff_storeA (n := 182) (s := 1000014) (size36.of (rfl)) rfl rfl (rfl) hBb14 rfl (rfl) (LV 2 rfl (LV 5 rfl (LV 13 rfl (LV 14 rfl (LV 106 rfl (LT 1000002 rfl (LB 1000005 rfl (LT 1000010 rfl (LB 1000011 rfl (LB 1000013 rfl (LT 1000021 rfl (LT 1000047 rfl (LO 1000200 rfl LN))))))))))))), ?_⟩
 refine TL ?_
 refine RA rfl ?_
 refine RN ?_
 refine A.sub (KC 2 rfl (KC 5 rfl (KC 13 rfl (KC 14 rfl (KC 15 rfl (KC 1000002 rfl (KC 1000005 rfl (KC 1000010 rfl (KC 1000011 rfl (KC 1000013 rfl (KC 1000014 rfl (KC 1000021 rfl (KC 1000047 rfl (KC 1000200 rfl KN)))))))))))))) ?_
 refine GS ?_
 refine RunTK.nameZ 1 (by decide) rfl (.inl rfl) ?_
 refine RS (OpOk.hdO (ok_loadA (s := 1000002) (by decide) Try.underlying51 rfl (size51.of (rfl)) rfl rfl) hv (k := 1000200) (by decide) rfl) ?_
 refine RN ?_
 refine ⟨108, 1000108, _, 23, _, _, hn0, rfl, rfl, fun B' => ok_callB hOf own_mono2 (Args.cons rfl (Le.old _ _) Args.nil), by decide, by decide, fun b108 z108 hb108 hz108 => ?_⟩
 have hBb108 := hb108.1
 have hlt_b2_b108 : b2 < b108 := hb108.2 1000002 _ _ _ rfl
 have hlt_b5_b108 : b5 < b108 := hb108.2 1000005 _ _ _ rfl
 have hlt_b10_b108 : b10 < b108 := hb108.2 1000010 _ _ _ rfl
 have hlt_b11_b108 : b11 < b108 := hb108.2 1000011 _ _ _ rfl
 have hlt_b13_b108 : b13 < b108 := hb108.2 1000013 _ _ _ rfl
 have hlt_b14_b108 : b14 < b108 := hb108.2 1000014 _ _ _ rfl
 have hlt_b21_b108 : b21 < b108 := hb108.2 1000021 _ _ _ rfl
 have hlt_b47_b108 : b47 < b108 := hb108.2 1000047 _ _ _ rfl
 refine TF 2 ?_
 refine RN ?_
 refine ⟨_, eff_storeA (n := 182) (s := 1000013) (size36.of (rfl)) rfl rfl (rfl) hBb13 rfl (rfl) (LV 2 rfl (LV 5 rfl (LV 13 rfl (LV 14 rfl (LV 15 rfl (LT 1000002 rfl (LB 1000005 rfl (LT 1000010 rfl (LB 1000011 rfl (LB 1000014 rfl (LT 1000021 rfl (LT 1000047 rfl (LT 1000108 rfl (LO 1000200 rfl LN)))))))))))))), ?_⟩
 refine TL ?_
 refine RN ?_
 refine GS ?_
 refine TF 6 ?_
 refine RS (ok_field field36_1 (by decide) rfl) ?_
 refine RS (ok_loadV (s := 1000013) (by decide) Try.underlying23 rfl rfl rfl (rfl)) ?_
 refine RS (ok_field field36_3 (by decide) rfl) ?_
 refine RS (ok_loadV (s := 1000013) (by decide) Try.underlying23 rfl rfl rfl (rfl)) ?_
 refine RBS rfl rfl rfl (nQ (m + r)) (by rw [wrap_u64 (by omega) (by omega)]; rfl) ?_
 refine RS (ok_field field36_1 (by decide) rfl) ?_
 refine RN ?_
 refine ⟨_, eff_storeS (n := 182) (s := 1000013) info23 rfl rfl rfl hBb13 rfl (by simp [alR]) (LV 2 rfl (LV 5 rfl (LV 13 rfl (LV 14 rfl (LV 15 rfl (LT 1000002 rfl (LB 1000005 rfl (LT 1000010 rfl (LB 1000011 rfl (LB 1000014 rfl (LT 1000021 rfl (LT 1000047 rfl (LT 1000108 rfl (LO 1000200 rfl LN)))))))))))))), ?_⟩
 refine TL ?_
 refine RN ?_
 refine A.seq ?_
 refine GS ?_
 refine TL ?_
 refine RS (ok_field field36_1 (by decide) rfl) ?_
 refine RS (ok_loadV (s := 1000013) (by decide) Try.underlying23 rfl rfl rfl (rfl)) ?_
 refine RS (ok_field field36_2 (by decide) rfl) ?_
 refine RS (ok_loadV (s := 1000013) (by decide) Try.underlying23 rfl rfl rfl (rfl)) ?_
 refine RBS rfl rfl rfl (.bool true) (by simp; omega) ?_
 refine RN ?_
 refine A.yes rfl ?_
 refine GS ?_
 refine TL ?_
 refine RM rfl ?_
 refine RBS rfl rfl rfl (.bool false) (by rfl) ?_
 refine RM rfl ?_
 refine RQ (ok_field field36_0 (by decide) rfl) ?_
 refine RQ (ok_loadV (s := 1000014) (by decide) Try.underlying34 rfl rfl rfl (rfl)) ?_
 refine RQ (ok_lenV Try.underlying34 rfl) ?_
 refine RQ (ok_bin rfl rfl rfl) ?_; refine RZ (.bool false) (by rfl) ?_
 refine RP rfl rfl ?_
 refine RN ?_
 refine A.no rfl ?_
 refine A.skip ?_
 refine EN ?_
 refine GS ?_
 refine TN 1 ?_
 refine RS (OpOk.fact (ok_loadA (s := 1000005) (by decide) Try.underlying36 rfl (size36.of (rfl)) rfl rfl) (d := hdD (vlst (rowQ cs)) (alR m l r)) (s := 1000021) (by decide) rfl (hd_ofL (rowQ cs) (alR m l r) (rowQ_length _).symm (Nat.le_add_right _ _) hz21 (rowQ_take _ _))) ?_
 refine RN ?_
 refine ⟨_, _, eff_name (n := 182) (d := 138) (k := 1000138) rfl rfl (fun B' => ok_callB (Crash_ok cs m l r hV) newD_mono (A1 rfl)) (by decide) (by decide), fun b138 hb138 => ?_⟩
 have hBb138 := hb138.1
 have hlt_b2_b138 : b2 < b138 := hb138.2 1000002 _ _ _ rfl
 have hlt_b5_b138 : b5 < b138 := hb138.2 1000005 _ _ _ rfl
 have hlt_b10_b138 : b10 < b138 := hb138.2 1000010 _ _ _ rfl
 have hlt_b11_b138 : b11 < b138 := hb138.2 1000011 _ _ _ rfl
 have hlt_b13_b138 : b13 < b138 := hb138.2 1000013 _ _ _ rfl
 have hlt_b14_b138 : b14 < b138 := hb138.2 1000014 _ _ _ rfl
 have hlt_b21_b138 : b21 < b138 := hb138.2 1000021 _ _ _ rfl
 have hlt_b47_b138 : b47 < b138 := hb138.2 1000047 _ _ _ rfl
 have hlt_b108_b138 : b108 < b138 := hb138.2 1000108 _ _ _ rfl
 refine TN 5 ?_
 refine RM rfl ?_
 refine RS (ok_extractV rfl rfl) ?_
 refine RS (ok_extractV rfl rfl) ?_
 refine RN ?_
 refine ⟨_, _, eff_alloc (n := 182) (d := 16) (k := 1000016) zero36 (by decide), fun b16 hb16 => ?_⟩
 have hBb16 := hb16.1
 have hlt_b5_b16 : b5 < b16 := hb16.2 1000005 _ _ _ rfl
 have hlt_b11_b16 : b11 < b16 := hb16.2 1000011 _ _ _ rfl
 have hlt_b13_b16 : b13 < b16 := hb16.2 1000013 _ _ _ rfl
 have hlt_b14_b16 : b14 < b16 := hb16.2 1000014 _ _ _ rfl
 refine TF 6 ?_
 refine RN ?_
 refine ⟨_, eff_storeA (n := 182) (s := 1000016) (size36.of (rfl)) rfl rfl (rfl) hBb16 rfl (rfl) (LV 2 rfl (LV 5 rfl (LV 13 rfl (LV 16 rfl (LV 140 rfl (LT 1000002 rfl (LB 1000005 rfl (LT 1000010 rfl (LB 1000011 rfl (LB 1000013 rfl (LB 1000014 rfl (LT 1000021 rfl (LT 1000047 rfl (LT 1000108 rfl (LT 1000138 rfl (LO 1000200 rfl LN)))))))))))))))), ?_⟩
 refine TL ?_
 refine RA rfl ?_
 refine RN ?_
 refine A.sub (KC 2 rfl (KC 5 rfl (KC 13 rfl (KC 16 rfl (KC 17 rfl (KC 1000002 rfl (KC 1000005 rfl (KC 1000010 rfl (KC 1000011 rfl (KC 1000013 rfl (KC 1000014 rfl (KC 1000016 rfl (KC 1000021 rfl (KC 1000047 rfl (KC 1000108 rfl (KC 1000138 rfl (KC 1000200 rfl KN))))))))))))))))) ?_
 refine GS ?_
 refine RunTK.nameZ 1 (by decide) rfl (.inl rfl) ?_
 refine RS (OpOk.hdO (ok_loadA (s := 1000002) (by decide) Try.underlying51 rfl (size51.of (rfl)) rfl rfl) hv (k := 1000200) (by decide) rfl) ?_
 refine RN ?_
 refine ⟨142, 1000142, _, 23, _, _, hn0, rfl, rfl, fun B' => ok_callB hOf own_mono2 (Args.cons rfl (Le.old _ _) Args.nil), by decide, by decide, fun b142 z142 hb142 hz142 => ?_⟩
 have hBb142 := hb142.1
 have hlt_b2_b142 : b2 < b142 := hb142.2 1000002 _ _ _ rfl
 have hlt_b5_b142 : b5 < b142 := hb142.2 1000005 _ _ _ rfl
 have hlt_b10_b142 : b10 < b142 := hb142.2 1000010 _ _ _ rfl
 have hlt_b11_b142 : b11 < b142 := hb142.2 1000011 _ _ _ rfl
 have hlt_b13_b142 : b13 < b142 := hb142.2 1000013 _ _ _ rfl
 have hlt_b14_b142 : b14 < b142 := hb142.2 1000014 _ _ _ rfl
 have hlt_b16_b142 : b16 < b142 := hb142.2 1000016 _ _ _ rfl
 have hlt_b21_b142 : b21 < b142 := hb142.2 1000021 _ _ _ rfl
 have hlt_b47_b142 : b47 < b142 := hb142.2 1000047 _ _ _ rfl
 have hlt_b108_b142 : b108 < b142 := hb142.2 1000108 _ _ _ rfl
 have hlt_b138_b142 : b138 < b142 := hb142.2 1000138 _ _ _ rfl
 refine TF 2 ?_
 refine RN ?_
 refine ⟨_, eff_storeA (n := 182) (s := 1000013) (size36.of (rfl)) rfl rfl (rfl) hBb13 rfl (rfl) (LV 2 rfl (LV 5 rfl (LV 13 rfl (LV 16 rfl (LV 17 rfl (LT 1000002 rfl (LB 1000005 rfl (LT 1000010 rfl (LB 1000011 rfl (LB 1000014 rfl (LB 1000016 rfl (LT 1000021 rfl (LT 1000047 rfl (LT 1000108 rfl (LT 1000138 rfl (LT 1000142 rfl (LO 1000200 rfl LN))))))))))))))))), ?_⟩
 refine TL ?_
 refine RN ?_
 refine A.seq ?_
 refine GS ?_
 refine TL ?_
 refine RA rfl ?_
 refine RN ?_
 refine A.block ?_
 refine A.loop (ι := Nat) (fun i => i ≤ cs.length) (fun i => [(1000200, old w₀.heap.size (valM v (vlst (us.map sV)))), (2, .v (.pointer (some ⟨b2, 0, none⟩))), (5, .v (.pointer (some ⟨b5, 0, none⟩))), (13, .v (.pointer (some ⟨b13, 0, none⟩))), (16, .v (.pointer (some ⟨b16, 0, none⟩))), (17, .v (.int .i64 0)), (18, .v (nI i)), (1000002, blk b2 51 (v :: [nB M, nB R, .int .u16 ((O : Nat) : Int)])), (1000005, blk b5 36 (.slice (some ⟨b21, 0, none⟩) cs.length (cs.length + z21.length) :: alR m l r)), (1000021, blk b21 23 (rowQ cs ++ z21)), (1000013, blk b13 36 (.slice (some ⟨b142, 0, none⟩) cs.length (cs.length + z142.length) :: alR m l r)), (1000142, blk b142 23 (rowQ (fillTo cs m i) ++ z142)), (1000016, blk b16 36 (.slice (some ⟨b138, 0, none⟩) (cs.length) (cs.length) :: alR m l r)), (1000138, blk b138 23 (rowQ (List.replicate cs.length m)))]) (fun i => cs.length - i) 0 ?_ ?_ ?_
 ·exact Nat.zero_le _
 ·exact (KC 1000200 rfl (KC 2 rfl (KC 5 rfl (KC 13 rfl (KC 16 rfl (KC 17 rfl (KE 18 rfl (by rfl) (KC 1000002 rfl (KC 1000005 rfl (KC 1000021 rfl (KC 1000013 rfl (KE 1000142 rfl (by rw [fillTo_zero]) (KC 1000016 rfl (KC 1000138 rfl KN))))))))))))))
 intro i hi'
 refine A.seq ?_
 refine GS ?_
 refine TL ?_
 refine RM rfl ?_
 refine RS (ok_field field36_0 (by decide) rfl) ?_
 refine RS (ok_loadV (s := 1000013) (by decide) Try.underlying34 rfl rfl rfl (rfl)) ?_
 refine RS (ok_lenV Try.underlying34 rfl) ?_
 refine RB rfl rfl rfl ?_
 refine RN ?_
 refine A.cond rfl (fun hc147 => ?_) (fun hc147 => ?_)
 ·have hi : i < cs.length := by simp at hc147; omega
  refine A.skip ?_
  refine EN ?_
  refine A.seq ?_
  refine A.block ?_
  refine GE ?_
  refine TF 6 ?_
  refine RS (ok_field field36_0 (by decide) rfl) ?_
  refine RS (ok_loadV (s := 1000013) (by decide) Try.underlying34 rfl rfl rfl (rfl)) ?_
  refine RM rfl ?_
  refine RS (ok_field field36_1 (by decide) rfl) ?_
  refine RS (ok_loadV (s := 1000013) (by decide) Try.underlying23 rfl rfl rfl (rfl)) ?_
  refine RS (ok_indexV i Try.underlying34 info23 rfl rfl rfl (by omega)) ?_
  refine RN ?_
  refine ⟨_, eff_storeS (n := 182) (s := 1000142) info23 rfl rfl rfl hBb142 rfl (by rw [List.length_append, rowQ_length, fillTo_length (by omega)]; omega) (LV 2 rfl (LV 5 rfl (LV 13 rfl (LV 16 rfl (LV 17 rfl (LV 18 rfl (LT 1000002 rfl (LT 1000005 rfl (LT 1000013 rfl (LT 1000016 rfl (LB 1000021 rfl (LB 1000138 rfl (LO 1000200 rfl LN))))))))))))), ?_⟩
  refine TL ?_
  refine RN ?_
  refine End.normal_block ?_
  refine EN ?_
  refine GE ?_
  refine TL ?_
  refine RM rfl ?_
  refine RBS rfl rfl rfl (nI (i + 1)) (by rw [wrap_i64 (by omega) (by omega)]; exact congrArg (Value.int .i64) (by omega)) ?_
  refine RA rfl ?_
  refine RN ?_
  refine End.normal_then ?_
  refine End.again (i + 1) ?_ ?_ ?_
  ·show _ ≤ _; omega
  ·show _ - _ < _ - _; omega
  ·exact (KC 1000200 rfl (KC 2 rfl (KC 5 rfl (KC 13 rfl (KC 16 rfl (KC 17 rfl (KC 18 rfl (KC 1000002 rfl (KC 1000005 rfl (KC 1000021 rfl (KC 1000013 rfl (KE 1000142 rfl (by rw [Nat.zero_add, rowQ_setA (by rw [fillTo_length (by omega)]; omega), fillTo_set (by omega)]) (KC 1000016 rfl (KC 1000138 rfl KN))))))))))))))
 ·have hi2 : i = cs.length := by simp at hc147; omega
  refine A.exit ?_
  refine End.exit_then ?_
  refine End.exit_then ?_
  refine End.exit_here ?_
  refine EN ?_
  refine A.seq ?_
  refine GS ?_
  refine TL ?_
  refine RM rfl ?_
  refine RBS rfl rfl rfl (.bool false) (by rfl) ?_
  refine RM rfl ?_
  refine RQ (OpOk.fact (ok_loadA (s := 1000016) (by decide) Try.underlying36 rfl (size36.of (rfl)) rfl rfl) (d := hdD (vlist (rowQ (List.replicate cs.length m)) cs.length) (alR m l r)) (s := 1000138) (by decide) rfl (hd_of (rowQ (List.replicate cs.length m)) (alR m l r) (by rw [rowQ_length, List.length_replicate]) (Nat.le_refl _) (by simp only [maxLen]; omega) (List.take_of_length_le (by rw [rowQ_length, List.length_replicate]; exact Nat.le_refl _)))) ?_
  refine RQ (OpOk.fact (ok_loadA (s := 1000013) (by decide) Try.underlying36 rfl (size36.of (rfl)) rfl rfl) (d := hdD (vlst (rowQ (List.replicate cs.length m))) (alR m l r)) (s := 1000142) (by decide) rfl (hd_ofL (rowQ (List.replicate cs.length m)) (alR m l r) (by rw [rowQ_length]; simp) (Nat.le_add_right _ _) hz142 (by rw [hi2, fillTo_end rfl]; exact List.take_left' (by rw [rowQ_length, List.length_replicate])))) ?_
  refine RQ (ok_call (same8_fn (List.replicate cs.length m) m l r (by first | omega | (simp; omega))) (Args.cons rfl (Le.eq (by simp)) (A1 rfl))) ?_
  refine RQ (ok_not rfl) ?_; refine RZ (.bool false) (by rfl) ?_
  refine RP rfl rfl ?_
  refine RN ?_
  refine A.no rfl ?_
  refine A.skip ?_
  refine EN ?_
  refine GS ?_
  refine TF 6 ?_
  refine RS (ok_field field36_0 (by decide) rfl) ?_
  refine RS (ok_loadV (s := 1000016) (by decide) Try.underlying34 rfl rfl rfl (rfl)) ?_
  refine RS (ok_indexV 0 Try.underlying34 info23 rfl rfl rfl (by omega)) ?_
  refine RS (ok_loadV (s := 1000138) (by decide) Try.underlying23 rfl rfl rfl (by rw [Nat.zero_add]; exact rowQ_rep0 hn0)) ?_
  refine RBS rfl rfl rfl (nQ (m + 1)) (by rw [wrap_u64 (by omega) (by omega)]; rfl) ?_
  refine RS (ok_indexV 0 Try.underlying34 info23 rfl rfl rfl (by omega)) ?_
  refine RN ?_
  refine ⟨_, eff_storeS (n := 182) (s := 1000138) info23 rfl rfl rfl hBb138 rfl (by rw [rowQ_length, List.length_replicate]; omega) (LV 2 rfl (LV 5 rfl (LT 1000002 rfl (LT 1000005 rfl (LT 1000013 rfl (LT 1000016 rfl (LB 1000021 rfl (LB 1000142 rfl (LO 1000200 rfl LN))))))))), ?_⟩
  refine TL ?_
  refine RN ?_
  refine GS ?_
  refine RunTK.nameZ 1 (by decide) rfl (.inl rfl) ?_
  refine RS (OpOk.hdO (ok_loadA (s := 1000002) (by decide) Try.underlying51 rfl (size51.of (rfl)) rfl rfl) hv (k := 1000200) (by decide) rfl) ?_
  refine RN ?_
  refine ⟨171, 1000171, _, 23, _, _, hn0, rfl, rfl, fun B' => ok_callB hOf own_mono2 (Args.cons rfl (Le.old _ _) Args.nil), by decide, by decide, fun b171 z171 hb171 hz171 => ?_⟩
  have hBb171 := hb171.1
  have hlt_b2_b171 : b2 < b171 := hb171.2 1000002 _ _ _ rfl
  have hlt_b5_b171 : b5 < b171 := hb171.2 1000005 _ _ _ rfl
  have hlt_b13_b171 : b13 < b171 := hb171.2 1000013 _ _ _ rfl
  have hlt_b16_b171 : b16 < b171 := hb171.2 1000016 _ _ _ rfl
  have hlt_b21_b171 : b21 < b171 := hb171.2 1000021 _ _ _ rfl
  have hlt_b138_b171 : b138 < b171 := hb171.2 1000138 _ _ _ rfl
  have hlt_b142_b171 : b142 < b171 := hb171.2 1000142 _ _ _ rfl
  refine TN 2 ?_
  refine RN ?_
  refine ⟨_, _, eff_alloc (n := 182) (d := 19) (k := 1000019) zero36 (by decide), fun b19 hb19 => ?_⟩
  have hBb19 := hb19.1
  have hlt_b5_b19 : b5 < b19 := hb19.2 1000005 _ _ _ rfl
  have hlt_b13_b19 : b13 < b19 := hb19.2 1000013 _ _ _ rfl
  have hlt_b16_b19 : b16 < b19 := hb19.2 1000016 _ _ _ rfl
  refine TF 3 ?_
  refine RN ?_
  refine ⟨_, eff_storeA (n := 182) (s := 1000019) (size36.of (rfl)) rfl rfl (rfl) hBb19 rfl (rfl) (LV 5 rfl (LV 19 rfl (LT 1000002 rfl (LB 1000005 rfl (LB 1000013 rfl (LB 1000016 rfl (LT 1000021 rfl (LT 1000138 rfl (LT 1000142 rfl (LT 1000171 rfl (LO 1000200 rfl LN))))))))))), ?_⟩
  refine TL ?_
  refine RN ?_
  refine GD ?_
  refine TL ?_
  refine RS (OpOk.fact (ok_loadA (s := 1000005) (by decide) Try.underlying36 rfl (size36.of (rfl)) rfl rfl) (d := hdD (vlst (rowQ cs)) (alR m l r)) (s := 1000021) (by decide) rfl (hd_ofL (rowQ cs) (alR m l r) (rowQ_length _).symm (Nat.le_add_right _ _) hz21 (rowQ_take _ _))) ?_
  refine RS (ok_call (rowOf_fn cs m l r (by omega) hm64 hV.2.2.1) (A1 rfl)) ?_
  refine RS (ok_str (l := rowL cs) Try.underlying26 Try.underlying5 Try.underlying9 rfl (Le.refl _)) ?_
  refine RS (OpOk.fact (ok_loadA (s := 1000019) (by decide) Try.underlying36 rfl (size36.of (rfl)) rfl rfl) (d := hdD (vlst (rowQ cs)) (alR m l r)) (s := 1000171) (by decide) rfl (hd_ofL (rowQ cs) (alR m l r) (rowQ_length _).symm (Nat.le_add_right _ _) hz171 (rowQ_take _ _))) ?_
  refine RS (ok_call (rowOf_fn cs m l r (by omega) hm64 hV.2.2.1) (A1 rfl)) ?_
  refine RS (ok_str (l := rowL cs) Try.underlying26 Try.underlying5 Try.underlying9 rfl (Le.refl _)) ?_
  refine RS (ok_seq rfl rfl) ?_; refine RZ (.bool true) (by simp) ?_
  refine RM rfl ?_
  refine RQ (ok_call lives8_fn Args.nil) ?_
  refine RP rfl rfl ?_
  refine RA rfl ?_
  refine RN ?_
  refine A.sub (KC 4 rfl (KC 1000002 rfl (KC 1000005 rfl (KC 1000013 rfl (KC 1000016 rfl (KC 1000019 rfl (KC 1000021 rfl (KC 1000138 rfl (KC 1000142 rfl (KC 1000171 rfl (KC 1000200 rfl KN))))))))))) ?_
  refine A.ret ?_
  exact End.ret1 rfl rfl (by first | exact Le.refl _ | exact Le.old _ _)
set_option maxHeartbeats 8000000 in
theorem NS_E_Q (us cs : List Nat) (M R O m l r k s : Nat) (hOf : FnB Try.prog 21 [hdD (vlst (us.map sV)) [nB M, nB R, .int .u16 ((O : Nat) : Int)]] (fun B => hdD (own B 23 cs.length (rowQ cs)) (alR m l r))) (hV : Valid cs m l r) (hm64 : m < 18446744073709551615) (hl64 : l < 18446744073709551616) (hr64 : m + r < 18446744073709551616) (hk : k < 256) (hs : s = k % cs.length) (hc : cs.getD s 0 = m) (hq : m + r ≤ l) : Fn Try.prog 5 [hdD (vlst (us.map sV)) [nB M, nB R, .int .u16 ((O : Nat) : Int)], .v (nB k)] (.v (.bool true)) := by
 have hn0 : 0 < cs.length := hV.1
 have hn8 : cs.length ≤ 8 := hV.2.1
 have hml : m ≤ l := hV.2.2.2.1
 have hs1 : s < cs.length := by rw [hs]; exact Nat.mod_lt _ hn0
 have hgm : cs.getD s 0 ≤ m := getD_le hV.2.2.1
 have hm64 : m < 18446744073709551616 := by omega
 refine Fn.of Try.func5 rfl (by kernel_rfl) Try.ntmps5 (by simp) (fun w => [(0, old w.heap.size (hdD (vlst (us.map sV)) [nB M, nB R, .int .u16 ((O : Nat) : Int)])), (1, .v (nB k))]) (fun w => (Start.old rfl (Start.v rfl Start.nil))) fun w₀ => ?_
 refine A.nameHd (t := 0) (k := 1000200) rfl fun v hv => ?_
 refine GS ?_
 refine TN 0 ?_
 refine RN ?_
 refine ⟨_, _, eff_box (n := 182) (d := 2) (k := 1000002) rfl (by decide), fun b2 hb2 => ?_⟩
 have hBb2 := hb2.1
 refine TL ?_
 refine RA rfl ?_
 refine RN ?_
 refine GS ?_
 refine RunTK.nameZ 1 (by decide) rfl (.inl rfl) ?_
 refine RS (OpOk.hdO (ok_loadA (s := 1000002) (by decide) Try.underlying51 rfl (size51.of (rfl)) rfl rfl) hv (k := 1000200) (by decide) rfl) ?_
 refine RN ?_
 refine ⟨21, 1000021, _, 23, _, _, hn0, rfl, rfl, fun B' => ok_callB hOf own_mono2 (Args.cons rfl (Le.old _ _) Args.nil), by decide, by decide, fun b21 z21 hb21 hz21 => ?_⟩
 have hBb21 := hb21.1
 have hlt_b2_b21 : b2 < b21 := hb21.2 1000002 _ _ _ rfl
 refine TN 2 ?_
 refine RN ?_
 refine ⟨_, _, eff_alloc (n := 182) (d := 5) (k := 1000005) zero36 (by decide), fun b5 hb5 => ?_⟩
 have hBb5 := hb5.1
 refine TF 3 ?_
 refine RN ?_
 refine ⟨_, eff_storeA (n := 182) (s := 1000005) (size36.of (rfl)) rfl rfl (rfl) hBb5 rfl (rfl) (LV 1 rfl (LV 2 rfl (LV 5 rfl (LT 1000002 rfl (LT 1000021 rfl (LO 1000200 rfl LN)))))), ?_⟩
 refine TL ?_
 refine RN ?_
 refine GS ?_
 refine TL ?_
 refine RM rfl ?_
 refine RS (ok_conv Try.underlying5 Try.underlying3 rfl) ?_; refine RZ (nI k) (by rw [wrapN_i64 (by omega)]) ?_
 refine RS (ok_field field36_0 (by decide) rfl) ?_
 refine RS (ok_loadV (s := 1000005) (by decide) Try.underlying34 rfl rfl rfl (rfl)) ?_
 refine RS (ok_lenV Try.underlying34 rfl) ?_
 refine RS (ok_rem rfl rfl (by omega)) ?_; refine RZ (nI s) (by rw [hs]; exact congrArg (Value.int .i64) (Int.ofNat_tmod _ _).symm) ?_
 refine RA rfl ?_
 refine RN ?_
 refine GS ?_
 refine TL ?_
 refine RS (ok_field field36_0 (by decide) rfl) ?_
 refine RS (ok_loadV (s := 1000005) (by decide) Try.underlying34 rfl rfl rfl (rfl)) ?_
 refine RM rfl ?_
 refine RS (ok_indexV s Try.underlying34 info23 rfl rfl rfl (by omega)) ?_
 refine RS (ok_loadV (s := 1000021) (by decide) Try.underlying23 rfl rfl rfl (by rw [Nat.zero_add]; exact rowQ_getA hs1)) ?_
 refine RA rfl ?_
 refine RN ?_
 refine GS ?_
 refine TL ?_
 refine RS (OpOk.fact (ok_loadA (s := 1000005) (by decide) Try.underlying36 rfl (size36.of (rfl)) rfl rfl) (d := hdD (vlst (rowQ cs)) (alR m l r)) (s := 1000021) (by decide) rfl (hd_ofL (rowQ cs) (alR m l r) (rowQ_length _).symm (Nat.le_add_right _ _) hz21 (rowQ_take _ _))) ?_
 refine RM rfl ?_
 refine RS (ok_call (Left_ok cs m l r s hs1 hV hm64) (A2 rfl rfl)) ?_
 refine RM rfl ?_
 refine RS (ok_extractV rfl rfl) ?_
 refine RS (ok_extractV rfl rfl) ?_
 refine RA rfl ?_
 refine RA rfl ?_
 refine RN ?_
 refine A.sub (KC 2 rfl (KC 5 rfl (KC 6 rfl (KC 7 rfl (KC 8 rfl (KC 9 rfl (KC 1000002 rfl (KC 1000005 rfl (KC 1000021 rfl (KC 1000200 rfl KN)))))))))) ?_
 refine GS ?_
 refine TN 7 ?_
 refine RS (OpOk.fact (ok_loadA (s := 1000005) (by decide) Try.underlying36 rfl (size36.of (rfl)) rfl rfl) (d := hdD (vlst (rowQ cs)) (alR m l r)) (s := 1000021) (by decide) rfl (hd_ofL (rowQ cs) (alR m l r) (rowQ_length _).symm (Nat.le_add_right _ _) hz21 (rowQ_take _ _))) ?_
 refine RM rfl ?_
 refine RS (ok_call (Take_state cs m l r s hs1 hV hc) (A2 rfl rfl)) ?_
 refine RM rfl ?_
 refine RS (ok_extractV rfl rfl) ?_
 refine RS (ok_extractV rfl rfl) ?_
 refine RS (ok_extractV rfl rfl) ?_
 refine RN ?_
 refine ⟨_, _, eff_alloc (n := 182) (d := 10) (k := 1000010) zero25 (by decide), fun b10 hb10 => ?_⟩
 have hBb10 := hb10.1
 refine TN 8 ?_
 refine RN ?_
 refine ⟨_, _, eff_alloc (n := 182) (d := 11) (k := 1000011) zero36 (by decide), fun b11 hb11 => ?_⟩
 have hBb11 := hb11.1
 have hlt_b5_b11 : b5 < b11 := hb11.2 1000005 _ _ _ rfl
 refine TF 9 ?_
 refine RN ?_
 refine ⟨_, eff_storeA (n := 182) (s := 1000010) (size25.of (rfl)) rfl rfl (rfl) hBb10 rfl (rfl) (LV 2 rfl (LV 5 rfl (LV 6 rfl (LV 7 rfl (LV 8 rfl (LV 9 rfl (LV 10 rfl (LV 11 rfl (LV 44 rfl (LV 45 rfl (LT 1000002 rfl (LT 1000005 rfl (LT 1000011 rfl (LT 1000021 rfl (LO 1000200 rfl LN))))))))))))))), ?_⟩
 refine TF 10 ?_
 refine RN ?_
 refine ⟨_, eff_storeA (n := 182) (s := 1000011) (size36.of (rfl)) rfl rfl (rfl) hBb11 rfl (rfl) (LV 2 rfl (LV 5 rfl (LV 6 rfl (LV 7 rfl (LV 8 rfl (LV 9 rfl (LV 10 rfl (LV 11 rfl (LV 45 rfl (LT 1000002 rfl (LB 1000005 rfl (LT 1000010 rfl (LT 1000021 rfl (LO 1000200 rfl LN)))))))))))))), ?_⟩
 refine TL ?_
 refine RA rfl ?_
 refine RN ?_
 refine GS ?_
 refine RunTK.nameZ 1 (by decide) rfl (.inl rfl) ?_
 refine RS (OpOk.hdO (ok_loadA (s := 1000002) (by decide) Try.underlying51 rfl (size51.of (rfl)) rfl rfl) hv (k := 1000200) (by decide) rfl) ?_
 refine RN ?_
 refine ⟨47, 1000047, _, 23, _, _, hn0, rfl, rfl, fun B' => ok_callB hOf own_mono2 (Args.cons rfl (Le.old _ _) Args.nil), by decide, by decide, fun b47 z47 hb47 hz47 => ?_⟩
 have hBb47 := hb47.1
 have hlt_b2_b47 : b2 < b47 := hb47.2 1000002 _ _ _ rfl
 have hlt_b5_b47 : b5 < b47 := hb47.2 1000005 _ _ _ rfl
 have hlt_b10_b47 : b10 < b47 := hb47.2 1000010 _ _ _ rfl
 have hlt_b11_b47 : b11 < b47 := hb47.2 1000011 _ _ _ rfl
 have hlt_b21_b47 : b21 < b47 := hb47.2 1000021 _ _ _ rfl
 refine TN 2 ?_
 refine RN ?_
 refine ⟨_, _, eff_alloc (n := 182) (d := 13) (k := 1000013) zero36 (by decide), fun b13 hb13 => ?_⟩
 have hBb13 := hb13.1
 have hlt_b5_b13 : b5 < b13 := hb13.2 1000005 _ _ _ rfl
 have hlt_b11_b13 : b11 < b13 := hb13.2 1000011 _ _ _ rfl
 refine TF 3 ?_
 refine RN ?_
 refine ⟨_, eff_storeA (n := 182) (s := 1000013) (size36.of (rfl)) rfl rfl (rfl) hBb13 rfl (rfl) (LV 2 rfl (LV 5 rfl (LV 6 rfl (LV 7 rfl (LV 8 rfl (LV 9 rfl (LV 10 rfl (LV 11 rfl (LV 12 rfl (LV 13 rfl (LT 1000002 rfl (LB 1000005 rfl (LT 1000010 rfl (LB 1000011 rfl (LT 1000021 rfl (LT 1000047 rfl (LO 1000200 rfl LN))))))))))))))))), ?_⟩
 refine TL ?_
 refine RN ?_
 refine A.seq ?_
 refine GS ?_
 refine TL ?_
 refine RM rfl ?_
 refine RS (ok_field field36_1 (by decide) rfl) ?_
 refine RS (ok_loadV (s := 1000005) (by decide) Try.underlying23 rfl rfl rfl (rfl)) ?_
 refine RM rfl ?_
 refine RBS rfl rfl rfl (nQ (m - cs.getD s 0)) (by rw [wrap_u64 (by omega) (by omega)]; exact congrArg (Value.int .u64) (by omega)) ?_
 refine RBS rfl rfl rfl (.bool false) (by simp) ?_
 refine RM rfl ?_
 refine RQ (ok_move rfl) ?_
 refine RQ (ok_bin rfl rfl rfl) ?_; refine RZ (.bool false) (by rfl) ?_
 refine RP rfl rfl ?_
 refine RN ?_
 refine A.sub (KC 2 rfl (KC 5 rfl (KC 6 rfl (KC 7 rfl (KC 10 rfl (KC 11 rfl (KC 12 rfl (KC 13 rfl (KC 57 rfl (KC 1000002 rfl (KC 1000005 rfl (KC 1000010 rfl (KC 1000011 rfl (KC 1000013 rfl (KC 1000021 rfl (KC 1000047 rfl (KC 1000200 rfl KN))))))))))))))))) ?_
 refine A.no rfl ?_
 refine A.skip ?_
 refine EN ?_
 refine A.seq ?_
 refine GS ?_
 refine TL ?_
 refine RM rfl ?_
 refine RS (ok_field field36_1 (by decide) rfl) ?_
 refine RS (ok_loadV (s := 1000005) (by decide) Try.underlying23 rfl rfl rfl (rfl)) ?_
 refine RBS rfl rfl rfl (.bool true) (congrArg Value.bool (beq_iff_eq.2 (by omega))) ?_
 refine RN ?_
 refine A.yes rfl ?_
 refine GS ?_
 refine TL ?_
 refine RM rfl ?_
 refine RBS rfl rfl rfl (.bool false) (by rfl) ?_
 refine RM rfl ?_
 refine RQ (ok_loadA (s := 1000010) (by decide) Try.underlying25 rfl (size25.of (rfl)) rfl rfl) ?_
 refine RQ (ok_lit [] ([.int .u32 0] ++ [.int .u64 0]) (fun _ _ => rfl) (by kernel_rfl)) ?_
 refine RQ (ok_neqT (n := 3) true flatN (by decide) (by kernel_rfl) (by kernel_rfl) rfl rfl (kinN _ _) (kinN _ _) ⟨fun _ => rfl, fun _ => rfl⟩) ?_; refine RZ (.bool false) (by rfl) ?_
 refine RP rfl rfl ?_
 refine RM rfl ?_
 refine RQ (ok_field field36_0 (by decide) rfl) ?_
 refine RQ (ok_loadV (s := 1000011) (by decide) Try.underlying34 rfl rfl rfl (rfl)) ?_
 refine RQ (ok_lenV Try.underlying34 rfl) ?_
 refine RQ (ok_bin rfl rfl rfl) ?_; refine RZ (.bool false) (by rfl) ?_
 refine RP rfl rfl ?_
 refine RN ?_
 refine A.no rfl ?_
 refine A.skip ?_
 refine EN ?_
 refine GS ?_
 refine TN 1 ?_
 refine RS (OpOk.fact (ok_loadA (s := 1000005) (by decide) Try.underlying36 rfl (size36.of (rfl)) rfl rfl) (d := hdD (vlst (rowQ cs)) (alR m l r)) (s := 1000021) (by decide) rfl (hd_ofL (rowQ cs) (alR m l r) (rowQ_length _).symm (Nat.le_add_right _ _) hz21 (rowQ_take _ _))) ?_
 refine RN ?_
 refine ⟨_, _, eff_name (n := 182) (d := 104) (k := 1000104) rfl rfl (fun B' => ok_callB (Extend_ok cs m l r hV hl64 (by omega)) newD_mono (A1 rfl)) (by decide) (by decide), fun b104 hb104 => ?_⟩
 have hBb104 := hb104.1
 have hlt_b2_b104 : b2 < b104 := hb104.2 1000002 _ _ _ rfl
 have hlt_b5_b104 : b5 < b104 := hb104.2 1000005 _ _ _ rfl
 have hlt_b10_b104 : b10 < b104 := hb104.2 1000010 _ _ _ rfl
 have hlt_b11_b104 : b11 < b104 := hb104.2 1000011 _ _ _ rfl
 have hlt_b13_b104 : b13 < b104 := hb104.2 1000013 _ _ _ rfl
 have hlt_b21_b104 : b21 < b104 := hb104.2 1000021 _ _ _ rfl
 have hlt_b47_b104 : b47 < b104 := hb104.2 1000047 _ _ _ rfl
 refine TN 5 ?_
 refine RM rfl ?_
 refine RS (ok_extractV rfl rfl) ?_
 refine RS (ok_extractV rfl rfl) ?_
 refine RN ?_
 refine ⟨_, _, eff_alloc (n := 182) (d := 14) (k := 1000014) zero36 (by decide), fun b14 hb14 => ?_⟩
 have hBb14 := hb14.1
 have hlt_b5_b14 : b5 < b14 := hb14.2 1000005 _ _ _ rfl
 have hlt_b11_b14 : b11 < b14 := hb14.2 1000011 _ _ _ rfl
 have hlt_b13_b14 : b13 < b14 := hb14.2 1000013 _ _ _ rfl
 refine TF 6 ?_
 refine RN ?_
 refine ⟨_, eff_storeA (n := 182) (s := 1000014) (size36.of (rfl)) rfl rfl (rfl) hBb14 rfl (rfl) (LV 2 rfl (LV 5 rfl (LV 13 rfl (LV 14 rfl (LV 106 rfl (LT 1000002 rfl (LB 1000005 rfl (LT 1000010 rfl (LB 1000011 rfl (LB 1000013 rfl (LT 1000021 rfl (LT 1000047 rfl (LT 1000104 rfl (LO 1000200 rfl LN)))))))))))))), ?_⟩
 refine TL ?_
 refine RA rfl ?_
 refine RN ?_
 refine A.sub (KC 2 rfl (KC 5 rfl (KC 13 rfl (KC 14 rfl (KC 15 rfl (KC 1000002 rfl (KC 1000005 rfl (KC 1000010 rfl (KC 1000011 rfl (KC 1000013 rfl (KC 1000014 rfl (KC 1000021 rfl (KC 1000047 rfl (KC 1000104 rfl (KC 1000200 rfl KN))))))))))))))) ?_
 refine GS ?_
 refine RunTK.nameZ 1 (by decide) rfl (.inl rfl) ?_
 refine RS (OpOk.hdO (ok_loadA (s := 1000002) (by decide) Try.underlying51 rfl (size51.of (rfl)) rfl rfl) hv (k := 1000200) (by decide) rfl) ?_
 refine RN ?_
 refine ⟨108, 1000108, _, 23, _, _, hn0, rfl, rfl, fun B' => ok_callB hOf own_mono2 (Args.cons rfl (Le.old _ _) Args.nil), by decide, by decide, fun b108 z108 hb108 hz108 => ?_⟩
 have hBb108 := hb108.1
 have hlt_b2_b108 : b2 < b108 := hb108.2 1000002 _ _ _ rfl
 have hlt_b5_b108 : b5 < b108 := hb108.2 1000005 _ _ _ rfl
 have hlt_b10_b108 : b10 < b108 := hb108.2 1000010 _ _ _ rfl
 have hlt_b11_b108 : b11 < b108 := hb108.2 1000011 _ _ _ rfl
 have hlt_b13_b108 : b13 < b108 := hb108.2 1000013 _ _ _ rfl
 have hlt_b14_b108 : b14 < b108 := hb108.2 1000014 _ _ _ rfl
 have hlt_b21_b108 : b21 < b108 := hb108.2 1000021 _ _ _ rfl
 have hlt_b47_b108 : b47 < b108 := hb108.2 1000047 _ _ _ rfl
 have hlt_b104_b108 : b104 < b108 := hb108.2 1000104 _ _ _ rfl
 refine TF 2 ?_
 refine RN ?_
 refine ⟨_, eff_storeA (n := 182) (s := 1000013) (size36.of (rfl)) rfl rfl (rfl) hBb13 rfl (rfl) (LV 2 rfl (LV 5 rfl (LV 13 rfl (LV 14 rfl (LV 15 rfl (LT 1000002 rfl (LB 1000005 rfl (LT 1000010 rfl (LB 1000011 rfl (LB 1000014 rfl (LT 1000021 rfl (LT 1000047 rfl (LT 1000104 rfl (LT 1000108 rfl (LO 1000200 rfl LN))))))))))))))), ?_⟩
 refine TL ?_
 refine RN ?_
 refine GS ?_
 refine TF 6 ?_
 refine RS (ok_field field36_1 (by decide) rfl) ?_
 refine RS (ok_loadV (s := 1000013) (by decide) Try.underlying23 rfl rfl rfl (rfl)) ?_
 refine RS (ok_field field36_3 (by decide) rfl) ?_
 refine RS (ok_loadV (s := 1000013) (by decide) Try.underlying23 rfl rfl rfl (rfl)) ?_
 refine RBS rfl rfl rfl (nQ (m + r)) (by rw [wrap_u64 (by omega) (by omega)]; rfl) ?_
 refine RS (ok_field field36_1 (by decide) rfl) ?_
 refine RN ?_
 refine ⟨_, eff_storeS (n := 182) (s := 1000013) info23 rfl rfl rfl hBb13 rfl (by simp [alR]) (LV 2 rfl (LV 5 rfl (LV 13 rfl (LV 14 rfl (LV 15 rfl (LT 1000002 rfl (LB 1000005 rfl (LT 1000010 rfl (LB 1000011 rfl (LB 1000014 rfl (LT 1000021 rfl (LT 1000047 rfl (LT 1000104 rfl (LT 1000108 rfl (LO 1000200 rfl LN))))))))))))))), ?_⟩
 refine TL ?_
 refine RN ?_
 refine A.seq ?_
 refine GS ?_
 refine TL ?_
 refine RS (ok_field field36_1 (by decide) rfl) ?_
 refine RS (ok_loadV (s := 1000013) (by decide) Try.underlying23 rfl rfl rfl (rfl)) ?_
 refine RS (ok_field field36_2 (by decide) rfl) ?_
 refine RS (ok_loadV (s := 1000013) (by decide) Try.underlying23 rfl rfl rfl (rfl)) ?_
 refine RBS rfl rfl rfl (.bool false) (by simp; omega) ?_
 refine RN ?_
 refine A.no rfl ?_
 refine GS ?_
 refine TL ?_
 refine RM rfl ?_
 refine RBS rfl rfl rfl (.bool false) (by rfl) ?_
 refine RM rfl ?_
 refine RQ (OpOk.fact (ok_loadA (s := 1000014) (by decide) Try.underlying36 rfl (size36.of (rfl)) rfl rfl) (d := hdD (vlist (rowQ cs) cs.length) (alR (m + r) l r)) (s := 1000104) (by decide) rfl (hd_of (rowQ cs) (alR (m + r) l r) (rowQ_length cs).symm (Nat.le_refl _) (by simp only [maxLen]; omega) (List.take_of_length_le (Nat.le_of_eq (rowQ_length cs))))) ?_
 refine RQ (OpOk.fact (ok_loadA (s := 1000013) (by decide) Try.underlying36 rfl (size36.of (rfl)) rfl rfl) (d := hdD (vlst (rowQ cs)) (alR (m + r) l r)) (s := 1000108) (by decide) rfl (hd_ofL (rowQ cs) (alR (m + r) l r) (rowQ_length _).symm (Nat.le_add_right _ _) hz108 (rowQ_take _ _))) ?_
 refine RQ (ok_call (same8_fn cs (m + r) l r (by first | omega | (simp; omega))) (Args.cons rfl (Le.eq (by simp)) (A1 rfl))) ?_
 refine RQ (ok_not rfl) ?_; refine RZ (.bool false) (by rfl) ?_
 refine RP rfl rfl ?_
 refine RN ?_
 refine A.no rfl ?_
 refine A.skip ?_
 refine EN ?_
 refine GS ?_
 refine TN 1 ?_
 refine RS (OpOk.fact (ok_loadA (s := 1000005) (by decide) Try.underlying36 rfl (size36.of (rfl)) rfl rfl) (d := hdD (vlst (rowQ cs)) (alR m l r)) (s := 1000021) (by decide) rfl (hd_ofL (rowQ cs) (alR m l r) (rowQ_length _).symm (Nat.le_add_right _ _) hz21 (rowQ_take _ _))) ?_
 refine RN ?_
 refine ⟨_, _, eff_name (n := 182) (d := 138) (k := 1000138) rfl rfl (fun B' => ok_callB (Crash_ok cs m l r hV) newD_mono (A1 rfl)) (by decide) (by decide), fun b138 hb138 => ?_⟩
 have hBb138 := hb138.1
 have hlt_b2_b138 : b2 < b138 := hb138.2 1000002 _ _ _ rfl
 have hlt_b5_b138 : b5 < b138 := hb138.2 1000005 _ _ _ rfl
 have hlt_b10_b138 : b10 < b138 := hb138.2 1000010 _ _ _ rfl
 have hlt_b11_b138 : b11 < b138 := hb138.2 1000011 _ _ _ rfl
 have hlt_b13_b138 : b13 < b138 := hb138.2 1000013 _ _ _ rfl
 have hlt_b14_b138 : b14 < b138 := hb138.2 1000014 _ _ _ rfl
 have hlt_b21_b138 : b21 < b138 := hb138.2 1000021 _ _ _ rfl
 have hlt_b47_b138 : b47 < b138 := hb138.2 1000047 _ _ _ rfl
 have hlt_b104_b138 : b104 < b138 := hb138.2 1000104 _ _ _ rfl
 have hlt_b108_b138 : b108 < b138 := hb138.2 1000108 _ _ _ rfl
 refine TN 5 ?_
 refine RM rfl ?_
 refine RS (ok_extractV rfl rfl) ?_
 refine RS (ok_extractV rfl rfl) ?_
 refine RN ?_
 refine ⟨_, _, eff_alloc (n := 182) (d := 16) (k := 1000016) zero36 (by decide), fun b16 hb16 => ?_⟩
 have hBb16 := hb16.1
 have hlt_b5_b16 : b5 < b16 := hb16.2 1000005 _ _ _ rfl
 have hlt_b11_b16 : b11 < b16 := hb16.2 1000011 _ _ _ rfl
 have hlt_b13_b16 : b13 < b16 := hb16.2 1000013 _ _ _ rfl
 have hlt_b14_b16 : b14 < b16 := hb16.2 1000014 _ _ _ rfl
 refine TF 6 ?_
 refine RN ?_
 refine ⟨_, eff_storeA (n := 182) (s := 1000016) (size36.of (rfl)) rfl rfl (rfl) hBb16 rfl (rfl) (LV 2 rfl (LV 5 rfl (LV 13 rfl (LV 16 rfl (LV 140 rfl (LT 1000002 rfl (LB 1000005 rfl (LT 1000010 rfl (LB 1000011 rfl (LB 1000013 rfl (LB 1000014 rfl (LT 1000021 rfl (LT 1000047 rfl (LT 1000104 rfl (LT 1000108 rfl (LT 1000138 rfl (LO 1000200 rfl LN))))))))))))))))), ?_⟩
 refine TL ?_
 refine RA rfl ?_
 refine RN ?_
 refine A.sub (KC 2 rfl (KC 5 rfl (KC 13 rfl (KC 16 rfl (KC 17 rfl (KC 1000002 rfl (KC 1000005 rfl (KC 1000010 rfl (KC 1000011 rfl (KC 1000013 rfl (KC 1000014 rfl (KC 1000016 rfl (KC 1000021 rfl (KC 1000047 rfl (KC 1000104 rfl (KC 1000108 rfl (KC 1000138 rfl (KC 1000200 rfl KN)))))))))))))))))) ?_
 refine GS ?_
 refine RunTK.nameZ 1 (by decide) rfl (.inl rfl) ?_
 refine RS (OpOk.hdO (ok_loadA (s := 1000002) (by decide) Try.underlying51 rfl (size51.of (rfl)) rfl rfl) hv (k := 1000200) (by decide) rfl) ?_
 refine RN ?_
 refine ⟨142, 1000142, _, 23, _, _, hn0, rfl, rfl, fun B' => ok_callB hOf own_mono2 (Args.cons rfl (Le.old _ _) Args.nil), by decide, by decide, fun b142 z142 hb142 hz142 => ?_⟩
 have hBb142 := hb142.1
 have hlt_b2_b142 : b2 < b142 := hb142.2 1000002 _ _ _ rfl
 have hlt_b5_b142 : b5 < b142 := hb142.2 1000005 _ _ _ rfl
 have hlt_b10_b142 : b10 < b142 := hb142.2 1000010 _ _ _ rfl
 have hlt_b11_b142 : b11 < b142 := hb142.2 1000011 _ _ _ rfl
 have hlt_b13_b142 : b13 < b142 := hb142.2 1000013 _ _ _ rfl
 have hlt_b14_b142 : b14 < b142 := hb142.2 1000014 _ _ _ rfl
 have hlt_b16_b142 : b16 < b142 := hb142.2 1000016 _ _ _ rfl
 have hlt_b21_b142 : b21 < b142 := hb142.2 1000021 _ _ _ rfl
 have hlt_b47_b142 : b47 < b142 := hb142.2 1000047 _ _ _ rfl
 have hlt_b104_b142 : b104 < b142 := hb142.2 1000104 _ _ _ rfl
 have hlt_b108_b142 : b108 < b142 := hb142.2 1000108 _ _ _ rfl
 have hlt_b138_b142 : b138 < b142 := hb142.2 1000138 _ _ _ rfl
 refine TF 2 ?_
 refine RN ?_
 refine ⟨_, eff_storeA (n := 182) (s := 1000013) (size36.of (rfl)) rfl rfl (rfl) hBb13 rfl (rfl) (LV 2 rfl (LV 5 rfl (LV 13 rfl (LV 16 rfl (LV 17 rfl (LT 1000002 rfl (LB 1000005 rfl (LT 1000010 rfl (LB 1000011 rfl (LB 1000014 rfl (LB 1000016 rfl (LT 1000021 rfl (LT 1000047 rfl (LT 1000104 rfl (LT 1000108 rfl (LT 1000138 rfl (LT 1000142 rfl (LO 1000200 rfl LN)))))))))))))))))), ?_⟩
 refine TL ?_
 refine RN ?_
 refine A.seq ?_
 refine GS ?_
 refine TL ?_
 refine RA rfl ?_
 refine RN ?_
 refine A.block ?_
 refine A.loop (ι := Nat) (fun i => i ≤ cs.length) (fun i => [(1000200, old w₀.heap.size (valM v (vlst (us.map sV)))), (2, .v (.pointer (some ⟨b2, 0, none⟩))), (5, .v (.pointer (some ⟨b5, 0, none⟩))), (13, .v (.pointer (some ⟨b13, 0, none⟩))), (16, .v (.pointer (some ⟨b16, 0, none⟩))), (17, .v (.int .i64 0)), (18, .v (nI i)), (1000002, blk b2 51 (v :: [nB M, nB R, .int .u16 ((O : Nat) : Int)])), (1000005, blk b5 36 (.slice (some ⟨b21, 0, none⟩) cs.length (cs.length + z21.length) :: alR m l r)), (1000021, blk b21 23 (rowQ cs ++ z21)), (1000013, blk b13 36 (.slice (some ⟨b142, 0, none⟩) cs.length (cs.length + z142.length) :: alR m l r)), (1000142, blk b142 23 (rowQ (fillTo cs m i) ++ z142)), (1000016, blk b16 36 (.slice (some ⟨b138, 0, none⟩) (cs.length) (cs.length) :: alR m l r)), (1000138, blk b138 23 (rowQ (List.replicate cs.length m)))]) (fun i => cs.length - i) 0 ?_ ?_ ?_
 ·exact Nat.zero_le _
 ·exact (KC 1000200 rfl (KC 2 rfl (KC 5 rfl (KC 13 rfl (KC 16 rfl (KC 17 rfl (KE 18 rfl (by rfl) (KC 1000002 rfl (KC 1000005 rfl (KC 1000021 rfl (KC 1000013 rfl (KE 1000142 rfl (by rw [fillTo_zero]) (KC 1000016 rfl (KC 1000138 rfl KN))))))))))))))
 intro i hi'
 refine A.seq ?_
 refine GS ?_
 refine TL ?_
 refine RM rfl ?_
 refine RS (ok_field field36_0 (by decide) rfl) ?_
 refine RS (ok_loadV (s := 1000013) (by decide) Try.underlying34 rfl rfl rfl (rfl)) ?_
 refine RS (ok_lenV Try.underlying34 rfl) ?_
 refine RB rfl rfl rfl ?_
 refine RN ?_
 refine A.cond rfl (fun hc147 => ?_) (fun hc147 => ?_)
 ·have hi : i < cs.length := by simp at hc147; omega
  refine A.skip ?_
  refine EN ?_
  refine A.seq ?_
  refine A.block ?_
  refine GE ?_
  refine TF 6 ?_
  refine RS (ok_field field36_0 (by decide) rfl) ?_
  refine RS (ok_loadV (s := 1000013) (by decide) Try.underlying34 rfl rfl rfl (rfl)) ?_
  refine RM rfl ?_
  refine RS (ok_field field36_1 (by decide) rfl) ?_
  refine RS (ok_loadV (s := 1000013) (by decide) Try.underlying23 rfl rfl rfl (rfl)) ?_
  refine RS (ok_indexV i Try.underlying34 info23 rfl rfl rfl (by omega)) ?_
  refine RN ?_
  refine ⟨_, eff_storeS (n := 182) (s := 1000142) info23 rfl rfl rfl hBb142 rfl (by rw [List.length_append, rowQ_length, fillTo_length (by omega)]; omega) (LV 2 rfl (LV 5 rfl (LV 13 rfl (LV 16 rfl (LV 17 rfl (LV 18 rfl (LT 1000002 rfl (LT 1000005 rfl (LT 1000013 rfl (LT 1000016 rfl (LB 1000021 rfl (LB 1000138 rfl (LO 1000200 rfl LN))))))))))))), ?_⟩
  refine TL ?_
  refine RN ?_
  refine End.normal_block ?_
  refine EN ?_
  refine GE ?_
  refine TL ?_
  refine RM rfl ?_
  refine RBS rfl rfl rfl (nI (i + 1)) (by rw [wrap_i64 (by omega) (by omega)]; exact congrArg (Value.int .i64) (by omega)) ?_
  refine RA rfl ?_
  refine RN ?_
  refine End.normal_then ?_
  refine End.again (i + 1) ?_ ?_ ?_
  ·show _ ≤ _; omega
  ·show _ - _ < _ - _; omega
  ·exact (KC 1000200 rfl (KC 2 rfl (KC 5 rfl (KC 13 rfl (KC 16 rfl (KC 17 rfl (KC 18 rfl (KC 1000002 rfl (KC 1000005 rfl (KC 1000021 rfl (KC 1000013 rfl (KE 1000142 rfl (by rw [Nat.zero_add, rowQ_setA (by rw [fillTo_length (by omega)]; omega), fillTo_set (by omega)]) (KC 1000016 rfl (KC 1000138 rfl KN))))))))))))))
 ·have hi2 : i = cs.length := by simp at hc147; omega
  refine A.exit ?_
  refine End.exit_then ?_
  refine End.exit_then ?_
  refine End.exit_here ?_
  refine EN ?_
  refine A.seq ?_
  refine GS ?_
  refine TL ?_
  refine RM rfl ?_
  refine RBS rfl rfl rfl (.bool false) (by rfl) ?_
  refine RM rfl ?_
  refine RQ (OpOk.fact (ok_loadA (s := 1000016) (by decide) Try.underlying36 rfl (size36.of (rfl)) rfl rfl) (d := hdD (vlist (rowQ (List.replicate cs.length m)) cs.length) (alR m l r)) (s := 1000138) (by decide) rfl (hd_of (rowQ (List.replicate cs.length m)) (alR m l r) (by rw [rowQ_length, List.length_replicate]) (Nat.le_refl _) (by simp only [maxLen]; omega) (List.take_of_length_le (by rw [rowQ_length, List.length_replicate]; exact Nat.le_refl _)))) ?_
  refine RQ (OpOk.fact (ok_loadA (s := 1000013) (by decide) Try.underlying36 rfl (size36.of (rfl)) rfl rfl) (d := hdD (vlst (rowQ (List.replicate cs.length m))) (alR m l r)) (s := 1000142) (by decide) rfl (hd_ofL (rowQ (List.replicate cs.length m)) (alR m l r) (by rw [rowQ_length]; simp) (Nat.le_add_right _ _) hz142 (by rw [hi2, fillTo_end rfl]; exact List.take_left' (by rw [rowQ_length, List.length_replicate])))) ?_
  refine RQ (ok_call (same8_fn (List.replicate cs.length m) m l r (by first | omega | (simp; omega))) (Args.cons rfl (Le.eq (by simp)) (A1 rfl))) ?_
  refine RQ (ok_not rfl) ?_; refine RZ (.bool false) (by rfl) ?_
  refine RP rfl rfl ?_
  refine RN ?_
  refine A.no rfl ?_
  refine A.skip ?_
  refine EN ?_
  refine GS ?_
  refine TF 6 ?_
  refine RS (ok_field field36_0 (by decide) rfl) ?_
  refine RS (ok_loadV (s := 1000016) (by decide) Try.underlying34 rfl rfl rfl (rfl)) ?_
  refine RS (ok_indexV 0 Try.underlying34 info23 rfl rfl rfl (by omega)) ?_
  refine RS (ok_loadV (s := 1000138) (by decide) Try.underlying23 rfl rfl rfl (by rw [Nat.zero_add]; exact rowQ_rep0 hn0)) ?_
  refine RBS rfl rfl rfl (nQ (m + 1)) (by rw [wrap_u64 (by omega) (by omega)]; rfl) ?_
  refine RS (ok_indexV 0 Try.underlying34 info23 rfl rfl rfl (by omega)) ?_
  refine RN ?_
  refine ⟨_, eff_storeS (n := 182) (s := 1000138) info23 rfl rfl rfl hBb138 rfl (by rw [rowQ_length, List.length_replicate]; omega) (LV 2 rfl (LV 5 rfl (LT 1000002 rfl (LT 1000005 rfl (LT 1000013 rfl (LT 1000016 rfl (LB 1000021 rfl (LB 1000142 rfl (LO 1000200 rfl LN))))))))), ?_⟩
  refine TL ?_
  refine RN ?_
  refine GS ?_
  refine RunTK.nameZ 1 (by decide) rfl (.inl rfl) ?_
  refine RS (OpOk.hdO (ok_loadA (s := 1000002) (by decide) Try.underlying51 rfl (size51.of (rfl)) rfl rfl) hv (k := 1000200) (by decide) rfl) ?_
  refine RN ?_
  refine ⟨171, 1000171, _, 23, _, _, hn0, rfl, rfl, fun B' => ok_callB hOf own_mono2 (Args.cons rfl (Le.old _ _) Args.nil), by decide, by decide, fun b171 z171 hb171 hz171 => ?_⟩
  have hBb171 := hb171.1
  have hlt_b2_b171 : b2 < b171 := hb171.2 1000002 _ _ _ rfl
  have hlt_b5_b171 : b5 < b171 := hb171.2 1000005 _ _ _ rfl
  have hlt_b13_b171 : b13 < b171 := hb171.2 1000013 _ _ _ rfl
  have hlt_b16_b171 : b16 < b171 := hb171.2 1000016 _ _ _ rfl
  have hlt_b21_b171 : b21 < b171 := hb171.2 1000021 _ _ _ rfl
  have hlt_b138_b171 : b138 < b171 := hb171.2 1000138 _ _ _ rfl
  have hlt_b142_b171 : b142 < b171 := hb171.2 1000142 _ _ _ rfl
  refine TN 2 ?_
  refine RN ?_
  refine ⟨_, _, eff_alloc (n := 182) (d := 19) (k := 1000019) zero36 (by decide), fun b19 hb19 => ?_⟩
  have hBb19 := hb19.1
  have hlt_b5_b19 : b5 < b19 := hb19.2 1000005 _ _ _ rfl
  have hlt_b13_b19 : b13 < b19 := hb19.2 1000013 _ _ _ rfl
  have hlt_b16_b19 : b16 < b19 := hb19.2 1000016 _ _ _ rfl
  refine TF 3 ?_
  refine RN ?_
  refine ⟨_, eff_storeA (n := 182) (s := 1000019) (size36.of (rfl)) rfl rfl (rfl) hBb19 rfl (rfl) (LV 5 rfl (LV 19 rfl (LT 1000002 rfl (LB 1000005 rfl (LB 1000013 rfl (LB 1000016 rfl (LT 1000021 rfl (LT 1000138 rfl (LT 1000142 rfl (LT 1000171 rfl (LO 1000200 rfl LN))))))))))), ?_⟩
  refine TL ?_
  refine RN ?_
  refine GD ?_
  refine TL ?_
  refine RS (OpOk.fact (ok_loadA (s := 1000005) (by decide) Try.underlying36 rfl (size36.of (rfl)) rfl rfl) (d := hdD (vlst (rowQ cs)) (alR m l r)) (s := 1000021) (by decide) rfl (hd_ofL (rowQ cs) (alR m l r) (rowQ_length _).symm (Nat.le_add_right _ _) hz21 (rowQ_take _ _))) ?_
  refine RS (ok_call (rowOf_fn cs m l r (by omega) hm64 hV.2.2.1) (A1 rfl)) ?_
  refine RS (ok_str (l := rowL cs) Try.underlying26 Try.underlying5 Try.underlying9 rfl (Le.refl _)) ?_
  refine RS (OpOk.fact (ok_loadA (s := 1000019) (by decide) Try.underlying36 rfl (size36.of (rfl)) rfl rfl) (d := hdD (vlst (rowQ cs)) (alR m l r)) (s := 1000171) (by decide) rfl (hd_ofL (rowQ cs) (alR m l r) (rowQ_length _).symm (Nat.le_add_right _ _) hz171 (rowQ_take _ _))) ?_
  refine RS (ok_call (rowOf_fn cs m l r (by omega) hm64 hV.2.2.1) (A1 rfl)) ?_
  refine RS (ok_str (l := rowL cs) Try.underlying26 Try.underlying5 Try.underlying9 rfl (Le.refl _)) ?_
  refine RS (ok_seq rfl rfl) ?_; refine RZ (.bool true) (by simp) ?_
  refine RM rfl ?_
  refine RQ (ok_call lives8_fn Args.nil) ?_
  refine RP rfl rfl ?_
  refine RA rfl ?_
  refine RN ?_
  refine A.sub (KC 4 rfl (KC 1000002 rfl (KC 1000005 rfl (KC 1000013 rfl (KC 1000016 rfl (KC 1000019 rfl (KC 1000021 rfl (KC 1000138 rfl (KC 1000142 rfl (KC 1000171 rfl (KC 1000200 rfl KN))))))))))) ?_
  refine A.ret ?_
  exact End.ret1 rfl rfl (by first | exact Le.refl _ | exact Le.old _ _)
set_option maxHeartbeats 8000000 in
theorem NS_N_P (us cs : List Nat) (M R O m l r k s : Nat) (hOf : FnB Try.prog 21 [hdD (vlst (us.map sV)) [nB M, nB R, .int .u16 ((O : Nat) : Int)]] (fun B => hdD (own B 23 cs.length (rowQ cs)) (alR m l r))) (hV : Valid cs m l r) (hm64 : m < 18446744073709551615) (hl64 : l < 18446744073709551616) (hr64 : m + r < 18446744073709551616) (hk : k < 256) (hs : s = k % cs.length) (hc : cs.getD s 0 < m) (hq : l < m + r) : Fn Try.prog 5 [hdD (vlst (us.map sV)) [nB M, nB R, .int .u16 ((O : Nat) : Int)], .v (nB k)] (.v (.bool true)) := by
 have hn0 : 0 < cs.length := hV.1
 have hn8 : cs.length ≤ 8 := hV.2.1
 have hml : m ≤ l := hV.2.2.2.1
 have hs1 : s < cs.length := by rw [hs]; exact Nat.mod_lt _ hn0
 have hgm : cs.getD s 0 ≤ m := getD_le hV.2.2.1
 have hm64 : m < 18446744073709551616 := by omega
 refine Fn.of Try.func5 rfl (by kernel_rfl) Try.ntmps5 (by simp) (fun w => [(0, old w.heap.size (hdD (vlst (us.map sV)) [nB M, nB R, .int .u16 ((O : Nat) : Int)])), (1, .v (nB k))]) (fun w => (Start.old rfl (Start.v rfl Start.nil))) fun w₀ => ?_
 refine A.nameHd (t := 0) (k := 1000200) rfl fun v hv => ?_
 refine GS ?_
 refine TN 0 ?_
 refine RN ?_
 refine ⟨_, _, eff_box (n := 182) (d := 2) (k := 1000002) rfl (by decide), fun b2 hb2 => ?_⟩
 have hBb2 := hb2.1
 refine TL ?_
 refine RA rfl ?_
 refine RN ?_
 refine GS ?_
 refine RunTK.nameZ 1 (by decide) rfl (.inl rfl) ?_
 refine RS (OpOk.hdO (ok_loadA (s := 1000002) (by decide) Try.underlying51 rfl (size51.of (rfl)) rfl rfl) hv (k := 1000200) (by decide) rfl) ?_
 refine RN ?_
 refine ⟨21, 1000021, _, 23, _, _, hn0, rfl, rfl, fun B' => ok_callB hOf own_mono2 (Args.cons rfl (Le.old _ _) Args.nil), by decide, by decide, fun b21 z21 hb21 hz21 => ?_⟩
 have hBb21 := hb21.1
 have hlt_b2_b21 : b2 < b21 := hb21.2 1000002 _ _ _ rfl
 refine TN 2 ?_
 refine RN ?_
 refine ⟨_, _, eff_alloc (n := 182) (d := 5) (k := 1000005) zero36 (by decide), fun b5 hb5 => ?_⟩
 have hBb5 := hb5.1
 refine TF 3 ?_
 refine RN ?_
 refine ⟨_, eff_storeA (n := 182) (s := 1000005) (size36.of (rfl)) rfl rfl (rfl) hBb5 rfl (rfl) (LV 1 rfl (LV 2 rfl (LV 5 rfl (LT 1000002 rfl (LT 1000021 rfl (LO 1000200 rfl LN)))))), ?_⟩
 refine TL ?_
 refine RN ?_
 refine GS ?_
 refine TL ?_
 refine RM rfl ?_
 refine RS (ok_conv Try.underlying5 Try.underlying3 rfl) ?_; refine RZ (nI k) (by rw [wrapN_i64 (by omega)]) ?_
 refine RS (ok_field field36_0 (by decide) rfl) ?_
 refine RS (ok_loadV (s := 1000005) (by decide) Try.underlying34 rfl rfl rfl (rfl)) ?_
 refine RS (ok_lenV Try.underlying34 rfl) ?_
 refine RS (ok_rem rfl rfl (by omega)) ?_; refine RZ (nI s) (by rw [hs]; exact congrArg (Value.int .i64) (Int.ofNat_tmod _ _).symm) ?_
 refine RA rfl ?_
 refine RN ?_
 refine GS ?_
 refine TL ?_
 refine RS (ok_field field36_0 (by decide) rfl) ?_
 refine RS (ok_loadV (s := 1000005) (by decide) Try.underlying34 rfl rfl rfl (rfl)) ?_
 refine RM rfl ?_
 refine RS (ok_indexV s Try.underlying34 info23 rfl rfl rfl (by omega)) ?_
 refine RS (ok_loadV (s := 1000021) (by decide) Try.underlying23 rfl rfl rfl (by rw [Nat.zero_add]; exact rowQ_getA hs1)) ?_
 refine RA rfl ?_
 refine RN ?_
 refine GS ?_
 refine TL ?_
 refine RS (OpOk.fact (ok_loadA (s := 1000005) (by decide) Try.underlying36 rfl (size36.of (rfl)) rfl rfl) (d := hdD (vlst (rowQ cs)) (alR m l r)) (s := 1000021) (by decide) rfl (hd_ofL (rowQ cs) (alR m l r) (rowQ_length _).symm (Nat.le_add_right _ _) hz21 (rowQ_take _ _))) ?_
 refine RM rfl ?_
 refine RS (ok_call (Left_ok cs m l r s hs1 hV hm64) (A2 rfl rfl)) ?_
 refine RM rfl ?_
 refine RS (ok_extractV rfl rfl) ?_
 refine RS (ok_extractV rfl rfl) ?_
 refine RA rfl ?_
 refine RA rfl ?_
 refine RN ?_
 refine A.sub (KC 2 rfl (KC 5 rfl (KC 6 rfl (KC 7 rfl (KC 8 rfl (KC 9 rfl (KC 1000002 rfl (KC 1000005 rfl (KC 1000021 rfl (KC 1000200 rfl KN)))))))))) ?_
 refine GS ?_
 refine TN 2 ?_
 refine RS (OpOk.fact (ok_loadA (s := 1000005) (by decide) Try.underlying36 rfl (size36.of (rfl)) rfl rfl) (d := hdD (vlst (rowQ cs)) (alR m l r)) (s := 1000021) (by decide) rfl (hd_ofL (rowQ cs) (alR m l r) (rowQ_length _).symm (Nat.le_add_right _ _) hz21 (rowQ_take _ _))) ?_
 refine RM rfl ?_
 refine RN ?_
 refine ⟨_, _, eff_name (n := 182) (d := 42) (k := 1000042) rfl rfl (fun B' => ok_callB (Take_ok cs m l r s hs1 hV hc hm64) newD_mono (A2 rfl rfl)) (by decide) (by decide), fun b42 hb42 => ?_⟩
 have hBb42 := hb42.1
 have hlt_b2_b42 : b2 < b42 := hb42.2 1000002 _ _ _ rfl
 have hlt_b5_b42 : b5 < b42 := hb42.2 1000005 _ _ _ rfl
 have hlt_b21_b42 : b21 < b42 := hb42.2 1000021 _ _ _ rfl
 refine TN 7 ?_
 refine RM rfl ?_
 refine RS (ok_extractV rfl rfl) ?_
 refine RS (ok_extractV rfl rfl) ?_
 refine RS (ok_extractV rfl rfl) ?_
 refine RN ?_
 refine ⟨_, _, eff_alloc (n := 182) (d := 10) (k := 1000010) zero25 (by decide), fun b10 hb10 => ?_⟩
 have hBb10 := hb10.1
 refine TN 8 ?_
 refine RN ?_
 refine ⟨_, _, eff_alloc (n := 182) (d := 11) (k := 1000011) zero36 (by decide), fun b11 hb11 => ?_⟩
 have hBb11 := hb11.1
 have hlt_b5_b11 : b5 < b11 := hb11.2 1000005 _ _ _ rfl
 refine TF 9 ?_
 refine RN ?_
 refine ⟨_, eff_storeA (n := 182) (s := 1000010) (size25.of (rfl)) rfl rfl (rfl) hBb10 rfl (rfl) (LV 2 rfl (LV 5 rfl (LV 6 rfl (LV 7 rfl (LV 8 rfl (LV 9 rfl (LV 10 rfl (LV 11 rfl (LV 44 rfl (LV 45 rfl (LT 1000002 rfl (LT 1000005 rfl (LT 1000011 rfl (LT 1000021 rfl (LT 1000042 rfl (LO 1000200 rfl LN)))))))))))))))), ?_⟩
 refine TF 10 ?_
 refine RN ?_
 refine ⟨_, eff_storeA (n := 182) (s := 1000011) (size36.of (rfl)) rfl rfl (rfl) hBb11 rfl (rfl) (LV 2 rfl (LV 5 rfl (LV 6 rfl (LV 7 rfl (LV 8 rfl (LV 9 rfl (LV 10 rfl (LV 11 rfl (LV 45 rfl (LT 1000002 rfl (LB 1000005 rfl (LT 1000010 rfl (LT 1000021 rfl (LT 1000042 rfl (LO 1000200 rfl LN))))))))))))))), ?_⟩
 refine TL ?_
 refine RA rfl ?_
 refine RN ?_
 refine GS ?_
 refine RunTK.nameZ 1 (by decide) rfl (.inl rfl) ?_
 refine RS (OpOk.hdO (ok_loadA (s := 1000002) (by decide) Try.underlying51 rfl (size51.of (rfl)) rfl rfl) hv (k := 1000200) (by decide) rfl) ?_
 refine RN ?_
 refine ⟨47, 1000047, _, 23, _, _, hn0, rfl, rfl, fun B' => ok_callB hOf own_mono2 (Args.cons rfl (Le.old _ _) Args.nil), by decide, by decide, fun b47 z47 hb47 hz47 => ?_⟩
 have hBb47 := hb47.1
 have hlt_b2_b47 : b2 < b47 := hb47.2 1000002 _ _ _ rfl
 have hlt_b5_b47 : b5 < b47 := hb47.2 1000005 _ _ _ rfl
 have hlt_b10_b47 : b10 < b47 := hb47.2 1000010 _ _ _ rfl
 have hlt_b11_b47 : b11 < b47 := hb47.2 1000011 _ _ _ rfl
 have hlt_b21_b47 : b21 < b47 := hb47.2 1000021 _ _ _ rfl
 have hlt_b42_b47 : b42 < b47 := hb47.2 1000042 _ _ _ rfl
 refine TN 2 ?_
 refine RN ?_
 refine ⟨_, _, eff_alloc (n := 182) (d := 13) (k := 1000013) zero36 (by decide), fun b13 hb13 => ?_⟩
 have hBb13 := hb13.1
 have hlt_b5_b13 : b5 < b13 := hb13.2 1000005 _ _ _ rfl
 have hlt_b11_b13 : b11 < b13 := hb13.2 1000011 _ _ _ rfl
 refine TF 3 ?_
 refine RN ?_
 refine ⟨_, eff_storeA (n := 182) (s := 1000013) (size36.of (rfl)) rfl rfl (rfl) hBb13 rfl (rfl) (LV 2 rfl (LV 5 rfl (LV 6 rfl (LV 7 rfl (LV 8 rfl (LV 9 rfl (LV 10 rfl (LV 11 rfl (LV 12 rfl (LV 13 rfl (LT 1000002 rfl (LB 1000005 rfl (LT 1000010 rfl (LB 1000011 rfl (LT 1000021 rfl (LT 1000042 rfl (LT 1000047 rfl (LO 1000200 rfl LN)))))))))))))))))), ?_⟩
 refine TL ?_
 refine RN ?_
 refine A.seq ?_
 refine GS ?_
 refine TL ?_
 refine RM rfl ?_
 refine RS (ok_field field36_1 (by decide) rfl) ?_
 refine RS (ok_loadV (s := 1000005) (by decide) Try.underlying23 rfl rfl rfl (rfl)) ?_
 refine RM rfl ?_
 refine RBS rfl rfl rfl (nQ (m - cs.getD s 0)) (by rw [wrap_u64 (by omega) (by omega)]; exact congrArg (Value.int .u64) (by omega)) ?_
 refine RBS rfl rfl rfl (.bool false) (by simp) ?_
 refine RM rfl ?_
 refine RQ (ok_move rfl) ?_
 refine RQ (ok_bin rfl rfl rfl) ?_; refine RZ (.bool false) (by rfl) ?_
 refine RP rfl rfl ?_
 refine RN ?_
 refine A.sub (KC 2 rfl (KC 5 rfl (KC 6 rfl (KC 7 rfl (KC 10 rfl (KC 11 rfl (KC 12 rfl (KC 13 rfl (KC 57 rfl (KC 1000002 rfl (KC 1000005 rfl (KC 1000010 rfl (KC 1000011 rfl (KC 1000013 rfl (KC 1000021 rfl (KC 1000042 rfl (KC 1000047 rfl (KC 1000200 rfl KN)))))))))))))))))) ?_
 refine A.no rfl ?_
 refine A.skip ?_
 refine EN ?_
 refine A.seq ?_
 refine GS ?_
 refine TL ?_
 refine RM rfl ?_
 refine RS (ok_field field36_1 (by decide) rfl) ?_
 refine RS (ok_loadV (s := 1000005) (by decide) Try.underlying23 rfl rfl rfl (rfl)) ?_
 refine RBS rfl rfl rfl (.bool false) (congrArg Value.bool (beq_eq_false_iff_ne.2 (by omega))) ?_
 refine RN ?_
 refine A.no rfl ?_
 refine GS ?_
 refine TF 7 ?_
 refine RS (ok_field field36_0 (by decide) rfl) ?_
 refine RS (ok_loadV (s := 1000013) (by decide) Try.underlying34 rfl rfl rfl (rfl)) ?_
 refine RM rfl ?_
 refine RS (ok_indexV s Try.underlying34 info23 rfl rfl rfl (by omega)) ?_
 refine RS (ok_loadV (s := 1000047) (by decide) Try.underlying23 rfl rfl rfl (by rw [Nat.zero_add]; exact rowQ_getA hs1)) ?_
 refine RBS rfl rfl rfl (nQ (cs.getD s 0 + 1)) (by rw [wrap_u64 (by omega) (by omega)]; rfl) ?_
 refine RS (ok_indexV s Try.underlying34 info23 rfl rfl rfl (by omega)) ?_
 refine RN ?_
 refine ⟨_, eff_storeS (n := 182) (s := 1000047) info23 rfl rfl rfl hBb47 rfl (by rw [List.length_append, rowQ_length]; omega) (LV 2 rfl (LV 5 rfl (LV 6 rfl (LV 7 rfl (LV 10 rfl (LV 11 rfl (LV 12 rfl (LV 13 rfl (LT 1000002 rfl (LT 1000005 rfl (LT 1000010 rfl (LT 1000011 rfl (LT 1000013 rfl (LB 1000021 rfl (LB 1000042 rfl (LO 1000200 rfl LN)))))))))))))))), ?_⟩
 refine TL ?_
 refine RN ?_
 refine A.sub (KC 2 rfl (KC 5 rfl (KC 6 rfl (KC 7 rfl (KC 10 rfl (KC 11 rfl (KC 12 rfl (KC 13 rfl (KC 1000002 rfl (KC 1000005 rfl (KC 1000010 rfl (KC 1000011 rfl (KC 1000013 rfl (KC 1000021 rfl (KC 1000042 rfl (KE 1000047 rfl (show _ = blk b47 23 (rowQ (cs.set s (cs.getD s 0 + 1)) ++ z47) from congrArg _ (by rw [Nat.zero_add, rowQ_setA hs1])) (KC 1000200 rfl KN))))))))))))))))) ?_
 refine A.seq ?_
 refine GS ?_
 refine TL ?_
 refine RM rfl ?_
 refine RBS rfl rfl rfl (.bool false) (by rfl) ?_
 refine RM rfl ?_
 refine RQ (ok_loadA (s := 1000010) (by decide) Try.underlying25 rfl (size25.of (rfl)) rfl rfl) ?_
 refine RQ (ok_move rfl) ?_
 refine RQ (ok_conv Try.underlying3 Try.underlying22 rfl) ?_; refine RZ (nW s) (by rw [wrapN_u32 (by omega)]) ?_
 refine RQ (ok_move rfl) ?_
 refine RQ (ok_litS [(0, nW s), (1, nQ (cs.getD s 0))] [nW s, nQ (cs.getD s 0)] ⟨rfl, rfl, rfl, rfl, trivial⟩ (buildN _ _)) ?_
 refine RQ (ok_neqT (n := 3) true flatN (by decide) (by kernel_rfl) (by kernel_rfl) rfl rfl (kinN _ _) (kinN _ _) ⟨fun _ => rfl, fun _ => rfl⟩) ?_; refine RZ (.bool false) (by rfl) ?_
 refine RP rfl rfl ?_
 refine RM rfl ?_
 refine RQ (OpOk.fact (ok_loadA (s := 1000011) (by decide) Try.underlying36 rfl (size36.of (rfl)) rfl rfl) (d := hdD (vlist (rowQ (cs.set s (cs.getD s 0 + 1))) cs.length) (alR m l r)) (s := 1000042) (by decide) rfl (hd_of (rowQ (cs.set s (cs.getD s 0 + 1))) (alR m l r) (by rw [rowQ_length, List.length_set]) (Nat.le_refl _) (by simp only [maxLen]; omega) (List.take_of_length_le (by rw [rowQ_length, List.length_set]; exact Nat.le_refl _)))) ?_
 refine RQ (OpOk.fact (ok_loadA (s := 1000013) (by decide) Try.underlying36 rfl (size36.of (rfl)) rfl rfl) (d := hdD (vlst (rowQ (cs.set s (cs.getD s 0 + 1)))) (alR m l r)) (s := 1000047) (by decide) rfl (hd_ofL (rowQ (cs.set s (cs.getD s 0 + 1))) (alR m l r) (by rw [rowQ_length]; simp) (Nat.le_add_right _ _) hz47 (List.take_left' (by rw [rowQ_length, List.length_set])))) ?_
 refine RQ (ok_call (same8_fn (cs.set s (cs.getD s 0 + 1)) m l r (by first | omega | (simp; omega))) (Args.cons rfl (Le.eq (by simp)) (A1 rfl))) ?_
 refine RQ (ok_not rfl) ?_; refine RZ (.bool false) (by rfl) ?_
 refine RP rfl rfl ?_
 refine RN ?_
 refine A.no rfl ?_
 refine A.skip ?_
 refine EN ?_
 refine GE ?_
 refine TF 4 ?_
 refine RS (ok_field field36_0 (by decide) rfl) ?_
 refine RS (ok_loadV (s := 1000011) (by decide) Try.underlying34 rfl rfl rfl (rfl)) ?_
 refine RM rfl ?_
 refine RS (ok_indexV s Try.underlying34 info23 rfl rfl rfl (by omega)) ?_
 refine RN ?_
 refine ⟨_, eff_storeS (n := 182) (s := 1000042) info23 rfl rfl rfl hBb42 rfl (by rw [rowQ_length, List.length_set]; omega) (LV 2 rfl (LV 5 rfl (LV 13 rfl (LT 1000002 rfl (LT 1000005 rfl (LT 1000010 rfl (LT 1000011 rfl (LT 1000013 rfl (LB 1000021 rfl (LB 1000047 rfl (LO 1000200 rfl LN))))))))))), ?_⟩
 refine TL ?_
 refine RN ?_
 refine EN ?_
 refine GS ?_
 refine TN 5 ?_
 refine RS (OpOk.fact (ok_loadA (s := 1000005) (by decide) Try.underlying36 rfl (size36.of (rfl)) rfl rfl) (d := hdD (vlst (rowQ cs)) (alR m l r)) (s := 1000021) (by decide) rfl (hd_ofL (rowQ cs) (alR m l r) (rowQ_length _).symm (Nat.le_add_right _ _) hz21 (rowQ_take _ _))) ?_
 refine RS (ok_call (Extend_nonce cs m l r hV hl64 (by omega)) (A1 rfl)) ?_
 refine RM rfl ?_
 refine RS (ok_extractV rfl rfl) ?_
 refine RS (ok_extractV rfl rfl) ?_
 refine RN ?_
 refine ⟨_, _, eff_alloc (n := 182) (d := 14) (k := 1000014) zero36 (by decide), fun b14 hb14 => ?_⟩
 have hBb14 := hb14.1
 have hlt_b5_b14 : b5 < b14 := hb14.2 1000005 _ _ _ rfl
 have hlt_b11_b14 : b11 < b14 := hb14.2 1000011 _ _ _ rfl
 have hlt_b13_b14 : b13 < b14 := hb14.2 1000013 _ _ _ rfl
 refine TF 6 ?_
 refine RN ?_
 refine ⟨_, eff_storeA (n := 182) (s := 1000014) (size36.of (rfl)) rfl rfl (rfl) hBb14 rfl (rfl) (LV 2 rfl (LV 5 rfl (LV 13 rfl (LV 14 rfl (LV 106 rfl (LT 1000002 rfl (LB 1000005 rfl (LT 1000010 rfl (LB 1000011 rfl (LB 1000013 rfl (LT 1000021 rfl (LT 1000042 rfl (LT 1000047 rfl (LO 1000200 rfl LN)))))))))))))), ?_⟩
 refine TL ?_
 refine RA rfl ?_
 refine RN ?_
 refine A.sub (KC 2 rfl (KC 5 rfl (KC 13 rfl (KC 14 rfl (KC 15 rfl (KC 1000002 rfl (KC 1000005 rfl (KC 1000010 rfl (KC 1000011 rfl (KC 1000013 rfl (KC 1000014 rfl (KC 1000021 rfl (KC 1000042 rfl (KC 1000047 rfl (KC 1000200 rfl KN))))))))))))))) ?_
 refine GS ?_
 refine RunTK.nameZ 1 (by decide) rfl (.inl rfl) ?_
 refine RS (OpOk.hdO (ok_loadA (s := 1000002) (by decide) Try.underlying51 rfl (size51.of (rfl)) rfl rfl) hv (k := 1000200) (by decide) rfl) ?_
 refine RN ?_
 refine ⟨108, 1000108, _, 23, _, _, hn0, rfl, rfl, fun B' => ok_callB hOf own_mono2 (Args.cons rfl (Le.old _ _) Args.nil), by decide, by decide, fun b108 z108 hb108 hz108 => ?_⟩
 have hBb108 := hb108.1
 have hlt_b2_b108 : b2 < b108 := hb108.2 1000002 _ _ _ rfl
 have hlt_b5_b108 : b5 < b108 := hb108.2 1000005 _ _ _ rfl
 have hlt_b10_b108 : b10 < b108 := hb108.2 1000010 _ _ _ rfl
 have hlt_b11_b108 : b11 < b108 := hb108.2 1000011 _ _ _ rfl
 have hlt_b13_b108 : b13 < b108 := hb108.2 1000013 _ _ _ rfl
 have hlt_b14_b108 : b14 < b108 := hb108.2 1000014 _ _ _ rfl
 have hlt_b21_b108 : b21 < b108 := hb108.2 1000021 _ _ _ rfl
 have hlt_b42_b108 : b42 < b108 := hb108.2 1000042 _ _ _ rfl
 have hlt_b47_b108 : b47 < b108 := hb108.2 1000047 _ _ _ rfl
 refine TF 2 ?_
 refine RN ?_
 refine ⟨_, eff_storeA (n := 182) (s := 1000013) (size36.of (rfl)) rfl rfl (rfl) hBb13 rfl (rfl) (LV 2 rfl (LV 5 rfl (LV 13 rfl (LV 14 rfl (LV 15 rfl (LT 1000002 rfl (LB 1000005 rfl (LT 1000010 rfl (LB 1000011 rfl (LB 1000014 rfl (LT 1000021 rfl (LT 1000042 rfl (LT 1000047 rfl (LT 1000108 rfl (LO 1000200 rfl LN))))))))))))))), ?_⟩
 refine TL ?_
 refine RN ?_
 refine GS ?_
 refine TF 6 ?_
 refine RS (ok_field field36_1 (by decide) rfl) ?_
 refine RS (ok_loadV (s := 1000013) (by decide) Try.underlying23 rfl rfl rfl (rfl)) ?_
 refine RS (ok_field field36_3 (by decide) rfl) ?_
 refine RS (ok_loadV (s := 1000013) (by decide) Try.underlying23 rfl rfl rfl (rfl)) ?_
 refine RBS rfl rfl rfl (nQ (m + r)) (by rw [wrap_u64 (by omega) (by omega)]; rfl) ?_
 refine RS (ok_field field36_1 (by decide) rfl) ?_
 refine RN ?_
 refine ⟨_, eff_storeS (n := 182) (s := 1000013) info23 rfl rfl rfl hBb13 rfl (by simp [alR]) (LV 2 rfl (LV 5 rfl (LV 13 rfl (LV 14 rfl (LV 15 rfl (LT 1000002 rfl (LB 1000005 rfl (LT 1000010 rfl (LB 1000011 rfl (LB 1000014 rfl (LT 1000021 rfl (LT 1000042 rfl (LT 1000047 rfl (LT 1000108 rfl (LO 1000200 rfl LN))))))))))))))), ?_⟩
 refine TL ?_
 refine RN ?_
 refine A.seq ?_
 refine GS ?_
 refine TL ?_
 refine RS (ok_field field36_1 (by decide) rfl) ?_
 refine RS (ok_loadV (s := 1000013) (by decide) Try.underlying23 rfl rfl rfl (rfl)) ?_
 refine RS (ok_field field36_2 (by decide) rfl) ?_
 refine RS (ok_loadV (s := 1000013) (by decide) Try.underlying23 rfl rfl rfl (rfl)) ?_
 refine RBS rfl rfl rfl (.bool true) (by simp; omega) ?_
 refine RN ?_
 refine A.yes rfl ?_
 refine GS ?_
 refine TL ?_
 refine RM rfl ?_
 refine RBS rfl rfl rfl (.bool false) (by rfl) ?_
 refine RM rfl ?_
 refine RQ (ok_field field36_0 (by decide) rfl) ?_
 refine RQ (ok_loadV (s := 1000014) (by decide) Try.underlying34 rfl rfl rfl (rfl)) ?_
 refine RQ (ok_lenV Try.underlying34 rfl) ?_
 refine RQ (ok_bin rfl rfl rfl) ?_; refine RZ (.bool false) (by rfl) ?_
 refine RP rfl rfl ?_
 refine RN ?_
 refine A.no rfl ?_
 refine A.skip ?_
 refine EN ?_
 refine GS ?_
 refine TN 1 ?_
 refine RS (OpOk.fact (ok_loadA (s := 1000005) (by decide) Try.underlying36 rfl (size36.of (rfl)) rfl rfl) (d := hdD (vlst (rowQ cs)) (alR m l r)) (s := 1000021) (by decide) rfl (hd_ofL (rowQ cs) (alR m l r) (rowQ_length _).symm (Nat.le_add_right _ _) hz21 (rowQ_take _ _))) ?_
 refine RN ?_
 refine ⟨_, _, eff_name (n := 182) (d := 138) (k := 1000138) rfl rfl (fun B' => ok_callB (Crash_ok cs m l r hV) newD_mono (A1 rfl)) (by decide) (by decide), fun b138 hb138 => ?_⟩
 have hBb138 := hb138.1
 have hlt_b2_b138 : b2 < b138 := hb138.2 1000002 _ _ _ rfl
 have hlt_b5_b138 : b5 < b138 := hb138.2 1000005 _ _ _ rfl
 have hlt_b10_b138 : b10 < b138 := hb138.2 1000010 _ _ _ rfl
 have hlt_b11_b138 : b11 < b138 := hb138.2 1000011 _ _ _ rfl
 have hlt_b13_b138 : b13 < b138 := hb138.2 1000013 _ _ _ rfl
 have hlt_b14_b138 : b14 < b138 := hb138.2 1000014 _ _ _ rfl
 have hlt_b21_b138 : b21 < b138 := hb138.2 1000021 _ _ _ rfl
 have hlt_b42_b138 : b42 < b138 := hb138.2 1000042 _ _ _ rfl
 have hlt_b47_b138 : b47 < b138 := hb138.2 1000047 _ _ _ rfl
 have hlt_b108_b138 : b108 < b138 := hb138.2 1000108 _ _ _ rfl
 refine TN 5 ?_
 refine RM rfl ?_
 refine RS (ok_extractV rfl rfl) ?_
 refine RS (ok_extractV rfl rfl) ?_
 refine RN ?_
 refine ⟨_, _, eff_alloc (n := 182) (d := 16) (k := 1000016) zero36 (by decide), fun b16 hb16 => ?_⟩
 have hBb16 := hb16.1
 have hlt_b5_b16 : b5 < b16 := hb16.2 1000005 _ _ _ rfl
 have hlt_b11_b16 : b11 < b16 := hb16.2 1000011 _ _ _ rfl
 have hlt_b13_b16 : b13 < b16 := hb16.2 1000013 _ _ _ rfl
 have hlt_b14_b16 : b14 < b16 := hb16.2 1000014 _ _ _ rfl
 refine TF 6 ?_
 refine RN ?_
 refine ⟨_, eff_storeA (n := 182) (s := 1000016) (size36.of (rfl)) rfl rfl (rfl) hBb16 rfl (rfl) (LV 2 rfl (LV 5 rfl (LV 13 rfl (LV 16 rfl (LV 140 rfl (LT 1000002 rfl (LB 1000005 rfl (LT 1000010 rfl (LB 1000011 rfl (LB 1000013 rfl (LB 1000014 rfl (LT 1000021 rfl (LT 1000042 rfl (LT 1000047 rfl (LT 1000108 rfl (LT 1000138 rfl (LO 1000200 rfl LN))))))))))))))))), ?_⟩
 refine TL ?_
 refine RA rfl ?_
 refine RN ?_
 refine A.sub (KC 2 rfl (KC 5 rfl (KC 13 rfl (KC 16 rfl (KC 17 rfl (KC 1000002 rfl (KC 1000005 rfl (KC 1000010 rfl (KC 1000011 rfl (KC 1000013 rfl (KC 1000014 rfl (KC 1000016 rfl (KC 1000021 rfl (KC 1000042 rfl (KC 1000047 rfl (KC 1000108 rfl (KC 1000138 rfl (KC 1000200 rfl KN)))))))))))))))))) ?_
 refine GS ?_
 refine RunTK.nameZ 1 (by decide) rfl (.inl rfl) ?_
 refine RS (OpOk.hdO (ok_loadA (s := 1000002) (by decide) Try.underlying51 rfl (size51.of (rfl)) rfl rfl) hv (k := 1000200) (by decide) rfl) ?_
 refine RN ?_
 refine ⟨142, 1000142, _, 23, _, _, hn0, rfl, rfl, fun B' => ok_callB hOf own_mono2 (Args.cons rfl (Le.old _ _) Args.nil), by decide, by decide, fun b142 z142 hb142 hz142 => ?_⟩
 have hBb142 := hb142.1
 have hlt_b2_b142 : b2 < b142 := hb142.2 1000002 _ _ _ rfl
 have hlt_b5_b142 : b5 < b142 := hb142.2 1000005 _ _ _ rfl
 have hlt_b10_b142 : b10 < b142 := hb142.2 1000010 _ _ _ rfl
 have hlt_b11_b142 : b11 < b142 := hb142.2 1000011 _ _ _ rfl
 have hlt_b13_b142 : b13 < b142 := hb142.2 1000013 _ _ _ rfl
 have hlt_b14_b142 : b14 < b142 := hb142.2 1000014 _ _ _ rfl
 have hlt_b16_b142 : b16 < b142 := hb142.2 1000016 _ _ _ rfl
 have hlt_b21_b142 : b21 < b142 := hb142.2 1000021 _ _ _ rfl
 have hlt_b42_b142 : b42 < b142 := hb142.2 1000042 _ _ _ rfl
 have hlt_b47_b142 : b47 < b142 := hb142.2 1000047 _ _ _ rfl
 have hlt_b108_b142 : b108 < b142 := hb142.2 1000108 _ _ _ rfl
 have hlt_b138_b142 : b138 < b142 := hb142.2 1000138 _ _ _ rfl
 refine TF 2 ?_
 refine RN ?_
 refine ⟨_, eff_storeA (n := 182) (s := 1000013) (size36.of (rfl)) rfl rfl (rfl) hBb13 rfl (rfl) (LV 2 rfl (LV 5 rfl (LV 13 rfl (LV 16 rfl (LV 17 rfl (LT 1000002 rfl (LB 1000005 rfl (LT 1000010 rfl (LB 1000011 rfl (LB 1000014 rfl (LB 1000016 rfl (LT 1000021 rfl (LT 1000042 rfl (LT 1000047 rfl (LT 1000108 rfl (LT 1000138 rfl (LT 1000142 rfl (LO 1000200 rfl LN)))))))))))))))))), ?_⟩
 refine TL ?_
 refine RN ?_
 refine A.seq ?_
 refine GS ?_
 refine TL ?_
 refine RA rfl ?_
 refine RN ?_
 refine A.block ?_
 refine A.loop (ι := Nat) (fun i => i ≤ cs.length) (fun i => [(1000200, old w₀.heap.size (valM v (vlst (us.map sV)))), (2, .v (.pointer (some ⟨b2, 0, none⟩))), (5, .v (.pointer (some ⟨b5, 0, none⟩))), (13, .v (.pointer (some ⟨b13, 0, none⟩))), (16, .v (.pointer (some ⟨b16, 0, none⟩))), (17, .v (.int .i64 0)), (18, .v (nI i)), (1000002, blk b2 51 (v :: [nB M, nB R, .int .u16 ((O : Nat) : Int)])), (1000005, blk b5 36 (.slice (some ⟨b21, 0, none⟩) cs.length (cs.length + z21.length) :: alR m l r)), (1000021, blk b21 23 (rowQ cs ++ z21)), (1000013, blk b13 36 (.slice (some ⟨b142, 0, none⟩) cs.length (cs.length + z142.length) :: alR m l r)), (1000142, blk b142 23 (rowQ (fillTo cs m i) ++ z142)), (1000016, blk b16 36 (.slice (some ⟨b138, 0, none⟩) (cs.length) (cs.length) :: alR m l r)), (1000138, blk b138 23 (rowQ (List.replicate cs.length m)))]) (fun i => cs.length - i) 0 ?_ ?_ ?_
 ·exact Nat.zero_le _
 ·exact (KC 1000200 rfl (KC 2 rfl (KC 5 rfl (KC 13 rfl (KC 16 rfl (KC 17 rfl (KE 18 rfl (by rfl) (KC 1000002 rfl (KC 1000005 rfl (KC 1000021 rfl (KC 1000013 rfl (KE 1000142 rfl (by rw [fillTo_zero]) (KC 1000016 rfl (KC 1000138 rfl KN))))))))))))))
 intro i hi'
 refine A.seq ?_
 refine GS ?_
 refine TL ?_
 refine RM rfl ?_
 refine RS (ok_field field36_0 (by decide) rfl) ?_
 refine RS (ok_loadV (s := 1000013) (by decide) Try.underlying34 rfl rfl rfl (rfl)) ?_
 refine RS (ok_lenV Try.underlying34 rfl) ?_
 refine RB rfl rfl rfl ?_
 refine RN ?_
 refine A.cond rfl (fun hc147 => ?_) (fun hc147 => ?_)
 ·have hi : i < cs.length := by simp at hc147; omega
  refine A.skip ?_
  refine EN ?_
  refine A.seq ?_
  refine A.block ?_
  refine GE ?_
  refine TF 6 ?_
  refine RS (ok_field field36_0 (by decide) rfl) ?_
  refine RS (ok_loadV (s := 1000013) (by decide) Try.underlying34 rfl rfl rfl (rfl)) ?_
  refine RM rfl ?_
  refine RS (ok_field field36_1 (by decide) rfl) ?_
  refine RS (ok_loadV (s := 1000013) (by decide) Try.underlying23 rfl rfl rfl (rfl)) ?_
  refine RS (ok_indexV i Try.underlying34 info23 rfl rfl rfl (by omega)) ?_
  refine RN ?_
  refine ⟨_, eff_storeS (n := 182) (s := 1000142) info23 rfl rfl rfl hBb142 rfl (by rw [List.length_append, rowQ_length, fillTo_length (by omega)]; omega) (LV 2 rfl (LV 5 rfl (LV 13 rfl (LV 16 rfl (LV 17 rfl (LV 18 rfl (LT 1000002 rfl (LT 1000005 rfl (LT 1000013 rfl (LT 1000016 rfl (LB 1000021 rfl (LB 1000138 rfl (LO 1000200 rfl LN))))))))))))), ?_⟩
  refine TL ?_
  refine RN ?_
  refine End.normal_block ?_
  refine EN ?_
  refine GE ?_
  refine TL ?_
  refine RM rfl ?_
  refine RBS rfl rfl rfl (nI (i + 1)) (by rw [wrap_i64 (by omega) (by omega)]; exact congrArg (Value.int .i64) (by omega)) ?_
  refine RA rfl ?_
  refine RN ?_
  refine End.normal_then ?_
  refine End.again (i + 1) ?_ ?_ ?_
  ·show _ ≤ _; omega
  ·show _ - _ < _ - _; omega
  ·exact (KC 1000200 rfl (KC 2 rfl (KC 5 rfl (KC 13 rfl (KC 16 rfl (KC 17 rfl (KC 18 rfl (KC 1000002 rfl (KC 1000005 rfl (KC 1000021 rfl (KC 1000013 rfl (KE 1000142 rfl (by rw [Nat.zero_add, rowQ_setA (by rw [fillTo_length (by omega)]; omega), fillTo_set (by omega)]) (KC 1000016 rfl (KC 1000138 rfl KN))))))))))))))
 ·have hi2 : i = cs.length := by simp at hc147; omega
  refine A.exit ?_
  refine End.exit_then ?_
  refine End.exit_then ?_
  refine End.exit_here ?_
  refine EN ?_
  refine A.seq ?_
  refine GS ?_
  refine TL ?_
  refine RM rfl ?_
  refine RBS rfl rfl rfl (.bool false) (by rfl) ?_
  refine RM rfl ?_
  refine RQ (OpOk.fact (ok_loadA (s := 1000016) (by decide) Try.underlying36 rfl (size36.of (rfl)) rfl rfl) (d := hdD (vlist (rowQ (List.replicate cs.length m)) cs.length) (alR m l r)) (s := 1000138) (by decide) rfl (hd_of (rowQ (List.replicate cs.length m)) (alR m l r) (by rw [rowQ_length, List.length_replicate]) (Nat.le_refl _) (by simp only [maxLen]; omega) (List.take_of_length_le (by rw [rowQ_length, List.length_replicate]; exact Nat.le_refl _)))) ?_
  refine RQ (OpOk.fact (ok_loadA (s := 1000013) (by decide) Try.underlying36 rfl (size36.of (rfl)) rfl rfl) (d := hdD (vlst (rowQ (List.replicate cs.length m))) (alR m l r)) (s := 1000142) (by decide) rfl (hd_ofL (rowQ (List.replicate cs.length m)) (alR m l r) (by rw [rowQ_length]; simp) (Nat.le_add_right _ _) hz142 (by rw [hi2, fillTo_end rfl]; exact List.take_left' (by rw [rowQ_length, List.length_replicate])))) ?_
  refine RQ (ok_call (same8_fn (List.replicate cs.length m) m l r (by first | omega | (simp; omega))) (Args.cons rfl (Le.eq (by simp)) (A1 rfl))) ?_
  refine RQ (ok_not rfl) ?_; refine RZ (.bool false) (by rfl) ?_
  refine RP rfl rfl ?_
  refine RN ?_
  refine A.no rfl ?_
  refine A.skip ?_
  refine EN ?_
  refine GS ?_
  refine TF 6 ?_
  refine RS (ok_field field36_0 (by decide) rfl) ?_
  refine RS (ok_loadV (s := 1000016) (by decide) Try.underlying34 rfl rfl rfl (rfl)) ?_
  refine RS (ok_indexV 0 Try.underlying34 info23 rfl rfl rfl (by omega)) ?_
  refine RS (ok_loadV (s := 1000138) (by decide) Try.underlying23 rfl rfl rfl (by rw [Nat.zero_add]; exact rowQ_rep0 hn0)) ?_
  refine RBS rfl rfl rfl (nQ (m + 1)) (by rw [wrap_u64 (by omega) (by omega)]; rfl) ?_
  refine RS (ok_indexV 0 Try.underlying34 info23 rfl rfl rfl (by omega)) ?_
  refine RN ?_
  refine ⟨_, eff_storeS (n := 182) (s := 1000138) info23 rfl rfl rfl hBb138 rfl (by rw [rowQ_length, List.length_replicate]; omega) (LV 2 rfl (LV 5 rfl (LT 1000002 rfl (LT 1000005 rfl (LT 1000013 rfl (LT 1000016 rfl (LB 1000021 rfl (LB 1000142 rfl (LO 1000200 rfl LN))))))))), ?_⟩
  refine TL ?_
  refine RN ?_
  refine GS ?_
  refine RunTK.nameZ 1 (by decide) rfl (.inl rfl) ?_
  refine RS (OpOk.hdO (ok_loadA (s := 1000002) (by decide) Try.underlying51 rfl (size51.of (rfl)) rfl rfl) hv (k := 1000200) (by decide) rfl) ?_
  refine RN ?_
  refine ⟨171, 1000171, _, 23, _, _, hn0, rfl, rfl, fun B' => ok_callB hOf own_mono2 (Args.cons rfl (Le.old _ _) Args.nil), by decide, by decide, fun b171 z171 hb171 hz171 => ?_⟩
  have hBb171 := hb171.1
  have hlt_b2_b171 : b2 < b171 := hb171.2 1000002 _ _ _ rfl
  have hlt_b5_b171 : b5 < b171 := hb171.2 1000005 _ _ _ rfl
  have hlt_b13_b171 : b13 < b171 := hb171.2 1000013 _ _ _ rfl
  have hlt_b16_b171 : b16 < b171 := hb171.2 1000016 _ _ _ rfl
  have hlt_b21_b171 : b21 < b171 := hb171.2 1000021 _ _ _ rfl
  have hlt_b138_b171 : b138 < b171 := hb171.2 1000138 _ _ _ rfl
  have hlt_b142_b171 : b142 < b171 := hb171.2 1000142 _ _ _ rfl
  refine TN 2 ?_
  refine RN ?_
  refine ⟨_, _, eff_alloc (n := 182) (d := 19) (k := 1000019) zero36 (by decide), fun b19 hb19 => ?_⟩
  have hBb19 := hb19.1
  have hlt_b5_b19 : b5 < b19 := hb19.2 1000005 _ _ _ rfl
  have hlt_b13_b19 : b13 < b19 := hb19.2 1000013 _ _ _ rfl
  have hlt_b16_b19 : b16 < b19 := hb19.2 1000016 _ _ _ rfl
  refine TF 3 ?_
  refine RN ?_
  refine ⟨_, eff_storeA (n := 182) (s := 1000019) (size36.of (rfl)) rfl rfl (rfl) hBb19 rfl (rfl) (LV 5 rfl (LV 19 rfl (LT 1000002 rfl (LB 1000005 rfl (LB 1000013 rfl (LB 1000016 rfl (LT 1000021 rfl (LT 1000138 rfl (LT 1000142 rfl (LT 1000171 rfl (LO 1000200 rfl LN))))))))))), ?_⟩
  refine TL ?_
  refine RN ?_
  refine GD ?_
  refine TL ?_
  refine RS (OpOk.fact (ok_loadA (s := 1000005) (by decide) Try.underlying36 rfl (size36.of (rfl)) rfl rfl) (d := hdD (vlst (rowQ cs)) (alR m l r)) (s := 1000021) (by decide) rfl (hd_ofL (rowQ cs) (alR m l r) (rowQ_length _).symm (Nat.le_add_right _ _) hz21 (rowQ_take _ _))) ?_
  refine RS (ok_call (rowOf_fn cs m l r (by omega) hm64 hV.2.2.1) (A1 rfl)) ?_
  refine RS (ok_str (l := rowL cs) Try.underlying26 Try.underlying5 Try.underlying9 rfl (Le.refl _)) ?_
  refine RS (OpOk.fact (ok_loadA (s := 1000019) (by decide) Try.underlying36 rfl (size36.of (rfl)) rfl rfl) (d := hdD (vlst (rowQ cs)) (alR m l r)) (s := 1000171) (by decide) rfl (hd_ofL (rowQ cs) (alR m l r) (rowQ_length _).symm (Nat.le_add_right _ _) hz171 (rowQ_take _ _))) ?_
  refine RS (ok_call (rowOf_fn cs m l r (by omega) hm64 hV.2.2.1) (A1 rfl)) ?_
  refine RS (ok_str (l := rowL cs) Try.underlying26 Try.underlying5 Try.underlying9 rfl (Le.refl _)) ?_
  refine RS (ok_seq rfl rfl) ?_; refine RZ (.bool true) (by simp) ?_
  refine RM rfl ?_
  refine RQ (ok_call lives8_fn Args.nil) ?_
  refine RP rfl rfl ?_
  refine RA rfl ?_
  refine RN ?_
  refine A.sub (KC 4 rfl (KC 1000002 rfl (KC 1000005 rfl (KC 1000013 rfl (KC 1000016 rfl (KC 1000019 rfl (KC 1000021 rfl (KC 1000138 rfl (KC 1000142 rfl (KC 1000171 rfl (KC 1000200 rfl KN))))))))))) ?_
  refine A.ret ?_
  exact End.ret1 rfl rfl (by first | exact Le.refl _ | exact Le.old _ _)
set_option maxHeartbeats 8000000 in
theorem NS_N_Q (us cs : List Nat) (M R O m l r k s : Nat) (hOf : FnB Try.prog 21 [hdD (vlst (us.map sV)) [nB M, nB R, .int .u16 ((O : Nat) : Int)]] (fun B => hdD (own B 23 cs.length (rowQ cs)) (alR m l r))) (hV : Valid cs m l r) (hm64 : m < 18446744073709551615) (hl64 : l < 18446744073709551616) (hr64 : m + r < 18446744073709551616) (hk : k < 256) (hs : s = k % cs.length) (hc : cs.getD s 0 < m) (hq : m + r ≤ l) : Fn Try.prog 5 [hdD (vlst (us.map sV)) [nB M, nB R, .int .u16 ((O : Nat) : Int)], .v (nB k)] (.v (.bool true)) := by
 have hn0 : 0 < cs.length := hV.1
 have hn8 : cs.length ≤ 8 := hV.2.1
 have hml : m ≤ l := hV.2.2.2.1
 have hs1 : s < cs.length := by rw [hs]; exact Nat.mod_lt _ hn0
 have hgm : cs.getD s 0 ≤ m := getD_le hV.2.2.1
 have hm64 : m < 18446744073709551616 := by omega
 refine Fn.of Try.func5 rfl (by kernel_rfl) Try.ntmps5 (by simp) (fun w => [(0, old w.heap.size (hdD (vlst (us.map sV)) [nB M, nB R, .int .u16 ((O : Nat) : Int)])), (1, .v (nB k))]) (fun w => (Start.old rfl (Start.v rfl Start.nil))) fun w₀ => ?_
 refine A.nameHd (t := 0) (k := 1000200) rfl fun v hv => ?_
 refine GS ?_
 refine TN 0 ?_
 refine RN ?_
 refine ⟨_, _, eff_box (n := 182) (d := 2) (k := 1000002) rfl (by decide), fun b2 hb2 => ?_⟩
 have hBb2 := hb2.1
 refine TL ?_
 refine RA rfl ?_
 refine RN ?_
 refine GS ?_
 refine RunTK.nameZ 1 (by decide) rfl (.inl rfl) ?_
 refine RS (OpOk.hdO (ok_loadA (s := 1000002) (by decide) Try.underlying51 rfl (size51.of (rfl)) rfl rfl) hv (k := 1000200) (by decide) rfl) ?_
 refine RN ?_
 refine ⟨21, 1000021, _, 23, _, _, hn0, rfl, rfl, fun B' => ok_callB hOf own_mono2 (Args.cons rfl (Le.old _ _) Args.nil), by decide, by decide, fun b21 z21 hb21 hz21 => ?_⟩
 have hBb21 := hb21.1
 have hlt_b2_b21 : b2 < b21 := hb21.2 1000002 _ _ _ rfl
 refine TN 2 ?_
 refine RN ?_
 refine ⟨_, _, eff_alloc (n := 182) (d := 5) (k := 1000005) zero36 (by decide), fun b5 hb5 => ?_⟩
 have hBb5 := hb5.1
 refine TF 3 ?_
 refine RN ?_
 refine ⟨_, eff_storeA (n := 182) (s := 1000005) (size36.of (rfl)) rfl rfl (rfl) hBb5 rfl (rfl) (LV 1 rfl (LV 2 rfl (LV 5 rfl (LT 1000002 rfl (LT 1000021 rfl (LO 1000200 rfl LN)))))), ?_⟩
 refine TL ?_
 refine RN ?_
 refine GS ?_
 refine TL ?_
 refine RM rfl ?_
 refine RS (ok_conv Try.underlying5 Try.underlying3 rfl) ?_; refine RZ (nI k) (by rw [wrapN_i64 (by omega)]) ?_
 refine RS (ok_field field36_0 (by decide) rfl) ?_
 refine RS (ok_loadV (s := 1000005) (by decide) Try.underlying34 rfl rfl rfl (rfl)) ?_
 refine RS (ok_lenV Try.underlying34 rfl) ?_
 refine RS (ok_rem rfl rfl (by omega)) ?_; refine RZ (nI s) (by rw [hs]; exact congrArg (Value.int .i64) (Int.ofNat_tmod _ _).symm) ?_
 refine RA rfl ?_
 refine RN ?_
 refine GS ?_
 refine TL ?_
 refine RS (ok_field field36_0 (by decide) rfl) ?_
 refine RS (ok_loadV (s := 1000005) (by decide) Try.underlying34 rfl rfl rfl (rfl)) ?_
 refine RM rfl ?_
 refine RS (ok_indexV s Try.underlying34 info23 rfl rfl rfl (by omega)) ?_
 refine RS (ok_loadV (s := 1000021) (by decide) Try.underlying23 rfl rfl rfl (by rw [Nat.zero_add]; exact rowQ_getA hs1)) ?_
 refine RA rfl ?_
 refine RN ?_
 refine GS ?_
 refine TL ?_
 refine RS (OpOk.fact (ok_loadA (s := 1000005) (by decide) Try.underlying36 rfl (size36.of (rfl)) rfl rfl) (d := hdD (vlst (rowQ cs)) (alR m l r)) (s := 1000021) (by decide) rfl (hd_ofL (rowQ cs) (alR m l r) (rowQ_length _).symm (Nat.le_add_right _ _) hz21 (rowQ_take _ _))) ?_
 refine RM rfl ?_
 refine RS (ok_call (Left_ok cs m l r s hs1 hV hm64) (A2 rfl rfl)) ?_
 refine RM rfl ?_
 refine RS (ok_extractV rfl rfl) ?_
 refine RS (ok_extractV rfl rfl) ?_
 refine RA rfl ?_
 refine RA rfl ?_
 refine RN ?_
 refine A.sub (KC 2 rfl (KC 5 rfl (KC 6 rfl (KC 7 rfl (KC 8 rfl (KC 9 rfl (KC 1000002 rfl (KC 1000005 rfl (KC 1000021 rfl (KC 1000200 rfl KN)))))))))) ?_
 refine GS ?_
 refine TN 2 ?_
 refine RS (OpOk.fact (ok_loadA (s := 1000005) (by decide) Try.underlying36 rfl (size36.of (rfl)) rfl rfl) (d := hdD (vlst (rowQ cs)) (alR m l r)) (s := 1000021) (by decide) rfl (hd_ofL (rowQ cs) (alR m l r) (rowQ_length _).symm (Nat.le_add_right _ _) hz21 (rowQ_take _ _))) ?_
 refine RM rfl ?_
 refine RN ?_
 refine ⟨_, _, eff_name (n := 182) (d := 42) (k := 1000042) rfl rfl (fun B' => ok_callB (Take_ok cs m l r s hs1 hV hc hm64) newD_mono (A2 rfl rfl)) (by decide) (by decide), fun b42 hb42 => ?_⟩
 have hBb42 := hb42.1
 have hlt_b2_b42 : b2 < b42 := hb42.2 1000002 _ _ _ rfl
 have hlt_b5_b42 : b5 < b42 := hb42.2 1000005 _ _ _ rfl
 have hlt_b21_b42 : b21 < b42 := hb42.2 1000021 _ _ _ rfl
 refine TN 7 ?_
 refine RM rfl ?_
 refine RS (ok_extractV rfl rfl) ?_
 refine RS (ok_extractV rfl rfl) ?_
 refine RS (ok_extractV rfl rfl) ?_
 refine RN ?_
 refine ⟨_, _, eff_alloc (n := 182) (d := 10) (k := 1000010) zero25 (by decide), fun b10 hb10 => ?_⟩
 have hBb10 := hb10.1
 refine TN 8 ?_
 refine RN ?_
 refine ⟨_, _, eff_alloc (n := 182) (d := 11) (k := 1000011) zero36 (by decide), fun b11 hb11 => ?_⟩
 have hBb11 := hb11.1
 have hlt_b5_b11 : b5 < b11 := hb11.2 1000005 _ _ _ rfl
 refine TF 9 ?_
 refine RN ?_
 refine ⟨_, eff_storeA (n := 182) (s := 1000010) (size25.of (rfl)) rfl rfl (rfl) hBb10 rfl (rfl) (LV 2 rfl (LV 5 rfl (LV 6 rfl (LV 7 rfl (LV 8 rfl (LV 9 rfl (LV 10 rfl (LV 11 rfl (LV 44 rfl (LV 45 rfl (LT 1000002 rfl (LT 1000005 rfl (LT 1000011 rfl (LT 1000021 rfl (LT 1000042 rfl (LO 1000200 rfl LN)))))))))))))))), ?_⟩
 refine TF 10 ?_
 refine RN ?_
 refine ⟨_, eff_storeA (n := 182) (s := 1000011) (size36.of (rfl)) rfl rfl (rfl) hBb11 rfl (rfl) (LV 2 rfl (LV 5 rfl (LV 6 rfl (LV 7 rfl (LV 8 rfl (LV 9 rfl (LV 10 rfl (LV 11 rfl (LV 45 rfl (LT 1000002 rfl (LB 1000005 rfl (LT 1000010 rfl (LT 1000021 rfl (LT 1000042 rfl (LO 1000200 rfl LN))))))))))))))), ?_⟩
 refine TL ?_
 refine RA rfl ?_
 refine RN ?_
 refine GS ?_
 refine RunTK.nameZ 1 (by decide) rfl (.inl rfl) ?_
 refine RS (OpOk.hdO (ok_loadA (s := 1000002) (by decide) Try.underlying51 rfl (size51.of (rfl)) rfl rfl) hv (k := 1000200) (by decide) rfl) ?_
 refine RN ?_
 refine ⟨47, 1000047, _, 23, _, _, hn0, rfl, rfl, fun B' => ok_callB hOf own_mono2 (Args.cons rfl (Le.old _ _) Args.nil), by decide, by decide, fun b47 z47 hb47 hz47 => ?_⟩
 have hBb47 := hb47.1
 have hlt_b2_b47 : b2 < b47 := hb47.2 1000002 _ _ _ rfl
 have hlt_b5_b47 : b5 < b47 := hb47.2 1000005 _ _ _ rfl
 have hlt_b10_b47 : b10 < b47 := hb47.2 1000010 _ _ _ rfl
 have hlt_b11_b47 : b11 < b47 := hb47.2 1000011 _ _ _ rfl
 have hlt_b21_b47 : b21 < b47 := hb47.2 1000021 _ _ _ rfl
 have hlt_b42_b47 : b42 < b47 := hb47.2 1000042 _ _ _ rfl
 refine TN 2 ?_
 refine RN ?_
 refine ⟨_, _, eff_alloc (n := 182) (d := 13) (k := 1000013) zero36 (by decide), fun b13 hb13 => ?_⟩
 have hBb13 := hb13.1
 have hlt_b5_b13 : b5 < b13 := hb13.2 1000005 _ _ _ rfl
 have hlt_b11_b13 : b11 < b13 := hb13.2 1000011 _ _ _ rfl
 refine TF 3 ?_
 refine RN ?_
 refine ⟨_, eff_storeA (n := 182) (s := 1000013) (size36.of (rfl)) rfl rfl (rfl) hBb13 rfl (rfl) (LV 2 rfl (LV 5 rfl (LV 6 rfl (LV 7 rfl (LV 8 rfl (LV 9 rfl (LV 10 rfl (LV 11 rfl (LV 12 rfl (LV 13 rfl (LT 1000002 rfl (LB 1000005 rfl (LT 1000010 rfl (LB 1000011 rfl (LT 1000021 rfl (LT 1000042 rfl (LT 1000047 rfl (LO 1000200 rfl LN)))))))))))))))))), ?_⟩
 refine TL ?_
 refine RN ?_
 refine A.seq ?_
 refine GS ?_
 refine TL ?_
 refine RM rfl ?_
 refine RS (ok_field field36_1 (by decide) rfl) ?_
 refine RS (ok_loadV (s := 1000005) (by decide) Try.underlying23 rfl rfl rfl (rfl)) ?_
 refine RM rfl ?_
 refine RBS rfl rfl rfl (nQ (m - cs.getD s 0)) (by rw [wrap_u64 (by omega) (by omega)]; exact congrArg (Value.int .u64) (by omega)) ?_
 refine RBS rfl rfl rfl (.bool false) (by simp) ?_
 refine RM rfl ?_
 refine RQ (ok_move rfl) ?_
 refine RQ (ok_bin rfl rfl rfl) ?_; refine RZ (.bool false) (by rfl) ?_
 refine RP rfl rfl ?_
 refine RN ?_
 refine A.sub (KC 2 rfl (KC 5 rfl (KC 6 rfl (KC 7 rfl (KC 10 rfl (KC 11 rfl (KC 12 rfl (KC 13 rfl (KC 57 rfl (KC 1000002 rfl (KC 1000005 rfl (KC 1000010 rfl (KC 1000011 rfl (KC 1000013 rfl (KC 1000021 rfl (KC 1000042 rfl (KC 1000047 rfl (KC 1000200 rfl KN)))))))))))))))))) ?_
 refine A.no rfl ?_
 refine A.skip ?_
 refine EN ?_
 refine A.seq ?_
 refine GS ?_
 refine TL ?_
 refine RM rfl ?_
 refine RS (ok_field field36_1 (by decide) rfl) ?_
 refine RS (ok_loadV (s := 1000005) (by decide) Try.underlying23 rfl rfl rfl (rfl)) ?_
 refine RBS rfl rfl rfl (.bool false) (congrArg Value.bool (beq_eq_false_iff_ne.2 (by omega))) ?_
 refine RN ?_
 refine A.no rfl ?_
 refine GS ?_
 refine TF 7 ?_
 refine RS (ok_field field36_0 (by decide) rfl) ?_
 refine RS (ok_loadV (s := 1000013) (by decide) Try.underlying34 rfl rfl rfl (rfl)) ?_
 refine RM rfl ?_
 refine RS (ok_indexV s Try.underlying34 info23 rfl rfl rfl (by omega)) ?_
 refine RS (ok_loadV (s := 1000047) (by decide) Try.underlying23 rfl rfl rfl (by rw [Nat.zero_add]; exact rowQ_getA hs1)) ?_
 refine RBS rfl rfl rfl (nQ (cs.getD s 0 + 1)) (by rw [wrap_u64 (by omega) (by omega)]; rfl) ?_
 refine RS (ok_indexV s Try.underlying34 info23 rfl rfl rfl (by omega)) ?_
 refine RN ?_
 refine ⟨_, eff_storeS (n := 182) (s := 1000047) info23 rfl rfl rfl hBb47 rfl (by rw [List.length_append, rowQ_length]; omega) (LV 2 rfl (LV 5 rfl (LV 6 rfl (LV 7 rfl (LV 10 rfl (LV 11 rfl (LV 12 rfl (LV 13 rfl (LT 1000002 rfl (LT 1000005 rfl (LT 1000010 rfl (LT 1000011 rfl (LT 1000013 rfl (LB 1000021 rfl (LB 1000042 rfl (LO 1000200 rfl LN)))))))))))))))), ?_⟩
 refine TL ?_
 refine RN ?_
 refine A.sub (KC 2 rfl (KC 5 rfl (KC 6 rfl (KC 7 rfl (KC 10 rfl (KC 11 rfl (KC 12 rfl (KC 13 rfl (KC 1000002 rfl (KC 1000005 rfl (KC 1000010 rfl (KC 1000011 rfl (KC 1000013 rfl (KC 1000021 rfl (KC 1000042 rfl (KE 1000047 rfl (show _ = blk b47 23 (rowQ (cs.set s (cs.getD s 0 + 1)) ++ z47) from congrArg _ (by rw [Nat.zero_add, rowQ_setA hs1])) (KC 1000200 rfl KN))))))))))))))))) ?_
 refine A.seq ?_
 refine GS ?_
 refine TL ?_
 refine RM rfl ?_
 refine RBS rfl rfl rfl (.bool false) (by rfl) ?_
 refine RM rfl ?_
 refine RQ (ok_loadA (s := 1000010) (by decide) Try.underlying25 rfl (size25.of (rfl)) rfl rfl) ?_
 refine RQ (ok_move rfl) ?_
 refine RQ (ok_conv Try.underlying3 Try.underlying22 rfl) ?_; refine RZ (nW s) (by rw [wrapN_u32 (by omega)]) ?_
 refine RQ (ok_move rfl) ?_
 refine RQ (ok_litS [(0, nW s), (1, nQ (cs.getD s 0))] [nW s, nQ (cs.getD s 0)] ⟨rfl, rfl, rfl, rfl, trivial⟩ (buildN _ _)) ?_
 refine RQ (ok_neqT (n := 3) true flatN (by decide) (by kernel_rfl) (by kernel_rfl) rfl rfl (kinN _ _) (kinN _ _) ⟨fun _ => rfl, fun _ => rfl⟩) ?_; refine RZ (.bool false) (by rfl) ?_
 refine RP rfl rfl ?_
 refine RM rfl ?_
 refine RQ (OpOk.fact (ok_loadA (s := 1000011) (by decide) Try.underlying36 rfl (size36.of (rfl)) rfl rfl) (d := hdD (vlist (rowQ (cs.set s (cs.getD s 0 + 1))) cs.length) (alR m l r)) (s := 1000042) (by decide) rfl (hd_of (rowQ (cs.set s (cs.getD s 0 + 1))) (alR m l r) (by rw [rowQ_length, List.length_set]) (Nat.le_refl _) (by simp only [maxLen]; omega) (List.take_of_length_le (by rw [rowQ_length, List.length_set]; exact Nat.le_refl _)))) ?_
 refine RQ (OpOk.fact (ok_loadA (s := 1000013) (by decide) Try.underlying36 rfl (size36.of (rfl)) rfl rfl) (d := hdD (vlst (rowQ (cs.set s (cs.getD s 0 + 1)))) (alR m l r)) (s := 1000047) (by decide) rfl (hd_ofL (rowQ (cs.set s (cs.getD s 0 + 1))) (alR m l r) (by rw [rowQ_length]; simp) (Nat.le_add_right _ _) hz47 (List.take_left' (by rw [rowQ_length, List.length_set])))) ?_
 refine RQ (ok_call (same8_fn (cs.set s (cs.getD s 0 + 1)) m l r (by first | omega | (simp; omega))) (Args.cons rfl (Le.eq (by simp)) (A1 rfl))) ?_
 refine RQ (ok_not rfl) ?_; refine RZ (.bool false) (by rfl) ?_
 refine RP rfl rfl ?_
 refine RN ?_
 refine A.no rfl ?_
 refine A.skip ?_
 refine EN ?_
 refine GE ?_
 refine TF 4 ?_
 refine RS (ok_field field36_0 (by decide) rfl) ?_
 refine RS (ok_loadV (s := 1000011) (by decide) Try.underlying34 rfl rfl rfl (rfl)) ?_
 refine RM rfl ?_
 refine RS (ok_indexV s Try.underlying34 info23 rfl rfl rfl (by omega)) ?_
 refine RN ?_
 refine ⟨_, eff_storeS (n := 182) (s := 1000042) info23 rfl rfl rfl hBb42 rfl (by rw [rowQ_length, List.length_set]; omega) (LV 2 rfl (LV 5 rfl (LV 13 rfl (LT 1000002 rfl (LT 1000005 rfl (LT 1000010 rfl (LT 1000011 rfl (LT 1000013 rfl (LB 1000021 rfl (LB 1000047 rfl (LO 1000200 rfl LN))))))))))), ?_⟩
 refine TL ?_
 refine RN ?_
 refine EN ?_
 refine GS ?_
 refine TN 1 ?_
 refine RS (OpOk.fact (ok_loadA (s := 1000005) (by decide) Try.underlying36 rfl (size36.of (rfl)) rfl rfl) (d := hdD (vlst (rowQ cs)) (alR m l r)) (s := 1000021) (by decide) rfl (hd_ofL (rowQ cs) (alR m l r) (rowQ_length _).symm (Nat.le_add_right _ _) hz21 (rowQ_take _ _))) ?_
 refine RN ?_
 refine ⟨_, _, eff_name (n := 182) (d := 104) (k := 1000104) rfl rfl (fun B' => ok_callB (Extend_ok cs m l r hV hl64 (by omega)) newD_mono (A1 rfl)) (by decide) (by decide), fun b104 hb104 => ?_⟩
 have hBb104 := hb104.1
 have hlt_b2_b104 : b2 < b104 := hb104.2 1000002 _ _ _ rfl
 have hlt_b5_b104 : b5 < b104 := hb104.2 1000005 _ _ _ rfl
 have hlt_b10_b104 : b10 < b104 := hb104.2 1000010 _ _ _ rfl
 have hlt_b11_b104 : b11 < b104 := hb104.2 1000011 _ _ _ rfl
 have hlt_b13_b104 : b13 < b104 := hb104.2 1000013 _ _ _ rfl
 have hlt_b21_b104 : b21 < b104 := hb104.2 1000021 _ _ _ rfl
 have hlt_b42_b104 : b42 < b104 := hb104.2 1000042 _ _ _ rfl
 have hlt_b47_b104 : b47 < b104 := hb104.2 1000047 _ _ _ rfl
 refine TN 5 ?_
 refine RM rfl ?_
 refine RS (ok_extractV rfl rfl) ?_
 refine RS (ok_extractV rfl rfl) ?_
 refine RN ?_
 refine ⟨_, _, eff_alloc (n := 182) (d := 14) (k := 1000014) zero36 (by decide), fun b14 hb14 => ?_⟩
 have hBb14 := hb14.1
 have hlt_b5_b14 : b5 < b14 := hb14.2 1000005 _ _ _ rfl
 have hlt_b11_b14 : b11 < b14 := hb14.2 1000011 _ _ _ rfl
 have hlt_b13_b14 : b13 < b14 := hb14.2 1000013 _ _ _ rfl
 refine TF 6 ?_
 refine RN ?_
 refine ⟨_, eff_storeA (n := 182) (s := 1000014) (size36.of (rfl)) rfl rfl (rfl) hBb14 rfl (rfl) (LV 2 rfl (LV 5 rfl (LV 13 rfl (LV 14 rfl (LV 106 rfl (LT 1000002 rfl (LB 1000005 rfl (LT 1000010 rfl (LB 1000011 rfl (LB 1000013 rfl (LT 1000021 rfl (LT 1000042 rfl (LT 1000047 rfl (LT 1000104 rfl (LO 1000200 rfl LN))))))))))))))), ?_⟩
 refine TL ?_
 refine RA rfl ?_
 refine RN ?_
 refine A.sub (KC 2 rfl (KC 5 rfl (KC 13 rfl (KC 14 rfl (KC 15 rfl (KC 1000002 rfl (KC 1000005 rfl (KC 1000010 rfl (KC 1000011 rfl (KC 1000013 rfl (KC 1000014 rfl (KC 1000021 rfl (KC 1000042 rfl (KC 1000047 rfl (KC 1000104 rfl (KC 1000200 rfl KN)))))))))))))))) ?_
 refine GS ?_
 refine RunTK.nameZ 1 (by decide) rfl (.inl rfl) ?_
 refine RS (OpOk.hdO (ok_loadA (s := 1000002) (by decide) Try.underlying51 rfl (size51.of (rfl)) rfl rfl) hv (k := 1000200) (by decide) rfl) ?_
 refine RN ?_
 refine ⟨108, 1000108, _, 23, _, _, hn0, rfl, rfl, fun B' => ok_callB hOf own_mono2 (Args.cons rfl (Le.old _ _) Args.nil), by decide, by decide, fun b108 z108 hb108 hz108 => ?_⟩
 have hBb108 := hb108.1
 have hlt_b2_b108 : b2 < b108 := hb108.2 1000002 _ _ _ rfl
 have hlt_b5_b108 : b5 < b108 := hb108.2 1000005 _ _ _ rfl
 have hlt_b10_b108 : b10 < b108 := hb108.2 1000010 _ _ _ rfl
 have hlt_b11_b108 : b11 < b108 := hb108.2 1000011 _ _ _ rfl
 have hlt_b13_b108 : b13 < b108 := hb108.2 1000013 _ _ _ rfl
 have hlt_b14_b108 : b14 < b108 := hb108.2 1000014 _ _ _ rfl
 have hlt_b21_b108 : b21 < b108 := hb108.2 1000021 _ _ _ rfl
 have hlt_b42_b108 : b42 < b108 := hb108.2 1000042 _ _ _ rfl
 have hlt_b47_b108 : b47 < b108 := hb108.2 1000047 _ _ _ rfl
 have hlt_b104_b108 : b104 < b108 := hb108.2 1000104 _ _ _ rfl
 refine TF 2 ?_
 refine RN ?_
 refine ⟨_, eff_storeA (n := 182) (s := 1000013) (size36.of (rfl)) rfl rfl (rfl) hBb13 rfl (rfl) (LV 2 rfl (LV 5 rfl (LV 13 rfl (LV 14 rfl (LV 15 rfl (LT 1000002 rfl (LB 1000005 rfl (LT 1000010 rfl (LB 1000011 rfl (LB 1000014 rfl (LT 1000021 rfl (LT 1000042 rfl (LT 1000047 rfl (LT 1000104 rfl (LT 1000108 rfl (LO 1000200 rfl LN)))))))))))))))), ?_⟩
 refine TL ?_
 refine RN ?_
 refine GS ?_
 refine TF 6 ?_
 refine RS (ok_field field36_1 (by decide) rfl) ?_
 refine RS (ok_loadV (s := 1000013) (by decide) Try.underlying23 rfl rfl rfl (rfl)) ?_
 refine RS (ok_field field36_3 (by decide) rfl) ?_
 refine RS (ok_loadV (s := 1000013) (by decide) Try.underlying23 rfl rfl rfl (rfl)) ?_
 refine RBS rfl rfl rfl (nQ (m + r)) (by rw [wrap_u64 (by omega) (by omega)]; rfl) ?_
 refine RS (ok_field field36_1 (by decide) rfl) ?_
 refine RN ?_
 refine ⟨_, eff_storeS (n := 182) (s := 1000013) info23 rfl rfl rfl hBb13 rfl (by simp [alR]) (LV 2 rfl (LV 5 rfl (LV 13 rfl (LV 14 rfl (LV 15 rfl (LT 1000002 rfl (LB 1000005 rfl (LT 1000010 rfl (LB 1000011 rfl (LB 1000014 rfl (LT 1000021 rfl (LT 1000042 rfl (LT 1000047 rfl (LT 1000104 rfl (LT 1000108 rfl (LO 1000200 rfl LN)))))))))))))))), ?_⟩
 refine TL ?_
 refine RN ?_
 refine A.seq ?_
 refine GS ?_
 refine TL ?_
 refine RS (ok_field field36_1 (by decide) rfl) ?_
 refine RS (ok_loadV (s := 1000013) (by decide) Try.underlying23 rfl rfl rfl (rfl)) ?_
 refine RS (ok_field field36_2 (by decide) rfl) ?_
 refine RS (ok_loadV (s := 1000013) (by decide) Try.underlying23 rfl rfl rfl (rfl)) ?_
 refine RBS rfl rfl rfl (.bool false) (by simp; omega) ?_
 refine RN ?_
 refine A.no rfl ?_
 refine GS ?_
 refine TL ?_
 refine RM rfl ?_
 refine RBS rfl rfl rfl (.bool false) (by rfl) ?_
 refine RM rfl ?_
 refine RQ (OpOk.fact (ok_loadA (s := 1000014) (by decide) Try.underlying36 rfl (size36.of (rfl)) rfl rfl) (d := hdD (vlist (rowQ cs) cs.length) (alR (m + r) l r)) (s := 1000104) (by decide) rfl (hd_of (rowQ cs) (alR (m + r) l r) (rowQ_length cs).symm (Nat.le_refl _) (by simp only [maxLen]; omega) (List.take_of_length_le (Nat.le_of_eq (rowQ_length cs))))) ?_
 refine RQ (OpOk.fact (ok_loadA (s := 1000013) (by decide) Try.underlying36 rfl (size36.of (rfl)) rfl rfl) (d := hdD (vlst (rowQ cs)) (alR (m + r) l r)) (s := 1000108) (by decide) rfl (hd_ofL (rowQ cs) (alR (m + r) l r) (rowQ_length _).symm (Nat.le_add_right _ _) hz108 (rowQ_take _ _))) ?_
 refine RQ (ok_call (same8_fn cs (m + r) l r (by first | omega | (simp; omega))) (Args.cons rfl (Le.eq (by simp)) (A1 rfl))) ?_
 refine RQ (ok_not rfl) ?_; refine RZ (.bool false) (by rfl) ?_
 refine RP rfl rfl ?_
 refine RN ?_
 refine A.no rfl ?_
 refine A.skip ?_
 refine EN ?_
 refine GS ?_
 refine TN 1 ?_
 refine RS (OpOk.fact (ok_loadA (s := 1000005) (by decide) Try.underlying36 rfl (size36.of (rfl)) rfl rfl) (d := hdD (vlst (rowQ cs)) (alR m l r)) (s := 1000021) (by decide) rfl (hd_ofL (rowQ cs) (alR m l r) (rowQ_length _).symm (Nat.le_add_right _ _) hz21 (rowQ_take _ _))) ?_
 refine RN ?_
 refine ⟨_, _, eff_name (n := 182) (d := 138) (k := 1000138) rfl rfl (fun B' => ok_callB (Crash_ok cs m l r hV) newD_mono (A1 rfl)) (by decide) (by decide), fun b138 hb138 => ?_⟩
 have hBb138 := hb138.1
 have hlt_b2_b138 : b2 < b138 := hb138.2 1000002 _ _ _ rfl
 have hlt_b5_b138 : b5 < b138 := hb138.2 1000005 _ _ _ rfl
 have hlt_b10_b138 : b10 < b138 := hb138.2 1000010 _ _ _ rfl
 have hlt_b11_b138 : b11 < b138 := hb138.2 1000011 _ _ _ rfl
 have hlt_b13_b138 : b13 < b138 := hb138.2 1000013 _ _ _ rfl
 have hlt_b14_b138 : b14 < b138 := hb138.2 1000014 _ _ _ rfl
 have hlt_b21_b138 : b21 < b138 := hb138.2 1000021 _ _ _ rfl
 have hlt_b42_b138 : b42 < b138 := hb138.2 1000042 _ _ _ rfl
 have hlt_b47_b138 : b47 < b138 := hb138.2 1000047 _ _ _ rfl
 have hlt_b104_b138 : b104 < b138 := hb138.2 1000104 _ _ _ rfl
 have hlt_b108_b138 : b108 < b138 := hb138.2 1000108 _ _ _ rfl
 refine TN 5 ?_
 refine RM rfl ?_
 refine RS (ok_extractV rfl rfl) ?_
 refine RS (ok_extractV rfl rfl) ?_
 refine RN ?_
 refine ⟨_, _, eff_alloc (n := 182) (d := 16) (k := 1000016) zero36 (by decide), fun b16 hb16 => ?_⟩
 have hBb16 := hb16.1
 have hlt_b5_b16 : b5 < b16 := hb16.2 1000005 _ _ _ rfl
 have hlt_b11_b16 : b11 < b16 := hb16.2 1000011 _ _ _ rfl
 have hlt_b13_b16 : b13 < b16 := hb16.2 1000013 _ _ _ rfl
 have hlt_b14_b16 : b14 < b16 := hb16.2 1000014 _ _ _ rfl
 refine TF 6 ?_
 refine RN ?_
 refine ⟨_, eff_storeA (n := 182) (s := 1000016) (size36.of (rfl)) rfl rfl (rfl) hBb16 rfl (rfl) (LV 2 rfl (LV 5 rfl (LV 13 rfl (LV 16 rfl (LV 140 rfl (LT 1000002 rfl (LB 1000005 rfl (LT 1000010 rfl (LB 1000011 rfl (LB 1000013 rfl (LB 1000014 rfl (LT 1000021 rfl (LT 1000042 rfl (LT 1000047 rfl (LT 1000104 rfl (LT 1000108 rfl (LT 1000138 rfl (LO 1000200 rfl LN)))))))))))))))))), ?_⟩
 refine TL ?_
 refine RA rfl ?_
 refine RN ?_
 refine A.sub (KC 2 rfl (KC 5 rfl (KC 13 rfl (KC 16 rfl (KC 17 rfl (KC 1000002 rfl (KC 1000005 rfl (KC 1000010 rfl (KC 1000011 rfl (KC 1000013 rfl (KC 1000014 rfl (KC 1000016 rfl (KC 1000021 rfl (KC 1000042 rfl (KC 1000047 rfl (KC 1000104 rfl (KC 1000108 rfl (KC 1000138 rfl (KC 1000200 rfl KN))))))))))))))))))) ?_
 refine GS ?_
 refine RunTK.nameZ 1 (by decide) rfl (.inl rfl) ?_
 refine RS (OpOk.hdO (ok_loadA (s := 1000002) (by decide) Try.underlying51 rfl (size51.of (rfl)) rfl rfl) hv (k := 1000200) (by decide) rfl) ?_
 refine RN ?_
 refine ⟨142, 1000142, _, 23, _, _, hn0, rfl, rfl, fun B' => ok_callB hOf own_mono2 (Args.cons rfl (Le.old _ _) Args.nil), by decide, by decide, fun b142 z142 hb142 hz142 => ?_⟩
 have hBb142 := hb142.1
 have hlt_b2_b142 : b2 < b142 := hb142.2 1000002 _ _ _ rfl
 have hlt_b5_b142 : b5 < b142 := hb142.2 1000005 _ _ _ rfl
 have hlt_b10_b142 : b10 < b142 := hb142.2 1000010 _ _ _ rfl
 have hlt_b11_b142 : b11 < b142 := hb142.2 1000011 _ _ _ rfl
 have hlt_b13_b142 : b13 < b142 := hb142.2 1000013 _ _ _ rfl
 have hlt_b14_b142 : b14 < b142 := hb142.2 1000014 _ _ _ rfl
 have hlt_b16_b142 : b16 < b142 := hb142.2 1000016 _ _ _ rfl
 have hlt_b21_b142 : b21 < b142 := hb142.2 1000021 _ _ _ rfl
 have hlt_b42_b142 : b42 < b142 := hb142.2 1000042 _ _ _ rfl
 have hlt_b47_b142 : b47 < b142 := hb142.2 1000047 _ _ _ rfl
 have hlt_b104_b142 : b104 < b142 := hb142.2 1000104 _ _ _ rfl
 have hlt_b108_b142 : b108 < b142 := hb142.2 1000108 _ _ _ rfl
 have hlt_b138_b142 : b138 < b142 := hb142.2 1000138 _ _ _ rfl
 refine TF 2 ?_
 refine RN ?_
 refine ⟨_, eff_storeA (n := 182) (s := 1000013) (size36.of (rfl)) rfl rfl (rfl) hBb13 rfl (rfl) (LV 2 rfl (LV 5 rfl (LV 13 rfl (LV 16 rfl (LV 17 rfl (LT 1000002 rfl (LB 1000005 rfl (LT 1000010 rfl (LB 1000011 rfl (LB 1000014 rfl (LB 1000016 rfl (LT 1000021 rfl (LT 1000042 rfl (LT 1000047 rfl (LT 1000104 rfl (LT 1000108 rfl (LT 1000138 rfl (LT 1000142 rfl (LO 1000200 rfl LN))))))))))))))))))), ?_⟩
 refine TL ?_
 refine RN ?_
 refine A.seq ?_
 refine GS ?_
 refine TL ?_
 refine RA rfl ?_
 refine RN ?_
 refine A.block ?_
 refine A.loop (ι := Nat) (fun i => i ≤ cs.length) (fun i => [(1000200, old w₀.heap.size (valM v (vlst (us.map sV)))), (2, .v (.pointer (some ⟨b2, 0, none⟩))), (5, .v (.pointer (some ⟨b5, 0, none⟩))), (13, .v (.pointer (some ⟨b13, 0, none⟩))), (16, .v (.pointer (some ⟨b16, 0, none⟩))), (17, .v (.int .i64 0)), (18, .v (nI i)), (1000002, blk b2 51 (v :: [nB M, nB R, .int .u16 ((O : Nat) : Int)])), (1000005, blk b5 36 (.slice (some ⟨b21, 0, none⟩) cs.length (cs.length + z21.length) :: alR m l r)), (1000021, blk b21 23 (rowQ cs ++ z21)), (1000013, blk b13 36 (.slice (some ⟨b142, 0, none⟩) cs.length (cs.length + z142.length) :: alR m l r)), (1000142, blk b142 23 (rowQ (fillTo cs m i) ++ z142)), (1000016, blk b16 36 (.slice (some ⟨b138, 0, none⟩) (cs.length) (cs.length) :: alR m l r)), (1000138, blk b138 23 (rowQ (List.replicate cs.length m)))]) (fun i => cs.length - i) 0 ?_ ?_ ?_
 ·exact Nat.zero_le _
 ·exact (KC 1000200 rfl (KC 2 rfl (KC 5 rfl (KC 13 rfl (KC 16 rfl (KC 17 rfl (KE 18 rfl (by rfl) (KC 1000002 rfl (KC 1000005 rfl (KC 1000021 rfl (KC 1000013 rfl (KE 1000142 rfl (by rw [fillTo_zero]) (KC 1000016 rfl (KC 1000138 rfl KN))))))))))))))
 intro i hi'
 refine A.seq ?_
 refine GS ?_
 refine TL ?_
 refine RM rfl ?_
 refine RS (ok_field field36_0 (by decide) rfl) ?_
 refine RS (ok_loadV (s := 1000013) (by decide) Try.underlying34 rfl rfl rfl (rfl)) ?_
 refine RS (ok_lenV Try.underlying34 rfl) ?_
 refine RB rfl rfl rfl ?_
 refine RN ?_
 refine A.cond rfl (fun hc147 => ?_) (fun hc147 => ?_)
 ·have hi : i < cs.length := by simp at hc147; omega
  refine A.skip ?_
  refine EN ?_
  refine A.seq ?_
  refine A.block ?_
  refine GE ?_
  refine TF 6 ?_
  refine RS (ok_field field36_0 (by decide) rfl) ?_
  refine RS (ok_loadV (s := 1000013) (by decide) Try.underlying34 rfl rfl rfl (rfl)) ?_
  refine RM rfl ?_
  refine RS (ok_field field36_1 (by decide) rfl) ?_
  refine RS (ok_loadV (s := 1000013) (by decide) Try.underlying23 rfl rfl rfl (rfl)) ?_
  refine RS (ok_indexV i Try.underlying34 info23 rfl rfl rfl (by omega)) ?_
  refine RN ?_
  refine ⟨_, eff_storeS (n := 182) (s := 1000142) info23 rfl rfl rfl hBb142 rfl (by rw [List.length_append, rowQ_length, fillTo_length (by omega)]; omega) (LV 2 rfl (LV 5 rfl (LV 13 rfl (LV 16 rfl (LV 17 rfl (LV 18 rfl (LT 1000002 rfl (LT 1000005 rfl (LT 1000013 rfl (LT 1000016 rfl (LB 1000021 rfl (LB 1000138 rfl (LO 1000200 rfl LN))))))))))))), ?_⟩
  refine TL ?_
  refine RN ?_
  refine End.normal_block ?_
  refine EN ?_
  refine GE ?_
  refine TL ?_
  refine RM rfl ?_
  refine RBS rfl rfl rfl (nI (i + 1)) (by rw [wrap_i64 (by omega) (by omega)]; exact congrArg (Value.int .i64) (by omega)) ?_
  refine RA rfl ?_
  refine RN ?_
  refine End.normal_then ?_
  refine End.again (i + 1) ?_ ?_ ?_
  ·show _ ≤ _; omega
  ·show _ - _ < _ - _; omega
  ·exact (KC 1000200 rfl (KC 2 rfl (KC 5 rfl (KC 13 rfl (KC 16 rfl (KC 17 rfl (KC 18 rfl (KC 1000002 rfl (KC 1000005 rfl (KC 1000021 rfl (KC 1000013 rfl (KE 1000142 rfl (by rw [Nat.zero_add, rowQ_setA (by rw [fillTo_length (by omega)]; omega), fillTo_set (by omega)]) (KC 1000016 rfl (KC 1000138 rfl KN))))))))))))))
 ·have hi2 : i = cs.length := by simp at hc147; omega
  refine A.exit ?_
  refine End.exit_then ?_
  refine End.exit_then ?_
  refine End.exit_here ?_
  refine EN ?_
  refine A.seq ?_
  refine GS ?_
  refine TL ?_
  refine RM rfl ?_
  refine RBS rfl rfl rfl (.bool false) (by rfl) ?_
  refine RM rfl ?_
  refine RQ (OpOk.fact (ok_loadA (s := 1000016) (by decide) Try.underlying36 rfl (size36.of (rfl)) rfl rfl) (d := hdD (vlist (rowQ (List.replicate cs.length m)) cs.length) (alR m l r)) (s := 1000138) (by decide) rfl (hd_of (rowQ (List.replicate cs.length m)) (alR m l r) (by rw [rowQ_length, List.length_replicate]) (Nat.le_refl _) (by simp only [maxLen]; omega) (List.take_of_length_le (by rw [rowQ_length, List.length_replicate]; exact Nat.le_refl _)))) ?_
  refine RQ (OpOk.fact (ok_loadA (s := 1000013) (by decide) Try.underlying36 rfl (size36.of (rfl)) rfl rfl) (d := hdD (vlst (rowQ (List.replicate cs.length m))) (alR m l r)) (s := 1000142) (by decide) rfl (hd_ofL (rowQ (List.replicate cs.length m)) (alR m l r) (by rw [rowQ_length]; simp) (Nat.le_add_right _ _) hz142 (by rw [hi2, fillTo_end rfl]; exact List.take_left' (by rw [rowQ_length, List.length_replicate])))) ?_
  refine RQ (ok_call (same8_fn (List.replicate cs.length m) m l r (by first | omega | (simp; omega))) (Args.cons rfl (Le.eq (by simp)) (A1 rfl))) ?_
  refine RQ (ok_not rfl) ?_; refine RZ (.bool false) (by rfl) ?_
  refine RP rfl rfl ?_
  refine RN ?_
  refine A.no rfl ?_
  refine A.skip ?_
  refine EN ?_
  refine GS ?_
  refine TF 6 ?_
  refine RS (ok_field field36_0 (by decide) rfl) ?_
  refine RS (ok_loadV (s := 1000016) (by decide) Try.underlying34 rfl rfl rfl (rfl)) ?_
  refine RS (ok_indexV 0 Try.underlying34 info23 rfl rfl rfl (by omega)) ?_
  refine RS (ok_loadV (s := 1000138) (by decide) Try.underlying23 rfl rfl rfl (by rw [Nat.zero_add]; exact rowQ_rep0 hn0)) ?_
  refine RBS rfl rfl rfl (nQ (m + 1)) (by rw [wrap_u64 (by omega) (by omega)]; rfl) ?_
  refine RS (ok_indexV 0 Try.underlying34 info23 rfl rfl rfl (by omega)) ?_
  refine RN ?_
  refine ⟨_, eff_storeS (n := 182) (s := 1000138) info23 rfl rfl rfl hBb138 rfl (by rw [rowQ_length, List.length_replicate]; omega) (LV 2 rfl (LV 5 rfl (LT 1000002 rfl (LT 1000005 rfl (LT 1000013 rfl (LT 1000016 rfl (LB 1000021 rfl (LB 1000142 rfl (LO 1000200 rfl LN))))))))), ?_⟩
  refine TL ?_
  refine RN ?_
  refine GS ?_
  refine RunTK.nameZ 1 (by decide) rfl (.inl rfl) ?_
  refine RS (OpOk.hdO (ok_loadA (s := 1000002) (by decide) Try.underlying51 rfl (size51.of (rfl)) rfl rfl) hv (k := 1000200) (by decide) rfl) ?_
  refine RN ?_
  refine ⟨171, 1000171, _, 23, _, _, hn0, rfl, rfl, fun B' => ok_callB hOf own_mono2 (Args.cons rfl (Le.old _ _) Args.nil), by decide, by decide, fun b171 z171 hb171 hz171 => ?_⟩
  have hBb171 := hb171.1
  have hlt_b2_b171 : b2 < b171 := hb171.2 1000002 _ _ _ rfl
  have hlt_b5_b171 : b5 < b171 := hb171.2 1000005 _ _ _ rfl
  have hlt_b13_b171 : b13 < b171 := hb171.2 1000013 _ _ _ rfl
  have hlt_b16_b171 : b16 < b171 := hb171.2 1000016 _ _ _ rfl
  have hlt_b21_b171 : b21 < b171 := hb171.2 1000021 _ _ _ rfl
  have hlt_b138_b171 : b138 < b171 := hb171.2 1000138 _ _ _ rfl
  have hlt_b142_b171 : b142 < b171 := hb171.2 1000142 _ _ _ rfl
  refine TN 2 ?_
  refine RN ?_
  refine ⟨_, _, eff_alloc (n := 182) (d := 19) (k := 1000019) zero36 (by decide), fun b19 hb19 => ?_⟩
  have hBb19 := hb19.1
  have hlt_b5_b19 : b5 < b19 := hb19.2 1000005 _ _ _ rfl
  have hlt_b13_b19 : b13 < b19 := hb19.2 1000013 _ _ _ rfl
  have hlt_b16_b19 : b16 < b19 := hb19.2 1000016 _ _ _ rfl
  refine TF 3 ?_
  refine RN ?_
  refine ⟨_, eff_storeA (n := 182) (s := 1000019) (size36.of (rfl)) rfl rfl (rfl) hBb19 rfl (rfl) (LV 5 rfl (LV 19 rfl (LT 1000002 rfl (LB 1000005 rfl (LB 1000013 rfl (LB 1000016 rfl (LT 1000021 rfl (LT 1000138 rfl (LT 1000142 rfl (LT 1000171 rfl (LO 1000200 rfl LN))))))))))), ?_⟩
  refine TL ?_
  refine RN ?_
  refine GD ?_
  refine TL ?_
  refine RS (OpOk.fact (ok_loadA (s := 1000005) (by decide) Try.underlying36 rfl (size36.of (rfl)) rfl rfl) (d := hdD (vlst (rowQ cs)) (alR m l r)) (s := 1000021) (by decide) rfl (hd_ofL (rowQ cs) (alR m l r) (rowQ_length _).symm (Nat.le_add_right _ _) hz21 (rowQ_take _ _))) ?_
  refine RS (ok_call (rowOf_fn cs m l r (by omega) hm64 hV.2.2.1) (A1 rfl)) ?_
  refine RS (ok_str (l := rowL cs) Try.underlying26 Try.underlying5 Try.underlying9 rfl (Le.refl _)) ?_
  refine RS (OpOk.fact (ok_loadA (s := 1000019) (by decide) Try.underlying36 rfl (size36.of (rfl)) rfl rfl) (d := hdD (vlst (rowQ cs)) (alR m l r)) (s := 1000171) (by decide) rfl (hd_ofL (rowQ cs) (alR m l r) (rowQ_length _).symm (Nat.le_add_right _ _) hz171 (rowQ_take _ _))) ?_
  refine RS (ok_call (rowOf_fn cs m l r (by omega) hm64 hV.2.2.1) (A1 rfl)) ?_
  refine RS (ok_str (l := rowL cs) Try.underlying26 Try.underlying5 Try.underlying9 rfl (Le.refl _)) ?_
  refine RS (ok_seq rfl rfl) ?_; refine RZ (.bool true) (by simp) ?_
  refine RM rfl ?_
  refine RQ (ok_call lives8_fn Args.nil) ?_
  refine RP rfl rfl ?_
  refine RA rfl ?_
  refine RN ?_
  refine A.sub (KC 4 rfl (KC 1000002 rfl (KC 1000005 rfl (KC 1000013 rfl (KC 1000016 rfl (KC 1000019 rfl (KC 1000021 rfl (KC 1000138 rfl (KC 1000142 rfl (KC 1000171 rfl (KC 1000200 rfl KN))))))))))) ?_
  refine A.ret ?_
  exact End.ret1 rfl rfl (by first | exact Le.refl _ | exact Le.old _ _)
theorem NoncesSteps_fn (us : List Nat) (M R O k : Nat) (hu : ∀ a ∈ us, a < 65536) (hM : M < 256) (hR : R < 256) (hO : O < 65536) (hk : k < 256) : Fn Try.prog 5 [hdD (vlst (us.map sV)) [nB M, nB R, .int .u16 ((O : Nat) : Int)], .v (nB k)] (.v (.bool true)) := by
 obtain ⟨r, hr⟩ : ∃ r, r = R % 20 + 1 := ⟨_, rfl⟩
 obtain ⟨m, hm⟩ : ∃ m, m = r * (M % 10) := ⟨_, rfl⟩
 obtain ⟨l, hl⟩ : ∃ l, l = max m r + O % 100 := ⟨_, rfl⟩
 have hm2 : m ≤ 200 := by rw [hm]; exact Nat.le_trans (Nat.mul_le_mul (show r ≤ 20 by omega) (show M % 10 ≤ 10 by omega)) (by decide)
 have hOf := Of_fnB us M R O r m l hu hM hR hO hr hm hl
 have hV : Valid (ofC us m) m l r := ⟨ofC_length.1, ofC_length.2, ofC_le, by omega, by omega, by omega, by omega⟩
 have hg : (ofC us m).getD (k % (ofC us m).length) 0 ≤ m := getD_le ofC_le
 rcases Nat.lt_or_eq_of_le hg with hc | hc
 ·rcases Nat.lt_or_ge l (m + r) with hq | hq
  ·exact NS_N_P us _ M R O m l r k _ hOf hV (by omega) (by omega) (by omega) hk rfl hc hq
  ·exact NS_N_Q us _ M R O m l r k _ hOf hV (by omega) (by omega) (by omega) hk rfl hc hq
 ·rcases Nat.lt_or_ge l (m + r) with hq | hq
  ·exact NS_E_P us _ M R O m l r k _ hOf hV (by omega) (by omega) (by omega) hk rfl hc hq
  ·exact NS_E_Q us _ M R O m l r k _ hOf hV (by omega) (by omega) (by omega) hk rfl hc hq
end Go.Proofs.Ytmedljdbamnoiaa
