/-
  OWN TEXTS of this seat, put together, part 7: C09f, Law4, Law6.
-/
import Derived.Test.YthadcgkcgpinhaaGreatDoorKB1
import Derived.Test.YthadcgkcgpinhaaGreatDoorKB6
import Derived.Test.YthadcgkcgpinhaaGreatDoorKB5
import Derived.Test.YthadcgkcgpinhaaGreatDoorKB4
import Derived.Test.YthadcgkcgpinhaaGreatDoorKB2
namespace Go.Proofs.YthadcgkcgpinhaaGreatDoor
open Go Go.RowKit
set_option linter.unusedVariables false
set_option maxRecDepth 20000
theorem zero32 : ZeroIs Tryz.prog 32 (List.replicate 16 (.int .u8 0) ++ List.replicate 32 (.int .u8 0) ++ [.int .i64 0] ++ [.int .u32 0] ++ [.int .u64 0]) := by unfold ZeroIs; kernel_rfl
theorem size32 : SizeIs Tryz.prog 32 51 := by unfold SizeIs; kernel_rfl
theorem field32_0 : FieldIs Tryz.prog 32 0 0 48 := by unfold FieldIs; kernel_rfl
theorem field32_1 : FieldIs Tryz.prog 32 1 48 1 := by unfold FieldIs; kernel_rfl
theorem field32_2 : FieldIs Tryz.prog 32 2 49 2 := by unfold FieldIs; kernel_rfl
theorem flat32 : flat Tryz.prog 5 32 = some (List.replicate 16 .u8 ++ (List.replicate 32 .u8 ++ [.i64, .u32, .u64])) := by kernel_rfl

theorem SealsChanged_bad (f : Nat → Nat) (mk : List UInt8) (hf : By f) (hmk : mk.length = 32) (i : Int) (hi : i < 0 ∨ 4096 ≤ i) (s c : Nat) (hs : s < 4294967296) (hc : c < 18446744073709551616) (d : List UInt8) (hd : d.length = 32) (z0 z1 z2 : UInt8)  : FnM Tryz.prog 5 tabs [.v (aggV (rowV 16 f ++ mk.map byteV ++ [.int .i64 i, nW s, nQ c])), .v (aggV (d.map byteV)), .v (aggV ([z0, z1, z2].map byteV))] (.v (.bool true)) := by
 refine FnM.of Tryz.func5 rfl (by kernel_rfl) Tryz.ntmps5 (by simp) (by decide) (fun w => [(0, .v (aggV (rowV 16 f ++ mk.map byteV ++ [.int .i64 i, nW s, nQ c]))), (1, .v (aggV (d.map byteV))), (2, .v (aggV ([z0, z1, z2].map byteV))), (1900000, tab 0 (H8.list.map u32V)), (1900001, tab 1 (K64.map u32V))]) (fun w => (StartM.v rfl (StartM.v rfl (StartM.v rfl (StartM.m (by simp [tabs]) (by decide) (StartM.m (by simp [tabs]) (by decide) StartM.nil)))))) fun w₀ hM => ?_
 have htab := tabs_hi hM
 refine GS ?_
 refine TN 0 ?_
 refine RN ?_
 refine ⟨_, _, eff_box (n := 159) (d := 3) (k := 1000003) rfl (by decide), fun b3 hb3 => ?_⟩
 have hBb3 := hb3.1
 refine TN 1 ?_
 refine RN ?_
 refine ⟨_, _, eff_box (n := 159) (d := 4) (k := 1000004) rfl (by decide), fun b4 hb4 => ?_⟩
 have hBb4 := hb4.1
 refine TN 2 ?_
 refine RN ?_
 refine ⟨_, _, eff_box (n := 159) (d := 5) (k := 1000005) rfl (by decide), fun b5 hb5 => ?_⟩
 have hBb5 := hb5.1
 refine TL ?_
 refine RA rfl ?_
 refine RN ?_
 refine A.seq ?_
 refine GS ?_
 refine TL ?_
 refine RS (ok_field field32_1 (by decide) rfl) ?_
 refine RS (ok_loadV (s := 1000003) (by decide) Tryz.underlying3 rfl rfl rfl (SC_ix f hmk _ _ _)) ?_
 refine RS (ok_call (bad9_yes i hi) (A1 rfl)) ?_
 refine RN ?_
 refine A.yes rfl ?_
 refine GS ?_
 refine TL ?_
 refine RS (ok_callM lives9_fn (Sub.cons rfl (Sub.cons rfl KN)) tabs_v Args.nil) ?_
 refine RA rfl ?_
 refine RN ?_
 refine A.ret ?_
 refine End.ret_then ?_
 exact End.ret1 rfl rfl (by first | exact Le.refl _ | exact Le.old _ _)
set_option maxHeartbeats 4000000 in
theorem SealsChanged_0_eq (f : Nat → Nat) (mk : List UInt8) (hf : By f) (hmk : mk.length = 32) (i : Nat) (hi : i < 4096) (s c : Nat) (hs : s < 4294967296) (hc : c < 18446744073709551616) (d : List UInt8) (hd : d.length = 32) (z0 z1 z2 : UInt8) (hq : z0.toNat % 4 = 0) (hi2 : (i + z1.toNat) % 4096 = i)  : FnM Tryz.prog 5 tabs [.v (aggV (rowV 16 f ++ mk.map byteV ++ [nI i, nW s, nQ c])), .v (aggV (d.map byteV)), .v (aggV ([z0, z1, z2].map byteV))] (.v (.bool true)) := by
 have hz1 := z1.toNat_lt
 refine FnM.of Tryz.func5 rfl (by kernel_rfl) Tryz.ntmps5 (by simp) (by decide) (fun w => [(0, .v (aggV (rowV 16 f ++ mk.map byteV ++ [nI i, nW s, nQ c]))), (1, .v (aggV (d.map byteV))), (2, .v (aggV ([z0, z1, z2].map byteV))), (1900000, tab 0 (H8.list.map u32V)), (1900001, tab 1 (K64.map u32V))]) (fun w => (StartM.v rfl (StartM.v rfl (StartM.v rfl (StartM.m (by simp [tabs]) (by decide) (StartM.m (by simp [tabs]) (by decide) StartM.nil)))))) fun w₀ hM => ?_
 have htab := tabs_hi hM
 refine GS ?_
 refine TN 0 ?_
 refine RN ?_
 refine ⟨_, _, eff_box (n := 159) (d := 3) (k := 1000003) rfl (by decide), fun b3 hb3 => ?_⟩
 have hBb3 := hb3.1
 refine TN 1 ?_
 refine RN ?_
 refine ⟨_, _, eff_box (n := 159) (d := 4) (k := 1000004) rfl (by decide), fun b4 hb4 => ?_⟩
 have hBb4 := hb4.1
 refine TN 2 ?_
 refine RN ?_
 refine ⟨_, _, eff_box (n := 159) (d := 5) (k := 1000005) rfl (by decide), fun b5 hb5 => ?_⟩
 have hBb5 := hb5.1
 refine TL ?_
 refine RA rfl ?_
 refine RN ?_
 refine A.seq ?_
 refine GS ?_
 refine TL ?_
 refine RS (ok_field field32_1 (by decide) rfl) ?_
 refine RS (ok_loadV (s := 1000003) (by decide) Tryz.underlying3 rfl rfl rfl (SC_ix f hmk _ _ _)) ?_
 refine RS (ok_call (bad9_no (i : Int) (by omega) (by omega)) (A1 rfl)) ?_
 refine RN ?_
 refine A.no rfl ?_
 refine A.skip ?_
 refine EN ?_
 refine GS ?_
 refine TN 12 ?_
 refine RS (ok_field field32_0 (by decide) rfl) ?_
 refine RS (ok_loadP (s := 1000003) (by decide) Tryz.underlying26 rfl size26 rfl rfl (by simp [rowV_length, hmk]) (SC_keys f hmk _)) ?_
 refine RS (ok_field field32_1 (by decide) rfl) ?_
 refine RS (ok_loadV (s := 1000003) (by decide) Tryz.underlying3 rfl rfl rfl (SC_ix f hmk _ _ _)) ?_
 refine RS (ok_field field32_2 (by decide) rfl) ?_
 refine RS (ok_loadP (s := 1000003) (by decide) Tryz.underlying30 rfl size30 rfl rfl (by simp [rowV_length, hmk]) (SC_non f hmk _ _ _)) ?_
 refine RS (ok_loadA (s := 1000004) (by decide) Tryz.underlying33 rfl (size33.of (by rw [List.length_map, hd])) rfl rfl) ?_
 refine RS (ok_callM (Seal_ok f mk hf hmk i s c hs hc d hd hi) (Sub.cons rfl (Sub.cons rfl KN)) tabs_v (Args.cons rfl (Le.refl _) (A3 rfl rfl rfl))) ?_
 refine RM rfl ?_
 refine RS (ok_extractV rfl rfl) ?_
 refine RS (ok_extractV rfl rfl) ?_
 refine RS (ok_extractV rfl rfl) ?_
 refine RN ?_
 refine ⟨_, _, eff_alloc (n := 159) (d := 7) (k := 1000007) zero33 (by decide), fun b7 hb7 => ?_⟩
 have hBb7 := hb7.1
 have hlt_b4_b7 : b4 < b7 := hb7.2 1000004 _ _ _ rfl
 refine TN 13 ?_
 refine RN ?_
 refine ⟨_, _, eff_alloc (n := 159) (d := 8) (k := 1000008) zero34 (by decide), fun b8 hb8 => ?_⟩
 have hBb8 := hb8.1
 refine TF 14 ?_
 refine RN ?_
 refine ⟨_, eff_storeA (n := 159) (s := 1000007) (size33.of (by rw [List.length_map, xorK_length, hd])) rfl rfl (all_bytes _) hBb7 rfl (by simp [xorK_length, hd]) (LV 3 rfl (LV 5 rfl (LV 7 rfl (LV 8 rfl (LV 33 rfl (LV 34 rfl (LT 1000003 rfl (LB 1000004 rfl (LT 1000005 rfl (LT 1000008 rfl (LeftS.cons (t := 1900000) rfl (Surv.tab (by omega)) (LeftS.cons (t := 1900001) rfl (Surv.tab (by omega)) LN)))))))))))), ?_⟩
 refine TF 15 ?_
 refine RN ?_
 refine ⟨_, eff_storeA (n := 159) (s := 1000008) (size34.of (by rw [List.length_map, hmac_length])) rfl rfl (all_bytes _) hBb8 rfl (by simp [hmac_length]) (LV 3 rfl (LV 5 rfl (LV 7 rfl (LV 8 rfl (LV 34 rfl (LT 1000003 rfl (LT 1000004 rfl (LT 1000005 rfl (LT 1000007 rfl (LeftS.cons (t := 1900000) rfl (Surv.tab (by omega)) (LeftS.cons (t := 1900001) rfl (Surv.tab (by omega)) LN))))))))))), ?_⟩
 refine TL ?_
 refine RA rfl ?_
 refine RN ?_
 refine A.seq ?_
 refine GS ?_
 refine TL ?_
 refine RM rfl ?_
 refine RBS rfl rfl rfl (.bool false) (by rfl) ?_
 refine RN ?_
 refine A.sub (KC 3 rfl (KC 5 rfl (KC 7 rfl (KC 8 rfl (KC 36 rfl (KC 1000003 rfl (KC 1000004 rfl (KC 1000005 rfl (KC 1000007 rfl (KC 1000008 rfl (KC 1900000 rfl (KC 1900001 rfl KN)))))))))))) ?_
 refine A.no rfl ?_
 refine A.skip ?_
 refine EN ?_
 refine A.regsK [⟨2, 10, 32, List.replicate 16 (.int .u8 0) ++ List.replicate 32 (.int .u8 0) ++ [.int .i64 0] ++ [.int .u32 0] ++ [.int .u64 0], 4, (rowV 16 f ++ mk.map byteV ++ [nI i, nW s, nQ c])⟩, ⟨3, 11, 33, List.replicate 32 (.int .u8 0), 5, (xorK f s c 0 d).map byteV⟩] (by kernel_rfl) (by kernel_rfl) (by kernel_rfl) ?_
 refine KopsK.pure (_) rfl (.inl rfl) FromV.all (fun B' => (ok_loadA (s := 1000003) (by decide) Tryz.underlying32 rfl (size32.of (SC_len f hmk _ _ _)) rfl rfl)) ?_
 refine KopsK.pure (_) rfl (.inl rfl) FromV.all (fun B' => (ok_loadA (s := 1000007) (by decide) Tryz.underlying33 rfl (size33.of (by rw [List.length_map, xorK_length, hd])) rfl rfl)) ?_
 refine KopsK.alloc 0 rfl rfl rfl rfl zero32 rfl ?_
 refine KopsK.alloc 1 rfl rfl rfl rfl zero33 rfl ?_
 refine KopsK.store 0 ((37, .v _) :: _) rfl rfl rfl rfl (by kernel_rfl) (FromV.op 0 (by kernel_rfl) rfl rfl FromV.all) rfl (size32.of (SC_len f hmk _ _ _)) (by simp [rowV_length, hmk]) (SC_one f mk rfl rfl rfl) ?_
 refine KopsK.store 1 ((38, .v _) :: _) rfl rfl rfl rfl (by kernel_rfl) (FromV.op 1 (by kernel_rfl) rfl rfl FromV.all) rfl (size33.of (by rw [List.length_map, xorK_length, hd])) (by simp [xorK_length, hd]) (all_bytes _) ?_
 refine KopsK.nil ⟨by kernel_rfl, _, FromW.all, fun bs hbs hds => ?_⟩
 have hb10 := hbs 0 (by simp)
 have hb11 := hbs 1 (by simp)
 have hne_b10_b11 := hds 0 1 (by simp) (by simp) (by decide)
 dsimp only [varEnv]
 generalize bs 0 = b10 at *
 generalize bs (0 + 1) = b11 at *
 have hBb10 := hb10.1
 have hlt_b3_b10 : b3 < b10 := hb10.2 1000003 _ _ _ rfl
 have hlt_b4_b10 : b4 < b10 := hb10.2 1000004 _ _ _ rfl
 have hlt_b5_b10 : b5 < b10 := hb10.2 1000005 _ _ _ rfl
 have hlt_b7_b10 : b7 < b10 := hb10.2 1000007 _ _ _ rfl
 have hlt_b8_b10 : b8 < b10 := hb10.2 1000008 _ _ _ rfl
 have hBb11 := hb11.1
 have hlt_b3_b11 : b3 < b11 := hb11.2 1000003 _ _ _ rfl
 have hlt_b4_b11 : b4 < b11 := hb11.2 1000004 _ _ _ rfl
 have hlt_b5_b11 : b5 < b11 := hb11.2 1000005 _ _ _ rfl
 have hlt_b7_b11 : b7 < b11 := hb11.2 1000007 _ _ _ rfl
 have hlt_b8_b11 : b8 < b11 := hb11.2 1000008 _ _ _ rfl
 refine A.sub (KC 3 rfl (KC 5 rfl (KC 7 rfl (KC 8 rfl (KC 10 rfl (KC 11 rfl (KC 1000003 rfl (KC 1000004 rfl (KC 1000005 rfl (KC 1000007 rfl (KC 1000008 rfl (KC 1000010 rfl (KC 1000011 rfl (KC 1900000 rfl (KC 1900001 rfl KN))))))))))))))) ?_
 refine A.seq ?_
 refine GS ?_
 refine TL ?_
 refine RS (ok_index0 (0) Tryz.underlying48 info5 rfl rfl (rfl) (by decide)) ?_
 refine RS (ok_loadV (s := 1000005) (by decide) Tryz.underlying5 rfl rfl rfl (rfl)) ?_; refine RZ (byteV z0) (by rfl) ?_
 refine RS (ok_rem rfl rfl (by decide)) ?_; refine RZ (.int .u8 0) (by rw [tmod_lit _ (by decide), show Int.toNat 4 = 4 from rfl, hq]; rfl) ?_
 refine RN ?_
 refine A.block ?_
 refine GS ?_
 refine TL ?_
 refine RBS rfl rfl rfl (.bool true) (by rfl) ?_
 refine RA rfl ?_
 refine RN ?_
 refine A.yes rfl ?_
 refine GE ?_
 refine TF 8 ?_
 refine RS (ok_field field32_1 (by decide) rfl) ?_
 refine RS (ok_loadV (s := 1000003) (by decide) Tryz.underlying3 rfl rfl rfl (SC_ix f hmk _ _ _)) ?_
 refine RS (ok_index0 (1) Tryz.underlying48 info5 rfl rfl (rfl) (by decide)) ?_
 refine RS (ok_loadV (s := 1000005) (by decide) Tryz.underlying5 rfl rfl rfl (rfl)) ?_; refine RZ (byteV z1) (by rfl) ?_
 refine RS (ok_conv Tryz.underlying5 Tryz.underlying3 rfl) ?_; refine RZ (nI (z1.toNat)) (by rw [wrapN_i64 (by have := z1.toNat_lt; omega)]) ?_
 refine RBS rfl rfl rfl (nI (i + z1.toNat)) (by rw [wrap_i64 (by omega) (by omega)]; exact congrArg (Value.int .i64) (by omega)) ?_
 refine RS (ok_rem rfl rfl (by decide)) ?_; refine RZ (nI i) (by rw [tmod_lit _ (by decide)]; exact congrArg (fun x : Nat => Value.int .i64 (x : Int)) hi2) ?_
 refine RS (ok_field field32_1 (by decide) rfl) ?_
 refine RN ?_
 refine ⟨_, eff_storeS (n := 159) (s := 1000010) info3 rfl rfl rfl hBb10 rfl (by rw [SC_len f hmk]; decide) (LV 3 rfl (LV 7 rfl (LV 8 rfl (LV 10 rfl (LV 11 rfl (LB 1000003 rfl (LT 1000004 rfl (LT 1000005 rfl (LT 1000007 rfl (LT 1000008 rfl (LT 1000011 rfl (LeftS.cons (t := 1900000) rfl (Surv.tab (by omega)) (LeftS.cons (t := 1900001) rfl (Surv.tab (by omega)) LN))))))))))))), ?_⟩
 refine TL ?_
 refine RN ?_
 refine End.sub (KC 3 rfl (KC 7 rfl (KC 8 rfl (KC 10 rfl (KC 11 rfl (KC 1000003 rfl (KC 1000004 rfl (KC 1000005 rfl (KC 1000007 rfl (KC 1000008 rfl (KE 1000010 rfl (show _ = blk b10 32 (rowV 16 f ++ mk.map byteV ++ [nI i, nW s, nQ c]) from congrArg _ (SC_set f hmk _ _ _ _ 0)) (KC 1000011 rfl (KC 1900000 rfl (KC 1900001 rfl KN)))))))))))))) ?_
 refine End.normal_block ?_
 refine EN ?_
 refine GS ?_
 refine TN 12 ?_
 refine RS (ok_field field32_0 (by decide) rfl) ?_
 refine RS (ok_loadP (s := 1000010) (by decide) Tryz.underlying26 rfl size26 rfl rfl (by simp [rowV_length, hmk]) (SC_keys f hmk _)) ?_
 refine RS (ok_field field32_1 (by decide) rfl) ?_
 refine RS (ok_loadV (s := 1000010) (by decide) Tryz.underlying3 rfl rfl rfl (SC_ix f hmk _ _ _)) ?_
 refine RS (ok_field field32_2 (by decide) rfl) ?_
 refine RS (ok_loadP (s := 1000010) (by decide) Tryz.underlying30 rfl size30 rfl rfl (by simp [rowV_length, hmk]) (SC_non f hmk _ _ _)) ?_
 refine RS (ok_loadA (s := 1000011) (by decide) Tryz.underlying33 rfl (size33.of (by rw [List.length_map, xorK_length, hd])) rfl rfl) ?_
 refine RS (ok_loadA (s := 1000008) (by decide) Tryz.underlying34 rfl (size34.of (by rw [List.length_map, hmac_length])) rfl rfl) ?_
 refine RS (ok_callM (Open_ok f mk hf hmk i s c hs hc (xorK f s c 0 d) (by rw [xorK_length, hd]) hi (hmac mk (msgL i s c (xorK f s c 0 d))) (hmac_length _ _) rfl) (Sub.cons rfl (Sub.cons rfl KN)) tabs_v (Args.cons rfl (Le.refl _) (Args.cons rfl (Le.refl _) (A3 rfl rfl rfl)))) ?_
 refine RM rfl ?_
 refine RS (ok_extractV rfl rfl) ?_
 refine RS (ok_extractV rfl rfl) ?_
 refine RN ?_
 refine ⟨_, _, eff_alloc (n := 159) (d := 12) (k := 1000012) zero33 (by decide), fun b12 hb12 => ?_⟩
 have hBb12 := hb12.1
 have hlt_b4_b12 : b4 < b12 := hb12.2 1000004 _ _ _ rfl
 have hlt_b7_b12 : b7 < b12 := hb12.2 1000007 _ _ _ rfl
 have hlt_b11_b12 : b11 < b12 := hb12.2 1000011 _ _ _ rfl
 refine TF 13 ?_
 refine RN ?_
 refine ⟨_, eff_storeA (n := 159) (s := 1000012) (size33.of (by simp [xorK_length, hd])) rfl rfl (all_bytes _) hBb12 rfl (by simp [xorK_length, hd]) (LV 3 rfl (LV 7 rfl (LV 8 rfl (LV 10 rfl (LV 11 rfl (LV 97 rfl (LT 1000003 rfl (LB 1000004 rfl (LT 1000005 rfl (LB 1000007 rfl (LT 1000008 rfl (LT 1000010 rfl (LB 1000011 rfl (LeftS.cons (t := 1900000) rfl (Surv.tab (by omega)) (LeftS.cons (t := 1900001) rfl (Surv.tab (by omega)) LN))))))))))))))), ?_⟩
 refine TL ?_
 refine RA rfl ?_
 refine RN ?_
 refine GS ?_
 refine TL ?_
 refine RS (ok_field field32_1 (by decide) rfl) ?_
 refine RS (ok_loadV (s := 1000003) (by decide) Tryz.underlying3 rfl rfl rfl (SC_ix f hmk _ _ _)) ?_
 refine RS (ok_field field32_2 (by decide) rfl) ?_
 refine RS (ok_loadP (s := 1000003) (by decide) Tryz.underlying30 rfl size30 rfl rfl (by simp [rowV_length, hmk]) (SC_non f hmk _ _ _)) ?_
 refine RS (ok_loadA (s := 1000007) (by decide) Tryz.underlying33 rfl (size33.of (by rw [List.length_map, xorK_length, hd])) rfl rfl) ?_
 refine RS (ok_call (ref9Message_fn i s c hs hc (xorK f s c 0 d) (by rw [xorK_length, hd]) hi) (A3 rfl rfl rfl)) ?_
 refine RS (ok_str (l := (msgL i s c (xorK f s c 0 d))) Tryz.underlying49 Tryz.underlying5 Tryz.underlying9 rfl (Le.refl _)) ?_
 refine RA rfl ?_
 refine RN ?_
 refine GS ?_
 refine TL ?_
 refine RS (ok_field field32_1 (by decide) rfl) ?_
 refine RS (ok_loadV (s := 1000010) (by decide) Tryz.underlying3 rfl rfl rfl (SC_ix f hmk _ _ _)) ?_
 refine RS (ok_field field32_2 (by decide) rfl) ?_
 refine RS (ok_loadP (s := 1000010) (by decide) Tryz.underlying30 rfl size30 rfl rfl (by simp [rowV_length, hmk]) (SC_non f hmk _ _ _)) ?_
 refine RS (ok_loadA (s := 1000011) (by decide) Tryz.underlying33 rfl (size33.of (by rw [List.length_map, xorK_length, hd])) rfl rfl) ?_
 refine RS (ok_call (ref9Message_fn i s c hs hc (xorK f s c 0 d) (by rw [xorK_length, hd]) hi) (A3 rfl rfl rfl)) ?_
 refine RS (ok_str (l := (msgL i s c (xorK f s c 0 d))) Tryz.underlying49 Tryz.underlying5 Tryz.underlying9 rfl (Le.refl _)) ?_
 refine RA rfl ?_
 refine RN ?_
 refine A.sub (KC 3 rfl (KC 7 rfl (KC 8 rfl (KC 10 rfl (KC 11 rfl (KC 13 rfl (KC 14 rfl (KC 15 rfl (KC 1000003 rfl (KC 1000004 rfl (KC 1000005 rfl (KC 1000007 rfl (KC 1000008 rfl (KC 1000010 rfl (KC 1000011 rfl (KC 1000012 rfl (KC 1900000 rfl (KC 1900001 rfl KN)))))))))))))))))) ?_
 refine GS ?_
 refine TL ?_
 refine RS (ok_loadA (s := 1000010) (by decide) Tryz.underlying32 rfl (size32.of (SC_len f hmk _ _ _)) rfl rfl) ?_
 refine RS (ok_loadA (s := 1000003) (by decide) Tryz.underlying32 rfl (size32.of (SC_len f hmk _ _ _)) rfl rfl) ?_
 refine RS (ok_eqlT (n := 5) true flat32 (by decide) (by kernel_rfl) (by kernel_rfl) rfl rfl (kinS f hmk _ _ _) (kinS f hmk _ _ _) ⟨fun _ => rfl, fun _ => rfl⟩) ?_
 refine RM rfl ?_
 refine RQ (ok_loadA (s := 1000011) (by decide) Tryz.underlying33 rfl (size33.of (by rw [List.length_map, xorK_length, hd])) rfl rfl) ?_
 refine RQ (ok_loadA (s := 1000007) (by decide) Tryz.underlying33 rfl (size33.of (by rw [List.length_map, xorK_length, hd])) rfl rfl) ?_
 refine RQ (ok_eqlT (n := 3) true flat33 (by decide) (by kernel_rfl) (by kernel_rfl) rfl rfl (kinB (by rw [xorK_length, hd])) (kinB (by rw [xorK_length, hd])) ⟨fun _ => rfl, fun _ => rfl⟩) ?_; refine RZ (.bool true) (by rfl) ?_
 refine RP rfl rfl ?_
 refine RA rfl ?_
 refine RN ?_
 refine GS ?_
 refine TN 16 ?_
 refine RS (ok_field field32_0 (by decide) rfl) ?_
 refine RS (ok_field field26_0 (by decide) rfl) ?_
 refine RS (ok_loadP (s := 1000010) (by decide) Tryz.underlying22 rfl size22 rfl rfl (by simp [rowV_length, hmk]) (SC_enc f mk _)) ?_
 refine RS (ok_field field32_0 (by decide) rfl) ?_
 refine RS (ok_field field26_1 (by decide) rfl) ?_
 refine RS (ok_loadP (s := 1000010) (by decide) Tryz.underlying24 rfl size24 rfl rfl (by simp [rowV_length, hmk]) (SC_mac f hmk _)) ?_
 refine RS (ok_field field32_1 (by decide) rfl) ?_
 refine RS (ok_loadV (s := 1000010) (by decide) Tryz.underlying3 rfl rfl rfl (SC_ix f hmk _ _ _)) ?_
 refine RS (ok_field field32_2 (by decide) rfl) ?_
 refine RS (ok_loadP (s := 1000010) (by decide) Tryz.underlying30 rfl size30 rfl rfl (by simp [rowV_length, hmk]) (SC_non f hmk _ _ _)) ?_
 refine RS (ok_loadA (s := 1000011) (by decide) Tryz.underlying33 rfl (size33.of (by rw [List.length_map, xorK_length, hd])) rfl rfl) ?_
 refine RS (ok_loadA (s := 1000008) (by decide) Tryz.underlying34 rfl (size34.of (by rw [List.length_map, hmac_length])) rfl rfl) ?_
 refine RS (ok_call (ref9Open_ok f mk hf hmk i s c hs hc (xorK f s c 0 d) (by rw [xorK_length, hd]) hi (hmac mk (msgL i s c (xorK f s c 0 d))) (hmac_length _ _) rfl) (Args.cons rfl (Le.refl _) (Args.cons rfl (Le.refl _) (Args.cons rfl (Le.refl _) (A3 rfl rfl rfl))))) ?_
 refine RM rfl ?_
 refine RS (ok_extract rfl rfl) ?_
 refine RS (ok_extract rfl rfl) ?_
 refine RN ?_
 refine ⟨_, _, eff_alloc (n := 159) (d := 17) (k := 1000017) zero33 (by decide), fun b17 hb17 => ?_⟩
 have hBb17 := hb17.1
 have hlt_b4_b17 : b4 < b17 := hb17.2 1000004 _ _ _ rfl
 have hlt_b7_b17 : b7 < b17 := hb17.2 1000007 _ _ _ rfl
 have hlt_b11_b17 : b11 < b17 := hb17.2 1000011 _ _ _ rfl
 have hlt_b12_b17 : b12 < b17 := hb17.2 1000012 _ _ _ rfl
 refine TF 17 ?_
 refine RN ?_
 refine ⟨_, eff_storeA (n := 159) (s := 1000017) (size33.of (by simp [xorK_length, hd])) rfl rfl (all_bytes _) hBb17 rfl (by simp [xorK_length, hd]) (LV 13 rfl (LV 14 rfl (LV 15 rfl (LV 16 rfl (LV 135 rfl (LT 1000003 rfl (LB 1000004 rfl (LT 1000005 rfl (LB 1000007 rfl (LT 1000008 rfl (LT 1000010 rfl (LB 1000011 rfl (LB 1000012 rfl (LeftS.cons (t := 1900000) rfl (Surv.tab (by omega)) (LeftS.cons (t := 1900001) rfl (Surv.tab (by omega)) LN))))))))))))))), ?_⟩
 refine TL ?_
 refine RA rfl ?_
 refine RN ?_
 refine A.sub (KC 13 rfl (KC 14 rfl (KC 15 rfl (KC 16 rfl (KC 18 rfl (KC 1000003 rfl (KC 1000004 rfl (KC 1000005 rfl (KC 1000007 rfl (KC 1000008 rfl (KC 1000010 rfl (KC 1000011 rfl (KC 1000012 rfl (KC 1000017 rfl (KC 1900000 rfl (KC 1900001 rfl KN)))))))))))))))) ?_
 refine GS ?_
 refine TL ?_
 refine RM rfl ?_
 refine RM rfl ?_
 refine RS (ok_seq rfl rfl) ?_; refine RZ (.bool true) (by simp) ?_
 refine RM rfl ?_
 refine RS (ok_eqBool Tryz.underlying4 rfl rfl) ?_; refine RZ (.bool true) (by rfl) ?_
 refine RM rfl ?_
 refine RQ (ok_move rfl) ?_
 refine RQ (ok_bin rfl rfl rfl) ?_; refine RZ (.bool true) (by rfl) ?_
 refine RQ (ok_move rfl) ?_
 refine RQ (ok_bin rfl rfl rfl) ?_; refine RZ (.bool true) (by rfl) ?_
 refine RQ (ok_eqBool Tryz.underlying4 rfl rfl) ?_; refine RZ (.bool true) (by rfl) ?_
 refine RP rfl rfl ?_
 refine RM rfl ?_
 refine RQ (ok_move rfl) ?_
 refine RQ (ok_not rfl) ?_; refine RZ (.bool false) (by rfl) ?_
 refine RQ (ok_move rfl) ?_
 refine RQ (ok_move rfl) ?_
 refine RQ (ok_bin rfl rfl rfl) ?_; refine RZ (.bool true) (by rfl) ?_
 refine RQ (ok_pick rfl rfl) ?_
 refine RP rfl rfl ?_
 refine RM rfl ?_
 refine RQ (ok_callM lives9_fn (Sub.cons rfl (Sub.cons rfl KN)) tabs_v Args.nil) ?_
 refine RP rfl rfl ?_
 refine RA rfl ?_
 refine RN ?_
 refine A.ret ?_
 exact End.ret1 rfl rfl (by first | exact Le.refl _ | exact Le.old _ _)
set_option maxHeartbeats 4000000 in
theorem SealsChanged_0_ts_ok (f : Nat → Nat) (mk : List UInt8) (hf : By f) (hmk : mk.length = 32) (i : Nat) (hi : i < 4096) (s c : Nat) (hs : s < 4294967296) (hc : c < 18446744073709551616) (d : List UInt8) (hd : d.length = 32) (z0 z1 z2 : UInt8) (hq : z0.toNat % 4 = 0) (i' : Nat) (hi2 : (i + z1.toNat) % 4096 = i') (hil : i' < 4096) (hne : i' ≠ i) (h : (hmac mk (msgL i s c (xorK f s c 0 d))) = (hmac mk (msgL i' s c (xorK f s c 0 d))))  : FnM Tryz.prog 5 tabs [.v (aggV (rowV 16 f ++ mk.map byteV ++ [nI i, nW s, nQ c])), .v (aggV (d.map byteV)), .v (aggV ([z0, z1, z2].map byteV))] (.v (.bool true)) := by
 have hz1 := z1.toNat_lt
 refine FnM.of Tryz.func5 rfl (by kernel_rfl) Tryz.ntmps5 (by simp) (by decide) (fun w => [(0, .v (aggV (rowV 16 f ++ mk.map byteV ++ [nI i, nW s, nQ c]))), (1, .v (aggV (d.map byteV))), (2, .v (aggV ([z0, z1, z2].map byteV))), (1900000, tab 0 (H8.list.map u32V)), (1900001, tab 1 (K64.map u32V))]) (fun w => (StartM.v rfl (StartM.v rfl (StartM.v rfl (StartM.m (by simp [tabs]) (by decide) (StartM.m (by simp [tabs]) (by decide) StartM.nil)))))) fun w₀ hM => ?_
 have htab := tabs_hi hM
 refine GS ?_
 refine TN 0 ?_
 refine RN ?_
 refine ⟨_, _, eff_box (n := 159) (d := 3) (k := 1000003) rfl (by decide), fun b3 hb3 => ?_⟩
 have hBb3 := hb3.1
 refine TN 1 ?_
 refine RN ?_
 refine ⟨_, _, eff_box (n := 159) (d := 4) (k := 1000004) rfl (by decide), fun b4 hb4 => ?_⟩
 have hBb4 := hb4.1
 refine TN 2 ?_
 refine RN ?_
 refine ⟨_, _, eff_box (n := 159) (d := 5) (k := 1000005) rfl (by decide), fun b5 hb5 => ?_⟩
 have hBb5 := hb5.1
 refine TL ?_
 refine RA rfl ?_
 refine RN ?_
 refine A.seq ?_
 refine GS ?_
 refine TL ?_
 refine RS (ok_field field32_1 (by decide) rfl) ?_
 refine RS (ok_loadV (s := 1000003) (by decide) Tryz.underlying3 rfl rfl rfl (SC_ix f hmk _ _ _)) ?_
 refine RS (ok_call (bad9_no (i : Int) (by omega) (by omega)) (A1 rfl)) ?_
 refine RN ?_
 refine A.no rfl ?_
 refine A.skip ?_
 refine EN ?_
 refine GS ?_
 refine TN 12 ?_
 refine RS (ok_field field32_0 (by decide) rfl) ?_
 refine RS (ok_loadP (s := 1000003) (by decide) Tryz.underlying26 rfl size26 rfl rfl (by simp [rowV_length, hmk]) (SC_keys f hmk _)) ?_
 refine RS (ok_field field32_1 (by decide) rfl) ?_
 refine RS (ok_loadV (s := 1000003) (by decide) Tryz.underlying3 rfl rfl rfl (SC_ix f hmk _ _ _)) ?_
 refine RS (ok_field field32_2 (by decide) rfl) ?_
 refine RS (ok_loadP (s := 1000003) (by decide) Tryz.underlying30 rfl size30 rfl rfl (by simp [rowV_length, hmk]) (SC_non f hmk _ _ _)) ?_
 refine RS (ok_loadA (s := 1000004) (by decide) Tryz.underlying33 rfl (size33.of (by rw [List.length_map, hd])) rfl rfl) ?_
 refine RS (ok_callM (Seal_ok f mk hf hmk i s c hs hc d hd hi) (Sub.cons rfl (Sub.cons rfl KN)) tabs_v (Args.cons rfl (Le.refl _) (A3 rfl rfl rfl))) ?_
 refine RM rfl ?_
 refine RS (ok_extractV rfl rfl) ?_
 refine RS (ok_extractV rfl rfl) ?_
 refine RS (ok_extractV rfl rfl) ?_
 refine RN ?_
 refine ⟨_, _, eff_alloc (n := 159) (d := 7) (k := 1000007) zero33 (by decide), fun b7 hb7 => ?_⟩
 have hBb7 := hb7.1
 have hlt_b4_b7 : b4 < b7 := hb7.2 1000004 _ _ _ rfl
 refine TN 13 ?_
 refine RN ?_
 refine ⟨_, _, eff_alloc (n := 159) (d := 8) (k := 1000008) zero34 (by decide), fun b8 hb8 => ?_⟩
 have hBb8 := hb8.1
 refine TF 14 ?_
 refine RN ?_
 refine ⟨_, eff_storeA (n := 159) (s := 1000007) (size33.of (by rw [List.length_map, xorK_length, hd])) rfl rfl (all_bytes _) hBb7 rfl (by simp [xorK_length, hd]) (LV 3 rfl (LV 5 rfl (LV 7 rfl (LV 8 rfl (LV 33 rfl (LV 34 rfl (LT 1000003 rfl (LB 1000004 rfl (LT 1000005 rfl (LT 1000008 rfl (LeftS.cons (t := 1900000) rfl (Surv.tab (by omega)) (LeftS.cons (t := 1900001) rfl (Surv.tab (by omega)) LN)))))))))))), ?_⟩
 refine TF 15 ?_
 refine RN ?_
 refine ⟨_, eff_storeA (n := 159) (s := 1000008) (size34.of (by rw [List.length_map, hmac_length])) rfl rfl (all_bytes _) hBb8 rfl (by simp [hmac_length]) (LV 3 rfl (LV 5 rfl (LV 7 rfl (LV 8 rfl (LV 34 rfl (LT 1000003 rfl (LT 1000004 rfl (LT 1000005 rfl (LT 1000007 rfl (LeftS.cons (t := 1900000) rfl (Surv.tab (by omega)) (LeftS.cons (t := 1900001) rfl (Surv.tab (by omega)) LN))))))))))), ?_⟩
 refine TL ?_
 refine RA rfl ?_
 refine RN ?_
 refine A.seq ?_
 refine GS ?_
 refine TL ?_
 refine RM rfl ?_
 refine RBS rfl rfl rfl (.bool false) (by rfl) ?_
 refine RN ?_
 refine A.sub (KC 3 rfl (KC 5 rfl (KC 7 rfl (KC 8 rfl (KC 36 rfl (KC 1000003 rfl (KC 1000004 rfl (KC 1000005 rfl (KC 1000007 rfl (KC 1000008 rfl (KC 1900000 rfl (KC 1900001 rfl KN)))))))))))) ?_
 refine A.no rfl ?_
 refine A.skip ?_
 refine EN ?_
 refine A.regsK [⟨2, 10, 32, List.replicate 16 (.int .u8 0) ++ List.replicate 32 (.int .u8 0) ++ [.int .i64 0] ++ [.int .u32 0] ++ [.int .u64 0], 4, (rowV 16 f ++ mk.map byteV ++ [nI i, nW s, nQ c])⟩, ⟨3, 11, 33, List.replicate 32 (.int .u8 0), 5, (xorK f s c 0 d).map byteV⟩] (by kernel_rfl) (by kernel_rfl) (by kernel_rfl) ?_
 refine KopsK.pure (_) rfl (.inl rfl) FromV.all (fun B' => (ok_loadA (s := 1000003) (by decide) Tryz.underlying32 rfl (size32.of (SC_len f hmk _ _ _)) rfl rfl)) ?_
 refine KopsK.pure (_) rfl (.inl rfl) FromV.all (fun B' => (ok_loadA (s := 1000007) (by decide) Tryz.underlying33 rfl (size33.of (by rw [List.length_map, xorK_length, hd])) rfl rfl)) ?_
 refine KopsK.alloc 0 rfl rfl rfl rfl zero32 rfl ?_
 refine KopsK.alloc 1 rfl rfl rfl rfl zero33 rfl ?_
 refine KopsK.store 0 ((37, .v _) :: _) rfl rfl rfl rfl (by kernel_rfl) (FromV.op 0 (by kernel_rfl) rfl rfl FromV.all) rfl (size32.of (SC_len f hmk _ _ _)) (by simp [rowV_length, hmk]) (SC_one f mk rfl rfl rfl) ?_
 refine KopsK.store 1 ((38, .v _) :: _) rfl rfl rfl rfl (by kernel_rfl) (FromV.op 1 (by kernel_rfl) rfl rfl FromV.all) rfl (size33.of (by rw [List.length_map, xorK_length, hd])) (by simp [xorK_length, hd]) (all_bytes _) ?_
 refine KopsK.nil ⟨by kernel_rfl, _, FromW.all, fun bs hbs hds => ?_⟩
 have hb10 := hbs 0 (by simp)
 have hb11 := hbs 1 (by simp)
 have hne_b10_b11 := hds 0 1 (by simp) (by simp) (by decide)
 dsimp only [varEnv]
 generalize bs 0 = b10 at *
 generalize bs (0 + 1) = b11 at *
 have hBb10 := hb10.1
 have hlt_b3_b10 : b3 < b10 := hb10.2 1000003 _ _ _ rfl
 have hlt_b4_b10 : b4 < b10 := hb10.2 1000004 _ _ _ rfl
 have hlt_b5_b10 : b5 < b10 := hb10.2 1000005 _ _ _ rfl
 have hlt_b7_b10 : b7 < b10 := hb10.2 1000007 _ _ _ rfl
 have hlt_b8_b10 : b8 < b10 := hb10.2 1000008 _ _ _ rfl
 have hBb11 := hb11.1
 have hlt_b3_b11 : b3 < b11 := hb11.2 1000003 _ _ _ rfl
 have hlt_b4_b11 : b4 < b11 := hb11.2 1000004 _ _ _ rfl
 have hlt_b5_b11 : b5 < b11 := hb11.2 1000005 _ _ _ rfl
 have hlt_b7_b11 : b7 < b11 := hb11.2 1000007 _ _ _ rfl
 have hlt_b8_b11 : b8 < b11 := hb11.2 1000008 _ _ _ rfl
 refine A.sub (KC 3 rfl (KC 5 rfl (KC 7 rfl (KC 8 rfl (KC 10 rfl (KC 11 rfl (KC 1000003 rfl (KC 1000004 rfl (KC 1000005 rfl (KC 1000007 rfl (KC 1000008 rfl (KC 1000010 rfl (KC 1000011 rfl (KC 1900000 rfl (KC 1900001 rfl KN))))))))))))))) ?_
 refine A.seq ?_
 refine GS ?_
 refine TL ?_
 refine RS (ok_index0 (0) Tryz.underlying48 info5 rfl rfl (rfl) (by decide)) ?_
 refine RS (ok_loadV (s := 1000005) (by decide) Tryz.underlying5 rfl rfl rfl (rfl)) ?_; refine RZ (byteV z0) (by rfl) ?_
 refine RS (ok_rem rfl rfl (by decide)) ?_; refine RZ (.int .u8 0) (by rw [tmod_lit _ (by decide), show Int.toNat 4 = 4 from rfl, hq]; rfl) ?_
 refine RN ?_
 refine A.block ?_
 refine GS ?_
 refine TL ?_
 refine RBS rfl rfl rfl (.bool true) (by rfl) ?_
 refine RA rfl ?_
 refine RN ?_
 refine A.yes rfl ?_
 refine GE ?_
 refine TF 8 ?_
 refine RS (ok_field field32_1 (by decide) rfl) ?_
 refine RS (ok_loadV (s := 1000003) (by decide) Tryz.underlying3 rfl rfl rfl (SC_ix f hmk _ _ _)) ?_
 refine RS (ok_index0 (1) Tryz.underlying48 info5 rfl rfl (rfl) (by decide)) ?_
 refine RS (ok_loadV (s := 1000005) (by decide) Tryz.underlying5 rfl rfl rfl (rfl)) ?_; refine RZ (byteV z1) (by rfl) ?_
 refine RS (ok_conv Tryz.underlying5 Tryz.underlying3 rfl) ?_; refine RZ (nI (z1.toNat)) (by rw [wrapN_i64 (by have := z1.toNat_lt; omega)]) ?_
 refine RBS rfl rfl rfl (nI (i + z1.toNat)) (by rw [wrap_i64 (by omega) (by omega)]; exact congrArg (Value.int .i64) (by omega)) ?_
 refine RS (ok_rem rfl rfl (by decide)) ?_; refine RZ (nI i') (by rw [tmod_lit _ (by decide)]; exact congrArg (fun x : Nat => Value.int .i64 (x : Int)) hi2) ?_
 refine RS (ok_field field32_1 (by decide) rfl) ?_
 refine RN ?_
 refine ⟨_, eff_storeS (n := 159) (s := 1000010) info3 rfl rfl rfl hBb10 rfl (by rw [SC_len f hmk]; decide) (LV 3 rfl (LV 7 rfl (LV 8 rfl (LV 10 rfl (LV 11 rfl (LB 1000003 rfl (LT 1000004 rfl (LT 1000005 rfl (LT 1000007 rfl (LT 1000008 rfl (LT 1000011 rfl (LeftS.cons (t := 1900000) rfl (Surv.tab (by omega)) (LeftS.cons (t := 1900001) rfl (Surv.tab (by omega)) LN))))))))))))), ?_⟩
 refine TL ?_
 refine RN ?_
 refine End.sub (KC 3 rfl (KC 7 rfl (KC 8 rfl (KC 10 rfl (KC 11 rfl (KC 1000003 rfl (KC 1000004 rfl (KC 1000005 rfl (KC 1000007 rfl (KC 1000008 rfl (KE 1000010 rfl (show _ = blk b10 32 (rowV 16 f ++ mk.map byteV ++ [nI i', nW s, nQ c]) from congrArg _ (SC_set f hmk _ _ _ _ 0)) (KC 1000011 rfl (KC 1900000 rfl (KC 1900001 rfl KN)))))))))))))) ?_
 refine End.normal_block ?_
 refine EN ?_
 refine GS ?_
 refine TN 12 ?_
 refine RS (ok_field field32_0 (by decide) rfl) ?_
 refine RS (ok_loadP (s := 1000010) (by decide) Tryz.underlying26 rfl size26 rfl rfl (by simp [rowV_length, hmk]) (SC_keys f hmk _)) ?_
 refine RS (ok_field field32_1 (by decide) rfl) ?_
 refine RS (ok_loadV (s := 1000010) (by decide) Tryz.underlying3 rfl rfl rfl (SC_ix f hmk _ _ _)) ?_
 refine RS (ok_field field32_2 (by decide) rfl) ?_
 refine RS (ok_loadP (s := 1000010) (by decide) Tryz.underlying30 rfl size30 rfl rfl (by simp [rowV_length, hmk]) (SC_non f hmk _ _ _)) ?_
 refine RS (ok_loadA (s := 1000011) (by decide) Tryz.underlying33 rfl (size33.of (by rw [List.length_map, xorK_length, hd])) rfl rfl) ?_
 refine RS (ok_loadA (s := 1000008) (by decide) Tryz.underlying34 rfl (size34.of (by rw [List.length_map, hmac_length])) rfl rfl) ?_
 refine RS (ok_callM (Open_ok f mk hf hmk i' s c hs hc (xorK f s c 0 d) (by rw [xorK_length, hd]) hil (hmac mk (msgL i s c (xorK f s c 0 d))) (hmac_length _ _) h) (Sub.cons rfl (Sub.cons rfl KN)) tabs_v (Args.cons rfl (Le.refl _) (Args.cons rfl (Le.refl _) (A3 rfl rfl rfl)))) ?_
 refine RM rfl ?_
 refine RS (ok_extractV rfl rfl) ?_
 refine RS (ok_extractV rfl rfl) ?_
 refine RN ?_
 refine ⟨_, _, eff_alloc (n := 159) (d := 12) (k := 1000012) zero33 (by decide), fun b12 hb12 => ?_⟩
 have hBb12 := hb12.1
 have hlt_b4_b12 : b4 < b12 := hb12.2 1000004 _ _ _ rfl
 have hlt_b7_b12 : b7 < b12 := hb12.2 1000007 _ _ _ rfl
 have hlt_b11_b12 : b11 < b12 := hb12.2 1000011 _ _ _ rfl
 refine TF 13 ?_
 refine RN ?_
 refine ⟨_, eff_storeA (n := 159) (s := 1000012) (size33.of (by simp [xorK_length, hd])) rfl rfl (all_bytes _) hBb12 rfl (by simp [xorK_length, hd]) (LV 3 rfl (LV 7 rfl (LV 8 rfl (LV 10 rfl (LV 11 rfl (LV 97 rfl (LT 1000003 rfl (LB 1000004 rfl (LT 1000005 rfl (LB 1000007 rfl (LT 1000008 rfl (LT 1000010 rfl (LB 1000011 rfl (LeftS.cons (t := 1900000) rfl (Surv.tab (by omega)) (LeftS.cons (t := 1900001) rfl (Surv.tab (by omega)) LN))))))))))))))), ?_⟩
 refine TL ?_
 refine RA rfl ?_
 refine RN ?_
 refine GS ?_
 refine TL ?_
 refine RS (ok_field field32_1 (by decide) rfl) ?_
 refine RS (ok_loadV (s := 1000003) (by decide) Tryz.underlying3 rfl rfl rfl (SC_ix f hmk _ _ _)) ?_
 refine RS (ok_field field32_2 (by decide) rfl) ?_
 refine RS (ok_loadP (s := 1000003) (by decide) Tryz.underlying30 rfl size30 rfl rfl (by simp [rowV_length, hmk]) (SC_non f hmk _ _ _)) ?_
 refine RS (ok_loadA (s := 1000007) (by decide) Tryz.underlying33 rfl (size33.of (by rw [List.length_map, xorK_length, hd])) rfl rfl) ?_
 refine RS (ok_call (ref9Message_fn i s c hs hc (xorK f s c 0 d) (by rw [xorK_length, hd]) hi) (A3 rfl rfl rfl)) ?_
 refine RS (ok_str (l := (msgL i s c (xorK f s c 0 d))) Tryz.underlying49 Tryz.underlying5 Tryz.underlying9 rfl (Le.refl _)) ?_
 refine RA rfl ?_
 refine RN ?_
 refine GS ?_
 refine TL ?_
 refine RS (ok_field field32_1 (by decide) rfl) ?_
 refine RS (ok_loadV (s := 1000010) (by decide) Tryz.underlying3 rfl rfl rfl (SC_ix f hmk _ _ _)) ?_
 refine RS (ok_field field32_2 (by decide) rfl) ?_
 refine RS (ok_loadP (s := 1000010) (by decide) Tryz.underlying30 rfl size30 rfl rfl (by simp [rowV_length, hmk]) (SC_non f hmk _ _ _)) ?_
 refine RS (ok_loadA (s := 1000011) (by decide) Tryz.underlying33 rfl (size33.of (by rw [List.length_map, xorK_length, hd])) rfl rfl) ?_
 refine RS (ok_call (ref9Message_fn i' s c hs hc (xorK f s c 0 d) (by rw [xorK_length, hd]) hil) (A3 rfl rfl rfl)) ?_
 refine RS (ok_str (l := (msgL i' s c (xorK f s c 0 d))) Tryz.underlying49 Tryz.underlying5 Tryz.underlying9 rfl (Le.refl _)) ?_
 refine RA rfl ?_
 refine RN ?_
 refine A.sub (KC 3 rfl (KC 7 rfl (KC 8 rfl (KC 10 rfl (KC 11 rfl (KC 13 rfl (KC 14 rfl (KC 15 rfl (KC 1000003 rfl (KC 1000004 rfl (KC 1000005 rfl (KC 1000007 rfl (KC 1000008 rfl (KC 1000010 rfl (KC 1000011 rfl (KC 1000012 rfl (KC 1900000 rfl (KC 1900001 rfl KN)))))))))))))))))) ?_
 refine GS ?_
 refine TL ?_
 refine RS (ok_loadA (s := 1000010) (by decide) Tryz.underlying32 rfl (size32.of (SC_len f hmk _ _ _)) rfl rfl) ?_
 refine RS (ok_loadA (s := 1000003) (by decide) Tryz.underlying32 rfl (size32.of (SC_len f hmk _ _ _)) rfl rfl) ?_
 refine RS (ok_eqlT (n := 5) false flat32 (by decide) (by kernel_rfl) (by kernel_rfl) rfl rfl (kinS f hmk _ _ _) (kinS f hmk _ _ _) ⟨fun h => (by cases h), fun h => (by have := SC_inj h; exfalso; omega)⟩) ?_
 refine RM rfl ?_
 refine RK ?_
 refine RK ?_
 refine RK ?_
 refine RP rfl rfl ?_
 refine RA rfl ?_
 refine RN ?_
 refine GS ?_
 refine TN 16 ?_
 refine RS (ok_field field32_0 (by decide) rfl) ?_
 refine RS (ok_field field26_0 (by decide) rfl) ?_
 refine RS (ok_loadP (s := 1000010) (by decide) Tryz.underlying22 rfl size22 rfl rfl (by simp [rowV_length, hmk]) (SC_enc f mk _)) ?_
 refine RS (ok_field field32_0 (by decide) rfl) ?_
 refine RS (ok_field field26_1 (by decide) rfl) ?_
 refine RS (ok_loadP (s := 1000010) (by decide) Tryz.underlying24 rfl size24 rfl rfl (by simp [rowV_length, hmk]) (SC_mac f hmk _)) ?_
 refine RS (ok_field field32_1 (by decide) rfl) ?_
 refine RS (ok_loadV (s := 1000010) (by decide) Tryz.underlying3 rfl rfl rfl (SC_ix f hmk _ _ _)) ?_
 refine RS (ok_field field32_2 (by decide) rfl) ?_
 refine RS (ok_loadP (s := 1000010) (by decide) Tryz.underlying30 rfl size30 rfl rfl (by simp [rowV_length, hmk]) (SC_non f hmk _ _ _)) ?_
 refine RS (ok_loadA (s := 1000011) (by decide) Tryz.underlying33 rfl (size33.of (by rw [List.length_map, xorK_length, hd])) rfl rfl) ?_
 refine RS (ok_loadA (s := 1000008) (by decide) Tryz.underlying34 rfl (size34.of (by rw [List.length_map, hmac_length])) rfl rfl) ?_
 refine RS (ok_call (ref9Open_ok f mk hf hmk i' s c hs hc (xorK f s c 0 d) (by rw [xorK_length, hd]) hil (hmac mk (msgL i s c (xorK f s c 0 d))) (hmac_length _ _) h) (Args.cons rfl (Le.refl _) (Args.cons rfl (Le.refl _) (Args.cons rfl (Le.refl _) (A3 rfl rfl rfl))))) ?_
 refine RM rfl ?_
 refine RS (ok_extract rfl rfl) ?_
 refine RS (ok_extract rfl rfl) ?_
 refine RN ?_
 refine ⟨_, _, eff_alloc (n := 159) (d := 17) (k := 1000017) zero33 (by decide), fun b17 hb17 => ?_⟩
 have hBb17 := hb17.1
 have hlt_b4_b17 : b4 < b17 := hb17.2 1000004 _ _ _ rfl
 have hlt_b7_b17 : b7 < b17 := hb17.2 1000007 _ _ _ rfl
 have hlt_b11_b17 : b11 < b17 := hb17.2 1000011 _ _ _ rfl
 have hlt_b12_b17 : b12 < b17 := hb17.2 1000012 _ _ _ rfl
 refine TF 17 ?_
 refine RN ?_
 refine ⟨_, eff_storeA (n := 159) (s := 1000017) (size33.of (by simp [xorK_length, hd])) rfl rfl (all_bytes _) hBb17 rfl (by simp [xorK_length, hd]) (LV 13 rfl (LV 14 rfl (LV 15 rfl (LV 16 rfl (LV 135 rfl (LT 1000003 rfl (LB 1000004 rfl (LT 1000005 rfl (LB 1000007 rfl (LT 1000008 rfl (LT 1000010 rfl (LB 1000011 rfl (LB 1000012 rfl (LeftS.cons (t := 1900000) rfl (Surv.tab (by omega)) (LeftS.cons (t := 1900001) rfl (Surv.tab (by omega)) LN))))))))))))))), ?_⟩
 refine TL ?_
 refine RA rfl ?_
 refine RN ?_
 refine A.sub (KC 13 rfl (KC 14 rfl (KC 15 rfl (KC 16 rfl (KC 18 rfl (KC 1000003 rfl (KC 1000004 rfl (KC 1000005 rfl (KC 1000007 rfl (KC 1000008 rfl (KC 1000010 rfl (KC 1000011 rfl (KC 1000012 rfl (KC 1000017 rfl (KC 1900000 rfl (KC 1900001 rfl KN)))))))))))))))) ?_
 refine GS ?_
 refine TL ?_
 refine RM rfl ?_
 refine RM rfl ?_
 refine RS (ok_seq rfl rfl) ?_; refine RZ (.bool false) (congrArg Value.bool (beq_eq_false_iff_ne.2 fun hh => hne (msgL_inj (by omega) (by omega) hs hs hc hc hh).1.symm)) ?_
 refine RM rfl ?_
 refine RS (ok_eqBool Tryz.underlying4 rfl rfl) ?_; refine RZ (.bool true) (by rfl) ?_
 refine RM rfl ?_
 refine RQ (ok_move rfl) ?_
 refine RQ (ok_bin rfl rfl rfl) ?_; refine RZ (.bool true) (by rfl) ?_
 refine RQ (ok_move rfl) ?_
 refine RQ (ok_bin rfl rfl rfl) ?_; refine RZ (.bool true) (by rfl) ?_
 refine RQ (ok_eqBool Tryz.underlying4 rfl rfl) ?_; refine RZ (.bool true) (by rfl) ?_
 refine RP rfl rfl ?_
 refine RM rfl ?_
 refine RQ (ok_move rfl) ?_
 refine RQ (ok_not rfl) ?_; refine RZ (.bool true) (by rfl) ?_
 refine RQ (ok_move rfl) ?_
 refine RK ?_
 refine RK ?_
 refine RQ (ok_pick rfl rfl) ?_
 refine RP rfl rfl ?_
 refine RM rfl ?_
 refine RQ (ok_callM lives9_fn (Sub.cons rfl (Sub.cons rfl KN)) tabs_v Args.nil) ?_
 refine RP rfl rfl ?_
 refine RA rfl ?_
 refine RN ?_
 refine A.ret ?_
 exact End.ret1 rfl rfl (by first | exact Le.refl _ | exact Le.old _ _)
set_option maxHeartbeats 4000000 in
theorem SealsChanged_0_ts_no (f : Nat → Nat) (mk : List UInt8) (hf : By f) (hmk : mk.length = 32) (i : Nat) (hi : i < 4096) (s c : Nat) (hs : s < 4294967296) (hc : c < 18446744073709551616) (d : List UInt8) (hd : d.length = 32) (z0 z1 z2 : UInt8) (hq : z0.toNat % 4 = 0) (i' : Nat) (hi2 : (i + z1.toNat) % 4096 = i') (hil : i' < 4096) (hne : i' ≠ i) (h : (hmac mk (msgL i s c (xorK f s c 0 d))) ≠ (hmac mk (msgL i' s c (xorK f s c 0 d))))  : FnM Tryz.prog 5 tabs [.v (aggV (rowV 16 f ++ mk.map byteV ++ [nI i, nW s, nQ c])), .v (aggV (d.map byteV)), .v (aggV ([z0, z1, z2].map byteV))] (.v (.bool true)) := by
 have hz1 := z1.toNat_lt
 refine FnM.of Tryz.func5 rfl (by kernel_rfl) Tryz.ntmps5 (by simp) (by decide) (fun w => [(0, .v (aggV (rowV 16 f ++ mk.map byteV ++ [nI i, nW s, nQ c]))), (1, .v (aggV (d.map byteV))), (2, .v (aggV ([z0, z1, z2].map byteV))), (1900000, tab 0 (H8.list.map u32V)), (1900001, tab 1 (K64.map u32V))]) (fun w => (StartM.v rfl (StartM.v rfl (StartM.v rfl (StartM.m (by simp [tabs]) (by decide) (StartM.m (by simp [tabs]) (by decide) StartM.nil)))))) fun w₀ hM => ?_
 have htab := tabs_hi hM
 refine GS ?_
 refine TN 0 ?_
 refine RN ?_
 refine ⟨_, _, eff_box (n := 159) (d := 3) (k := 1000003) rfl (by decide), fun b3 hb3 => ?_⟩
 have hBb3 := hb3.1
 refine TN 1 ?_
 refine RN ?_
 refine ⟨_, _, eff_box (n := 159) (d := 4) (k := 1000004) rfl (by decide), fun b4 hb4 => ?_⟩
 have hBb4 := hb4.1
 refine TN 2 ?_
 refine RN ?_
 refine ⟨_, _, eff_box (n := 159) (d := 5) (k := 1000005) rfl (by decide), fun b5 hb5 => ?_⟩
 have hBb5 := hb5.1
 refine TL ?_
 refine RA rfl ?_
 refine RN ?_
 refine A.seq ?_
 refine GS ?_
 refine TL ?_
 refine RS (ok_field field32_1 (by decide) rfl) ?_
 refine RS (ok_loadV (s := 1000003) (by decide) Tryz.underlying3 rfl rfl rfl (SC_ix f hmk _ _ _)) ?_
 refine RS (ok_call (bad9_no (i : Int) (by omega) (by omega)) (A1 rfl)) ?_
 refine RN ?_
 refine A.no rfl ?_
 refine A.skip ?_
 refine EN ?_
 refine GS ?_
 refine TN 12 ?_
 refine RS (ok_field field32_0 (by decide) rfl) ?_
 refine RS (ok_loadP (s := 1000003) (by decide) Tryz.underlying26 rfl size26 rfl rfl (by simp [rowV_length, hmk]) (SC_keys f hmk _)) ?_
 refine RS (ok_field field32_1 (by decide) rfl) ?_
 refine RS (ok_loadV (s := 1000003) (by decide) Tryz.underlying3 rfl rfl rfl (SC_ix f hmk _ _ _)) ?_
 refine RS (ok_field field32_2 (by decide) rfl) ?_
 refine RS (ok_loadP (s := 1000003) (by decide) Tryz.underlying30 rfl size30 rfl rfl (by simp [rowV_length, hmk]) (SC_non f hmk _ _ _)) ?_
 refine RS (ok_loadA (s := 1000004) (by decide) Tryz.underlying33 rfl (size33.of (by rw [List.length_map, hd])) rfl rfl) ?_
 refine RS (ok_callM (Seal_ok f mk hf hmk i s c hs hc d hd hi) (Sub.cons rfl (Sub.cons rfl KN)) tabs_v (Args.cons rfl (Le.refl _) (A3 rfl rfl rfl))) ?_
 refine RM rfl ?_
 refine RS (ok_extractV rfl rfl) ?_
 refine RS (ok_extractV rfl rfl) ?_
 refine RS (ok_extractV rfl rfl) ?_
 refine RN ?_
 refine ⟨_, _, eff_alloc (n := 159) (d := 7) (k := 1000007) zero33 (by decide), fun b7 hb7 => ?_⟩
 have hBb7 := hb7.1
 have hlt_b4_b7 : b4 < b7 := hb7.2 1000004 _ _ _ rfl
 refine TN 13 ?_
 refine RN ?_
 refine ⟨_, _, eff_alloc (n := 159) (d := 8) (k := 1000008) zero34 (by decide), fun b8 hb8 => ?_⟩
 have hBb8 := hb8.1
 refine TF 14 ?_
 refine RN ?_
 refine ⟨_, eff_storeA (n := 159) (s := 1000007) (size33.of (by rw [List.length_map, xorK_length, hd])) rfl rfl (all_bytes _) hBb7 rfl (by simp [xorK_length, hd]) (LV 3 rfl (LV 5 rfl (LV 7 rfl (LV 8 rfl (LV 33 rfl (LV 34 rfl (LT 1000003 rfl (LB 1000004 rfl (LT 1000005 rfl (LT 1000008 rfl (LeftS.cons (t := 1900000) rfl (Surv.tab (by omega)) (LeftS.cons (t := 1900001) rfl (Surv.tab (by omega)) LN)))))))))))), ?_⟩
 refine TF 15 ?_
 refine RN ?_
 refine ⟨_, eff_storeA (n := 159) (s := 1000008) (size34.of (by rw [List.length_map, hmac_length])) rfl rfl (all_bytes _) hBb8 rfl (by simp [hmac_length]) (LV 3 rfl (LV 5 rfl (LV 7 rfl (LV 8 rfl (LV 34 rfl (LT 1000003 rfl (LT 1000004 rfl (LT 1000005 rfl (LT 1000007 rfl (LeftS.cons (t := 1900000) rfl (Surv.tab (by omega)) (LeftS.cons (t := 1900001) rfl (Surv.tab (by omega)) LN))))))))))), ?_⟩
 refine TL ?_
 refine RA rfl ?_
 refine RN ?_
 refine A.seq ?_
 refine GS ?_
 refine TL ?_
 refine RM rfl ?_
 refine RBS rfl rfl rfl (.bool false) (by rfl) ?_
 refine RN ?_
 refine A.sub (KC 3 rfl (KC 5 rfl (KC 7 rfl (KC 8 rfl (KC 36 rfl (KC 1000003 rfl (KC 1000004 rfl (KC 1000005 rfl (KC 1000007 rfl (KC 1000008 rfl (KC 1900000 rfl (KC 1900001 rfl KN)))))))))))) ?_
 refine A.no rfl ?_
 refine A.skip ?_
 refine EN ?_
 refine A.regsK [⟨2, 10, 32, List.replicate 16 (.int .u8 0) ++ List.replicate 32 (.int .u8 0) ++ [.int .i64 0] ++ [.int .u32 0] ++ [.int .u64 0], 4, (rowV 16 f ++ mk.map byteV ++ [nI i, nW s, nQ c])⟩, ⟨3, 11, 33, List.replicate 32 (.int .u8 0), 5, (xorK f s c 0 d).map byteV⟩] (by kernel_rfl) (by kernel_rfl) (by kernel_rfl) ?_
 refine KopsK.pure (_) rfl (.inl rfl) FromV.all (fun B' => (ok_loadA (s := 1000003) (by decide) Tryz.underlying32 rfl (size32.of (SC_len f hmk _ _ _)) rfl rfl)) ?_
 refine KopsK.pure (_) rfl (.inl rfl) FromV.all (fun B' => (ok_loadA (s := 1000007) (by decide) Tryz.underlying33 rfl (size33.of (by rw [List.length_map, xorK_length, hd])) rfl rfl)) ?_
 refine KopsK.alloc 0 rfl rfl rfl rfl zero32 rfl ?_
 refine KopsK.alloc 1 rfl rfl rfl rfl zero33 rfl ?_
 refine KopsK.store 0 ((37, .v _) :: _) rfl rfl rfl rfl (by kernel_rfl) (FromV.op 0 (by kernel_rfl) rfl rfl FromV.all) rfl (size32.of (SC_len f hmk _ _ _)) (by simp [rowV_length, hmk]) (SC_one f mk rfl rfl rfl) ?_
 refine KopsK.store 1 ((38, .v _) :: _) rfl rfl rfl rfl (by kernel_rfl) (FromV.op 1 (by kernel_rfl) rfl rfl FromV.all) rfl (size33.of (by rw [List.length_map, xorK_length, hd])) (by simp [xorK_length, hd]) (all_bytes _) ?_
 refine KopsK.nil ⟨by kernel_rfl, _, FromW.all, fun bs hbs hds => ?_⟩
 have hb10 := hbs 0 (by simp)
 have hb11 := hbs 1 (by simp)
 have hne_b10_b11 := hds 0 1 (by simp) (by simp) (by decide)
 dsimp only [varEnv]
 generalize bs 0 = b10 at *
 generalize bs (0 + 1) = b11 at *
 have hBb10 := hb10.1
 have hlt_b3_b10 : b3 < b10 := hb10.2 1000003 _ _ _ rfl
 have hlt_b4_b10 : b4 < b10 := hb10.2 1000004 _ _ _ rfl
 have hlt_b5_b10 : b5 < b10 := hb10.2 1000005 _ _ _ rfl
 have hlt_b7_b10 : b7 < b10 := hb10.2 1000007 _ _ _ rfl
 have hlt_b8_b10 : b8 < b10 := hb10.2 1000008 _ _ _ rfl
 have hBb11 := hb11.1
 have hlt_b3_b11 : b3 < b11 := hb11.2 1000003 _ _ _ rfl
 have hlt_b4_b11 : b4 < b11 := hb11.2 1000004 _ _ _ rfl
 have hlt_b5_b11 : b5 < b11 := hb11.2 1000005 _ _ _ rfl
 have hlt_b7_b11 : b7 < b11 := hb11.2 1000007 _ _ _ rfl
 have hlt_b8_b11 : b8 < b11 := hb11.2 1000008 _ _ _ rfl
 refine A.sub (KC 3 rfl (KC 5 rfl (KC 7 rfl (KC 8 rfl (KC 10 rfl (KC 11 rfl (KC 1000003 rfl (KC 1000004 rfl (KC 1000005 rfl (KC 1000007 rfl (KC 1000008 rfl (KC 1000010 rfl (KC 1000011 rfl (KC 1900000 rfl (KC 1900001 rfl KN))))))))))))))) ?_
 refine A.seq ?_
 refine GS ?_
 refine TL ?_
 refine RS (ok_index0 (0) Tryz.underlying48 info5 rfl rfl (rfl) (by decide)) ?_
 refine RS (ok_loadV (s := 1000005) (by decide) Tryz.underlying5 rfl rfl rfl (rfl)) ?_; refine RZ (byteV z0) (by rfl) ?_
 refine RS (ok_rem rfl rfl (by decide)) ?_; refine RZ (.int .u8 0) (by rw [tmod_lit _ (by decide), show Int.toNat 4 = 4 from rfl, hq]; rfl) ?_
 refine RN ?_
 refine A.block ?_
 refine GS ?_
 refine TL ?_
 refine RBS rfl rfl rfl (.bool true) (by rfl) ?_
 refine RA rfl ?_
 refine RN ?_
 refine A.yes rfl ?_
 refine GE ?_
 refine TF 8 ?_
 refine RS (ok_field field32_1 (by decide) rfl) ?_
 refine RS (ok_loadV (s := 1000003) (by decide) Tryz.underlying3 rfl rfl rfl (SC_ix f hmk _ _ _)) ?_
 refine RS (ok_index0 (1) Tryz.underlying48 info5 rfl rfl (rfl) (by decide)) ?_
 refine RS (ok_loadV (s := 1000005) (by decide) Tryz.underlying5 rfl rfl rfl (rfl)) ?_; refine RZ (byteV z1) (by rfl) ?_
 refine RS (ok_conv Tryz.underlying5 Tryz.underlying3 rfl) ?_; refine RZ (nI (z1.toNat)) (by rw [wrapN_i64 (by have := z1.toNat_lt; omega)]) ?_
 refine RBS rfl rfl rfl (nI (i + z1.toNat)) (by rw [wrap_i64 (by omega) (by omega)]; exact congrArg (Value.int .i64) (by omega)) ?_
 refine RS (ok_rem rfl rfl (by decide)) ?_; refine RZ (nI i') (by rw [tmod_lit _ (by decide)]; exact congrArg (fun x : Nat => Value.int .i64 (x : Int)) hi2) ?_
 refine RS (ok_field field32_1 (by decide) rfl) ?_
 refine RN ?_
 refine ⟨_, eff_storeS (n := 159) (s := 1000010) info3 rfl rfl rfl hBb10 rfl (by rw [SC_len f hmk]; decide) (LV 3 rfl (LV 7 rfl (LV 8 rfl (LV 10 rfl (LV 11 rfl (LB 1000003 rfl (LT 1000004 rfl (LT 1000005 rfl (LT 1000007 rfl (LT 1000008 rfl (LT 1000011 rfl (LeftS.cons (t := 1900000) rfl (Surv.tab (by omega)) (LeftS.cons (t := 1900001) rfl (Surv.tab (by omega)) LN))))))))))))), ?_⟩
 refine TL ?_
 refine RN ?_
 refine End.sub (KC 3 rfl (KC 7 rfl (KC 8 rfl (KC 10 rfl (KC 11 rfl (KC 1000003 rfl (KC 1000004 rfl (KC 1000005 rfl (KC 1000007 rfl (KC 1000008 rfl (KE 1000010 rfl (show _ = blk b10 32 (rowV 16 f ++ mk.map byteV ++ [nI i', nW s, nQ c]) from congrArg _ (SC_set f hmk _ _ _ _ 0)) (KC 1000011 rfl (KC 1900000 rfl (KC 1900001 rfl KN)))))))))))))) ?_
 refine End.normal_block ?_
 refine EN ?_
 refine GS ?_
 refine TN 12 ?_
 refine RS (ok_field field32_0 (by decide) rfl) ?_
 refine RS (ok_loadP (s := 1000010) (by decide) Tryz.underlying26 rfl size26 rfl rfl (by simp [rowV_length, hmk]) (SC_keys f hmk _)) ?_
 refine RS (ok_field field32_1 (by decide) rfl) ?_
 refine RS (ok_loadV (s := 1000010) (by decide) Tryz.underlying3 rfl rfl rfl (SC_ix f hmk _ _ _)) ?_
 refine RS (ok_field field32_2 (by decide) rfl) ?_
 refine RS (ok_loadP (s := 1000010) (by decide) Tryz.underlying30 rfl size30 rfl rfl (by simp [rowV_length, hmk]) (SC_non f hmk _ _ _)) ?_
 refine RS (ok_loadA (s := 1000011) (by decide) Tryz.underlying33 rfl (size33.of (by rw [List.length_map, xorK_length, hd])) rfl rfl) ?_
 refine RS (ok_loadA (s := 1000008) (by decide) Tryz.underlying34 rfl (size34.of (by rw [List.length_map, hmac_length])) rfl rfl) ?_
 refine RS (ok_callM (Open_int f mk hf hmk i' s c hs hc (xorK f s c 0 d) (by rw [xorK_length, hd]) hil (hmac mk (msgL i s c (xorK f s c 0 d))) (hmac_length _ _) h) (Sub.cons rfl (Sub.cons rfl KN)) tabs_v (Args.cons rfl (Le.refl _) (Args.cons rfl (Le.refl _) (A3 rfl rfl rfl)))) ?_
 refine RM rfl ?_
 refine RS (ok_extractV rfl rfl) ?_
 refine RS (ok_extractV rfl rfl) ?_
 refine RN ?_
 refine ⟨_, _, eff_alloc (n := 159) (d := 12) (k := 1000012) zero33 (by decide), fun b12 hb12 => ?_⟩
 have hBb12 := hb12.1
 have hlt_b4_b12 : b4 < b12 := hb12.2 1000004 _ _ _ rfl
 have hlt_b7_b12 : b7 < b12 := hb12.2 1000007 _ _ _ rfl
 have hlt_b11_b12 : b11 < b12 := hb12.2 1000011 _ _ _ rfl
 refine TF 13 ?_
 refine RN ?_
 refine ⟨_, eff_storeA (n := 159) (s := 1000012) (size33.of (rfl)) rfl rfl (rfl) hBb12 rfl (rfl) (LV 3 rfl (LV 7 rfl (LV 8 rfl (LV 10 rfl (LV 11 rfl (LV 97 rfl (LT 1000003 rfl (LB 1000004 rfl (LT 1000005 rfl (LB 1000007 rfl (LT 1000008 rfl (LT 1000010 rfl (LB 1000011 rfl (LeftS.cons (t := 1900000) rfl (Surv.tab (by omega)) (LeftS.cons (t := 1900001) rfl (Surv.tab (by omega)) LN))))))))))))))), ?_⟩
 refine TL ?_
 refine RA rfl ?_
 refine RN ?_
 refine GS ?_
 refine TL ?_
 refine RS (ok_field field32_1 (by decide) rfl) ?_
 refine RS (ok_loadV (s := 1000003) (by decide) Tryz.underlying3 rfl rfl rfl (SC_ix f hmk _ _ _)) ?_
 refine RS (ok_field field32_2 (by decide) rfl) ?_
 refine RS (ok_loadP (s := 1000003) (by decide) Tryz.underlying30 rfl size30 rfl rfl (by simp [rowV_length, hmk]) (SC_non f hmk _ _ _)) ?_
 refine RS (ok_loadA (s := 1000007) (by decide) Tryz.underlying33 rfl (size33.of (by rw [List.length_map, xorK_length, hd])) rfl rfl) ?_
 refine RS (ok_call (ref9Message_fn i s c hs hc (xorK f s c 0 d) (by rw [xorK_length, hd]) hi) (A3 rfl rfl rfl)) ?_
 refine RS (ok_str (l := (msgL i s c (xorK f s c 0 d))) Tryz.underlying49 Tryz.underlying5 Tryz.underlying9 rfl (Le.refl _)) ?_
 refine RA rfl ?_
 refine RN ?_
 refine GS ?_
 refine TL ?_
 refine RS (ok_field field32_1 (by decide) rfl) ?_
 refine RS (ok_loadV (s := 1000010) (by decide) Tryz.underlying3 rfl rfl rfl (SC_ix f hmk _ _ _)) ?_
 refine RS (ok_field field32_2 (by decide) rfl) ?_
 refine RS (ok_loadP (s := 1000010) (by decide) Tryz.underlying30 rfl size30 rfl rfl (by simp [rowV_length, hmk]) (SC_non f hmk _ _ _)) ?_
 refine RS (ok_loadA (s := 1000011) (by decide) Tryz.underlying33 rfl (size33.of (by rw [List.length_map, xorK_length, hd])) rfl rfl) ?_
 refine RS (ok_call (ref9Message_fn i' s c hs hc (xorK f s c 0 d) (by rw [xorK_length, hd]) hil) (A3 rfl rfl rfl)) ?_
 refine RS (ok_str (l := (msgL i' s c (xorK f s c 0 d))) Tryz.underlying49 Tryz.underlying5 Tryz.underlying9 rfl (Le.refl _)) ?_
 refine RA rfl ?_
 refine RN ?_
 refine A.sub (KC 3 rfl (KC 7 rfl (KC 8 rfl (KC 10 rfl (KC 11 rfl (KC 13 rfl (KC 14 rfl (KC 15 rfl (KC 1000003 rfl (KC 1000004 rfl (KC 1000005 rfl (KC 1000007 rfl (KC 1000008 rfl (KC 1000010 rfl (KC 1000011 rfl (KC 1000012 rfl (KC 1900000 rfl (KC 1900001 rfl KN)))))))))))))))))) ?_
 refine GS ?_
 refine TL ?_
 refine RS (ok_loadA (s := 1000010) (by decide) Tryz.underlying32 rfl (size32.of (SC_len f hmk _ _ _)) rfl rfl) ?_
 refine RS (ok_loadA (s := 1000003) (by decide) Tryz.underlying32 rfl (size32.of (SC_len f hmk _ _ _)) rfl rfl) ?_
 refine RS (ok_eqlT (n := 5) false flat32 (by decide) (by kernel_rfl) (by kernel_rfl) rfl rfl (kinS f hmk _ _ _) (kinS f hmk _ _ _) ⟨fun h => (by cases h), fun h => (by have := SC_inj h; exfalso; omega)⟩) ?_
 refine RM rfl ?_
 refine RK ?_
 refine RK ?_
 refine RK ?_
 refine RP rfl rfl ?_
 refine RA rfl ?_
 refine RN ?_
 refine GS ?_
 refine TN 16 ?_
 refine RS (ok_field field32_0 (by decide) rfl) ?_
 refine RS (ok_field field26_0 (by decide) rfl) ?_
 refine RS (ok_loadP (s := 1000010) (by decide) Tryz.underlying22 rfl size22 rfl rfl (by simp [rowV_length, hmk]) (SC_enc f mk _)) ?_
 refine RS (ok_field field32_0 (by decide) rfl) ?_
 refine RS (ok_field field26_1 (by decide) rfl) ?_
 refine RS (ok_loadP (s := 1000010) (by decide) Tryz.underlying24 rfl size24 rfl rfl (by simp [rowV_length, hmk]) (SC_mac f hmk _)) ?_
 refine RS (ok_field field32_1 (by decide) rfl) ?_
 refine RS (ok_loadV (s := 1000010) (by decide) Tryz.underlying3 rfl rfl rfl (SC_ix f hmk _ _ _)) ?_
 refine RS (ok_field field32_2 (by decide) rfl) ?_
 refine RS (ok_loadP (s := 1000010) (by decide) Tryz.underlying30 rfl size30 rfl rfl (by simp [rowV_length, hmk]) (SC_non f hmk _ _ _)) ?_
 refine RS (ok_loadA (s := 1000011) (by decide) Tryz.underlying33 rfl (size33.of (by rw [List.length_map, xorK_length, hd])) rfl rfl) ?_
 refine RS (ok_loadA (s := 1000008) (by decide) Tryz.underlying34 rfl (size34.of (by rw [List.length_map, hmac_length])) rfl rfl) ?_
 refine RS (ok_call (ref9Open_int f mk hf hmk i' s c hs hc (xorK f s c 0 d) (by rw [xorK_length, hd]) hil (hmac mk (msgL i s c (xorK f s c 0 d))) (hmac_length _ _) h) (Args.cons rfl (Le.refl _) (Args.cons rfl (Le.refl _) (Args.cons rfl (Le.refl _) (A3 rfl rfl rfl))))) ?_
 refine RM rfl ?_
 refine RS (ok_extract rfl rfl) ?_
 refine RS (ok_extract rfl rfl) ?_
 refine RN ?_
 refine ⟨_, _, eff_alloc (n := 159) (d := 17) (k := 1000017) zero33 (by decide), fun b17 hb17 => ?_⟩
 have hBb17 := hb17.1
 have hlt_b4_b17 : b4 < b17 := hb17.2 1000004 _ _ _ rfl
 have hlt_b7_b17 : b7 < b17 := hb17.2 1000007 _ _ _ rfl
 have hlt_b11_b17 : b11 < b17 := hb17.2 1000011 _ _ _ rfl
 have hlt_b12_b17 : b12 < b17 := hb17.2 1000012 _ _ _ rfl
 refine TF 17 ?_
 refine RN ?_
 refine ⟨_, eff_storeA (n := 159) (s := 1000017) (size33.of (rfl)) rfl rfl (rfl) hBb17 rfl (rfl) (LV 13 rfl (LV 14 rfl (LV 15 rfl (LV 16 rfl (LV 135 rfl (LT 1000003 rfl (LB 1000004 rfl (LT 1000005 rfl (LB 1000007 rfl (LT 1000008 rfl (LT 1000010 rfl (LB 1000011 rfl (LB 1000012 rfl (LeftS.cons (t := 1900000) rfl (Surv.tab (by omega)) (LeftS.cons (t := 1900001) rfl (Surv.tab (by omega)) LN))))))))))))))), ?_⟩
 refine TL ?_
 refine RA rfl ?_
 refine RN ?_
 refine A.sub (KC 13 rfl (KC 14 rfl (KC 15 rfl (KC 16 rfl (KC 18 rfl (KC 1000003 rfl (KC 1000004 rfl (KC 1000005 rfl (KC 1000007 rfl (KC 1000008 rfl (KC 1000010 rfl (KC 1000011 rfl (KC 1000012 rfl (KC 1000017 rfl (KC 1900000 rfl (KC 1900001 rfl KN)))))))))))))))) ?_
 refine GS ?_
 refine TL ?_
 refine RM rfl ?_
 refine RM rfl ?_
 refine RS (ok_seq rfl rfl) ?_; refine RZ (.bool false) (congrArg Value.bool (beq_eq_false_iff_ne.2 fun hh => hne (msgL_inj (by omega) (by omega) hs hs hc hc hh).1.symm)) ?_
 refine RM rfl ?_
 refine RS (ok_eqBool Tryz.underlying4 rfl rfl) ?_; refine RZ (.bool true) (by rfl) ?_
 refine RM rfl ?_
 refine RQ (ok_move rfl) ?_
 refine RQ (ok_bin rfl rfl rfl) ?_; refine RZ (.bool false) (by rfl) ?_
 refine RQ (ok_move rfl) ?_
 refine RQ (ok_bin rfl rfl rfl) ?_; refine RZ (.bool false) (by rfl) ?_
 refine RQ (ok_eqBool Tryz.underlying4 rfl rfl) ?_; refine RZ (.bool true) (by rfl) ?_
 refine RP rfl rfl ?_
 refine RM rfl ?_
 refine RQ (ok_move rfl) ?_
 refine RQ (ok_not rfl) ?_; refine RZ (.bool true) (by rfl) ?_
 refine RQ (ok_move rfl) ?_
 refine RK ?_
 refine RK ?_
 refine RQ (ok_pick rfl rfl) ?_
 refine RP rfl rfl ?_
 refine RM rfl ?_
 refine RQ (ok_callM lives9_fn (Sub.cons rfl (Sub.cons rfl KN)) tabs_v Args.nil) ?_
 refine RP rfl rfl ?_
 refine RA rfl ?_
 refine RN ?_
 refine A.ret ?_
 exact End.ret1 rfl rfl (by first | exact Le.refl _ | exact Le.old _ _)
set_option maxHeartbeats 4000000 in
theorem SealsChanged_1_eq (f : Nat → Nat) (mk : List UInt8) (hf : By f) (hmk : mk.length = 32) (i : Nat) (hi : i < 4096) (s c : Nat) (hs : s < 4294967296) (hc : c < 18446744073709551616) (d : List UInt8) (hd : d.length = 32) (z0 z1 z2 : UInt8) (hq : z0.toNat % 4 = 1) (hc2 : (c + z1.toNat) % 18446744073709551616 = c)  : FnM Tryz.prog 5 tabs [.v (aggV (rowV 16 f ++ mk.map byteV ++ [nI i, nW s, nQ c])), .v (aggV (d.map byteV)), .v (aggV ([z0, z1, z2].map byteV))] (.v (.bool true)) := by
 have hz1 := z1.toNat_lt
 refine FnM.of Tryz.func5 rfl (by kernel_rfl) Tryz.ntmps5 (by simp) (by decide) (fun w => [(0, .v (aggV (rowV 16 f ++ mk.map byteV ++ [nI i, nW s, nQ c]))), (1, .v (aggV (d.map byteV))), (2, .v (aggV ([z0, z1, z2].map byteV))), (1900000, tab 0 (H8.list.map u32V)), (1900001, tab 1 (K64.map u32V))]) (fun w => (StartM.v rfl (StartM.v rfl (StartM.v rfl (StartM.m (by simp [tabs]) (by decide) (StartM.m (by simp [tabs]) (by decide) StartM.nil)))))) fun w₀ hM => ?_
 have htab := tabs_hi hM
 refine GS ?_
 refine TN 0 ?_
 refine RN ?_
 refine ⟨_, _, eff_box (n := 159) (d := 3) (k := 1000003) rfl (by decide), fun b3 hb3 => ?_⟩
 have hBb3 := hb3.1
 refine TN 1 ?_
 refine RN ?_
 refine ⟨_, _, eff_box (n := 159) (d := 4) (k := 1000004) rfl (by decide), fun b4 hb4 => ?_⟩
 have hBb4 := hb4.1
 refine TN 2 ?_
 refine RN ?_
 refine ⟨_, _, eff_box (n := 159) (d := 5) (k := 1000005) rfl (by decide), fun b5 hb5 => ?_⟩
 have hBb5 := hb5.1
 refine TL ?_
 refine RA rfl ?_
 refine RN ?_
 refine A.seq ?_
 refine GS ?_
 refine TL ?_
 refine RS (ok_field field32_1 (by decide) rfl) ?_
 refine RS (ok_loadV (s := 1000003) (by decide) Tryz.underlying3 rfl rfl rfl (SC_ix f hmk _ _ _)) ?_
 refine RS (ok_call (bad9_no (i : Int) (by omega) (by omega)) (A1 rfl)) ?_
 refine RN ?_
 refine A.no rfl ?_
 refine A.skip ?_
 refine EN ?_
 refine GS ?_
 refine TN 12 ?_
 refine RS (ok_field field32_0 (by decide) rfl) ?_
 refine RS (ok_loadP (s := 1000003) (by decide) Tryz.underlying26 rfl size26 rfl rfl (by simp [rowV_length, hmk]) (SC_keys f hmk _)) ?_
 refine RS (ok_field field32_1 (by decide) rfl) ?_
 refine RS (ok_loadV (s := 1000003) (by decide) Tryz.underlying3 rfl rfl rfl (SC_ix f hmk _ _ _)) ?_
 refine RS (ok_field field32_2 (by decide) rfl) ?_
 refine RS (ok_loadP (s := 1000003) (by decide) Tryz.underlying30 rfl size30 rfl rfl (by simp [rowV_length, hmk]) (SC_non f hmk _ _ _)) ?_
 refine RS (ok_loadA (s := 1000004) (by decide) Tryz.underlying33 rfl (size33.of (by rw [List.length_map, hd])) rfl rfl) ?_
 refine RS (ok_callM (Seal_ok f mk hf hmk i s c hs hc d hd hi) (Sub.cons rfl (Sub.cons rfl KN)) tabs_v (Args.cons rfl (Le.refl _) (A3 rfl rfl rfl))) ?_
 refine RM rfl ?_
 refine RS (ok_extractV rfl rfl) ?_
 refine RS (ok_extractV rfl rfl) ?_
 refine RS (ok_extractV rfl rfl) ?_
 refine RN ?_
 refine ⟨_, _, eff_alloc (n := 159) (d := 7) (k := 1000007) zero33 (by decide), fun b7 hb7 => ?_⟩
 have hBb7 := hb7.1
 have hlt_b4_b7 : b4 < b7 := hb7.2 1000004 _ _ _ rfl
 refine TN 13 ?_
 refine RN ?_
 refine ⟨_, _, eff_alloc (n := 159) (d := 8) (k := 1000008) zero34 (by decide), fun b8 hb8 => ?_⟩
 have hBb8 := hb8.1
 refine TF 14 ?_
 refine RN ?_
 refine ⟨_, eff_storeA (n := 159) (s := 1000007) (size33.of (by rw [List.length_map, xorK_length, hd])) rfl rfl (all_bytes _) hBb7 rfl (by simp [xorK_length, hd]) (LV 3 rfl (LV 5 rfl (LV 7 rfl (LV 8 rfl (LV 33 rfl (LV 34 rfl (LT 1000003 rfl (LB 1000004 rfl (LT 1000005 rfl (LT 1000008 rfl (LeftS.cons (t := 1900000) rfl (Surv.tab (by omega)) (LeftS.cons (t := 1900001) rfl (Surv.tab (by omega)) LN)))))))))))), ?_⟩
 refine TF 15 ?_
 refine RN ?_
 refine ⟨_, eff_storeA (n := 159) (s := 1000008) (size34.of (by rw [List.length_map, hmac_length])) rfl rfl (all_bytes _) hBb8 rfl (by simp [hmac_length]) (LV 3 rfl (LV 5 rfl (LV 7 rfl (LV 8 rfl (LV 34 rfl (LT 1000003 rfl (LT 1000004 rfl (LT 1000005 rfl (LT 1000007 rfl (LeftS.cons (t := 1900000) rfl (Surv.tab (by omega)) (LeftS.cons (t := 1900001) rfl (Surv.tab (by omega)) LN))))))))))), ?_⟩
 refine TL ?_
 refine RA rfl ?_
 refine RN ?_
 refine A.seq ?_
 refine GS ?_
 refine TL ?_
 refine RM rfl ?_
 refine RBS rfl rfl rfl (.bool false) (by rfl) ?_
 refine RN ?_
 refine A.sub (KC 3 rfl (KC 5 rfl (KC 7 rfl (KC 8 rfl (KC 36 rfl (KC 1000003 rfl (KC 1000004 rfl (KC 1000005 rfl (KC 1000007 rfl (KC 1000008 rfl (KC 1900000 rfl (KC 1900001 rfl KN)))))))))))) ?_
 refine A.no rfl ?_
 refine A.skip ?_
 refine EN ?_
 refine A.regsK [⟨2, 10, 32, List.replicate 16 (.int .u8 0) ++ List.replicate 32 (.int .u8 0) ++ [.int .i64 0] ++ [.int .u32 0] ++ [.int .u64 0], 4, (rowV 16 f ++ mk.map byteV ++ [nI i, nW s, nQ c])⟩, ⟨3, 11, 33, List.replicate 32 (.int .u8 0), 5, (xorK f s c 0 d).map byteV⟩] (by kernel_rfl) (by kernel_rfl) (by kernel_rfl) ?_
 refine KopsK.pure (_) rfl (.inl rfl) FromV.all (fun B' => (ok_loadA (s := 1000003) (by decide) Tryz.underlying32 rfl (size32.of (SC_len f hmk _ _ _)) rfl rfl)) ?_
 refine KopsK.pure (_) rfl (.inl rfl) FromV.all (fun B' => (ok_loadA (s := 1000007) (by decide) Tryz.underlying33 rfl (size33.of (by rw [List.length_map, xorK_length, hd])) rfl rfl)) ?_
 refine KopsK.alloc 0 rfl rfl rfl rfl zero32 rfl ?_
 refine KopsK.alloc 1 rfl rfl rfl rfl zero33 rfl ?_
 refine KopsK.store 0 ((37, .v _) :: _) rfl rfl rfl rfl (by kernel_rfl) (FromV.op 0 (by kernel_rfl) rfl rfl FromV.all) rfl (size32.of (SC_len f hmk _ _ _)) (by simp [rowV_length, hmk]) (SC_one f mk rfl rfl rfl) ?_
 refine KopsK.store 1 ((38, .v _) :: _) rfl rfl rfl rfl (by kernel_rfl) (FromV.op 1 (by kernel_rfl) rfl rfl FromV.all) rfl (size33.of (by rw [List.length_map, xorK_length, hd])) (by simp [xorK_length, hd]) (all_bytes _) ?_
 refine KopsK.nil ⟨by kernel_rfl, _, FromW.all, fun bs hbs hds => ?_⟩
 have hb10 := hbs 0 (by simp)
 have hb11 := hbs 1 (by simp)
 have hne_b10_b11 := hds 0 1 (by simp) (by simp) (by decide)
 dsimp only [varEnv]
 generalize bs 0 = b10 at *
 generalize bs (0 + 1) = b11 at *
 have hBb10 := hb10.1
 have hlt_b3_b10 : b3 < b10 := hb10.2 1000003 _ _ _ rfl
 have hlt_b4_b10 : b4 < b10 := hb10.2 1000004 _ _ _ rfl
 have hlt_b5_b10 : b5 < b10 := hb10.2 1000005 _ _ _ rfl
 have hlt_b7_b10 : b7 < b10 := hb10.2 1000007 _ _ _ rfl
 have hlt_b8_b10 : b8 < b10 := hb10.2 1000008 _ _ _ rfl
 have hBb11 := hb11.1
 have hlt_b3_b11 : b3 < b11 := hb11.2 1000003 _ _ _ rfl
 have hlt_b4_b11 : b4 < b11 := hb11.2 1000004 _ _ _ rfl
 have hlt_b5_b11 : b5 < b11 := hb11.2 1000005 _ _ _ rfl
 have hlt_b7_b11 : b7 < b11 := hb11.2 1000007 _ _ _ rfl
 have hlt_b8_b11 : b8 < b11 := hb11.2 1000008 _ _ _ rfl
 refine A.sub (KC 3 rfl (KC 5 rfl (KC 7 rfl (KC 8 rfl (KC 10 rfl (KC 11 rfl (KC 1000003 rfl (KC 1000004 rfl (KC 1000005 rfl (KC 1000007 rfl (KC 1000008 rfl (KC 1000010 rfl (KC 1000011 rfl (KC 1900000 rfl (KC 1900001 rfl KN))))))))))))))) ?_
 refine A.seq ?_
 refine GS ?_
 refine TL ?_
 refine RS (ok_index0 (0) Tryz.underlying48 info5 rfl rfl (rfl) (by decide)) ?_
 refine RS (ok_loadV (s := 1000005) (by decide) Tryz.underlying5 rfl rfl rfl (rfl)) ?_; refine RZ (byteV z0) (by rfl) ?_
 refine RS (ok_rem rfl rfl (by decide)) ?_; refine RZ (.int .u8 1) (by rw [tmod_lit _ (by decide), show Int.toNat 4 = 4 from rfl, hq]; rfl) ?_
 refine RN ?_
 refine A.block ?_
 refine GS ?_
 refine TL ?_
 refine RBS rfl rfl rfl (.bool false) (by rfl) ?_
 refine RA rfl ?_
 refine RN ?_
 refine A.no rfl ?_
 refine GS ?_
 refine TL ?_
 refine RBS rfl rfl rfl (.bool true) (by rfl) ?_
 refine RA rfl ?_
 refine RN ?_
 refine A.yes rfl ?_
 refine GE ?_
 refine TF 9 ?_
 refine RS (ok_field field32_2 (by decide) rfl) ?_
 refine RS (ok_field field30_1 (by decide) rfl) ?_
 refine RS (ok_loadV (s := 1000010) (by decide) Tryz.underlying28 rfl rfl rfl (SC_at f hmk _ 2)) ?_; refine RZ (nQ c) (by rfl) ?_
 refine RS (ok_index0 (1) Tryz.underlying48 info5 rfl rfl (rfl) (by decide)) ?_
 refine RS (ok_loadV (s := 1000005) (by decide) Tryz.underlying5 rfl rfl rfl (rfl)) ?_; refine RZ (byteV z1) (by rfl) ?_
 refine RS (ok_conv Tryz.underlying5 Tryz.underlying28 rfl) ?_; refine RZ (nQ (z1.toNat)) (by rw [wrapN_u64 (by have := z1.toNat_lt; omega)]) ?_
 refine RBS rfl rfl rfl (nQ c) ((congrArg (Value.int .u64) (wrap_u64_nat (c + z1.toNat))).trans (congrArg (fun x : Nat => Value.int .u64 (x : Int)) hc2)) ?_
 refine RS (ok_field field32_2 (by decide) rfl) ?_
 refine RS (ok_field field30_1 (by decide) rfl) ?_
 refine RN ?_
 refine ⟨_, eff_storeS (n := 159) (s := 1000010) info28 rfl rfl rfl hBb10 rfl (by rw [SC_len f hmk]; decide) (LV 3 rfl (LV 7 rfl (LV 8 rfl (LV 10 rfl (LV 11 rfl (LB 1000003 rfl (LT 1000004 rfl (LT 1000005 rfl (LT 1000007 rfl (LT 1000008 rfl (LT 1000011 rfl (LeftS.cons (t := 1900000) rfl (Surv.tab (by omega)) (LeftS.cons (t := 1900001) rfl (Surv.tab (by omega)) LN))))))))))))), ?_⟩
 refine TL ?_
 refine RN ?_
 refine End.sub (KC 3 rfl (KC 7 rfl (KC 8 rfl (KC 10 rfl (KC 11 rfl (KC 1000003 rfl (KC 1000004 rfl (KC 1000005 rfl (KC 1000007 rfl (KC 1000008 rfl (KE 1000010 rfl (show _ = blk b10 32 (rowV 16 f ++ mk.map byteV ++ [nI i, nW s, nQ c]) from congrArg _ (SC_set f hmk _ _ _ _ 2)) (KC 1000011 rfl (KC 1900000 rfl (KC 1900001 rfl KN)))))))))))))) ?_
 refine End.normal_block ?_
 refine EN ?_
 refine GS ?_
 refine TN 12 ?_
 refine RS (ok_field field32_0 (by decide) rfl) ?_
 refine RS (ok_loadP (s := 1000010) (by decide) Tryz.underlying26 rfl size26 rfl rfl (by simp [rowV_length, hmk]) (SC_keys f hmk _)) ?_
 refine RS (ok_field field32_1 (by decide) rfl) ?_
 refine RS (ok_loadV (s := 1000010) (by decide) Tryz.underlying3 rfl rfl rfl (SC_ix f hmk _ _ _)) ?_
 refine RS (ok_field field32_2 (by decide) rfl) ?_
 refine RS (ok_loadP (s := 1000010) (by decide) Tryz.underlying30 rfl size30 rfl rfl (by simp [rowV_length, hmk]) (SC_non f hmk _ _ _)) ?_
 refine RS (ok_loadA (s := 1000011) (by decide) Tryz.underlying33 rfl (size33.of (by rw [List.length_map, xorK_length, hd])) rfl rfl) ?_
 refine RS (ok_loadA (s := 1000008) (by decide) Tryz.underlying34 rfl (size34.of (by rw [List.length_map, hmac_length])) rfl rfl) ?_
 refine RS (ok_callM (Open_ok f mk hf hmk i s c hs hc (xorK f s c 0 d) (by rw [xorK_length, hd]) hi (hmac mk (msgL i s c (xorK f s c 0 d))) (hmac_length _ _) rfl) (Sub.cons rfl (Sub.cons rfl KN)) tabs_v (Args.cons rfl (Le.refl _) (Args.cons rfl (Le.refl _) (A3 rfl rfl rfl)))) ?_
 refine RM rfl ?_
 refine RS (ok_extractV rfl rfl) ?_
 refine RS (ok_extractV rfl rfl) ?_
 refine RN ?_
 refine ⟨_, _, eff_alloc (n := 159) (d := 12) (k := 1000012) zero33 (by decide), fun b12 hb12 => ?_⟩
 have hBb12 := hb12.1
 have hlt_b4_b12 : b4 < b12 := hb12.2 1000004 _ _ _ rfl
 have hlt_b7_b12 : b7 < b12 := hb12.2 1000007 _ _ _ rfl
 have hlt_b11_b12 : b11 < b12 := hb12.2 1000011 _ _ _ rfl
 refine TF 13 ?_
 refine RN ?_
 refine ⟨_, eff_storeA (n := 159) (s := 1000012) (size33.of (by simp [xorK_length, hd])) rfl rfl (all_bytes _) hBb12 rfl (by simp [xorK_length, hd]) (LV 3 rfl (LV 7 rfl (LV 8 rfl (LV 10 rfl (LV 11 rfl (LV 97 rfl (LT 1000003 rfl (LB 1000004 rfl (LT 1000005 rfl (LB 1000007 rfl (LT 1000008 rfl (LT 1000010 rfl (LB 1000011 rfl (LeftS.cons (t := 1900000) rfl (Surv.tab (by omega)) (LeftS.cons (t := 1900001) rfl (Surv.tab (by omega)) LN))))))))))))))), ?_⟩
 refine TL ?_
 refine RA rfl ?_
 refine RN ?_
 refine GS ?_
 refine TL ?_
 refine RS (ok_field field32_1 (by decide) rfl) ?_
 refine RS (ok_loadV (s := 1000003) (by decide) Tryz.underlying3 rfl rfl rfl (SC_ix f hmk _ _ _)) ?_
 refine RS (ok_field field32_2 (by decide) rfl) ?_
 refine RS (ok_loadP (s := 1000003) (by decide) Tryz.underlying30 rfl size30 rfl rfl (by simp [rowV_length, hmk]) (SC_non f hmk _ _ _)) ?_
 refine RS (ok_loadA (s := 1000007) (by decide) Tryz.underlying33 rfl (size33.of (by rw [List.length_map, xorK_length, hd])) rfl rfl) ?_
 refine RS (ok_call (ref9Message_fn i s c hs hc (xorK f s c 0 d) (by rw [xorK_length, hd]) hi) (A3 rfl rfl rfl)) ?_
 refine RS (ok_str (l := (msgL i s c (xorK f s c 0 d))) Tryz.underlying49 Tryz.underlying5 Tryz.underlying9 rfl (Le.refl _)) ?_
 refine RA rfl ?_
 refine RN ?_
 refine GS ?_
 refine TL ?_
 refine RS (ok_field field32_1 (by decide) rfl) ?_
 refine RS (ok_loadV (s := 1000010) (by decide) Tryz.underlying3 rfl rfl rfl (SC_ix f hmk _ _ _)) ?_
 refine RS (ok_field field32_2 (by decide) rfl) ?_
 refine RS (ok_loadP (s := 1000010) (by decide) Tryz.underlying30 rfl size30 rfl rfl (by simp [rowV_length, hmk]) (SC_non f hmk _ _ _)) ?_
 refine RS (ok_loadA (s := 1000011) (by decide) Tryz.underlying33 rfl (size33.of (by rw [List.length_map, xorK_length, hd])) rfl rfl) ?_
 refine RS (ok_call (ref9Message_fn i s c hs hc (xorK f s c 0 d) (by rw [xorK_length, hd]) hi) (A3 rfl rfl rfl)) ?_
 refine RS (ok_str (l := (msgL i s c (xorK f s c 0 d))) Tryz.underlying49 Tryz.underlying5 Tryz.underlying9 rfl (Le.refl _)) ?_
 refine RA rfl ?_
 refine RN ?_
 refine A.sub (KC 3 rfl (KC 7 rfl (KC 8 rfl (KC 10 rfl (KC 11 rfl (KC 13 rfl (KC 14 rfl (KC 15 rfl (KC 1000003 rfl (KC 1000004 rfl (KC 1000005 rfl (KC 1000007 rfl (KC 1000008 rfl (KC 1000010 rfl (KC 1000011 rfl (KC 1000012 rfl (KC 1900000 rfl (KC 1900001 rfl KN)))))))))))))))))) ?_
 refine GS ?_
 refine TL ?_
 refine RS (ok_loadA (s := 1000010) (by decide) Tryz.underlying32 rfl (size32.of (SC_len f hmk _ _ _)) rfl rfl) ?_
 refine RS (ok_loadA (s := 1000003) (by decide) Tryz.underlying32 rfl (size32.of (SC_len f hmk _ _ _)) rfl rfl) ?_
 refine RS (ok_eqlT (n := 5) true flat32 (by decide) (by kernel_rfl) (by kernel_rfl) rfl rfl (kinS f hmk _ _ _) (kinS f hmk _ _ _) ⟨fun _ => rfl, fun _ => rfl⟩) ?_
 refine RM rfl ?_
 refine RQ (ok_loadA (s := 1000011) (by decide) Tryz.underlying33 rfl (size33.of (by rw [List.length_map, xorK_length, hd])) rfl rfl) ?_
 refine RQ (ok_loadA (s := 1000007) (by decide) Tryz.underlying33 rfl (size33.of (by rw [List.length_map, xorK_length, hd])) rfl rfl) ?_
 refine RQ (ok_eqlT (n := 3) true flat33 (by decide) (by kernel_rfl) (by kernel_rfl) rfl rfl (kinB (by rw [xorK_length, hd])) (kinB (by rw [xorK_length, hd])) ⟨fun _ => rfl, fun _ => rfl⟩) ?_; refine RZ (.bool true) (by rfl) ?_
 refine RP rfl rfl ?_
 refine RA rfl ?_
 refine RN ?_
 refine GS ?_
 refine TN 16 ?_
 refine RS (ok_field field32_0 (by decide) rfl) ?_
 refine RS (ok_field field26_0 (by decide) rfl) ?_
 refine RS (ok_loadP (s := 1000010) (by decide) Tryz.underlying22 rfl size22 rfl rfl (by simp [rowV_length, hmk]) (SC_enc f mk _)) ?_
 refine RS (ok_field field32_0 (by decide) rfl) ?_
 refine RS (ok_field field26_1 (by decide) rfl) ?_
 refine RS (ok_loadP (s := 1000010) (by decide) Tryz.underlying24 rfl size24 rfl rfl (by simp [rowV_length, hmk]) (SC_mac f hmk _)) ?_
 refine RS (ok_field field32_1 (by decide) rfl) ?_
 refine RS (ok_loadV (s := 1000010) (by decide) Tryz.underlying3 rfl rfl rfl (SC_ix f hmk _ _ _)) ?_
 refine RS (ok_field field32_2 (by decide) rfl) ?_
 refine RS (ok_loadP (s := 1000010) (by decide) Tryz.underlying30 rfl size30 rfl rfl (by simp [rowV_length, hmk]) (SC_non f hmk _ _ _)) ?_
 refine RS (ok_loadA (s := 1000011) (by decide) Tryz.underlying33 rfl (size33.of (by rw [List.length_map, xorK_length, hd])) rfl rfl) ?_
 refine RS (ok_loadA (s := 1000008) (by decide) Tryz.underlying34 rfl (size34.of (by rw [List.length_map, hmac_length])) rfl rfl) ?_
 refine RS (ok_call (ref9Open_ok f mk hf hmk i s c hs hc (xorK f s c 0 d) (by rw [xorK_length, hd]) hi (hmac mk (msgL i s c (xorK f s c 0 d))) (hmac_length _ _) rfl) (Args.cons rfl (Le.refl _) (Args.cons rfl (Le.refl _) (Args.cons rfl (Le.refl _) (A3 rfl rfl rfl))))) ?_
 refine RM rfl ?_
 refine RS (ok_extract rfl rfl) ?_
 refine RS (ok_extract rfl rfl) ?_
 refine RN ?_
 refine ⟨_, _, eff_alloc (n := 159) (d := 17) (k := 1000017) zero33 (by decide), fun b17 hb17 => ?_⟩
 have hBb17 := hb17.1
 have hlt_b4_b17 : b4 < b17 := hb17.2 1000004 _ _ _ rfl
 have hlt_b7_b17 : b7 < b17 := hb17.2 1000007 _ _ _ rfl
 have hlt_b11_b17 : b11 < b17 := hb17.2 1000011 _ _ _ rfl
 have hlt_b12_b17 : b12 < b17 := hb17.2 1000012 _ _ _ rfl
 refine TF 17 ?_
 refine RN ?_
 refine ⟨_, eff_storeA (n := 159) (s := 1000017) (size33.of (by simp [xorK_length, hd])) rfl rfl (all_bytes _) hBb17 rfl (by simp [xorK_length, hd]) (LV 13 rfl (LV 14 rfl (LV 15 rfl (LV 16 rfl (LV 135 rfl (LT 1000003 rfl (LB 1000004 rfl (LT 1000005 rfl (LB 1000007 rfl (LT 1000008 rfl (LT 1000010 rfl (LB 1000011 rfl (LB 1000012 rfl (LeftS.cons (t := 1900000) rfl (Surv.tab (by omega)) (LeftS.cons (t := 1900001) rfl (Surv.tab (by omega)) LN))))))))))))))), ?_⟩
 refine TL ?_
 refine RA rfl ?_
 refine RN ?_
 refine A.sub (KC 13 rfl (KC 14 rfl (KC 15 rfl (KC 16 rfl (KC 18 rfl (KC 1000003 rfl (KC 1000004 rfl (KC 1000005 rfl (KC 1000007 rfl (KC 1000008 rfl (KC 1000010 rfl (KC 1000011 rfl (KC 1000012 rfl (KC 1000017 rfl (KC 1900000 rfl (KC 1900001 rfl KN)))))))))))))))) ?_
 refine GS ?_
 refine TL ?_
 refine RM rfl ?_
 refine RM rfl ?_
 refine RS (ok_seq rfl rfl) ?_; refine RZ (.bool true) (by simp) ?_
 refine RM rfl ?_
 refine RS (ok_eqBool Tryz.underlying4 rfl rfl) ?_; refine RZ (.bool true) (by rfl) ?_
 refine RM rfl ?_
 refine RQ (ok_move rfl) ?_
 refine RQ (ok_bin rfl rfl rfl) ?_; refine RZ (.bool true) (by rfl) ?_
 refine RQ (ok_move rfl) ?_
 refine RQ (ok_bin rfl rfl rfl) ?_; refine RZ (.bool true) (by rfl) ?_
 refine RQ (ok_eqBool Tryz.underlying4 rfl rfl) ?_; refine RZ (.bool true) (by rfl) ?_
 refine RP rfl rfl ?_
 refine RM rfl ?_
 refine RQ (ok_move rfl) ?_
 refine RQ (ok_not rfl) ?_; refine RZ (.bool false) (by rfl) ?_
 refine RQ (ok_move rfl) ?_
 refine RQ (ok_move rfl) ?_
 refine RQ (ok_bin rfl rfl rfl) ?_; refine RZ (.bool true) (by rfl) ?_
 refine RQ (ok_pick rfl rfl) ?_
 refine RP rfl rfl ?_
 refine RM rfl ?_
 refine RQ (ok_callM lives9_fn (Sub.cons rfl (Sub.cons rfl KN)) tabs_v Args.nil) ?_
 refine RP rfl rfl ?_
 refine RA rfl ?_
 refine RN ?_
 refine A.ret ?_
 exact End.ret1 rfl rfl (by first | exact Le.refl _ | exact Le.old _ _)
set_option maxHeartbeats 4000000 in
theorem SealsChanged_1_ts_ok (f : Nat → Nat) (mk : List UInt8) (hf : By f) (hmk : mk.length = 32) (i : Nat) (hi : i < 4096) (s c : Nat) (hs : s < 4294967296) (hc : c < 18446744073709551616) (d : List UInt8) (hd : d.length = 32) (z0 z1 z2 : UInt8) (hq : z0.toNat % 4 = 1) (c' : Nat) (hc2 : (c + z1.toNat) % 18446744073709551616 = c') (hc' : c' < 18446744073709551616) (hne : c' ≠ c) (h : (hmac mk (msgL i s c (xorK f s c 0 d))) = (hmac mk (msgL i s c' (xorK f s c 0 d))))  : FnM Tryz.prog 5 tabs [.v (aggV (rowV 16 f ++ mk.map byteV ++ [nI i, nW s, nQ c])), .v (aggV (d.map byteV)), .v (aggV ([z0, z1, z2].map byteV))] (.v (.bool true)) := by
 have hz1 := z1.toNat_lt
 refine FnM.of Tryz.func5 rfl (by kernel_rfl) Tryz.ntmps5 (by simp) (by decide) (fun w => [(0, .v (aggV (rowV 16 f ++ mk.map byteV ++ [nI i, nW s, nQ c]))), (1, .v (aggV (d.map byteV))), (2, .v (aggV ([z0, z1, z2].map byteV))), (1900000, tab 0 (H8.list.map u32V)), (1900001, tab 1 (K64.map u32V))]) (fun w => (StartM.v rfl (StartM.v rfl (StartM.v rfl (StartM.m (by simp [tabs]) (by decide) (StartM.m (by simp [tabs]) (by decide) StartM.nil)))))) fun w₀ hM => ?_
 have htab := tabs_hi hM
 refine GS ?_
 refine TN 0 ?_
 refine RN ?_
 refine ⟨_, _, eff_box (n := 159) (d := 3) (k := 1000003) rfl (by decide), fun b3 hb3 => ?_⟩
 have hBb3 := hb3.1
 refine TN 1 ?_
 refine RN ?_
 refine ⟨_, _, eff_box (n := 159) (d := 4) (k := 1000004) rfl (by decide), fun b4 hb4 => ?_⟩
 have hBb4 := hb4.1
 refine TN 2 ?_
 refine RN ?_
 refine ⟨_, _, eff_box (n := 159) (d := 5) (k := 1000005) rfl (by decide), fun b5 hb5 => ?_⟩
 have hBb5 := hb5.1
 refine TL ?_
 refine RA rfl ?_
 refine RN ?_
 refine A.seq ?_
 refine GS ?_
 refine TL ?_
 refine RS (ok_field field32_1 (by decide) rfl) ?_
 refine RS (ok_loadV (s := 1000003) (by decide) Tryz.underlying3 rfl rfl rfl (SC_ix f hmk _ _ _)) ?_
 refine RS (ok_call (bad9_no (i : Int) (by omega) (by omega)) (A1 rfl)) ?_
 refine RN ?_
 refine A.no rfl ?_
 refine A.skip ?_
 refine EN ?_
 refine GS ?_
 refine TN 12 ?_
 refine RS (ok_field field32_0 (by decide) rfl) ?_
 refine RS (ok_loadP (s := 1000003) (by decide) Tryz.underlying26 rfl size26 rfl rfl (by simp [rowV_length, hmk]) (SC_keys f hmk _)) ?_
 refine RS (ok_field field32_1 (by decide) rfl) ?_
 refine RS (ok_loadV (s := 1000003) (by decide) Tryz.underlying3 rfl rfl rfl (SC_ix f hmk _ _ _)) ?_
 refine RS (ok_field field32_2 (by decide) rfl) ?_
 refine RS (ok_loadP (s := 1000003) (by decide) Tryz.underlying30 rfl size30 rfl rfl (by simp [rowV_length, hmk]) (SC_non f hmk _ _ _)) ?_
 refine RS (ok_loadA (s := 1000004) (by decide) Tryz.underlying33 rfl (size33.of (by rw [List.length_map, hd])) rfl rfl) ?_
 refine RS (ok_callM (Seal_ok f mk hf hmk i s c hs hc d hd hi) (Sub.cons rfl (Sub.cons rfl KN)) tabs_v (Args.cons rfl (Le.refl _) (A3 rfl rfl rfl))) ?_
 refine RM rfl ?_
 refine RS (ok_extractV rfl rfl) ?_
 refine RS (ok_extractV rfl rfl) ?_
 refine RS (ok_extractV rfl rfl) ?_
 refine RN ?_
 refine ⟨_, _, eff_alloc (n := 159) (d := 7) (k := 1000007) zero33 (by decide), fun b7 hb7 => ?_⟩
 have hBb7 := hb7.1
 have hlt_b4_b7 : b4 < b7 := hb7.2 1000004 _ _ _ rfl
 refine TN 13 ?_
 refine RN ?_
 refine ⟨_, _, eff_alloc (n := 159) (d := 8) (k := 1000008) zero34 (by decide), fun b8 hb8 => ?_⟩
 have hBb8 := hb8.1
 refine TF 14 ?_
 refine RN ?_
 refine ⟨_, eff_storeA (n := 159) (s := 1000007) (size33.of (by rw [List.length_map, xorK_length, hd])) rfl rfl (all_bytes _) hBb7 rfl (by simp [xorK_length, hd]) (LV 3 rfl (LV 5 rfl (LV 7 rfl (LV 8 rfl (LV 33 rfl (LV 34 rfl (LT 1000003 rfl (LB 1000004 rfl (LT 1000005 rfl (LT 1000008 rfl (LeftS.cons (t := 1900000) rfl (Surv.tab (by omega)) (LeftS.cons (t := 1900001) rfl (Surv.tab (by omega)) LN)))))))))))), ?_⟩
 refine TF 15 ?_
 refine RN ?_
 refine ⟨_, eff_storeA (n := 159) (s := 1000008) (size34.of (by rw [List.length_map, hmac_length])) rfl rfl (all_bytes _) hBb8 rfl (by simp [hmac_length]) (LV 3 rfl (LV 5 rfl (LV 7 rfl (LV 8 rfl (LV 34 rfl (LT 1000003 rfl (LT 1000004 rfl (LT 1000005 rfl (LT 1000007 rfl (LeftS.cons (t := 1900000) rfl (Surv.tab (by omega)) (LeftS.cons (t := 1900001) rfl (Surv.tab (by omega)) LN))))))))))), ?_⟩
 refine TL ?_
 refine RA rfl ?_
 refine RN ?_
 refine A.seq ?_
 refine GS ?_
 refine TL ?_
 refine RM rfl ?_
 refine RBS rfl rfl rfl (.bool false) (by rfl) ?_
 refine RN ?_
 refine A.sub (KC 3 rfl (KC 5 rfl (KC 7 rfl (KC 8 rfl (KC 36 rfl (KC 1000003 rfl (KC 1000004 rfl (KC 1000005 rfl (KC 1000007 rfl (KC 1000008 rfl (KC 1900000 rfl (KC 1900001 rfl KN)))))))))))) ?_
 refine A.no rfl ?_
 refine A.skip ?_
 refine EN ?_
 refine A.regsK [⟨2, 10, 32, List.replicate 16 (.int .u8 0) ++ List.replicate 32 (.int .u8 0) ++ [.int .i64 0] ++ [.int .u32 0] ++ [.int .u64 0], 4, (rowV 16 f ++ mk.map byteV ++ [nI i, nW s, nQ c])⟩, ⟨3, 11, 33, List.replicate 32 (.int .u8 0), 5, (xorK f s c 0 d).map byteV⟩] (by kernel_rfl) (by kernel_rfl) (by kernel_rfl) ?_
 refine KopsK.pure (_) rfl (.inl rfl) FromV.all (fun B' => (ok_loadA (s := 1000003) (by decide) Tryz.underlying32 rfl (size32.of (SC_len f hmk _ _ _)) rfl rfl)) ?_
 refine KopsK.pure (_) rfl (.inl rfl) FromV.all (fun B' => (ok_loadA (s := 1000007) (by decide) Tryz.underlying33 rfl (size33.of (by rw [List.length_map, xorK_length, hd])) rfl rfl)) ?_
 refine KopsK.alloc 0 rfl rfl rfl rfl zero32 rfl ?_
 refine KopsK.alloc 1 rfl rfl rfl rfl zero33 rfl ?_
 refine KopsK.store 0 ((37, .v _) :: _) rfl rfl rfl rfl (by kernel_rfl) (FromV.op 0 (by kernel_rfl) rfl rfl FromV.all) rfl (size32.of (SC_len f hmk _ _ _)) (by simp [rowV_length, hmk]) (SC_one f mk rfl rfl rfl) ?_
 refine KopsK.store 1 ((38, .v _) :: _) rfl rfl rfl rfl (by kernel_rfl) (FromV.op 1 (by kernel_rfl) rfl rfl FromV.all) rfl (size33.of (by rw [List.length_map, xorK_length, hd])) (by simp [xorK_length, hd]) (all_bytes _) ?_
 refine KopsK.nil ⟨by kernel_rfl, _, FromW.all, fun bs hbs hds => ?_⟩
 have hb10 := hbs 0 (by simp)
 have hb11 := hbs 1 (by simp)
 have hne_b10_b11 := hds 0 1 (by simp) (by simp) (by decide)
 dsimp only [varEnv]
 generalize bs 0 = b10 at *
 generalize bs (0 + 1) = b11 at *
 have hBb10 := hb10.1
 have hlt_b3_b10 : b3 < b10 := hb10.2 1000003 _ _ _ rfl
 have hlt_b4_b10 : b4 < b10 := hb10.2 1000004 _ _ _ rfl
 have hlt_b5_b10 : b5 < b10 := hb10.2 1000005 _ _ _ rfl
 have hlt_b7_b10 : b7 < b10 := hb10.2 1000007 _ _ _ rfl
 have hlt_b8_b10 : b8 < b10 := hb10.2 1000008 _ _ _ rfl
 have hBb11 := hb11.1
 have hlt_b3_b11 : b3 < b11 := hb11.2 1000003 _ _ _ rfl
 have hlt_b4_b11 : b4 < b11 := hb11.2 1000004 _ _ _ rfl
 have hlt_b5_b11 : b5 < b11 := hb11.2 1000005 _ _ _ rfl
 have hlt_b7_b11 : b7 < b11 := hb11.2 1000007 _ _ _ rfl
 have hlt_b8_b11 : b8 < b11 := hb11.2 1000008 _ _ _ rfl
 refine A.sub (KC 3 rfl (KC 5 rfl (KC 7 rfl (KC 8 rfl (KC 10 rfl (KC 11 rfl (KC 1000003 rfl (KC 1000004 rfl (KC 1000005 rfl (KC 1000007 rfl (KC 1000008 rfl (KC 1000010 rfl (KC 1000011 rfl (KC 1900000 rfl (KC 1900001 rfl KN))))))))))))))) ?_
 refine A.seq ?_
 refine GS ?_
 refine TL ?_
 refine RS (ok_index0 (0) Tryz.underlying48 info5 rfl rfl (rfl) (by decide)) ?_
 refine RS (ok_loadV (s := 1000005) (by decide) Tryz.underlying5 rfl rfl rfl (rfl)) ?_; refine RZ (byteV z0) (by rfl) ?_
 refine RS (ok_rem rfl rfl (by decide)) ?_; refine RZ (.int .u8 1) (by rw [tmod_lit _ (by decide), show Int.toNat 4 = 4 from rfl, hq]; rfl) ?_
 refine RN ?_
 refine A.block ?_
 refine GS ?_
 refine TL ?_
 refine RBS rfl rfl rfl (.bool false) (by rfl) ?_
 refine RA rfl ?_
 refine RN ?_
 refine A.no rfl ?_
 refine GS ?_
 refine TL ?_
 refine RBS rfl rfl rfl (.bool true) (by rfl) ?_
 refine RA rfl ?_
 refine RN ?_
 refine A.yes rfl ?_
 refine GE ?_
 refine TF 9 ?_
 refine RS (ok_field field32_2 (by decide) rfl) ?_
 refine RS (ok_field field30_1 (by decide) rfl) ?_
 refine RS (ok_loadV (s := 1000010) (by decide) Tryz.underlying28 rfl rfl rfl (SC_at f hmk _ 2)) ?_; refine RZ (nQ c) (by rfl) ?_
 refine RS (ok_index0 (1) Tryz.underlying48 info5 rfl rfl (rfl) (by decide)) ?_
 refine RS (ok_loadV (s := 1000005) (by decide) Tryz.underlying5 rfl rfl rfl (rfl)) ?_; refine RZ (byteV z1) (by rfl) ?_
 refine RS (ok_conv Tryz.underlying5 Tryz.underlying28 rfl) ?_; refine RZ (nQ (z1.toNat)) (by rw [wrapN_u64 (by have := z1.toNat_lt; omega)]) ?_
 refine RBS rfl rfl rfl (nQ c') ((congrArg (Value.int .u64) (wrap_u64_nat (c + z1.toNat))).trans (congrArg (fun x : Nat => Value.int .u64 (x : Int)) hc2)) ?_
 refine RS (ok_field field32_2 (by decide) rfl) ?_
 refine RS (ok_field field30_1 (by decide) rfl) ?_
 refine RN ?_
 refine ⟨_, eff_storeS (n := 159) (s := 1000010) info28 rfl rfl rfl hBb10 rfl (by rw [SC_len f hmk]; decide) (LV 3 rfl (LV 7 rfl (LV 8 rfl (LV 10 rfl (LV 11 rfl (LB 1000003 rfl (LT 1000004 rfl (LT 1000005 rfl (LT 1000007 rfl (LT 1000008 rfl (LT 1000011 rfl (LeftS.cons (t := 1900000) rfl (Surv.tab (by omega)) (LeftS.cons (t := 1900001) rfl (Surv.tab (by omega)) LN))))))))))))), ?_⟩
 refine TL ?_
 refine RN ?_
 refine End.sub (KC 3 rfl (KC 7 rfl (KC 8 rfl (KC 10 rfl (KC 11 rfl (KC 1000003 rfl (KC 1000004 rfl (KC 1000005 rfl (KC 1000007 rfl (KC 1000008 rfl (KE 1000010 rfl (show _ = blk b10 32 (rowV 16 f ++ mk.map byteV ++ [nI i, nW s, nQ c']) from congrArg _ (SC_set f hmk _ _ _ _ 2)) (KC 1000011 rfl (KC 1900000 rfl (KC 1900001 rfl KN)))))))))))))) ?_
 refine End.normal_block ?_
 refine EN ?_
 refine GS ?_
 refine TN 12 ?_
 refine RS (ok_field field32_0 (by decide) rfl) ?_
 refine RS (ok_loadP (s := 1000010) (by decide) Tryz.underlying26 rfl size26 rfl rfl (by simp [rowV_length, hmk]) (SC_keys f hmk _)) ?_
 refine RS (ok_field field32_1 (by decide) rfl) ?_
 refine RS (ok_loadV (s := 1000010) (by decide) Tryz.underlying3 rfl rfl rfl (SC_ix f hmk _ _ _)) ?_
 refine RS (ok_field field32_2 (by decide) rfl) ?_
 refine RS (ok_loadP (s := 1000010) (by decide) Tryz.underlying30 rfl size30 rfl rfl (by simp [rowV_length, hmk]) (SC_non f hmk _ _ _)) ?_
 refine RS (ok_loadA (s := 1000011) (by decide) Tryz.underlying33 rfl (size33.of (by rw [List.length_map, xorK_length, hd])) rfl rfl) ?_
 refine RS (ok_loadA (s := 1000008) (by decide) Tryz.underlying34 rfl (size34.of (by rw [List.length_map, hmac_length])) rfl rfl) ?_
 refine RS (ok_callM (Open_ok f mk hf hmk i s c' hs hc' (xorK f s c 0 d) (by rw [xorK_length, hd]) hi (hmac mk (msgL i s c (xorK f s c 0 d))) (hmac_length _ _) h) (Sub.cons rfl (Sub.cons rfl KN)) tabs_v (Args.cons rfl (Le.refl _) (Args.cons rfl (Le.refl _) (A3 rfl rfl rfl)))) ?_
 refine RM rfl ?_
 refine RS (ok_extractV rfl rfl) ?_
 refine RS (ok_extractV rfl rfl) ?_
 refine RN ?_
 refine ⟨_, _, eff_alloc (n := 159) (d := 12) (k := 1000012) zero33 (by decide), fun b12 hb12 => ?_⟩
 have hBb12 := hb12.1
 have hlt_b4_b12 : b4 < b12 := hb12.2 1000004 _ _ _ rfl
 have hlt_b7_b12 : b7 < b12 := hb12.2 1000007 _ _ _ rfl
 have hlt_b11_b12 : b11 < b12 := hb12.2 1000011 _ _ _ rfl
 refine TF 13 ?_
 refine RN ?_
 refine ⟨_, eff_storeA (n := 159) (s := 1000012) (size33.of (by simp [xorK_length, hd])) rfl rfl (all_bytes _) hBb12 rfl (by simp [xorK_length, hd]) (LV 3 rfl (LV 7 rfl (LV 8 rfl (LV 10 rfl (LV 11 rfl (LV 97 rfl (LT 1000003 rfl (LB 1000004 rfl (LT 1000005 rfl (LB 1000007 rfl (LT 1000008 rfl (LT 1000010 rfl (LB 1000011 rfl (LeftS.cons (t := 1900000) rfl (Surv.tab (by omega)) (LeftS.cons (t := 1900001) rfl (Surv.tab (by omega)) LN))))))))))))))), ?_⟩
 refine TL ?_
 refine RA rfl ?_
 refine RN ?_
 refine GS ?_
 refine TL ?_
 refine RS (ok_field field32_1 (by decide) rfl) ?_
 refine RS (ok_loadV (s := 1000003) (by decide) Tryz.underlying3 rfl rfl rfl (SC_ix f hmk _ _ _)) ?_
 refine RS (ok_field field32_2 (by decide) rfl) ?_
 refine RS (ok_loadP (s := 1000003) (by decide) Tryz.underlying30 rfl size30 rfl rfl (by simp [rowV_length, hmk]) (SC_non f hmk _ _ _)) ?_
 refine RS (ok_loadA (s := 1000007) (by decide) Tryz.underlying33 rfl (size33.of (by rw [List.length_map, xorK_length, hd])) rfl rfl) ?_
 refine RS (ok_call (ref9Message_fn i s c hs hc (xorK f s c 0 d) (by rw [xorK_length, hd]) hi) (A3 rfl rfl rfl)) ?_
 refine RS (ok_str (l := (msgL i s c (xorK f s c 0 d))) Tryz.underlying49 Tryz.underlying5 Tryz.underlying9 rfl (Le.refl _)) ?_
 refine RA rfl ?_
 refine RN ?_
 refine GS ?_
 refine TL ?_
 refine RS (ok_field field32_1 (by decide) rfl) ?_
 refine RS (ok_loadV (s := 1000010) (by decide) Tryz.underlying3 rfl rfl rfl (SC_ix f hmk _ _ _)) ?_
 refine RS (ok_field field32_2 (by decide) rfl) ?_
 refine RS (ok_loadP (s := 1000010) (by decide) Tryz.underlying30 rfl size30 rfl rfl (by simp [rowV_length, hmk]) (SC_non f hmk _ _ _)) ?_
 refine RS (ok_loadA (s := 1000011) (by decide) Tryz.underlying33 rfl (size33.of (by rw [List.length_map, xorK_length, hd])) rfl rfl) ?_
 refine RS (ok_call (ref9Message_fn i s c' hs hc' (xorK f s c 0 d) (by rw [xorK_length, hd]) hi) (A3 rfl rfl rfl)) ?_
 refine RS (ok_str (l := (msgL i s c' (xorK f s c 0 d))) Tryz.underlying49 Tryz.underlying5 Tryz.underlying9 rfl (Le.refl _)) ?_
 refine RA rfl ?_
 refine RN ?_
 refine A.sub (KC 3 rfl (KC 7 rfl (KC 8 rfl (KC 10 rfl (KC 11 rfl (KC 13 rfl (KC 14 rfl (KC 15 rfl (KC 1000003 rfl (KC 1000004 rfl (KC 1000005 rfl (KC 1000007 rfl (KC 1000008 rfl (KC 1000010 rfl (KC 1000011 rfl (KC 1000012 rfl (KC 1900000 rfl (KC 1900001 rfl KN)))))))))))))))))) ?_
 refine GS ?_
 refine TL ?_
 refine RS (ok_loadA (s := 1000010) (by decide) Tryz.underlying32 rfl (size32.of (SC_len f hmk _ _ _)) rfl rfl) ?_
 refine RS (ok_loadA (s := 1000003) (by decide) Tryz.underlying32 rfl (size32.of (SC_len f hmk _ _ _)) rfl rfl) ?_
 refine RS (ok_eqlT (n := 5) false flat32 (by decide) (by kernel_rfl) (by kernel_rfl) rfl rfl (kinS f hmk _ _ _) (kinS f hmk _ _ _) ⟨fun h => (by cases h), fun h => (by have := SC_inj h; exfalso; omega)⟩) ?_
 refine RM rfl ?_
 refine RK ?_
 refine RK ?_
 refine RK ?_
 refine RP rfl rfl ?_
 refine RA rfl ?_
 refine RN ?_
 refine GS ?_
 refine TN 16 ?_
 refine RS (ok_field field32_0 (by decide) rfl) ?_
 refine RS (ok_field field26_0 (by decide) rfl) ?_
 refine RS (ok_loadP (s := 1000010) (by decide) Tryz.underlying22 rfl size22 rfl rfl (by simp [rowV_length, hmk]) (SC_enc f mk _)) ?_
 refine RS (ok_field field32_0 (by decide) rfl) ?_
 refine RS (ok_field field26_1 (by decide) rfl) ?_
 refine RS (ok_loadP (s := 1000010) (by decide) Tryz.underlying24 rfl size24 rfl rfl (by simp [rowV_length, hmk]) (SC_mac f hmk _)) ?_
 refine RS (ok_field field32_1 (by decide) rfl) ?_
 refine RS (ok_loadV (s := 1000010) (by decide) Tryz.underlying3 rfl rfl rfl (SC_ix f hmk _ _ _)) ?_
 refine RS (ok_field field32_2 (by decide) rfl) ?_
 refine RS (ok_loadP (s := 1000010) (by decide) Tryz.underlying30 rfl size30 rfl rfl (by simp [rowV_length, hmk]) (SC_non f hmk _ _ _)) ?_
 refine RS (ok_loadA (s := 1000011) (by decide) Tryz.underlying33 rfl (size33.of (by rw [List.length_map, xorK_length, hd])) rfl rfl) ?_
 refine RS (ok_loadA (s := 1000008) (by decide) Tryz.underlying34 rfl (size34.of (by rw [List.length_map, hmac_length])) rfl rfl) ?_
 refine RS (ok_call (ref9Open_ok f mk hf hmk i s c' hs hc' (xorK f s c 0 d) (by rw [xorK_length, hd]) hi (hmac mk (msgL i s c (xorK f s c 0 d))) (hmac_length _ _) h) (Args.cons rfl (Le.refl _) (Args.cons rfl (Le.refl _) (Args.cons rfl (Le.refl _) (A3 rfl rfl rfl))))) ?_
 refine RM rfl ?_
 refine RS (ok_extract rfl rfl) ?_
 refine RS (ok_extract rfl rfl) ?_
 refine RN ?_
 refine ⟨_, _, eff_alloc (n := 159) (d := 17) (k := 1000017) zero33 (by decide), fun b17 hb17 => ?_⟩
 have hBb17 := hb17.1
 have hlt_b4_b17 : b4 < b17 := hb17.2 1000004 _ _ _ rfl
 have hlt_b7_b17 : b7 < b17 := hb17.2 1000007 _ _ _ rfl
 have hlt_b11_b17 : b11 < b17 := hb17.2 1000011 _ _ _ rfl
 have hlt_b12_b17 : b12 < b17 := hb17.2 1000012 _ _ _ rfl
 refine TF 17 ?_
 refine RN ?_
 refine ⟨_, eff_storeA (n := 159) (s := 1000017) (size33.of (by simp [xorK_length, hd])) rfl rfl (all_bytes _) hBb17 rfl (by simp [xorK_length, hd]) (LV 13 rfl (LV 14 rfl (LV 15 rfl (LV 16 rfl (LV 135 rfl (LT 1000003 rfl (LB 1000004 rfl (LT 1000005 rfl (LB 1000007 rfl (LT 1000008 rfl (LT 1000010 rfl (LB 1000011 rfl (LB 1000012 rfl (LeftS.cons (t := 1900000) rfl (Surv.tab (by omega)) (LeftS.cons (t := 1900001) rfl (Surv.tab (by omega)) LN))))))))))))))), ?_⟩
 refine TL ?_
 refine RA rfl ?_
 refine RN ?_
 refine A.sub (KC 13 rfl (KC 14 rfl (KC 15 rfl (KC 16 rfl (KC 18 rfl (KC 1000003 rfl (KC 1000004 rfl (KC 1000005 rfl (KC 1000007 rfl (KC 1000008 rfl (KC 1000010 rfl (KC 1000011 rfl (KC 1000012 rfl (KC 1000017 rfl (KC 1900000 rfl (KC 1900001 rfl KN)))))))))))))))) ?_
 refine GS ?_
 refine TL ?_
 refine RM rfl ?_
 refine RM rfl ?_
 refine RS (ok_seq rfl rfl) ?_; refine RZ (.bool false) (congrArg Value.bool (beq_eq_false_iff_ne.2 fun hh => hne (msgL_inj (by omega) (by omega) hs hs hc hc' hh).2.2.1.symm)) ?_
 refine RM rfl ?_
 refine RS (ok_eqBool Tryz.underlying4 rfl rfl) ?_; refine RZ (.bool true) (by rfl) ?_
 refine RM rfl ?_
 refine RQ (ok_move rfl) ?_
 refine RQ (ok_bin rfl rfl rfl) ?_; refine RZ (.bool true) (by rfl) ?_
 refine RQ (ok_move rfl) ?_
 refine RQ (ok_bin rfl rfl rfl) ?_; refine RZ (.bool true) (by rfl) ?_
 refine RQ (ok_eqBool Tryz.underlying4 rfl rfl) ?_; refine RZ (.bool true) (by rfl) ?_
 refine RP rfl rfl ?_
 refine RM rfl ?_
 refine RQ (ok_move rfl) ?_
 refine RQ (ok_not rfl) ?_; refine RZ (.bool true) (by rfl) ?_
 refine RQ (ok_move rfl) ?_
 refine RK ?_
 refine RK ?_
 refine RQ (ok_pick rfl rfl) ?_
 refine RP rfl rfl ?_
 refine RM rfl ?_
 refine RQ (ok_callM lives9_fn (Sub.cons rfl (Sub.cons rfl KN)) tabs_v Args.nil) ?_
 refine RP rfl rfl ?_
 refine RA rfl ?_
 refine RN ?_
 refine A.ret ?_
 exact End.ret1 rfl rfl (by first | exact Le.refl _ | exact Le.old _ _)
set_option maxHeartbeats 4000000 in
theorem SealsChanged_1_ts_no (f : Nat → Nat) (mk : List UInt8) (hf : By f) (hmk : mk.length = 32) (i : Nat) (hi : i < 4096) (s c : Nat) (hs : s < 4294967296) (hc : c < 18446744073709551616) (d : List UInt8) (hd : d.length = 32) (z0 z1 z2 : UInt8) (hq : z0.toNat % 4 = 1) (c' : Nat) (hc2 : (c + z1.toNat) % 18446744073709551616 = c') (hc' : c' < 18446744073709551616) (hne : c' ≠ c) (h : (hmac mk (msgL i s c (xorK f s c 0 d))) ≠ (hmac mk (msgL i s c' (xorK f s c 0 d))))  : FnM Tryz.prog 5 tabs [.v (aggV (rowV 16 f ++ mk.map byteV ++ [nI i, nW s, nQ c])), .v (aggV (d.map byteV)), .v (aggV ([z0, z1, z2].map byteV))] (.v (.bool true)) := by
 have hz1 := z1.toNat_lt
 refine FnM.of Tryz.func5 rfl (by kernel_rfl) Tryz.ntmps5 (by simp) (by decide) (fun w => [(0, .v (aggV (rowV 16 f ++ mk.map byteV ++ [nI i, nW s, nQ c]))), (1, .v (aggV (d.map byteV))), (2, .v (aggV ([z0, z1, z2].map byteV))), (1900000, tab 0 (H8.list.map u32V)), (1900001, tab 1 (K64.map u32V))]) (fun w => (StartM.v rfl (StartM.v rfl (StartM.v rfl (StartM.m (by simp [tabs]) (by decide) (StartM.m (by simp [tabs]) (by decide) StartM.nil)))))) fun w₀ hM => ?_
 have htab := tabs_hi hM
 refine GS ?_
 refine TN 0 ?_
 refine RN ?_
 refine ⟨_, _, eff_box (n := 159) (d := 3) (k := 1000003) rfl (by decide), fun b3 hb3 => ?_⟩
 have hBb3 := hb3.1
 refine TN 1 ?_
 refine RN ?_
 refine ⟨_, _, eff_box (n := 159) (d := 4) (k := 1000004) rfl (by decide), fun b4 hb4 => ?_⟩
 have hBb4 := hb4.1
 refine TN 2 ?_
 refine RN ?_
 refine ⟨_, _, eff_box (n := 159) (d := 5) (k := 1000005) rfl (by decide), fun b5 hb5 => ?_⟩
 have hBb5 := hb5.1
 refine TL ?_
 refine RA rfl ?_
 refine RN ?_
 refine A.seq ?_
 refine GS ?_
 refine TL ?_
 refine RS (ok_field field32_1 (by decide) rfl) ?_
 refine RS (ok_loadV (s := 1000003) (by decide) Tryz.underlying3 rfl rfl rfl (SC_ix f hmk _ _ _)) ?_
 refine RS (ok_call (bad9_no (i : Int) (by omega) (by omega)) (A1 rfl)) ?_
 refine RN ?_
 refine A.no rfl ?_
 refine A.skip ?_
 refine EN ?_
 refine GS ?_
 refine TN 12 ?_
 refine RS (ok_field field32_0 (by decide) rfl) ?_
 refine RS (ok_loadP (s := 1000003) (by decide) Tryz.underlying26 rfl size26 rfl rfl (by simp [rowV_length, hmk]) (SC_keys f hmk _)) ?_
 refine RS (ok_field field32_1 (by decide) rfl) ?_
 refine RS (ok_loadV (s := 1000003) (by decide) Tryz.underlying3 rfl rfl rfl (SC_ix f hmk _ _ _)) ?_
 refine RS (ok_field field32_2 (by decide) rfl) ?_
 refine RS (ok_loadP (s := 1000003) (by decide) Tryz.underlying30 rfl size30 rfl rfl (by simp [rowV_length, hmk]) (SC_non f hmk _ _ _)) ?_
 refine RS (ok_loadA (s := 1000004) (by decide) Tryz.underlying33 rfl (size33.of (by rw [List.length_map, hd])) rfl rfl) ?_
 refine RS (ok_callM (Seal_ok f mk hf hmk i s c hs hc d hd hi) (Sub.cons rfl (Sub.cons rfl KN)) tabs_v (Args.cons rfl (Le.refl _) (A3 rfl rfl rfl))) ?_
 refine RM rfl ?_
 refine RS (ok_extractV rfl rfl) ?_
 refine RS (ok_extractV rfl rfl) ?_
 refine RS (ok_extractV rfl rfl) ?_
 refine RN ?_
 refine ⟨_, _, eff_alloc (n := 159) (d := 7) (k := 1000007) zero33 (by decide), fun b7 hb7 => ?_⟩
 have hBb7 := hb7.1
 have hlt_b4_b7 : b4 < b7 := hb7.2 1000004 _ _ _ rfl
 refine TN 13 ?_
 refine RN ?_
 refine ⟨_, _, eff_alloc (n := 159) (d := 8) (k := 1000008) zero34 (by decide), fun b8 hb8 => ?_⟩
 have hBb8 := hb8.1
 refine TF 14 ?_
 refine RN ?_
 refine ⟨_, eff_storeA (n := 159) (s := 1000007) (size33.of (by rw [List.length_map, xorK_length, hd])) rfl rfl (all_bytes _) hBb7 rfl (by simp [xorK_length, hd]) (LV 3 rfl (LV 5 rfl (LV 7 rfl (LV 8 rfl (LV 33 rfl (LV 34 rfl (LT 1000003 rfl (LB 1000004 rfl (LT 1000005 rfl (LT 1000008 rfl (LeftS.cons (t := 1900000) rfl (Surv.tab (by omega)) (LeftS.cons (t := 1900001) rfl (Surv.tab (by omega)) LN)))))))))))), ?_⟩
 refine TF 15 ?_
 refine RN ?_
 refine ⟨_, eff_storeA (n := 159) (s := 1000008) (size34.of (by rw [List.length_map, hmac_length])) rfl rfl (all_bytes _) hBb8 rfl (by simp [hmac_length]) (LV 3 rfl (LV 5 rfl (LV 7 rfl (LV 8 rfl (LV 34 rfl (LT 1000003 rfl (LT 1000004 rfl (LT 1000005 rfl (LT 1000007 rfl (LeftS.cons (t := 1900000) rfl (Surv.tab (by omega)) (LeftS.cons (t := 1900001) rfl (Surv.tab (by omega)) LN))))))))))), ?_⟩
 refine TL ?_
 refine RA rfl ?_
 refine RN ?_
 refine A.seq ?_
 refine GS ?_
 refine TL ?_
 refine RM rfl ?_
 refine RBS rfl rfl rfl (.bool false) (by rfl) ?_
 refine RN ?_
 refine A.sub (KC 3 rfl (KC 5 rfl (KC 7 rfl (KC 8 rfl (KC 36 rfl (KC 1000003 rfl (KC 1000004 rfl (KC 1000005 rfl (KC 1000007 rfl (KC 1000008 rfl (KC 1900000 rfl (KC 1900001 rfl KN)))))))))))) ?_
 refine A.no rfl ?_
 refine A.skip ?_
 refine EN ?_
 refine A.regsK [⟨2, 10, 32, List.replicate 16 (.int .u8 0) ++ List.replicate 32 (.int .u8 0) ++ [.int .i64 0] ++ [.int .u32 0] ++ [.int .u64 0], 4, (rowV 16 f ++ mk.map byteV ++ [nI i, nW s, nQ c])⟩, ⟨3, 11, 33, List.replicate 32 (.int .u8 0), 5, (xorK f s c 0 d).map byteV⟩] (by kernel_rfl) (by kernel_rfl) (by kernel_rfl) ?_
 refine KopsK.pure (_) rfl (.inl rfl) FromV.all (fun B' => (ok_loadA (s := 1000003) (by decide) Tryz.underlying32 rfl (size32.of (SC_len f hmk _ _ _)) rfl rfl)) ?_
 refine KopsK.pure (_) rfl (.inl rfl) FromV.all (fun B' => (ok_loadA (s := 1000007) (by decide) Tryz.underlying33 rfl (size33.of (by rw [List.length_map, xorK_length, hd])) rfl rfl)) ?_
 refine KopsK.alloc 0 rfl rfl rfl rfl zero32 rfl ?_
 refine KopsK.alloc 1 rfl rfl rfl rfl zero33 rfl ?_
 refine KopsK.store 0 ((37, .v _) :: _) rfl rfl rfl rfl (by kernel_rfl) (FromV.op 0 (by kernel_rfl) rfl rfl FromV.all) rfl (size32.of (SC_len f hmk _ _ _)) (by simp [rowV_length, hmk]) (SC_one f mk rfl rfl rfl) ?_
 refine KopsK.store 1 ((38, .v _) :: _) rfl rfl rfl rfl (by kernel_rfl) (FromV.op 1 (by kernel_rfl) rfl rfl FromV.all) rfl (size33.of (by rw [List.length_map, xorK_length, hd])) (by simp [xorK_length, hd]) (all_bytes _) ?_
 refine KopsK.nil ⟨by kernel_rfl, _, FromW.all, fun bs hbs hds => ?_⟩
 have hb10 := hbs 0 (by simp)
 have hb11 := hbs 1 (by simp)
 have hne_b10_b11 := hds 0 1 (by simp) (by simp) (by decide)
 dsimp only [varEnv]
 generalize bs 0 = b10 at *
 generalize bs (0 + 1) = b11 at *
 have hBb10 := hb10.1
 have hlt_b3_b10 : b3 < b10 := hb10.2 1000003 _ _ _ rfl
 have hlt_b4_b10 : b4 < b10 := hb10.2 1000004 _ _ _ rfl
 have hlt_b5_b10 : b5 < b10 := hb10.2 1000005 _ _ _ rfl
 have hlt_b7_b10 : b7 < b10 := hb10.2 1000007 _ _ _ rfl
 have hlt_b8_b10 : b8 < b10 := hb10.2 1000008 _ _ _ rfl
 have hBb11 := hb11.1
 have hlt_b3_b11 : b3 < b11 := hb11.2 1000003 _ _ _ rfl
 have hlt_b4_b11 : b4 < b11 := hb11.2 1000004 _ _ _ rfl
 have hlt_b5_b11 : b5 < b11 := hb11.2 1000005 _ _ _ rfl
 have hlt_b7_b11 : b7 < b11 := hb11.2 1000007 _ _ _ rfl
 have hlt_b8_b11 : b8 < b11 := hb11.2 1000008 _ _ _ rfl
 refine A.sub (KC 3 rfl (KC 5 rfl (KC 7 rfl (KC 8 rfl (KC 10 rfl (KC 11 rfl (KC 1000003 rfl (KC 1000004 rfl (KC 1000005 rfl (KC 1000007 rfl (KC 1000008 rfl (KC 1000010 rfl (KC 1000011 rfl (KC 1900000 rfl (KC 1900001 rfl KN))))))))))))))) ?_
 refine A.seq ?_
 refine GS ?_
 refine TL ?_
 refine RS (ok_index0 (0) Tryz.underlying48 info5 rfl rfl (rfl) (by decide)) ?_
 refine RS (ok_loadV (s := 1000005) (by decide) Tryz.underlying5 rfl rfl rfl (rfl)) ?_; refine RZ (byteV z0) (by rfl) ?_
 refine RS (ok_rem rfl rfl (by decide)) ?_; refine RZ (.int .u8 1) (by rw [tmod_lit _ (by decide), show Int.toNat 4 = 4 from rfl, hq]; rfl) ?_
 refine RN ?_
 refine A.block ?_
 refine GS ?_
 refine TL ?_
 refine RBS rfl rfl rfl (.bool false) (by rfl) ?_
 refine RA rfl ?_
 refine RN ?_
 refine A.no rfl ?_
 refine GS ?_
 refine TL ?_
 refine RBS rfl rfl rfl (.bool true) (by rfl) ?_
 refine RA rfl ?_
 refine RN ?_
 refine A.yes rfl ?_
 refine GE ?_
 refine TF 9 ?_
 refine RS (ok_field field32_2 (by decide) rfl) ?_
 refine RS (ok_field field30_1 (by decide) rfl) ?_
 refine RS (ok_loadV (s := 1000010) (by decide) Tryz.underlying28 rfl rfl rfl (SC_at f hmk _ 2)) ?_; refine RZ (nQ c) (by rfl) ?_
 refine RS (ok_index0 (1) Tryz.underlying48 info5 rfl rfl (rfl) (by decide)) ?_
 refine RS (ok_loadV (s := 1000005) (by decide) Tryz.underlying5 rfl rfl rfl (rfl)) ?_; refine RZ (byteV z1) (by rfl) ?_
 refine RS (ok_conv Tryz.underlying5 Tryz.underlying28 rfl) ?_; refine RZ (nQ (z1.toNat)) (by rw [wrapN_u64 (by have := z1.toNat_lt; omega)]) ?_
 refine RBS rfl rfl rfl (nQ c') ((congrArg (Value.int .u64) (wrap_u64_nat (c + z1.toNat))).trans (congrArg (fun x : Nat => Value.int .u64 (x : Int)) hc2)) ?_
 refine RS (ok_field field32_2 (by decide) rfl) ?_
 refine RS (ok_field field30_1 (by decide) rfl) ?_
 refine RN ?_
 refine ⟨_, eff_storeS (n := 159) (s := 1000010) info28 rfl rfl rfl hBb10 rfl (by rw [SC_len f hmk]; decide) (LV 3 rfl (LV 7 rfl (LV 8 rfl (LV 10 rfl (LV 11 rfl (LB 1000003 rfl (LT 1000004 rfl (LT 1000005 rfl (LT 1000007 rfl (LT 1000008 rfl (LT 1000011 rfl (LeftS.cons (t := 1900000) rfl (Surv.tab (by omega)) (LeftS.cons (t := 1900001) rfl (Surv.tab (by omega)) LN))))))))))))), ?_⟩
 refine TL ?_
 refine RN ?_
 refine End.sub (KC 3 rfl (KC 7 rfl (KC 8 rfl (KC 10 rfl (KC 11 rfl (KC 1000003 rfl (KC 1000004 rfl (KC 1000005 rfl (KC 1000007 rfl (KC 1000008 rfl (KE 1000010 rfl (show _ = blk b10 32 (rowV 16 f ++ mk.map byteV ++ [nI i, nW s, nQ c']) from congrArg _ (SC_set f hmk _ _ _ _ 2)) (KC 1000011 rfl (KC 1900000 rfl (KC 1900001 rfl KN)))))))))))))) ?_
 refine End.normal_block ?_
 refine EN ?_
 refine GS ?_
 refine TN 12 ?_
 refine RS (ok_field field32_0 (by decide) rfl) ?_
 refine RS (ok_loadP (s := 1000010) (by decide) Tryz.underlying26 rfl size26 rfl rfl (by simp [rowV_length, hmk]) (SC_keys f hmk _)) ?_
 refine RS (ok_field field32_1 (by decide) rfl) ?_
 refine RS (ok_loadV (s := 1000010) (by decide) Tryz.underlying3 rfl rfl rfl (SC_ix f hmk _ _ _)) ?_
 refine RS (ok_field field32_2 (by decide) rfl) ?_
 refine RS (ok_loadP (s := 1000010) (by decide) Tryz.underlying30 rfl size30 rfl rfl (by simp [rowV_length, hmk]) (SC_non f hmk _ _ _)) ?_
 refine RS (ok_loadA (s := 1000011) (by decide) Tryz.underlying33 rfl (size33.of (by rw [List.length_map, xorK_length, hd])) rfl rfl) ?_
 refine RS (ok_loadA (s := 1000008) (by decide) Tryz.underlying34 rfl (size34.of (by rw [List.length_map, hmac_length])) rfl rfl) ?_
 refine RS (ok_callM (Open_int f mk hf hmk i s c' hs hc' (xorK f s c 0 d) (by rw [xorK_length, hd]) hi (hmac mk (msgL i s c (xorK f s c 0 d))) (hmac_length _ _) h) (Sub.cons rfl (Sub.cons rfl KN)) tabs_v (Args.cons rfl (Le.refl _) (Args.cons rfl (Le.refl _) (A3 rfl rfl rfl)))) ?_
 refine RM rfl ?_
 refine RS (ok_extractV rfl rfl) ?_
 refine RS (ok_extractV rfl rfl) ?_
 refine RN ?_
 refine ⟨_, _, eff_alloc (n := 159) (d := 12) (k := 1000012) zero33 (by decide), fun b12 hb12 => ?_⟩
 have hBb12 := hb12.1
 have hlt_b4_b12 : b4 < b12 := hb12.2 1000004 _ _ _ rfl
 have hlt_b7_b12 : b7 < b12 := hb12.2 1000007 _ _ _ rfl
 have hlt_b11_b12 : b11 < b12 := hb12.2 1000011 _ _ _ rfl
 refine TF 13 ?_
 refine RN ?_
 refine ⟨_, eff_storeA (n := 159) (s := 1000012) (size33.of (rfl)) rfl rfl (rfl) hBb12 rfl (rfl) (LV 3 rfl (LV 7 rfl (LV 8 rfl (LV 10 rfl (LV 11 rfl (LV 97 rfl (LT 1000003 rfl (LB 1000004 rfl (LT 1000005 rfl (LB 1000007 rfl (LT 1000008 rfl (LT 1000010 rfl (LB 1000011 rfl (LeftS.cons (t := 1900000) rfl (Surv.tab (by omega)) (LeftS.cons (t := 1900001) rfl (Surv.tab (by omega)) LN))))))))))))))), ?_⟩
 refine TL ?_
 refine RA rfl ?_
 refine RN ?_
 refine GS ?_
 refine TL ?_
 refine RS (ok_field field32_1 (by decide) rfl) ?_
 refine RS (ok_loadV (s := 1000003) (by decide) Tryz.underlying3 rfl rfl rfl (SC_ix f hmk _ _ _)) ?_
 refine RS (ok_field field32_2 (by decide) rfl) ?_
 refine RS (ok_loadP (s := 1000003) (by decide) Tryz.underlying30 rfl size30 rfl rfl (by simp [rowV_length, hmk]) (SC_non f hmk _ _ _)) ?_
 refine RS (ok_loadA (s := 1000007) (by decide) Tryz.underlying33 rfl (size33.of (by rw [List.length_map, xorK_length, hd])) rfl rfl) ?_
 refine RS (ok_call (ref9Message_fn i s c hs hc (xorK f s c 0 d) (by rw [xorK_length, hd]) hi) (A3 rfl rfl rfl)) ?_
 refine RS (ok_str (l := (msgL i s c (xorK f s c 0 d))) Tryz.underlying49 Tryz.underlying5 Tryz.underlying9 rfl (Le.refl _)) ?_
 refine RA rfl ?_
 refine RN ?_
 refine GS ?_
 refine TL ?_
 refine RS (ok_field field32_1 (by decide) rfl) ?_
 refine RS (ok_loadV (s := 1000010) (by decide) Tryz.underlying3 rfl rfl rfl (SC_ix f hmk _ _ _)) ?_
 refine RS (ok_field field32_2 (by decide) rfl) ?_
 refine RS (ok_loadP (s := 1000010) (by decide) Tryz.underlying30 rfl size30 rfl rfl (by simp [rowV_length, hmk]) (SC_non f hmk _ _ _)) ?_
 refine RS (ok_loadA (s := 1000011) (by decide) Tryz.underlying33 rfl (size33.of (by rw [List.length_map, xorK_length, hd])) rfl rfl) ?_
 refine RS (ok_call (ref9Message_fn i s c' hs hc' (xorK f s c 0 d) (by rw [xorK_length, hd]) hi) (A3 rfl rfl rfl)) ?_
 refine RS (ok_str (l := (msgL i s c' (xorK f s c 0 d))) Tryz.underlying49 Tryz.underlying5 Tryz.underlying9 rfl (Le.refl _)) ?_
 refine RA rfl ?_
 refine RN ?_
 refine A.sub (KC 3 rfl (KC 7 rfl (KC 8 rfl (KC 10 rfl (KC 11 rfl (KC 13 rfl (KC 14 rfl (KC 15 rfl (KC 1000003 rfl (KC 1000004 rfl (KC 1000005 rfl (KC 1000007 rfl (KC 1000008 rfl (KC 1000010 rfl (KC 1000011 rfl (KC 1000012 rfl (KC 1900000 rfl (KC 1900001 rfl KN)))))))))))))))))) ?_
 refine GS ?_
 refine TL ?_
 refine RS (ok_loadA (s := 1000010) (by decide) Tryz.underlying32 rfl (size32.of (SC_len f hmk _ _ _)) rfl rfl) ?_
 refine RS (ok_loadA (s := 1000003) (by decide) Tryz.underlying32 rfl (size32.of (SC_len f hmk _ _ _)) rfl rfl) ?_
 refine RS (ok_eqlT (n := 5) false flat32 (by decide) (by kernel_rfl) (by kernel_rfl) rfl rfl (kinS f hmk _ _ _) (kinS f hmk _ _ _) ⟨fun h => (by cases h), fun h => (by have := SC_inj h; exfalso; omega)⟩) ?_
 refine RM rfl ?_
 refine RK ?_
 refine RK ?_
 refine RK ?_
 refine RP rfl rfl ?_
 refine RA rfl ?_
 refine RN ?_
 refine GS ?_
 refine TN 16 ?_
 refine RS (ok_field field32_0 (by decide) rfl) ?_
 refine RS (ok_field field26_0 (by decide) rfl) ?_
 refine RS (ok_loadP (s := 1000010) (by decide) Tryz.underlying22 rfl size22 rfl rfl (by simp [rowV_length, hmk]) (SC_enc f mk _)) ?_
 refine RS (ok_field field32_0 (by decide) rfl) ?_
 refine RS (ok_field field26_1 (by decide) rfl) ?_
 refine RS (ok_loadP (s := 1000010) (by decide) Tryz.underlying24 rfl size24 rfl rfl (by simp [rowV_length, hmk]) (SC_mac f hmk _)) ?_
 refine RS (ok_field field32_1 (by decide) rfl) ?_
 refine RS (ok_loadV (s := 1000010) (by decide) Tryz.underlying3 rfl rfl rfl (SC_ix f hmk _ _ _)) ?_
 refine RS (ok_field field32_2 (by decide) rfl) ?_
 refine RS (ok_loadP (s := 1000010) (by decide) Tryz.underlying30 rfl size30 rfl rfl (by simp [rowV_length, hmk]) (SC_non f hmk _ _ _)) ?_
 refine RS (ok_loadA (s := 1000011) (by decide) Tryz.underlying33 rfl (size33.of (by rw [List.length_map, xorK_length, hd])) rfl rfl) ?_
 refine RS (ok_loadA (s := 1000008) (by decide) Tryz.underlying34 rfl (size34.of (by rw [List.length_map, hmac_length])) rfl rfl) ?_
 refine RS (ok_call (ref9Open_int f mk hf hmk i s c' hs hc' (xorK f s c 0 d) (by rw [xorK_length, hd]) hi (hmac mk (msgL i s c (xorK f s c 0 d))) (hmac_length _ _) h) (Args.cons rfl (Le.refl _) (Args.cons rfl (Le.refl _) (Args.cons rfl (Le.refl _) (A3 rfl rfl rfl))))) ?_
 refine RM rfl ?_
 refine RS (ok_extract rfl rfl) ?_
 refine RS (ok_extract rfl rfl) ?_
 refine RN ?_
 refine ⟨_, _, eff_alloc (n := 159) (d := 17) (k := 1000017) zero33 (by decide), fun b17 hb17 => ?_⟩
 have hBb17 := hb17.1
 have hlt_b4_b17 : b4 < b17 := hb17.2 1000004 _ _ _ rfl
 have hlt_b7_b17 : b7 < b17 := hb17.2 1000007 _ _ _ rfl
 have hlt_b11_b17 : b11 < b17 := hb17.2 1000011 _ _ _ rfl
 have hlt_b12_b17 : b12 < b17 := hb17.2 1000012 _ _ _ rfl
 refine TF 17 ?_
 refine RN ?_
 refine ⟨_, eff_storeA (n := 159) (s := 1000017) (size33.of (rfl)) rfl rfl (rfl) hBb17 rfl (rfl) (LV 13 rfl (LV 14 rfl (LV 15 rfl (LV 16 rfl (LV 135 rfl (LT 1000003 rfl (LB 1000004 rfl (LT 1000005 rfl (LB 1000007 rfl (LT 1000008 rfl (LT 1000010 rfl (LB 1000011 rfl (LB 1000012 rfl (LeftS.cons (t := 1900000) rfl (Surv.tab (by omega)) (LeftS.cons (t := 1900001) rfl (Surv.tab (by omega)) LN))))))))))))))), ?_⟩
 refine TL ?_
 refine RA rfl ?_
 refine RN ?_
 refine A.sub (KC 13 rfl (KC 14 rfl (KC 15 rfl (KC 16 rfl (KC 18 rfl (KC 1000003 rfl (KC 1000004 rfl (KC 1000005 rfl (KC 1000007 rfl (KC 1000008 rfl (KC 1000010 rfl (KC 1000011 rfl (KC 1000012 rfl (KC 1000017 rfl (KC 1900000 rfl (KC 1900001 rfl KN)))))))))))))))) ?_
 refine GS ?_
 refine TL ?_
 refine RM rfl ?_
 refine RM rfl ?_
 refine RS (ok_seq rfl rfl) ?_; refine RZ (.bool false) (congrArg Value.bool (beq_eq_false_iff_ne.2 fun hh => hne (msgL_inj (by omega) (by omega) hs hs hc hc' hh).2.2.1.symm)) ?_
 refine RM rfl ?_
 refine RS (ok_eqBool Tryz.underlying4 rfl rfl) ?_; refine RZ (.bool true) (by rfl) ?_
 refine RM rfl ?_
 refine RQ (ok_move rfl) ?_
 refine RQ (ok_bin rfl rfl rfl) ?_; refine RZ (.bool false) (by rfl) ?_
 refine RQ (ok_move rfl) ?_
 refine RQ (ok_bin rfl rfl rfl) ?_; refine RZ (.bool false) (by rfl) ?_
 refine RQ (ok_eqBool Tryz.underlying4 rfl rfl) ?_; refine RZ (.bool true) (by rfl) ?_
 refine RP rfl rfl ?_
 refine RM rfl ?_
 refine RQ (ok_move rfl) ?_
 refine RQ (ok_not rfl) ?_; refine RZ (.bool true) (by rfl) ?_
 refine RQ (ok_move rfl) ?_
 refine RK ?_
 refine RK ?_
 refine RQ (ok_pick rfl rfl) ?_
 refine RP rfl rfl ?_
 refine RM rfl ?_
 refine RQ (ok_callM lives9_fn (Sub.cons rfl (Sub.cons rfl KN)) tabs_v Args.nil) ?_
 refine RP rfl rfl ?_
 refine RA rfl ?_
 refine RN ?_
 refine A.ret ?_
 exact End.ret1 rfl rfl (by first | exact Le.refl _ | exact Le.old _ _)
set_option maxHeartbeats 4000000 in
theorem SealsChanged_2_eq (f : Nat → Nat) (mk : List UInt8) (hf : By f) (hmk : mk.length = 32) (i : Nat) (hi : i < 4096) (s c : Nat) (hs : s < 4294967296) (hc : c < 18446744073709551616) (d : List UInt8) (hd : d.length = 32) (z0 z1 z2 : UInt8) (hq : z0.toNat % 4 = 2) (hs2 : (s + z1.toNat) % 4294967296 = s)  : FnM Tryz.prog 5 tabs [.v (aggV (rowV 16 f ++ mk.map byteV ++ [nI i, nW s, nQ c])), .v (aggV (d.map byteV)), .v (aggV ([z0, z1, z2].map byteV))] (.v (.bool true)) := by
 have hz1 := z1.toNat_lt
 refine FnM.of Tryz.func5 rfl (by kernel_rfl) Tryz.ntmps5 (by simp) (by decide) (fun w => [(0, .v (aggV (rowV 16 f ++ mk.map byteV ++ [nI i, nW s, nQ c]))), (1, .v (aggV (d.map byteV))), (2, .v (aggV ([z0, z1, z2].map byteV))), (1900000, tab 0 (H8.list.map u32V)), (1900001, tab 1 (K64.map u32V))]) (fun w => (StartM.v rfl (StartM.v rfl (StartM.v rfl (StartM.m (by simp [tabs]) (by decide) (StartM.m (by simp [tabs]) (by decide) StartM.nil)))))) fun w₀ hM => ?_
 have htab := tabs_hi hM
 refine GS ?_
 refine TN 0 ?_
 refine RN ?_
 refine ⟨_, _, eff_box (n := 159) (d := 3) (k := 1000003) rfl (by decide), fun b3 hb3 => ?_⟩
 have hBb3 := hb3.1
 refine TN 1 ?_
 refine RN ?_
 refine ⟨_, _, eff_box (n := 159) (d := 4) (k := 1000004) rfl (by decide), fun b4 hb4 => ?_⟩
 have hBb4 := hb4.1
 refine TN 2 ?_
 refine RN ?_
 refine ⟨_, _, eff_box (n := 159) (d := 5) (k := 1000005) rfl (by decide), fun b5 hb5 => ?_⟩
 have hBb5 := hb5.1
 refine TL ?_
 refine RA rfl ?_
 refine RN ?_
 refine A.seq ?_
 refine GS ?_
 refine TL ?_
 refine RS (ok_field field32_1 (by decide) rfl) ?_
 refine RS (ok_loadV (s := 1000003) (by decide) Tryz.underlying3 rfl rfl rfl (SC_ix f hmk _ _ _)) ?_
 refine RS (ok_call (bad9_no (i : Int) (by omega) (by omega)) (A1 rfl)) ?_
 refine RN ?_
 refine A.no rfl ?_
 refine A.skip ?_
 refine EN ?_
 refine GS ?_
 refine TN 12 ?_
 refine RS (ok_field field32_0 (by decide) rfl) ?_
 refine RS (ok_loadP (s := 1000003) (by decide) Tryz.underlying26 rfl size26 rfl rfl (by simp [rowV_length, hmk]) (SC_keys f hmk _)) ?_
 refine RS (ok_field field32_1 (by decide) rfl) ?_
 refine RS (ok_loadV (s := 1000003) (by decide) Tryz.underlying3 rfl rfl rfl (SC_ix f hmk _ _ _)) ?_
 refine RS (ok_field field32_2 (by decide) rfl) ?_
 refine RS (ok_loadP (s := 1000003) (by decide) Tryz.underlying30 rfl size30 rfl rfl (by simp [rowV_length, hmk]) (SC_non f hmk _ _ _)) ?_
 refine RS (ok_loadA (s := 1000004) (by decide) Tryz.underlying33 rfl (size33.of (by rw [List.length_map, hd])) rfl rfl) ?_
 refine RS (ok_callM (Seal_ok f mk hf hmk i s c hs hc d hd hi) (Sub.cons rfl (Sub.cons rfl KN)) tabs_v (Args.cons rfl (Le.refl _) (A3 rfl rfl rfl))) ?_
 refine RM rfl ?_
 refine RS (ok_extractV rfl rfl) ?_
 refine RS (ok_extractV rfl rfl) ?_
 refine RS (ok_extractV rfl rfl) ?_
 refine RN ?_
 refine ⟨_, _, eff_alloc (n := 159) (d := 7) (k := 1000007) zero33 (by decide), fun b7 hb7 => ?_⟩
 have hBb7 := hb7.1
 have hlt_b4_b7 : b4 < b7 := hb7.2 1000004 _ _ _ rfl
 refine TN 13 ?_
 refine RN ?_
 refine ⟨_, _, eff_alloc (n := 159) (d := 8) (k := 1000008) zero34 (by decide), fun b8 hb8 => ?_⟩
 have hBb8 := hb8.1
 refine TF 14 ?_
 refine RN ?_
 refine ⟨_, eff_storeA (n := 159) (s := 1000007) (size33.of (by rw [List.length_map, xorK_length, hd])) rfl rfl (all_bytes _) hBb7 rfl (by simp [xorK_length, hd]) (LV 3 rfl (LV 5 rfl (LV 7 rfl (LV 8 rfl (LV 33 rfl (LV 34 rfl (LT 1000003 rfl (LB 1000004 rfl (LT 1000005 rfl (LT 1000008 rfl (LeftS.cons (t := 1900000) rfl (Surv.tab (by omega)) (LeftS.cons (t := 1900001) rfl (Surv.tab (by omega)) LN)))))))))))), ?_⟩
 refine TF 15 ?_
 refine RN ?_
 refine ⟨_, eff_storeA (n := 159) (s := 1000008) (size34.of (by rw [List.length_map, hmac_length])) rfl rfl (all_bytes _) hBb8 rfl (by simp [hmac_length]) (LV 3 rfl (LV 5 rfl (LV 7 rfl (LV 8 rfl (LV 34 rfl (LT 1000003 rfl (LT 1000004 rfl (LT 1000005 rfl (LT 1000007 rfl (LeftS.cons (t := 1900000) rfl (Surv.tab (by omega)) (LeftS.cons (t := 1900001) rfl (Surv.tab (by omega)) LN))))))))))), ?_⟩
 refine TL ?_
 refine RA rfl ?_
 refine RN ?_
 refine A.seq ?_
 refine GS ?_
 refine TL ?_
 refine RM rfl ?_
 refine RBS rfl rfl rfl (.bool false) (by rfl) ?_
 refine RN ?_
 refine A.sub (KC 3 rfl (KC 5 rfl (KC 7 rfl (KC 8 rfl (KC 36 rfl (KC 1000003 rfl (KC 1000004 rfl (KC 1000005 rfl (KC 1000007 rfl (KC 1000008 rfl (KC 1900000 rfl (KC 1900001 rfl KN)))))))))))) ?_
 refine A.no rfl ?_
 refine A.skip ?_
 refine EN ?_
 refine A.regsK [⟨2, 10, 32, List.replicate 16 (.int .u8 0) ++ List.replicate 32 (.int .u8 0) ++ [.int .i64 0] ++ [.int .u32 0] ++ [.int .u64 0], 4, (rowV 16 f ++ mk.map byteV ++ [nI i, nW s, nQ c])⟩, ⟨3, 11, 33, List.replicate 32 (.int .u8 0), 5, (xorK f s c 0 d).map byteV⟩] (by kernel_rfl) (by kernel_rfl) (by kernel_rfl) ?_
 refine KopsK.pure (_) rfl (.inl rfl) FromV.all (fun B' => (ok_loadA (s := 1000003) (by decide) Tryz.underlying32 rfl (size32.of (SC_len f hmk _ _ _)) rfl rfl)) ?_
 refine KopsK.pure (_) rfl (.inl rfl) FromV.all (fun B' => (ok_loadA (s := 1000007) (by decide) Tryz.underlying33 rfl (size33.of (by rw [List.length_map, xorK_length, hd])) rfl rfl)) ?_
 refine KopsK.alloc 0 rfl rfl rfl rfl zero32 rfl ?_
 refine KopsK.alloc 1 rfl rfl rfl rfl zero33 rfl ?_
 refine KopsK.store 0 ((37, .v _) :: _) rfl rfl rfl rfl (by kernel_rfl) (FromV.op 0 (by kernel_rfl) rfl rfl FromV.all) rfl (size32.of (SC_len f hmk _ _ _)) (by simp [rowV_length, hmk]) (SC_one f mk rfl rfl rfl) ?_
 refine KopsK.store 1 ((38, .v _) :: _) rfl rfl rfl rfl (by kernel_rfl) (FromV.op 1 (by kernel_rfl) rfl rfl FromV.all) rfl (size33.of (by rw [List.length_map, xorK_length, hd])) (by simp [xorK_length, hd]) (all_bytes _) ?_
 refine KopsK.nil ⟨by kernel_rfl, _, FromW.all, fun bs hbs hds => ?_⟩
 have hb10 := hbs 0 (by simp)
 have hb11 := hbs 1 (by simp)
 have hne_b10_b11 := hds 0 1 (by simp) (by simp) (by decide)
 dsimp only [varEnv]
 generalize bs 0 = b10 at *
 generalize bs (0 + 1) = b11 at *
 have hBb10 := hb10.1
 have hlt_b3_b10 : b3 < b10 := hb10.2 1000003 _ _ _ rfl
 have hlt_b4_b10 : b4 < b10 := hb10.2 1000004 _ _ _ rfl
 have hlt_b5_b10 : b5 < b10 := hb10.2 1000005 _ _ _ rfl
 have hlt_b7_b10 : b7 < b10 := hb10.2 1000007 _ _ _ rfl
 have hlt_b8_b10 : b8 < b10 := hb10.2 1000008 _ _ _ rfl
 have hBb11 := hb11.1
 have hlt_b3_b11 : b3 < b11 := hb11.2 1000003 _ _ _ rfl
 have hlt_b4_b11 : b4 < b11 := hb11.2 1000004 _ _ _ rfl
 have hlt_b5_b11 : b5 < b11 := hb11.2 1000005 _ _ _ rfl
 have hlt_b7_b11 : b7 < b11 := hb11.2 1000007 _ _ _ rfl
 have hlt_b8_b11 : b8 < b11 := hb11.2 1000008 _ _ _ rfl
 refine A.sub (KC 3 rfl (KC 5 rfl (KC 7 rfl (KC 8 rfl (KC 10 rfl (KC 11 rfl (KC 1000003 rfl (KC 1000004 rfl (KC 1000005 rfl (KC 1000007 rfl (KC 1000008 rfl (KC 1000010 rfl (KC 1000011 rfl (KC 1900000 rfl (KC 1900001 rfl KN))))))))))))))) ?_
 refine A.seq ?_
 refine GS ?_
 refine TL ?_
 refine RS (ok_index0 (0) Tryz.underlying48 info5 rfl rfl (rfl) (by decide)) ?_
 refine RS (ok_loadV (s := 1000005) (by decide) Tryz.underlying5 rfl rfl rfl (rfl)) ?_; refine RZ (byteV z0) (by rfl) ?_
 refine RS (ok_rem rfl rfl (by decide)) ?_; refine RZ (.int .u8 2) (by rw [tmod_lit _ (by decide), show Int.toNat 4 = 4 from rfl, hq]; rfl) ?_
 refine RN ?_
 refine A.block ?_
 refine GS ?_
 refine TL ?_
 refine RBS rfl rfl rfl (.bool false) (by rfl) ?_
 refine RA rfl ?_
 refine RN ?_
 refine A.no rfl ?_
 refine GS ?_
 refine TL ?_
 refine RBS rfl rfl rfl (.bool false) (by rfl) ?_
 refine RA rfl ?_
 refine RN ?_
 refine A.no rfl ?_
 refine GS ?_
 refine TL ?_
 refine RBS rfl rfl rfl (.bool true) (by rfl) ?_
 refine RA rfl ?_
 refine RN ?_
 refine A.yes rfl ?_
 refine GE ?_
 refine TF 9 ?_
 refine RS (ok_field field32_2 (by decide) rfl) ?_
 refine RS (ok_field field30_0 (by decide) rfl) ?_
 refine RS (ok_loadV (s := 1000010) (by decide) Tryz.underlying27 rfl rfl rfl (SC_at f hmk _ 1)) ?_; refine RZ (nW s) (by rfl) ?_
 refine RS (ok_index0 (1) Tryz.underlying48 info5 rfl rfl (rfl) (by decide)) ?_
 refine RS (ok_loadV (s := 1000005) (by decide) Tryz.underlying5 rfl rfl rfl (rfl)) ?_; refine RZ (byteV z1) (by rfl) ?_
 refine RS (ok_conv Tryz.underlying5 Tryz.underlying27 rfl) ?_; refine RZ (nW (z1.toNat)) (by rw [wrapN_u32 (by have := z1.toNat_lt; omega)]) ?_
 refine RBS rfl rfl rfl (nW s) ((congrArg (Value.int .u32) (wrap_u32_nat (s + z1.toNat))).trans (congrArg (fun x : Nat => Value.int .u32 (x : Int)) hs2)) ?_
 refine RS (ok_field field32_2 (by decide) rfl) ?_
 refine RS (ok_field field30_0 (by decide) rfl) ?_
 refine RN ?_
 refine ⟨_, eff_storeS (n := 159) (s := 1000010) info27 rfl rfl rfl hBb10 rfl (by rw [SC_len f hmk]; decide) (LV 3 rfl (LV 7 rfl (LV 8 rfl (LV 10 rfl (LV 11 rfl (LB 1000003 rfl (LT 1000004 rfl (LT 1000005 rfl (LT 1000007 rfl (LT 1000008 rfl (LT 1000011 rfl (LeftS.cons (t := 1900000) rfl (Surv.tab (by omega)) (LeftS.cons (t := 1900001) rfl (Surv.tab (by omega)) LN))))))))))))), ?_⟩
 refine TL ?_
 refine RN ?_
 refine End.sub (KC 3 rfl (KC 7 rfl (KC 8 rfl (KC 10 rfl (KC 11 rfl (KC 1000003 rfl (KC 1000004 rfl (KC 1000005 rfl (KC 1000007 rfl (KC 1000008 rfl (KE 1000010 rfl (show _ = blk b10 32 (rowV 16 f ++ mk.map byteV ++ [nI i, nW s, nQ c]) from congrArg _ (SC_set f hmk _ _ _ _ 1)) (KC 1000011 rfl (KC 1900000 rfl (KC 1900001 rfl KN)))))))))))))) ?_
 refine End.normal_block ?_
 refine EN ?_
 refine GS ?_
 refine TN 12 ?_
 refine RS (ok_field field32_0 (by decide) rfl) ?_
 refine RS (ok_loadP (s := 1000010) (by decide) Tryz.underlying26 rfl size26 rfl rfl (by simp [rowV_length, hmk]) (SC_keys f hmk _)) ?_
 refine RS (ok_field field32_1 (by decide) rfl) ?_
 refine RS (ok_loadV (s := 1000010) (by decide) Tryz.underlying3 rfl rfl rfl (SC_ix f hmk _ _ _)) ?_
 refine RS (ok_field field32_2 (by decide) rfl) ?_
 refine RS (ok_loadP (s := 1000010) (by decide) Tryz.underlying30 rfl size30 rfl rfl (by simp [rowV_length, hmk]) (SC_non f hmk _ _ _)) ?_
 refine RS (ok_loadA (s := 1000011) (by decide) Tryz.underlying33 rfl (size33.of (by rw [List.length_map, xorK_length, hd])) rfl rfl) ?_
 refine RS (ok_loadA (s := 1000008) (by decide) Tryz.underlying34 rfl (size34.of (by rw [List.length_map, hmac_length])) rfl rfl) ?_
 refine RS (ok_callM (Open_ok f mk hf hmk i s c hs hc (xorK f s c 0 d) (by rw [xorK_length, hd]) hi (hmac mk (msgL i s c (xorK f s c 0 d))) (hmac_length _ _) rfl) (Sub.cons rfl (Sub.cons rfl KN)) tabs_v (Args.cons rfl (Le.refl _) (Args.cons rfl (Le.refl _) (A3 rfl rfl rfl)))) ?_
 refine RM rfl ?_
 refine RS (ok_extractV rfl rfl) ?_
 refine RS (ok_extractV rfl rfl) ?_
 refine RN ?_
 refine ⟨_, _, eff_alloc (n := 159) (d := 12) (k := 1000012) zero33 (by decide), fun b12 hb12 => ?_⟩
 have hBb12 := hb12.1
 have hlt_b4_b12 : b4 < b12 := hb12.2 1000004 _ _ _ rfl
 have hlt_b7_b12 : b7 < b12 := hb12.2 1000007 _ _ _ rfl
 have hlt_b11_b12 : b11 < b12 := hb12.2 1000011 _ _ _ rfl
 refine TF 13 ?_
 refine RN ?_
 refine ⟨_, eff_storeA (n := 159) (s := 1000012) (size33.of (by simp [xorK_length, hd])) rfl rfl (all_bytes _) hBb12 rfl (by simp [xorK_length, hd]) (LV 3 rfl (LV 7 rfl (LV 8 rfl (LV 10 rfl (LV 11 rfl (LV 97 rfl (LT 1000003 rfl (LB 1000004 rfl (LT 1000005 rfl (LB 1000007 rfl (LT 1000008 rfl (LT 1000010 rfl (LB 1000011 rfl (LeftS.cons (t := 1900000) rfl (Surv.tab (by omega)) (LeftS.cons (t := 1900001) rfl (Surv.tab (by omega)) LN))))))))))))))), ?_⟩
 refine TL ?_
 refine RA rfl ?_
 refine RN ?_
 refine GS ?_
 refine TL ?_
 refine RS (ok_field field32_1 (by decide) rfl) ?_
 refine RS (ok_loadV (s := 1000003) (by decide) Tryz.underlying3 rfl rfl rfl (SC_ix f hmk _ _ _)) ?_
 refine RS (ok_field field32_2 (by decide) rfl) ?_
 refine RS (ok_loadP (s := 1000003) (by decide) Tryz.underlying30 rfl size30 rfl rfl (by simp [rowV_length, hmk]) (SC_non f hmk _ _ _)) ?_
 refine RS (ok_loadA (s := 1000007) (by decide) Tryz.underlying33 rfl (size33.of (by rw [List.length_map, xorK_length, hd])) rfl rfl) ?_
 refine RS (ok_call (ref9Message_fn i s c hs hc (xorK f s c 0 d) (by rw [xorK_length, hd]) hi) (A3 rfl rfl rfl)) ?_
 refine RS (ok_str (l := (msgL i s c (xorK f s c 0 d))) Tryz.underlying49 Tryz.underlying5 Tryz.underlying9 rfl (Le.refl _)) ?_
 refine RA rfl ?_
 refine RN ?_
 refine GS ?_
 refine TL ?_
 refine RS (ok_field field32_1 (by decide) rfl) ?_
 refine RS (ok_loadV (s := 1000010) (by decide) Tryz.underlying3 rfl rfl rfl (SC_ix f hmk _ _ _)) ?_
 refine RS (ok_field field32_2 (by decide) rfl) ?_
 refine RS (ok_loadP (s := 1000010) (by decide) Tryz.underlying30 rfl size30 rfl rfl (by simp [rowV_length, hmk]) (SC_non f hmk _ _ _)) ?_
 refine RS (ok_loadA (s := 1000011) (by decide) Tryz.underlying33 rfl (size33.of (by rw [List.length_map, xorK_length, hd])) rfl rfl) ?_
 refine RS (ok_call (ref9Message_fn i s c hs hc (xorK f s c 0 d) (by rw [xorK_length, hd]) hi) (A3 rfl rfl rfl)) ?_
 refine RS (ok_str (l := (msgL i s c (xorK f s c 0 d))) Tryz.underlying49 Tryz.underlying5 Tryz.underlying9 rfl (Le.refl _)) ?_
 refine RA rfl ?_
 refine RN ?_
 refine A.sub (KC 3 rfl (KC 7 rfl (KC 8 rfl (KC 10 rfl (KC 11 rfl (KC 13 rfl (KC 14 rfl (KC 15 rfl (KC 1000003 rfl (KC 1000004 rfl (KC 1000005 rfl (KC 1000007 rfl (KC 1000008 rfl (KC 1000010 rfl (KC 1000011 rfl (KC 1000012 rfl (KC 1900000 rfl (KC 1900001 rfl KN)))))))))))))))))) ?_
 refine GS ?_
 refine TL ?_
 refine RS (ok_loadA (s := 1000010) (by decide) Tryz.underlying32 rfl (size32.of (SC_len f hmk _ _ _)) rfl rfl) ?_
 refine RS (ok_loadA (s := 1000003) (by decide) Tryz.underlying32 rfl (size32.of (SC_len f hmk _ _ _)) rfl rfl) ?_
 refine RS (ok_eqlT (n := 5) true flat32 (by decide) (by kernel_rfl) (by kernel_rfl) rfl rfl (kinS f hmk _ _ _) (kinS f hmk _ _ _) ⟨fun _ => rfl, fun _ => rfl⟩) ?_
 refine RM rfl ?_
 refine RQ (ok_loadA (s := 1000011) (by decide) Tryz.underlying33 rfl (size33.of (by rw [List.length_map, xorK_length, hd])) rfl rfl) ?_
 refine RQ (ok_loadA (s := 1000007) (by decide) Tryz.underlying33 rfl (size33.of (by rw [List.length_map, xorK_length, hd])) rfl rfl) ?_
 refine RQ (ok_eqlT (n := 3) true flat33 (by decide) (by kernel_rfl) (by kernel_rfl) rfl rfl (kinB (by rw [xorK_length, hd])) (kinB (by rw [xorK_length, hd])) ⟨fun _ => rfl, fun _ => rfl⟩) ?_; refine RZ (.bool true) (by rfl) ?_
 refine RP rfl rfl ?_
 refine RA rfl ?_
 refine RN ?_
 refine GS ?_
 refine TN 16 ?_
 refine RS (ok_field field32_0 (by decide) rfl) ?_
 refine RS (ok_field field26_0 (by decide) rfl) ?_
 refine RS (ok_loadP (s := 1000010) (by decide) Tryz.underlying22 rfl size22 rfl rfl (by simp [rowV_length, hmk]) (SC_enc f mk _)) ?_
 refine RS (ok_field field32_0 (by decide) rfl) ?_
 refine RS (ok_field field26_1 (by decide) rfl) ?_
 refine RS (ok_loadP (s := 1000010) (by decide) Tryz.underlying24 rfl size24 rfl rfl (by simp [rowV_length, hmk]) (SC_mac f hmk _)) ?_
 refine RS (ok_field field32_1 (by decide) rfl) ?_
 refine RS (ok_loadV (s := 1000010) (by decide) Tryz.underlying3 rfl rfl rfl (SC_ix f hmk _ _ _)) ?_
 refine RS (ok_field field32_2 (by decide) rfl) ?_
 refine RS (ok_loadP (s := 1000010) (by decide) Tryz.underlying30 rfl size30 rfl rfl (by simp [rowV_length, hmk]) (SC_non f hmk _ _ _)) ?_
 refine RS (ok_loadA (s := 1000011) (by decide) Tryz.underlying33 rfl (size33.of (by rw [List.length_map, xorK_length, hd])) rfl rfl) ?_
 refine RS (ok_loadA (s := 1000008) (by decide) Tryz.underlying34 rfl (size34.of (by rw [List.length_map, hmac_length])) rfl rfl) ?_
 refine RS (ok_call (ref9Open_ok f mk hf hmk i s c hs hc (xorK f s c 0 d) (by rw [xorK_length, hd]) hi (hmac mk (msgL i s c (xorK f s c 0 d))) (hmac_length _ _) rfl) (Args.cons rfl (Le.refl _) (Args.cons rfl (Le.refl _) (Args.cons rfl (Le.refl _) (A3 rfl rfl rfl))))) ?_
 refine RM rfl ?_
 refine RS (ok_extract rfl rfl) ?_
 refine RS (ok_extract rfl rfl) ?_
 refine RN ?_
 refine ⟨_, _, eff_alloc (n := 159) (d := 17) (k := 1000017) zero33 (by decide), fun b17 hb17 => ?_⟩
 have hBb17 := hb17.1
 have hlt_b4_b17 : b4 < b17 := hb17.2 1000004 _ _ _ rfl
 have hlt_b7_b17 : b7 < b17 := hb17.2 1000007 _ _ _ rfl
 have hlt_b11_b17 : b11 < b17 := hb17.2 1000011 _ _ _ rfl
 have hlt_b12_b17 : b12 < b17 := hb17.2 1000012 _ _ _ rfl
 refine TF 17 ?_
 refine RN ?_
 refine ⟨_, eff_storeA (n := 159) (s := 1000017) (size33.of (by simp [xorK_length, hd])) rfl rfl (all_bytes _) hBb17 rfl (by simp [xorK_length, hd]) (LV 13 rfl (LV 14 rfl (LV 15 rfl (LV 16 rfl (LV 135 rfl (LT 1000003 rfl (LB 1000004 rfl (LT 1000005 rfl (LB 1000007 rfl (LT 1000008 rfl (LT 1000010 rfl (LB 1000011 rfl (LB 1000012 rfl (LeftS.cons (t := 1900000) rfl (Surv.tab (by omega)) (LeftS.cons (t := 1900001) rfl (Surv.tab (by omega)) LN))))))))))))))), ?_⟩
 refine TL ?_
 refine RA rfl ?_
 refine RN ?_
 refine A.sub (KC 13 rfl (KC 14 rfl (KC 15 rfl (KC 16 rfl (KC 18 rfl (KC 1000003 rfl (KC 1000004 rfl (KC 1000005 rfl (KC 1000007 rfl (KC 1000008 rfl (KC 1000010 rfl (KC 1000011 rfl (KC 1000012 rfl (KC 1000017 rfl (KC 1900000 rfl (KC 1900001 rfl KN)))))))))))))))) ?_
 refine GS ?_
 refine TL ?_
 refine RM rfl ?_
 refine RM rfl ?_
 refine RS (ok_seq rfl rfl) ?_; refine RZ (.bool true) (by simp) ?_
 refine RM rfl ?_
 refine RS (ok_eqBool Tryz.underlying4 rfl rfl) ?_; refine RZ (.bool true) (by rfl) ?_
 refine RM rfl ?_
 refine RQ (ok_move rfl) ?_
 refine RQ (ok_bin rfl rfl rfl) ?_; refine RZ (.bool true) (by rfl) ?_
 refine RQ (ok_move rfl) ?_
 refine RQ (ok_bin rfl rfl rfl) ?_; refine RZ (.bool true) (by rfl) ?_
 refine RQ (ok_eqBool Tryz.underlying4 rfl rfl) ?_; refine RZ (.bool true) (by rfl) ?_
 refine RP rfl rfl ?_
 refine RM rfl ?_
 refine RQ (ok_move rfl) ?_
 refine RQ (ok_not rfl) ?_; refine RZ (.bool false) (by rfl) ?_
 refine RQ (ok_move rfl) ?_
 refine RQ (ok_move rfl) ?_
 refine RQ (ok_bin rfl rfl rfl) ?_; refine RZ (.bool true) (by rfl) ?_
 refine RQ (ok_pick rfl rfl) ?_
 refine RP rfl rfl ?_
 refine RM rfl ?_
 refine RQ (ok_callM lives9_fn (Sub.cons rfl (Sub.cons rfl KN)) tabs_v Args.nil) ?_
 refine RP rfl rfl ?_
 refine RA rfl ?_
 refine RN ?_
 refine A.ret ?_
 exact End.ret1 rfl rfl (by first | exact Le.refl _ | exact Le.old _ _)
set_option maxHeartbeats 4000000 in
theorem SealsChanged_2_ts_ok (f : Nat → Nat) (mk : List UInt8) (hf : By f) (hmk : mk.length = 32) (i : Nat) (hi : i < 4096) (s c : Nat) (hs : s < 4294967296) (hc : c < 18446744073709551616) (d : List UInt8) (hd : d.length = 32) (z0 z1 z2 : UInt8) (hq : z0.toNat % 4 = 2) (s' : Nat) (hs2 : (s + z1.toNat) % 4294967296 = s') (hs' : s' < 4294967296) (hne : s' ≠ s) (h : (hmac mk (msgL i s c (xorK f s c 0 d))) = (hmac mk (msgL i s' c (xorK f s c 0 d))))  : FnM Tryz.prog 5 tabs [.v (aggV (rowV 16 f ++ mk.map byteV ++ [nI i, nW s, nQ c])), .v (aggV (d.map byteV)), .v (aggV ([z0, z1, z2].map byteV))] (.v (.bool true)) := by
 have hz1 := z1.toNat_lt
 refine FnM.of Tryz.func5 rfl (by kernel_rfl) Tryz.ntmps5 (by simp) (by decide) (fun w => [(0, .v (aggV (rowV 16 f ++ mk.map byteV ++ [nI i, nW s, nQ c]))), (1, .v (aggV (d.map byteV))), (2, .v (aggV ([z0, z1, z2].map byteV))), (1900000, tab 0 (H8.list.map u32V)), (1900001, tab 1 (K64.map u32V))]) (fun w => (StartM.v rfl (StartM.v rfl (StartM.v rfl (StartM.m (by simp [tabs]) (by decide) (StartM.m (by simp [tabs]) (by decide) StartM.nil)))))) fun w₀ hM => ?_
 have htab := tabs_hi hM
 refine GS ?_
 refine TN 0 ?_
 refine RN ?_
 refine ⟨_, _, eff_box (n := 159) (d := 3) (k := 1000003) rfl (by decide), fun b3 hb3 => ?_⟩
 have hBb3 := hb3.1
 refine TN 1 ?_
 refine RN ?_
 refine ⟨_, _, eff_box (n := 159) (d := 4) (k := 1000004) rfl (by decide), fun b4 hb4 => ?_⟩
 have hBb4 := hb4.1
 refine TN 2 ?_
 refine RN ?_
 refine ⟨_, _, eff_box (n := 159) (d := 5) (k := 1000005) rfl (by decide), fun b5 hb5 => ?_⟩
 have hBb5 := hb5.1
 refine TL ?_
 refine RA rfl ?_
 refine RN ?_
 refine A.seq ?_
 refine GS ?_
 refine TL ?_
 refine RS (ok_field field32_1 (by decide) rfl) ?_
 refine RS (ok_loadV (s := 1000003) (by decide) Tryz.underlying3 rfl rfl rfl (SC_ix f hmk _ _ _)) ?_
 refine RS (ok_call (bad9_no (i : Int) (by omega) (by omega)) (A1 rfl)) ?_
 refine RN ?_
 refine A.no rfl ?_
 refine A.skip ?_
 refine EN ?_
 refine GS ?_
 refine TN 12 ?_
 refine RS (ok_field field32_0 (by decide) rfl) ?_
 refine RS (ok_loadP (s := 1000003) (by decide) Tryz.underlying26 rfl size26 rfl rfl (by simp [rowV_length, hmk]) (SC_keys f hmk _)) ?_
 refine RS (ok_field field32_1 (by decide) rfl) ?_
 refine RS (ok_loadV (s := 1000003) (by decide) Tryz.underlying3 rfl rfl rfl (SC_ix f hmk _ _ _)) ?_
 refine RS (ok_field field32_2 (by decide) rfl) ?_
 refine RS (ok_loadP (s := 1000003) (by decide) Tryz.underlying30 rfl size30 rfl rfl (by simp [rowV_length, hmk]) (SC_non f hmk _ _ _)) ?_
 refine RS (ok_loadA (s := 1000004) (by decide) Tryz.underlying33 rfl (size33.of (by rw [List.length_map, hd])) rfl rfl) ?_
 refine RS (ok_callM (Seal_ok f mk hf hmk i s c hs hc d hd hi) (Sub.cons rfl (Sub.cons rfl KN)) tabs_v (Args.cons rfl (Le.refl _) (A3 rfl rfl rfl))) ?_
 refine RM rfl ?_
 refine RS (ok_extractV rfl rfl) ?_
 refine RS (ok_extractV rfl rfl) ?_
 refine RS (ok_extractV rfl rfl) ?_
 refine RN ?_
 refine ⟨_, _, eff_alloc (n := 159) (d := 7) (k := 1000007) zero33 (by decide), fun b7 hb7 => ?_⟩
 have hBb7 := hb7.1
 have hlt_b4_b7 : b4 < b7 := hb7.2 1000004 _ _ _ rfl
 refine TN 13 ?_
 refine RN ?_
 refine ⟨_, _, eff_alloc (n := 159) (d := 8) (k := 1000008) zero34 (by decide), fun b8 hb8 => ?_⟩
 have hBb8 := hb8.1
 refine TF 14 ?_
 refine RN ?_
 refine ⟨_, eff_storeA (n := 159) (s := 1000007) (size33.of (by rw [List.length_map, xorK_length, hd])) rfl rfl (all_bytes _) hBb7 rfl (by simp [xorK_length, hd]) (LV 3 rfl (LV 5 rfl (LV 7 rfl (LV 8 rfl (LV 33 rfl (LV 34 rfl (LT 1000003 rfl (LB 1000004 rfl (LT 1000005 rfl (LT 1000008 rfl (LeftS.cons (t := 1900000) rfl (Surv.tab (by omega)) (LeftS.cons (t := 1900001) rfl (Surv.tab (by omega)) LN)))))))))))), ?_⟩
 refine TF 15 ?_
 refine RN ?_
 refine ⟨_, eff_storeA (n := 159) (s := 1000008) (size34.of (by rw [List.length_map, hmac_length])) rfl rfl (all_bytes _) hBb8 rfl (by simp [hmac_length]) (LV 3 rfl (LV 5 rfl (LV 7 rfl (LV 8 rfl (LV 34 rfl (LT 1000003 rfl (LT 1000004 rfl (LT 1000005 rfl (LT 1000007 rfl (LeftS.cons (t := 1900000) rfl (Surv.tab (by omega)) (LeftS.cons (t := 1900001) rfl (Surv.tab (by omega)) LN))))))))))), ?_⟩
 refine TL ?_
 refine RA rfl ?_
 refine RN ?_
 refine A.seq ?_
 refine GS ?_
 refine TL ?_
 refine RM rfl ?_
 refine RBS rfl rfl rfl (.bool false) (by rfl) ?_
 refine RN ?_
 refine A.sub (KC 3 rfl (KC 5 rfl (KC 7 rfl (KC 8 rfl (KC 36 rfl (KC 1000003 rfl (KC 1000004 rfl (KC 1000005 rfl (KC 1000007 rfl (KC 1000008 rfl (KC 1900000 rfl (KC 1900001 rfl KN)))))))))))) ?_
 refine A.no rfl ?_
 refine A.skip ?_
 refine EN ?_
 refine A.regsK [⟨2, 10, 32, List.replicate 16 (.int .u8 0) ++ List.replicate 32 (.int .u8 0) ++ [.int .i64 0] ++ [.int .u32 0] ++ [.int .u64 0], 4, (rowV 16 f ++ mk.map byteV ++ [nI i, nW s, nQ c])⟩, ⟨3, 11, 33, List.replicate 32 (.int .u8 0), 5, (xorK f s c 0 d).map byteV⟩] (by kernel_rfl) (by kernel_rfl) (by kernel_rfl) ?_
 refine KopsK.pure (_) rfl (.inl rfl) FromV.all (fun B' => (ok_loadA (s := 1000003) (by decide) Tryz.underlying32 rfl (size32.of (SC_len f hmk _ _ _)) rfl rfl)) ?_
 refine KopsK.pure (_) rfl (.inl rfl) FromV.all (fun B' => (ok_loadA (s := 1000007) (by decide) Tryz.underlying33 rfl (size33.of (by rw [List.length_map, xorK_length, hd])) rfl rfl)) ?_
 refine KopsK.alloc 0 rfl rfl rfl rfl zero32 rfl ?_
 refine KopsK.alloc 1 rfl rfl rfl rfl zero33 rfl ?_
 refine KopsK.store 0 ((37, .v _) :: _) rfl rfl rfl rfl (by kernel_rfl) (FromV.op 0 (by kernel_rfl) rfl rfl FromV.all) rfl (size32.of (SC_len f hmk _ _ _)) (by simp [rowV_length, hmk]) (SC_one f mk rfl rfl rfl) ?_
 refine KopsK.store 1 ((38, .v _) :: _) rfl rfl rfl rfl (by kernel_rfl) (FromV.op 1 (by kernel_rfl) rfl rfl FromV.all) rfl (size33.of (by rw [List.length_map, xorK_length, hd])) (by simp [xorK_length, hd]) (all_bytes _) ?_
 refine KopsK.nil ⟨by kernel_rfl, _, FromW.all, fun bs hbs hds => ?_⟩
 have hb10 := hbs 0 (by simp)
 have hb11 := hbs 1 (by simp)
 have hne_b10_b11 := hds 0 1 (by simp) (by simp) (by decide)
 dsimp only [varEnv]
 generalize bs 0 = b10 at *
 generalize bs (0 + 1) = b11 at *
 have hBb10 := hb10.1
 have hlt_b3_b10 : b3 < b10 := hb10.2 1000003 _ _ _ rfl
 have hlt_b4_b10 : b4 < b10 := hb10.2 1000004 _ _ _ rfl
 have hlt_b5_b10 : b5 < b10 := hb10.2 1000005 _ _ _ rfl
 have hlt_b7_b10 : b7 < b10 := hb10.2 1000007 _ _ _ rfl
 have hlt_b8_b10 : b8 < b10 := hb10.2 1000008 _ _ _ rfl
 have hBb11 := hb11.1
 have hlt_b3_b11 : b3 < b11 := hb11.2 1000003 _ _ _ rfl
 have hlt_b4_b11 : b4 < b11 := hb11.2 1000004 _ _ _ rfl
 have hlt_b5_b11 : b5 < b11 := hb11.2 1000005 _ _ _ rfl
 have hlt_b7_b11 : b7 < b11 := hb11.2 1000007 _ _ _ rfl
 have hlt_b8_b11 : b8 < b11 := hb11.2 1000008 _ _ _ rfl
 refine A.sub (KC 3 rfl (KC 5 rfl (KC 7 rfl (KC 8 rfl (KC 10 rfl (KC 11 rfl (KC 1000003 rfl (KC 1000004 rfl (KC 1000005 rfl (KC 1000007 rfl (KC 1000008 rfl (KC 1000010 rfl (KC 1000011 rfl (KC 1900000 rfl (KC 1900001 rfl KN))))))))))))))) ?_
 refine A.seq ?_
 refine GS ?_
 refine TL ?_
 refine RS (ok_index0 (0) Tryz.underlying48 info5 rfl rfl (rfl) (by decide)) ?_
 refine RS (ok_loadV (s := 1000005) (by decide) Tryz.underlying5 rfl rfl rfl (rfl)) ?_; refine RZ (byteV z0) (by rfl) ?_
 refine RS (ok_rem rfl rfl (by decide)) ?_; refine RZ (.int .u8 2) (by rw [tmod_lit _ (by decide), show Int.toNat 4 = 4 from rfl, hq]; rfl) ?_
 refine RN ?_
 refine A.block ?_
 refine GS ?_
 refine TL ?_
 refine RBS rfl rfl rfl (.bool false) (by rfl) ?_
 refine RA rfl ?_
 refine RN ?_
 refine A.no rfl ?_
 refine GS ?_
 refine TL ?_
 refine RBS rfl rfl rfl (.bool false) (by rfl) ?_
 refine RA rfl ?_
 refine RN ?_
 refine A.no rfl ?_
 refine GS ?_
 refine TL ?_
 refine RBS rfl rfl rfl (.bool true) (by rfl) ?_
 refine RA rfl ?_
 refine RN ?_
 refine A.yes rfl ?_
 refine GE ?_
 refine TF 9 ?_
 refine RS (ok_field field32_2 (by decide) rfl) ?_
 refine RS (ok_field field30_0 (by decide) rfl) ?_
 refine RS (ok_loadV (s := 1000010) (by decide) Tryz.underlying27 rfl rfl rfl (SC_at f hmk _ 1)) ?_; refine RZ (nW s) (by rfl) ?_
 refine RS (ok_index0 (1) Tryz.underlying48 info5 rfl rfl (rfl) (by decide)) ?_
 refine RS (ok_loadV (s := 1000005) (by decide) Tryz.underlying5 rfl rfl rfl (rfl)) ?_; refine RZ (byteV z1) (by rfl) ?_
 refine RS (ok_conv Tryz.underlying5 Tryz.underlying27 rfl) ?_; refine RZ (nW (z1.toNat)) (by rw [wrapN_u32 (by have := z1.toNat_lt; omega)]) ?_
 refine RBS rfl rfl rfl (nW s') ((congrArg (Value.int .u32) (wrap_u32_nat (s + z1.toNat))).trans (congrArg (fun x : Nat => Value.int .u32 (x : Int)) hs2)) ?_
 refine RS (ok_field field32_2 (by decide) rfl) ?_
 refine RS (ok_field field30_0 (by decide) rfl) ?_
 refine RN ?_
 refine ⟨_, eff_storeS (n := 159) (s := 1000010) info27 rfl rfl rfl hBb10 rfl (by rw [SC_len f hmk]; decide) (LV 3 rfl (LV 7 rfl (LV 8 rfl (LV 10 rfl (LV 11 rfl (LB 1000003 rfl (LT 1000004 rfl (LT 1000005 rfl (LT 1000007 rfl (LT 1000008 rfl (LT 1000011 rfl (LeftS.cons (t := 1900000) rfl (Surv.tab (by omega)) (LeftS.cons (t := 1900001) rfl (Surv.tab (by omega)) LN))))))))))))), ?_⟩
 refine TL ?_
 refine RN ?_
 refine End.sub (KC 3 rfl (KC 7 rfl (KC 8 rfl (KC 10 rfl (KC 11 rfl (KC 1000003 rfl (KC 1000004 rfl (KC 1000005 rfl (KC 1000007 rfl (KC 1000008 rfl (KE 1000010 rfl (show _ = blk b10 32 (rowV 16 f ++ mk.map byteV ++ [nI i, nW s', nQ c]) from congrArg _ (SC_set f hmk _ _ _ _ 1)) (KC 1000011 rfl (KC 1900000 rfl (KC 1900001 rfl KN)))))))))))))) ?_
 refine End.normal_block ?_
 refine EN ?_
 refine GS ?_
 refine TN 12 ?_
 refine RS (ok_field field32_0 (by decide) rfl) ?_
 refine RS (ok_loadP (s := 1000010) (by decide) Tryz.underlying26 rfl size26 rfl rfl (by simp [rowV_length, hmk]) (SC_keys f hmk _)) ?_
 refine RS (ok_field field32_1 (by decide) rfl) ?_
 refine RS (ok_loadV (s := 1000010) (by decide) Tryz.underlying3 rfl rfl rfl (SC_ix f hmk _ _ _)) ?_
 refine RS (ok_field field32_2 (by decide) rfl) ?_
 refine RS (ok_loadP (s := 1000010) (by decide) Tryz.underlying30 rfl size30 rfl rfl (by simp [rowV_length, hmk]) (SC_non f hmk _ _ _)) ?_
 refine RS (ok_loadA (s := 1000011) (by decide) Tryz.underlying33 rfl (size33.of (by rw [List.length_map, xorK_length, hd])) rfl rfl) ?_
 refine RS (ok_loadA (s := 1000008) (by decide) Tryz.underlying34 rfl (size34.of (by rw [List.length_map, hmac_length])) rfl rfl) ?_
 refine RS (ok_callM (Open_ok f mk hf hmk i s' c hs' hc (xorK f s c 0 d) (by rw [xorK_length, hd]) hi (hmac mk (msgL i s c (xorK f s c 0 d))) (hmac_length _ _) h) (Sub.cons rfl (Sub.cons rfl KN)) tabs_v (Args.cons rfl (Le.refl _) (Args.cons rfl (Le.refl _) (A3 rfl rfl rfl)))) ?_
 refine RM rfl ?_
 refine RS (ok_extractV rfl rfl) ?_
 refine RS (ok_extractV rfl rfl) ?_
 refine RN ?_
 refine ⟨_, _, eff_alloc (n := 159) (d := 12) (k := 1000012) zero33 (by decide), fun b12 hb12 => ?_⟩
 have hBb12 := hb12.1
 have hlt_b4_b12 : b4 < b12 := hb12.2 1000004 _ _ _ rfl
 have hlt_b7_b12 : b7 < b12 := hb12.2 1000007 _ _ _ rfl
 have hlt_b11_b12 : b11 < b12 := hb12.2 1000011 _ _ _ rfl
 refine TF 13 ?_
 refine RN ?_
 refine ⟨_, eff_storeA (n := 159) (s := 1000012) (size33.of (by simp [xorK_length, hd])) rfl rfl (all_bytes _) hBb12 rfl (by simp [xorK_length, hd]) (LV 3 rfl (LV 7 rfl (LV 8 rfl (LV 10 rfl (LV 11 rfl (LV 97 rfl (LT 1000003 rfl (LB 1000004 rfl (LT 1000005 rfl (LB 1000007 rfl (LT 1000008 rfl (LT 1000010 rfl (LB 1000011 rfl (LeftS.cons (t := 1900000) rfl (Surv.tab (by omega)) (LeftS.cons (t := 1900001) rfl (Surv.tab (by omega)) LN))))))))))))))), ?_⟩
 refine TL ?_
 refine RA rfl ?_
 refine RN ?_
 refine GS ?_
 refine TL ?_
 refine RS (ok_field field32_1 (by decide) rfl) ?_
 refine RS (ok_loadV (s := 1000003) (by decide) Tryz.underlying3 rfl rfl rfl (SC_ix f hmk _ _ _)) ?_
 refine RS (ok_field field32_2 (by decide) rfl) ?_
 refine RS (ok_loadP (s := 1000003) (by decide) Tryz.underlying30 rfl size30 rfl rfl (by simp [rowV_length, hmk]) (SC_non f hmk _ _ _)) ?_
 refine RS (ok_loadA (s := 1000007) (by decide) Tryz.underlying33 rfl (size33.of (by rw [List.length_map, xorK_length, hd])) rfl rfl) ?_
 refine RS (ok_call (ref9Message_fn i s c hs hc (xorK f s c 0 d) (by rw [xorK_length, hd]) hi) (A3 rfl rfl rfl)) ?_
 refine RS (ok_str (l := (msgL i s c (xorK f s c 0 d))) Tryz.underlying49 Tryz.underlying5 Tryz.underlying9 rfl (Le.refl _)) ?_
 refine RA rfl ?_
 refine RN ?_
 refine GS ?_
 refine TL ?_
 refine RS (ok_field field32_1 (by decide) rfl) ?_
 refine RS (ok_loadV (s := 1000010) (by decide) Tryz.underlying3 rfl rfl rfl (SC_ix f hmk _ _ _)) ?_
 refine RS (ok_field field32_2 (by decide) rfl) ?_
 refine RS (ok_loadP (s := 1000010) (by decide) Tryz.underlying30 rfl size30 rfl rfl (by simp [rowV_length, hmk]) (SC_non f hmk _ _ _)) ?_
 refine RS (ok_loadA (s := 1000011) (by decide) Tryz.underlying33 rfl (size33.of (by rw [List.length_map, xorK_length, hd])) rfl rfl) ?_
 refine RS (ok_call (ref9Message_fn i s' c hs' hc (xorK f s c 0 d) (by rw [xorK_length, hd]) hi) (A3 rfl rfl rfl)) ?_
 refine RS (ok_str (l := (msgL i s' c (xorK f s c 0 d))) Tryz.underlying49 Tryz.underlying5 Tryz.underlying9 rfl (Le.refl _)) ?_
 refine RA rfl ?_
 refine RN ?_
 refine A.sub (KC 3 rfl (KC 7 rfl (KC 8 rfl (KC 10 rfl (KC 11 rfl (KC 13 rfl (KC 14 rfl (KC 15 rfl (KC 1000003 rfl (KC 1000004 rfl (KC 1000005 rfl (KC 1000007 rfl (KC 1000008 rfl (KC 1000010 rfl (KC 1000011 rfl (KC 1000012 rfl (KC 1900000 rfl (KC 1900001 rfl KN)))))))))))))))))) ?_
 refine GS ?_
 refine TL ?_
 refine RS (ok_loadA (s := 1000010) (by decide) Tryz.underlying32 rfl (size32.of (SC_len f hmk _ _ _)) rfl rfl) ?_
 refine RS (ok_loadA (s := 1000003) (by decide) Tryz.underlying32 rfl (size32.of (SC_len f hmk _ _ _)) rfl rfl) ?_
 refine RS (ok_eqlT (n := 5) false flat32 (by decide) (by kernel_rfl) (by kernel_rfl) rfl rfl (kinS f hmk _ _ _) (kinS f hmk _ _ _) ⟨fun h => (by cases h), fun h => (by have := SC_inj h; exfalso; omega)⟩) ?_
 refine RM rfl ?_
 refine RK ?_
 refine RK ?_
 refine RK ?_
 refine RP rfl rfl ?_
 refine RA rfl ?_
 refine RN ?_
 refine GS ?_
 refine TN 16 ?_
 refine RS (ok_field field32_0 (by decide) rfl) ?_
 refine RS (ok_field field26_0 (by decide) rfl) ?_
 refine RS (ok_loadP (s := 1000010) (by decide) Tryz.underlying22 rfl size22 rfl rfl (by simp [rowV_length, hmk]) (SC_enc f mk _)) ?_
 refine RS (ok_field field32_0 (by decide) rfl) ?_
 refine RS (ok_field field26_1 (by decide) rfl) ?_
 refine RS (ok_loadP (s := 1000010) (by decide) Tryz.underlying24 rfl size24 rfl rfl (by simp [rowV_length, hmk]) (SC_mac f hmk _)) ?_
 refine RS (ok_field field32_1 (by decide) rfl) ?_
 refine RS (ok_loadV (s := 1000010) (by decide) Tryz.underlying3 rfl rfl rfl (SC_ix f hmk _ _ _)) ?_
 refine RS (ok_field field32_2 (by decide) rfl) ?_
 refine RS (ok_loadP (s := 1000010) (by decide) Tryz.underlying30 rfl size30 rfl rfl (by simp [rowV_length, hmk]) (SC_non f hmk _ _ _)) ?_
 refine RS (ok_loadA (s := 1000011) (by decide) Tryz.underlying33 rfl (size33.of (by rw [List.length_map, xorK_length, hd])) rfl rfl) ?_
 refine RS (ok_loadA (s := 1000008) (by decide) Tryz.underlying34 rfl (size34.of (by rw [List.length_map, hmac_length])) rfl rfl) ?_
 refine RS (ok_call (ref9Open_ok f mk hf hmk i s' c hs' hc (xorK f s c 0 d) (by rw [xorK_length, hd]) hi (hmac mk (msgL i s c (xorK f s c 0 d))) (hmac_length _ _) h) (Args.cons rfl (Le.refl _) (Args.cons rfl (Le.refl _) (Args.cons rfl (Le.refl _) (A3 rfl rfl rfl))))) ?_
 refine RM rfl ?_
 refine RS (ok_extract rfl rfl) ?_
 refine RS (ok_extract rfl rfl) ?_
 refine RN ?_
 refine ⟨_, _, eff_alloc (n := 159) (d := 17) (k := 1000017) zero33 (by decide), fun b17 hb17 => ?_⟩
 have hBb17 := hb17.1
 have hlt_b4_b17 : b4 < b17 := hb17.2 1000004 _ _ _ rfl
 have hlt_b7_b17 : b7 < b17 := hb17.2 1000007 _ _ _ rfl
 have hlt_b11_b17 : b11 < b17 := hb17.2 1000011 _ _ _ rfl
 have hlt_b12_b17 : b12 < b17 := hb17.2 1000012 _ _ _ rfl
 refine TF 17 ?_
 refine RN ?_
 refine ⟨_, eff_storeA (n := 159) (s := 1000017) (size33.of (by simp [xorK_length, hd])) rfl rfl (all_bytes _) hBb17 rfl (by simp [xorK_length, hd]) (LV 13 rfl (LV 14 rfl (LV 15 rfl (LV 16 rfl (LV 135 rfl (LT 1000003 rfl (LB 1000004 rfl (LT 1000005 rfl (LB 1000007 rfl (LT 1000008 rfl (LT 1000010 rfl (LB 1000011 rfl (LB 1000012 rfl (LeftS.cons (t := 1900000) rfl (Surv.tab (by omega)) (LeftS.cons (t := 1900001) rfl (Surv.tab (by omega)) LN))))))))))))))), ?_⟩
 refine TL ?_
 refine RA rfl ?_
 refine RN ?_
 refine A.sub (KC 13 rfl (KC 14 rfl (KC 15 rfl (KC 16 rfl (KC 18 rfl (KC 1000003 rfl (KC 1000004 rfl (KC 1000005 rfl (KC 1000007 rfl (KC 1000008 rfl (KC 1000010 rfl (KC 1000011 rfl (KC 1000012 rfl (KC 1000017 rfl (KC 1900000 rfl (KC 1900001 rfl KN)))))))))))))))) ?_
 refine GS ?_
 refine TL ?_
 refine RM rfl ?_
 refine RM rfl ?_
 refine RS (ok_seq rfl rfl) ?_; refine RZ (.bool false) (congrArg Value.bool (beq_eq_false_iff_ne.2 fun hh => hne (msgL_inj (by omega) (by omega) hs hs' hc hc hh).2.1.symm)) ?_
 refine RM rfl ?_
 refine RS (ok_eqBool Tryz.underlying4 rfl rfl) ?_; refine RZ (.bool true) (by rfl) ?_
 refine RM rfl ?_
 refine RQ (ok_move rfl) ?_
 refine RQ (ok_bin rfl rfl rfl) ?_; refine RZ (.bool true) (by rfl) ?_
 refine RQ (ok_move rfl) ?_
 refine RQ (ok_bin rfl rfl rfl) ?_; refine RZ (.bool true) (by rfl) ?_
 refine RQ (ok_eqBool Tryz.underlying4 rfl rfl) ?_; refine RZ (.bool true) (by rfl) ?_
 refine RP rfl rfl ?_
 refine RM rfl ?_
 refine RQ (ok_move rfl) ?_
 refine RQ (ok_not rfl) ?_; refine RZ (.bool true) (by rfl) ?_
 refine RQ (ok_move rfl) ?_
 refine RK ?_
 refine RK ?_
 refine RQ (ok_pick rfl rfl) ?_
 refine RP rfl rfl ?_
 refine RM rfl ?_
 refine RQ (ok_callM lives9_fn (Sub.cons rfl (Sub.cons rfl KN)) tabs_v Args.nil) ?_
 refine RP rfl rfl ?_
 refine RA rfl ?_
 refine RN ?_
 refine A.ret ?_
 exact End.ret1 rfl rfl (by first | exact Le.refl _ | exact Le.old _ _)
set_option maxHeartbeats 4000000 in
theorem SealsChanged_2_ts_no (f : Nat → Nat) (mk : List UInt8) (hf : By f) (hmk : mk.length = 32) (i : Nat) (hi : i < 4096) (s c : Nat) (hs : s < 4294967296) (hc : c < 18446744073709551616) (d : List UInt8) (hd : d.length = 32) (z0 z1 z2 : UInt8) (hq : z0.toNat % 4 = 2) (s' : Nat) (hs2 : (s + z1.toNat) % 4294967296 = s') (hs' : s' < 4294967296) (hne : s' ≠ s) (h : (hmac mk (msgL i s c (xorK f s c 0 d))) ≠ (hmac mk (msgL i s' c (xorK f s c 0 d))))  : FnM Tryz.prog 5 tabs [.v (aggV (rowV 16 f ++ mk.map byteV ++ [nI i, nW s, nQ c])), .v (aggV (d.map byteV)), .v (aggV ([z0, z1, z2].map byteV))] (.v (.bool true)) := by
 have hz1 := z1.toNat_lt
 refine FnM.of Tryz.func5 rfl (by kernel_rfl) Tryz.ntmps5 (by simp) (by decide) (fun w => [(0, .v (aggV (rowV 16 f ++ mk.map byteV ++ [nI i, nW s, nQ c]))), (1, .v (aggV (d.map byteV))), (2, .v (aggV ([z0, z1, z2].map byteV))), (1900000, tab 0 (H8.list.map u32V)), (1900001, tab 1 (K64.map u32V))]) (fun w => (StartM.v rfl (StartM.v rfl (StartM.v rfl (StartM.m (by simp [tabs]) (by decide) (StartM.m (by simp [tabs]) (by decide) StartM.nil)))))) fun w₀ hM => ?_
 have htab := tabs_hi hM
 refine GS ?_
 refine TN 0 ?_
 refine RN ?_
 refine ⟨_, _, eff_box (n := 159) (d := 3) (k := 1000003) rfl (by decide), fun b3 hb3 => ?_⟩
 have hBb3 := hb3.1
 refine TN 1 ?_
 refine RN ?_
 refine ⟨_, _, eff_box (n := 159) (d := 4) (k := 1000004) rfl (by decide), fun b4 hb4 => ?_⟩
 have hBb4 := hb4.1
 refine TN 2 ?_
 refine RN ?_
 refine ⟨_, _, eff_box (n := 159) (d := 5) (k := 1000005) rfl (by decide), fun b5 hb5 => ?_⟩
 have hBb5 := hb5.1
 refine TL ?_
 refine RA rfl ?_
 refine RN ?_
 refine A.seq ?_
 refine GS ?_
 refine TL ?_
 refine RS (ok_field field32_1 (by decide) rfl) ?_
 refine RS (ok_loadV (s := 1000003) (by decide) Tryz.underlying3 rfl rfl rfl (SC_ix f hmk _ _ _)) ?_
 refine RS (ok_call (bad9_no (i : Int) (by omega) (by omega)) (A1 rfl)) ?_
 refine RN ?_
 refine A.no rfl ?_
 refine A.skip ?_
 refine EN ?_
 refine GS ?_
 refine TN 12 ?_
 refine RS (ok_field field32_0 (by decide) rfl) ?_
 refine RS (ok_loadP (s := 1000003) (by decide) Tryz.underlying26 rfl size26 rfl rfl (by simp [rowV_length, hmk]) (SC_keys f hmk _)) ?_
 refine RS (ok_field field32_1 (by decide) rfl) ?_
 refine RS (ok_loadV (s := 1000003) (by decide) Tryz.underlying3 rfl rfl rfl (SC_ix f hmk _ _ _)) ?_
 refine RS (ok_field field32_2 (by decide) rfl) ?_
 refine RS (ok_loadP (s := 1000003) (by decide) Tryz.underlying30 rfl size30 rfl rfl (by simp [rowV_length, hmk]) (SC_non f hmk _ _ _)) ?_
 refine RS (ok_loadA (s := 1000004) (by decide) Tryz.underlying33 rfl (size33.of (by rw [List.length_map, hd])) rfl rfl) ?_
 refine RS (ok_callM (Seal_ok f mk hf hmk i s c hs hc d hd hi) (Sub.cons rfl (Sub.cons rfl KN)) tabs_v (Args.cons rfl (Le.refl _) (A3 rfl rfl rfl))) ?_
 refine RM rfl ?_
 refine RS (ok_extractV rfl rfl) ?_
 refine RS (ok_extractV rfl rfl) ?_
 refine RS (ok_extractV rfl rfl) ?_
 refine RN ?_
 refine ⟨_, _, eff_alloc (n := 159) (d := 7) (k := 1000007) zero33 (by decide), fun b7 hb7 => ?_⟩
 have hBb7 := hb7.1
 have hlt_b4_b7 : b4 < b7 := hb7.2 1000004 _ _ _ rfl
 refine TN 13 ?_
 refine RN ?_
 refine ⟨_, _, eff_alloc (n := 159) (d := 8) (k := 1000008) zero34 (by decide), fun b8 hb8 => ?_⟩
 have hBb8 := hb8.1
 refine TF 14 ?_
 refine RN ?_
 refine ⟨_, eff_storeA (n := 159) (s := 1000007) (size33.of (by rw [List.length_map, xorK_length, hd])) rfl rfl (all_bytes _) hBb7 rfl (by simp [xorK_length, hd]) (LV 3 rfl (LV 5 rfl (LV 7 rfl (LV 8 rfl (LV 33 rfl (LV 34 rfl (LT 1000003 rfl (LB 1000004 rfl (LT 1000005 rfl (LT 1000008 rfl (LeftS.cons (t := 1900000) rfl (Surv.tab (by omega)) (LeftS.cons (t := 1900001) rfl (Surv.tab (by omega)) LN)))))))))))), ?_⟩
 refine TF 15 ?_
 refine RN ?_
 refine ⟨_, eff_storeA (n := 159) (s := 1000008) (size34.of (by rw [List.length_map, hmac_length])) rfl rfl (all_bytes _) hBb8 rfl (by simp [hmac_length]) (LV 3 rfl (LV 5 rfl (LV 7 rfl (LV 8 rfl (LV 34 rfl (LT 1000003 rfl (LT 1000004 rfl (LT 1000005 rfl (LT 1000007 rfl (LeftS.cons (t := 1900000) rfl (Surv.tab (by omega)) (LeftS.cons (t := 1900001) rfl (Surv.tab (by omega)) LN))))))))))), ?_⟩
 refine TL ?_
 refine RA rfl ?_
 refine RN ?_
 refine A.seq ?_
 refine GS ?_
 refine TL ?_
 refine RM rfl ?_
 refine RBS rfl rfl rfl (.bool false) (by rfl) ?_
 refine RN ?_
 refine A.sub (KC 3 rfl (KC 5 rfl (KC 7 rfl (KC 8 rfl (KC 36 rfl (KC 1000003 rfl (KC 1000004 rfl (KC 1000005 rfl (KC 1000007 rfl (KC 1000008 rfl (KC 1900000 rfl (KC 1900001 rfl KN)))))))))))) ?_
 refine A.no rfl ?_
 refine A.skip ?_
 refine EN ?_
 refine A.regsK [⟨2, 10, 32, List.replicate 16 (.int .u8 0) ++ List.replicate 32 (.int .u8 0) ++ [.int .i64 0] ++ [.int .u32 0] ++ [.int .u64 0], 4, (rowV 16 f ++ mk.map byteV ++ [nI i, nW s, nQ c])⟩, ⟨3, 11, 33, List.replicate 32 (.int .u8 0), 5, (xorK f s c 0 d).map byteV⟩] (by kernel_rfl) (by kernel_rfl) (by kernel_rfl) ?_
 refine KopsK.pure (_) rfl (.inl rfl) FromV.all (fun B' => (ok_loadA (s := 1000003) (by decide) Tryz.underlying32 rfl (size32.of (SC_len f hmk _ _ _)) rfl rfl)) ?_
 refine KopsK.pure (_) rfl (.inl rfl) FromV.all (fun B' => (ok_loadA (s := 1000007) (by decide) Tryz.underlying33 rfl (size33.of (by rw [List.length_map, xorK_length, hd])) rfl rfl)) ?_
 refine KopsK.alloc 0 rfl rfl rfl rfl zero32 rfl ?_
 refine KopsK.alloc 1 rfl rfl rfl rfl zero33 rfl ?_
 refine KopsK.store 0 ((37, .v _) :: _) rfl rfl rfl rfl (by kernel_rfl) (FromV.op 0 (by kernel_rfl) rfl rfl FromV.all) rfl (size32.of (SC_len f hmk _ _ _)) (by simp [rowV_length, hmk]) (SC_one f mk rfl rfl rfl) ?_
 refine KopsK.store 1 ((38, .v _) :: _) rfl rfl rfl rfl (by kernel_rfl) (FromV.op 1 (by kernel_rfl) rfl rfl FromV.all) rfl (size33.of (by rw [List.length_map, xorK_length, hd])) (by simp [xorK_length, hd]) (all_bytes _) ?_
 refine KopsK.nil ⟨by kernel_rfl, _, FromW.all, fun bs hbs hds => ?_⟩
 have hb10 := hbs 0 (by simp)
 have hb11 := hbs 1 (by simp)
 have hne_b10_b11 := hds 0 1 (by simp) (by simp) (by decide)
 dsimp only [varEnv]
 generalize bs 0 = b10 at *
 generalize bs (0 + 1) = b11 at *
 have hBb10 := hb10.1
 have hlt_b3_b10 : b3 < b10 := hb10.2 1000003 _ _ _ rfl
 have hlt_b4_b10 : b4 < b10 := hb10.2 1000004 _ _ _ rfl
 have hlt_b5_b10 : b5 < b10 := hb10.2 1000005 _ _ _ rfl
 have hlt_b7_b10 : b7 < b10 := hb10.2 1000007 _ _ _ rfl
 have hlt_b8_b10 : b8 < b10 := hb10.2 1000008 _ _ _ rfl
 have hBb11 := hb11.1
 have hlt_b3_b11 : b3 < b11 := hb11.2 1000003 _ _ _ rfl
 have hlt_b4_b11 : b4 < b11 := hb11.2 1000004 _ _ _ rfl
 have hlt_b5_b11 : b5 < b11 := hb11.2 1000005 _ _ _ rfl
 have hlt_b7_b11 : b7 < b11 := hb11.2 1000007 _ _ _ rfl
 have hlt_b8_b11 : b8 < b11 := hb11.2 1000008 _ _ _ rfl
 refine A.sub (KC 3 rfl (KC 5 rfl (KC 7 rfl (KC 8 rfl (KC 10 rfl (KC 11 rfl (KC 1000003 rfl (KC 1000004 rfl (KC 1000005 rfl (KC 1000007 rfl (KC 1000008 rfl (KC 1000010 rfl (KC 1000011 rfl (KC 1900000 rfl (KC 1900001 rfl KN))))))))))))))) ?_
 refine A.seq ?_
 refine GS ?_
 refine TL ?_
 refine RS (ok_index0 (0) Tryz.underlying48 info5 rfl rfl (rfl) (by decide)) ?_
 refine RS (ok_loadV (s := 1000005) (by decide) Tryz.underlying5 rfl rfl rfl (rfl)) ?_; refine RZ (byteV z0) (by rfl) ?_
 refine RS (ok_rem rfl rfl (by decide)) ?_; refine RZ (.int .u8 2) (by rw [tmod_lit _ (by decide), show Int.toNat 4 = 4 from rfl, hq]; rfl) ?_
 refine RN ?_
 refine A.block ?_
 refine GS ?_
 refine TL ?_
 refine RBS rfl rfl rfl (.bool false) (by rfl) ?_
 refine RA rfl ?_
 refine RN ?_
 refine A.no rfl ?_
 refine GS ?_
 refine TL ?_
 refine RBS rfl rfl rfl (.bool false) (by rfl) ?_
 refine RA rfl ?_
 refine RN ?_
 refine A.no rfl ?_
 refine GS ?_
 refine TL ?_
 refine RBS rfl rfl rfl (.bool true) (by rfl) ?_
 refine RA rfl ?_
 refine RN ?_
 refine A.yes rfl ?_
 refine GE ?_
 refine TF 9 ?_
 refine RS (ok_field field32_2 (by decide) rfl) ?_
 refine RS (ok_field field30_0 (by decide) rfl) ?_
 refine RS (ok_loadV (s := 1000010) (by decide) Tryz.underlying27 rfl rfl rfl (SC_at f hmk _ 1)) ?_; refine RZ (nW s) (by rfl) ?_
 refine RS (ok_index0 (1) Tryz.underlying48 info5 rfl rfl (rfl) (by decide)) ?_
 refine RS (ok_loadV (s := 1000005) (by decide) Tryz.underlying5 rfl rfl rfl (rfl)) ?_; refine RZ (byteV z1) (by rfl) ?_
 refine RS (ok_conv Tryz.underlying5 Tryz.underlying27 rfl) ?_; refine RZ (nW (z1.toNat)) (by rw [wrapN_u32 (by have := z1.toNat_lt; omega)]) ?_
 refine RBS rfl rfl rfl (nW s') ((congrArg (Value.int .u32) (wrap_u32_nat (s + z1.toNat))).trans (congrArg (fun x : Nat => Value.int .u32 (x : Int)) hs2)) ?_
 refine RS (ok_field field32_2 (by decide) rfl) ?_
 refine RS (ok_field field30_0 (by decide) rfl) ?_
 refine RN ?_
 refine ⟨_, eff_storeS (n := 159) (s := 1000010) info27 rfl rfl rfl hBb10 rfl (by rw [SC_len f hmk]; decide) (LV 3 rfl (LV 7 rfl (LV 8 rfl (LV 10 rfl (LV 11 rfl (LB 1000003 rfl (LT 1000004 rfl (LT 1000005 rfl (LT 1000007 rfl (LT 1000008 rfl (LT 1000011 rfl (LeftS.cons (t := 1900000) rfl (Surv.tab (by omega)) (LeftS.cons (t := 1900001) rfl (Surv.tab (by omega)) LN))))))))))))), ?_⟩
 refine TL ?_
 refine RN ?_
 refine End.sub (KC 3 rfl (KC 7 rfl (KC 8 rfl (KC 10 rfl (KC 11 rfl (KC 1000003 rfl (KC 1000004 rfl (KC 1000005 rfl (KC 1000007 rfl (KC 1000008 rfl (KE 1000010 rfl (show _ = blk b10 32 (rowV 16 f ++ mk.map byteV ++ [nI i, nW s', nQ c]) from congrArg _ (SC_set f hmk _ _ _ _ 1)) (KC 1000011 rfl (KC 1900000 rfl (KC 1900001 rfl KN)))))))))))))) ?_
 refine End.normal_block ?_
 refine EN ?_
 refine GS ?_
 refine TN 12 ?_
 refine RS (ok_field field32_0 (by decide) rfl) ?_
 refine RS (ok_loadP (s := 1000010) (by decide) Tryz.underlying26 rfl size26 rfl rfl (by simp [rowV_length, hmk]) (SC_keys f hmk _)) ?_
 refine RS (ok_field field32_1 (by decide) rfl) ?_
 refine RS (ok_loadV (s := 1000010) (by decide) Tryz.underlying3 rfl rfl rfl (SC_ix f hmk _ _ _)) ?_
 refine RS (ok_field field32_2 (by decide) rfl) ?_
 refine RS (ok_loadP (s := 1000010) (by decide) Tryz.underlying30 rfl size30 rfl rfl (by simp [rowV_length, hmk]) (SC_non f hmk _ _ _)) ?_
 refine RS (ok_loadA (s := 1000011) (by decide) Tryz.underlying33 rfl (size33.of (by rw [List.length_map, xorK_length, hd])) rfl rfl) ?_
 refine RS (ok_loadA (s := 1000008) (by decide) Tryz.underlying34 rfl (size34.of (by rw [List.length_map, hmac_length])) rfl rfl) ?_
 refine RS (ok_callM (Open_int f mk hf hmk i s' c hs' hc (xorK f s c 0 d) (by rw [xorK_length, hd]) hi (hmac mk (msgL i s c (xorK f s c 0 d))) (hmac_length _ _) h) (Sub.cons rfl (Sub.cons rfl KN)) tabs_v (Args.cons rfl (Le.refl _) (Args.cons rfl (Le.refl _) (A3 rfl rfl rfl)))) ?_
 refine RM rfl ?_
 refine RS (ok_extractV rfl rfl) ?_
 refine RS (ok_extractV rfl rfl) ?_
 refine RN ?_
 refine ⟨_, _, eff_alloc (n := 159) (d := 12) (k := 1000012) zero33 (by decide), fun b12 hb12 => ?_⟩
 have hBb12 := hb12.1
 have hlt_b4_b12 : b4 < b12 := hb12.2 1000004 _ _ _ rfl
 have hlt_b7_b12 : b7 < b12 := hb12.2 1000007 _ _ _ rfl
 have hlt_b11_b12 : b11 < b12 := hb12.2 1000011 _ _ _ rfl
 refine TF 13 ?_
 refine RN ?_
 refine ⟨_, eff_storeA (n := 159) (s := 1000012) (size33.of (rfl)) rfl rfl (rfl) hBb12 rfl (rfl) (LV 3 rfl (LV 7 rfl (LV 8 rfl (LV 10 rfl (LV 11 rfl (LV 97 rfl (LT 1000003 rfl (LB 1000004 rfl (LT 1000005 rfl (LB 1000007 rfl (LT 1000008 rfl (LT 1000010 rfl (LB 1000011 rfl (LeftS.cons (t := 1900000) rfl (Surv.tab (by omega)) (LeftS.cons (t := 1900001) rfl (Surv.tab (by omega)) LN))))))))))))))), ?_⟩
 refine TL ?_
 refine RA rfl ?_
 refine RN ?_
 refine GS ?_
 refine TL ?_
 refine RS (ok_field field32_1 (by decide) rfl) ?_
 refine RS (ok_loadV (s := 1000003) (by decide) Tryz.underlying3 rfl rfl rfl (SC_ix f hmk _ _ _)) ?_
 refine RS (ok_field field32_2 (by decide) rfl) ?_
 refine RS (ok_loadP (s := 1000003) (by decide) Tryz.underlying30 rfl size30 rfl rfl (by simp [rowV_length, hmk]) (SC_non f hmk _ _ _)) ?_
 refine RS (ok_loadA (s := 1000007) (by decide) Tryz.underlying33 rfl (size33.of (by rw [List.length_map, xorK_length, hd])) rfl rfl) ?_
 refine RS (ok_call (ref9Message_fn i s c hs hc (xorK f s c 0 d) (by rw [xorK_length, hd]) hi) (A3 rfl rfl rfl)) ?_
 refine RS (ok_str (l := (msgL i s c (xorK f s c 0 d))) Tryz.underlying49 Tryz.underlying5 Tryz.underlying9 rfl (Le.refl _)) ?_
 refine RA rfl ?_
 refine RN ?_
 refine GS ?_
 refine TL ?_
 refine RS (ok_field field32_1 (by decide) rfl) ?_
 refine RS (ok_loadV (s := 1000010) (by decide) Tryz.underlying3 rfl rfl rfl (SC_ix f hmk _ _ _)) ?_
 refine RS (ok_field field32_2 (by decide) rfl) ?_
 refine RS (ok_loadP (s := 1000010) (by decide) Tryz.underlying30 rfl size30 rfl rfl (by simp [rowV_length, hmk]) (SC_non f hmk _ _ _)) ?_
 refine RS (ok_loadA (s := 1000011) (by decide) Tryz.underlying33 rfl (size33.of (by rw [List.length_map, xorK_length, hd])) rfl rfl) ?_
 refine RS (ok_call (ref9Message_fn i s' c hs' hc (xorK f s c 0 d) (by rw [xorK_length, hd]) hi) (A3 rfl rfl rfl)) ?_
 refine RS (ok_str (l := (msgL i s' c (xorK f s c 0 d))) Tryz.underlying49 Tryz.underlying5 Tryz.underlying9 rfl (Le.refl _)) ?_
 refine RA rfl ?_
 refine RN ?_
 refine A.sub (KC 3 rfl (KC 7 rfl (KC 8 rfl (KC 10 rfl (KC 11 rfl (KC 13 rfl (KC 14 rfl (KC 15 rfl (KC 1000003 rfl (KC 1000004 rfl (KC 1000005 rfl (KC 1000007 rfl (KC 1000008 rfl (KC 1000010 rfl (KC 1000011 rfl (KC 1000012 rfl (KC 1900000 rfl (KC 1900001 rfl KN)))))))))))))))))) ?_
 refine GS ?_
 refine TL ?_
 refine RS (ok_loadA (s := 1000010) (by decide) Tryz.underlying32 rfl (size32.of (SC_len f hmk _ _ _)) rfl rfl) ?_
 refine RS (ok_loadA (s := 1000003) (by decide) Tryz.underlying32 rfl (size32.of (SC_len f hmk _ _ _)) rfl rfl) ?_
 refine RS (ok_eqlT (n := 5) false flat32 (by decide) (by kernel_rfl) (by kernel_rfl) rfl rfl (kinS f hmk _ _ _) (kinS f hmk _ _ _) ⟨fun h => (by cases h), fun h => (by have := SC_inj h; exfalso; omega)⟩) ?_
 refine RM rfl ?_
 refine RK ?_
 refine RK ?_
 refine RK ?_
 refine RP rfl rfl ?_
 refine RA rfl ?_
 refine RN ?_
 refine GS ?_
 refine TN 16 ?_
 refine RS (ok_field field32_0 (by decide) rfl) ?_
 refine RS (ok_field field26_0 (by decide) rfl) ?_
 refine RS (ok_loadP (s := 1000010) (by decide) Tryz.underlying22 rfl size22 rfl rfl (by simp [rowV_length, hmk]) (SC_enc f mk _)) ?_
 refine RS (ok_field field32_0 (by decide) rfl) ?_
 refine RS (ok_field field26_1 (by decide) rfl) ?_
 refine RS (ok_loadP (s := 1000010) (by decide) Tryz.underlying24 rfl size24 rfl rfl (by simp [rowV_length, hmk]) (SC_mac f hmk _)) ?_
 refine RS (ok_field field32_1 (by decide) rfl) ?_
 refine RS (ok_loadV (s := 1000010) (by decide) Tryz.underlying3 rfl rfl rfl (SC_ix f hmk _ _ _)) ?_
 refine RS (ok_field field32_2 (by decide) rfl) ?_
 refine RS (ok_loadP (s := 1000010) (by decide) Tryz.underlying30 rfl size30 rfl rfl (by simp [rowV_length, hmk]) (SC_non f hmk _ _ _)) ?_
 refine RS (ok_loadA (s := 1000011) (by decide) Tryz.underlying33 rfl (size33.of (by rw [List.length_map, xorK_length, hd])) rfl rfl) ?_
 refine RS (ok_loadA (s := 1000008) (by decide) Tryz.underlying34 rfl (size34.of (by rw [List.length_map, hmac_length])) rfl rfl) ?_
 refine RS (ok_call (ref9Open_int f mk hf hmk i s' c hs' hc (xorK f s c 0 d) (by rw [xorK_length, hd]) hi (hmac mk (msgL i s c (xorK f s c 0 d))) (hmac_length _ _) h) (Args.cons rfl (Le.refl _) (Args.cons rfl (Le.refl _) (Args.cons rfl (Le.refl _) (A3 rfl rfl rfl))))) ?_
 refine RM rfl ?_
 refine RS (ok_extract rfl rfl) ?_
 refine RS (ok_extract rfl rfl) ?_
 refine RN ?_
 refine ⟨_, _, eff_alloc (n := 159) (d := 17) (k := 1000017) zero33 (by decide), fun b17 hb17 => ?_⟩
 have hBb17 := hb17.1
 have hlt_b4_b17 : b4 < b17 := hb17.2 1000004 _ _ _ rfl
 have hlt_b7_b17 : b7 < b17 := hb17.2 1000007 _ _ _ rfl
 have hlt_b11_b17 : b11 < b17 := hb17.2 1000011 _ _ _ rfl
 have hlt_b12_b17 : b12 < b17 := hb17.2 1000012 _ _ _ rfl
 refine TF 17 ?_
 refine RN ?_
 refine ⟨_, eff_storeA (n := 159) (s := 1000017) (size33.of (rfl)) rfl rfl (rfl) hBb17 rfl (rfl) (LV 13 rfl (LV 14 rfl (LV 15 rfl (LV 16 rfl (LV 135 rfl (LT 1000003 rfl (LB 1000004 rfl (LT 1000005 rfl (LB 1000007 rfl (LT 1000008 rfl (LT 1000010 rfl (LB 1000011 rfl (LB 1000012 rfl (LeftS.cons (t := 1900000) rfl (Surv.tab (by omega)) (LeftS.cons (t := 1900001) rfl (Surv.tab (by omega)) LN))))))))))))))), ?_⟩
 refine TL ?_
 refine RA rfl ?_
 refine RN ?_
 refine A.sub (KC 13 rfl (KC 14 rfl (KC 15 rfl (KC 16 rfl (KC 18 rfl (KC 1000003 rfl (KC 1000004 rfl (KC 1000005 rfl (KC 1000007 rfl (KC 1000008 rfl (KC 1000010 rfl (KC 1000011 rfl (KC 1000012 rfl (KC 1000017 rfl (KC 1900000 rfl (KC 1900001 rfl KN)))))))))))))))) ?_
 refine GS ?_
 refine TL ?_
 refine RM rfl ?_
 refine RM rfl ?_
 refine RS (ok_seq rfl rfl) ?_; refine RZ (.bool false) (congrArg Value.bool (beq_eq_false_iff_ne.2 fun hh => hne (msgL_inj (by omega) (by omega) hs hs' hc hc hh).2.1.symm)) ?_
 refine RM rfl ?_
 refine RS (ok_eqBool Tryz.underlying4 rfl rfl) ?_; refine RZ (.bool true) (by rfl) ?_
 refine RM rfl ?_
 refine RQ (ok_move rfl) ?_
 refine RQ (ok_bin rfl rfl rfl) ?_; refine RZ (.bool false) (by rfl) ?_
 refine RQ (ok_move rfl) ?_
 refine RQ (ok_bin rfl rfl rfl) ?_; refine RZ (.bool false) (by rfl) ?_
 refine RQ (ok_eqBool Tryz.underlying4 rfl rfl) ?_; refine RZ (.bool true) (by rfl) ?_
 refine RP rfl rfl ?_
 refine RM rfl ?_
 refine RQ (ok_move rfl) ?_
 refine RQ (ok_not rfl) ?_; refine RZ (.bool true) (by rfl) ?_
 refine RQ (ok_move rfl) ?_
 refine RK ?_
 refine RK ?_
 refine RQ (ok_pick rfl rfl) ?_
 refine RP rfl rfl ?_
 refine RM rfl ?_
 refine RQ (ok_callM lives9_fn (Sub.cons rfl (Sub.cons rfl KN)) tabs_v Args.nil) ?_
 refine RP rfl rfl ?_
 refine RA rfl ?_
 refine RN ?_
 refine A.ret ?_
 exact End.ret1 rfl rfl (by first | exact Le.refl _ | exact Le.old _ _)
set_option maxHeartbeats 4000000 in
theorem SealsChanged_3_eq (f : Nat → Nat) (mk : List UInt8) (hf : By f) (hmk : mk.length = 32) (i : Nat) (hi : i < 4096) (s c : Nat) (hs : s < 4294967296) (hc : c < 18446744073709551616) (d : List UInt8) (hd : d.length = 32) (z0 z1 z2 : UInt8) (hq : z0.toNat % 4 = 3) (hy2 : (xorK f s c 0 d).set (z1.toNat % 32) ((xorK f s c 0 d).getD (z1.toNat % 32) 0 ^^^ z2) = (xorK f s c 0 d))  : FnM Tryz.prog 5 tabs [.v (aggV (rowV 16 f ++ mk.map byteV ++ [nI i, nW s, nQ c])), .v (aggV (d.map byteV)), .v (aggV ([z0, z1, z2].map byteV))] (.v (.bool true)) := by
 have hz1 := z1.toNat_lt
 refine FnM.of Tryz.func5 rfl (by kernel_rfl) Tryz.ntmps5 (by simp) (by decide) (fun w => [(0, .v (aggV (rowV 16 f ++ mk.map byteV ++ [nI i, nW s, nQ c]))), (1, .v (aggV (d.map byteV))), (2, .v (aggV ([z0, z1, z2].map byteV))), (1900000, tab 0 (H8.list.map u32V)), (1900001, tab 1 (K64.map u32V))]) (fun w => (StartM.v rfl (StartM.v rfl (StartM.v rfl (StartM.m (by simp [tabs]) (by decide) (StartM.m (by simp [tabs]) (by decide) StartM.nil)))))) fun w₀ hM => ?_
 have htab := tabs_hi hM
 refine GS ?_
 refine TN 0 ?_
 refine RN ?_
 refine ⟨_, _, eff_box (n := 159) (d := 3) (k := 1000003) rfl (by decide), fun b3 hb3 => ?_⟩
 have hBb3 := hb3.1
 refine TN 1 ?_
 refine RN ?_
 refine ⟨_, _, eff_box (n := 159) (d := 4) (k := 1000004) rfl (by decide), fun b4 hb4 => ?_⟩
 have hBb4 := hb4.1
 refine TN 2 ?_
 refine RN ?_
 refine ⟨_, _, eff_box (n := 159) (d := 5) (k := 1000005) rfl (by decide), fun b5 hb5 => ?_⟩
 have hBb5 := hb5.1
 refine TL ?_
 refine RA rfl ?_
 refine RN ?_
 refine A.seq ?_
 refine GS ?_
 refine TL ?_
 refine RS (ok_field field32_1 (by decide) rfl) ?_
 refine RS (ok_loadV (s := 1000003) (by decide) Tryz.underlying3 rfl rfl rfl (SC_ix f hmk _ _ _)) ?_
 refine RS (ok_call (bad9_no (i : Int) (by omega) (by omega)) (A1 rfl)) ?_
 refine RN ?_
 refine A.no rfl ?_
 refine A.skip ?_
 refine EN ?_
 refine GS ?_
 refine TN 12 ?_
 refine RS (ok_field field32_0 (by decide) rfl) ?_
 refine RS (ok_loadP (s := 1000003) (by decide) Tryz.underlying26 rfl size26 rfl rfl (by simp [rowV_length, hmk]) (SC_keys f hmk _)) ?_
 refine RS (ok_field field32_1 (by decide) rfl) ?_
 refine RS (ok_loadV (s := 1000003) (by decide) Tryz.underlying3 rfl rfl rfl (SC_ix f hmk _ _ _)) ?_
 refine RS (ok_field field32_2 (by decide) rfl) ?_
 refine RS (ok_loadP (s := 1000003) (by decide) Tryz.underlying30 rfl size30 rfl rfl (by simp [rowV_length, hmk]) (SC_non f hmk _ _ _)) ?_
 refine RS (ok_loadA (s := 1000004) (by decide) Tryz.underlying33 rfl (size33.of (by rw [List.length_map, hd])) rfl rfl) ?_
 refine RS (ok_callM (Seal_ok f mk hf hmk i s c hs hc d hd hi) (Sub.cons rfl (Sub.cons rfl KN)) tabs_v (Args.cons rfl (Le.refl _) (A3 rfl rfl rfl))) ?_
 refine RM rfl ?_
 refine RS (ok_extractV rfl rfl) ?_
 refine RS (ok_extractV rfl rfl) ?_
 refine RS (ok_extractV rfl rfl) ?_
 refine RN ?_
 refine ⟨_, _, eff_alloc (n := 159) (d := 7) (k := 1000007) zero33 (by decide), fun b7 hb7 => ?_⟩
 have hBb7 := hb7.1
 have hlt_b4_b7 : b4 < b7 := hb7.2 1000004 _ _ _ rfl
 refine TN 13 ?_
 refine RN ?_
 refine ⟨_, _, eff_alloc (n := 159) (d := 8) (k := 1000008) zero34 (by decide), fun b8 hb8 => ?_⟩
 have hBb8 := hb8.1
 refine TF 14 ?_
 refine RN ?_
 refine ⟨_, eff_storeA (n := 159) (s := 1000007) (size33.of (by rw [List.length_map, xorK_length, hd])) rfl rfl (all_bytes _) hBb7 rfl (by simp [xorK_length, hd]) (LV 3 rfl (LV 5 rfl (LV 7 rfl (LV 8 rfl (LV 33 rfl (LV 34 rfl (LT 1000003 rfl (LB 1000004 rfl (LT 1000005 rfl (LT 1000008 rfl (LeftS.cons (t := 1900000) rfl (Surv.tab (by omega)) (LeftS.cons (t := 1900001) rfl (Surv.tab (by omega)) LN)))))))))))), ?_⟩
 refine TF 15 ?_
 refine RN ?_
 refine ⟨_, eff_storeA (n := 159) (s := 1000008) (size34.of (by rw [List.length_map, hmac_length])) rfl rfl (all_bytes _) hBb8 rfl (by simp [hmac_length]) (LV 3 rfl (LV 5 rfl (LV 7 rfl (LV 8 rfl (LV 34 rfl (LT 1000003 rfl (LT 1000004 rfl (LT 1000005 rfl (LT 1000007 rfl (LeftS.cons (t := 1900000) rfl (Surv.tab (by omega)) (LeftS.cons (t := 1900001) rfl (Surv.tab (by omega)) LN))))))))))), ?_⟩
 refine TL ?_
 refine RA rfl ?_
 refine RN ?_
 refine A.seq ?_
 refine GS ?_
 refine TL ?_
 refine RM rfl ?_
 refine RBS rfl rfl rfl (.bool false) (by rfl) ?_
 refine RN ?_
 refine A.sub (KC 3 rfl (KC 5 rfl (KC 7 rfl (KC 8 rfl (KC 36 rfl (KC 1000003 rfl (KC 1000004 rfl (KC 1000005 rfl (KC 1000007 rfl (KC 1000008 rfl (KC 1900000 rfl (KC 1900001 rfl KN)))))))))))) ?_
 refine A.no rfl ?_
 refine A.skip ?_
 refine EN ?_
 refine A.regsK [⟨2, 10, 32, List.replicate 16 (.int .u8 0) ++ List.replicate 32 (.int .u8 0) ++ [.int .i64 0] ++ [.int .u32 0] ++ [.int .u64 0], 4, (rowV 16 f ++ mk.map byteV ++ [nI i, nW s, nQ c])⟩, ⟨3, 11, 33, List.replicate 32 (.int .u8 0), 5, (xorK f s c 0 d).map byteV⟩] (by kernel_rfl) (by kernel_rfl) (by kernel_rfl) ?_
 refine KopsK.pure (_) rfl (.inl rfl) FromV.all (fun B' => (ok_loadA (s := 1000003) (by decide) Tryz.underlying32 rfl (size32.of (SC_len f hmk _ _ _)) rfl rfl)) ?_
 refine KopsK.pure (_) rfl (.inl rfl) FromV.all (fun B' => (ok_loadA (s := 1000007) (by decide) Tryz.underlying33 rfl (size33.of (by rw [List.length_map, xorK_length, hd])) rfl rfl)) ?_
 refine KopsK.alloc 0 rfl rfl rfl rfl zero32 rfl ?_
 refine KopsK.alloc 1 rfl rfl rfl rfl zero33 rfl ?_
 refine KopsK.store 0 ((37, .v _) :: _) rfl rfl rfl rfl (by kernel_rfl) (FromV.op 0 (by kernel_rfl) rfl rfl FromV.all) rfl (size32.of (SC_len f hmk _ _ _)) (by simp [rowV_length, hmk]) (SC_one f mk rfl rfl rfl) ?_
 refine KopsK.store 1 ((38, .v _) :: _) rfl rfl rfl rfl (by kernel_rfl) (FromV.op 1 (by kernel_rfl) rfl rfl FromV.all) rfl (size33.of (by rw [List.length_map, xorK_length, hd])) (by simp [xorK_length, hd]) (all_bytes _) ?_
 refine KopsK.nil ⟨by kernel_rfl, _, FromW.all, fun bs hbs hds => ?_⟩
 have hb10 := hbs 0 (by simp)
 have hb11 := hbs 1 (by simp)
 have hne_b10_b11 := hds 0 1 (by simp) (by simp) (by decide)
 dsimp only [varEnv]
 generalize bs 0 = b10 at *
 generalize bs (0 + 1) = b11 at *
 have hBb10 := hb10.1
 have hlt_b3_b10 : b3 < b10 := hb10.2 1000003 _ _ _ rfl
 have hlt_b4_b10 : b4 < b10 := hb10.2 1000004 _ _ _ rfl
 have hlt_b5_b10 : b5 < b10 := hb10.2 1000005 _ _ _ rfl
 have hlt_b7_b10 : b7 < b10 := hb10.2 1000007 _ _ _ rfl
 have hlt_b8_b10 : b8 < b10 := hb10.2 1000008 _ _ _ rfl
 have hBb11 := hb11.1
 have hlt_b3_b11 : b3 < b11 := hb11.2 1000003 _ _ _ rfl
 have hlt_b4_b11 : b4 < b11 := hb11.2 1000004 _ _ _ rfl
 have hlt_b5_b11 : b5 < b11 := hb11.2 1000005 _ _ _ rfl
 have hlt_b7_b11 : b7 < b11 := hb11.2 1000007 _ _ _ rfl
 have hlt_b8_b11 : b8 < b11 := hb11.2 1000008 _ _ _ rfl
 refine A.sub (KC 3 rfl (KC 5 rfl (KC 7 rfl (KC 8 rfl (KC 10 rfl (KC 11 rfl (KC 1000003 rfl (KC 1000004 rfl (KC 1000005 rfl (KC 1000007 rfl (KC 1000008 rfl (KC 1000010 rfl (KC 1000011 rfl (KC 1900000 rfl (KC 1900001 rfl KN))))))))))))))) ?_
 refine A.seq ?_
 refine GS ?_
 refine TL ?_
 refine RS (ok_index0 (0) Tryz.underlying48 info5 rfl rfl (rfl) (by decide)) ?_
 refine RS (ok_loadV (s := 1000005) (by decide) Tryz.underlying5 rfl rfl rfl (rfl)) ?_; refine RZ (byteV z0) (by rfl) ?_
 refine RS (ok_rem rfl rfl (by decide)) ?_; refine RZ (.int .u8 3) (by rw [tmod_lit _ (by decide), show Int.toNat 4 = 4 from rfl, hq]; rfl) ?_
 refine RN ?_
 refine A.block ?_
 refine GS ?_
 refine TL ?_
 refine RBS rfl rfl rfl (.bool false) (by rfl) ?_
 refine RA rfl ?_
 refine RN ?_
 refine A.no rfl ?_
 refine GS ?_
 refine TL ?_
 refine RBS rfl rfl rfl (.bool false) (by rfl) ?_
 refine RA rfl ?_
 refine RN ?_
 refine A.no rfl ?_
 refine GS ?_
 refine TL ?_
 refine RBS rfl rfl rfl (.bool false) (by rfl) ?_
 refine RA rfl ?_
 refine RN ?_
 refine A.no rfl ?_
 refine GS ?_
 refine TL ?_
 refine RBS rfl rfl rfl (.bool true) (by rfl) ?_
 refine RA rfl ?_
 refine RN ?_
 refine A.yes rfl ?_
 refine A.reg (by kernel_rfl) (by kernel_rfl) (.inr (by kernel_rfl)) ?_
 refine TD 10 ?_
 refine RS (ok_index0 (1) Tryz.underlying48 info5 rfl rfl (rfl) (by decide)) ?_
 refine RS (ok_loadV (s := 1000005) (by decide) Tryz.underlying5 rfl rfl rfl (rfl)) ?_; refine RZ (byteV z1) (by rfl) ?_
 refine RS (ok_rem rfl rfl (by decide)) ?_; refine RZ (nB ((z1.toNat % 32))) (by rw [tmod_lit _ (by decide)]; rfl) ?_
 refine RS (ok_conv Tryz.underlying5 Tryz.underlying3 rfl) ?_; refine RZ (nI ((z1.toNat % 32))) (by rw [wrapN_i64 (by omega)]) ?_
 refine RS (ok_index0 ((z1.toNat % 32)) Tryz.underlying33 info5 rfl rfl (rfl) (by omega)) ?_
 refine RS (ok_loadV (s := 1000011) (by decide) Tryz.underlying5 rfl rfl rfl (map_getB (by rw [xorK_length, hd]; omega))) ?_
 refine RS (ok_index0 (2) Tryz.underlying48 info5 rfl rfl (rfl) (by decide)) ?_
 refine RS (ok_loadV (s := 1000005) (by decide) Tryz.underlying5 rfl rfl rfl (rfl)) ?_; refine RZ (byteV z2) (by rfl) ?_
 refine RBS rfl rfl rfl (byteV ((xorK f s c 0 d).getD (z1.toNat % 32) 0 ^^^ z2)) (congrArg (Value.int .u8) (xor_u8_nat ((xorK f s c 0 d).getD (z1.toNat % 32) 0) z2)) ?_
 refine RS (ok_index0 ((z1.toNat % 32)) Tryz.underlying33 info5 rfl rfl (rfl) (by omega)) ?_
 refine RN ?_
 refine ⟨_, eff_storeS (n := 159) (s := 1000011) info5 rfl rfl rfl hBb11 rfl (by rw [List.length_map, xorK_length, hd]; omega) (LV 3 rfl (LV 7 rfl (LV 8 rfl (LV 10 rfl (LV 11 rfl (LT 1000003 rfl (LB 1000004 rfl (LT 1000005 rfl (LB 1000007 rfl (LT 1000008 rfl (LT 1000010 rfl (LeftS.cons (t := 1900000) rfl (Surv.tab (by omega)) (LeftS.cons (t := 1900001) rfl (Surv.tab (by omega)) LN))))))))))))), ?_⟩
 refine TL ?_
 refine RN ?_
 refine End.sub (KC 3 rfl (KC 7 rfl (KC 8 rfl (KC 10 rfl (KC 11 rfl (KC 1000003 rfl (KC 1000004 rfl (KC 1000005 rfl (KC 1000007 rfl (KC 1000008 rfl (KC 1000010 rfl (KE 1000011 rfl (show _ = blk b11 33 ((xorK f s c 0 d).map byteV) from congrArg _ (by rw [← List.map_set]; exact congrArg (List.map byteV) hy2)) (KC 1900000 rfl (KC 1900001 rfl KN)))))))))))))) ?_
 refine End.normal_block ?_
 refine EN ?_
 refine GS ?_
 refine TN 12 ?_
 refine RS (ok_field field32_0 (by decide) rfl) ?_
 refine RS (ok_loadP (s := 1000010) (by decide) Tryz.underlying26 rfl size26 rfl rfl (by simp [rowV_length, hmk]) (SC_keys f hmk _)) ?_
 refine RS (ok_field field32_1 (by decide) rfl) ?_
 refine RS (ok_loadV (s := 1000010) (by decide) Tryz.underlying3 rfl rfl rfl (SC_ix f hmk _ _ _)) ?_
 refine RS (ok_field field32_2 (by decide) rfl) ?_
 refine RS (ok_loadP (s := 1000010) (by decide) Tryz.underlying30 rfl size30 rfl rfl (by simp [rowV_length, hmk]) (SC_non f hmk _ _ _)) ?_
 refine RS (ok_loadA (s := 1000011) (by decide) Tryz.underlying33 rfl (size33.of (by rw [List.length_map, xorK_length, hd])) rfl rfl) ?_
 refine RS (ok_loadA (s := 1000008) (by decide) Tryz.underlying34 rfl (size34.of (by rw [List.length_map, hmac_length])) rfl rfl) ?_
 refine RS (ok_callM (Open_ok f mk hf hmk i s c hs hc (xorK f s c 0 d) (by rw [xorK_length, hd]) hi (hmac mk (msgL i s c (xorK f s c 0 d))) (hmac_length _ _) rfl) (Sub.cons rfl (Sub.cons rfl KN)) tabs_v (Args.cons rfl (Le.refl _) (Args.cons rfl (Le.refl _) (A3 rfl rfl rfl)))) ?_
 refine RM rfl ?_
 refine RS (ok_extractV rfl rfl) ?_
 refine RS (ok_extractV rfl rfl) ?_
 refine RN ?_
 refine ⟨_, _, eff_alloc (n := 159) (d := 12) (k := 1000012) zero33 (by decide), fun b12 hb12 => ?_⟩
 have hBb12 := hb12.1
 have hlt_b4_b12 : b4 < b12 := hb12.2 1000004 _ _ _ rfl
 have hlt_b7_b12 : b7 < b12 := hb12.2 1000007 _ _ _ rfl
 have hlt_b11_b12 : b11 < b12 := hb12.2 1000011 _ _ _ rfl
 refine TF 13 ?_
 refine RN ?_
 refine ⟨_, eff_storeA (n := 159) (s := 1000012) (size33.of (by simp [xorK_length, hd])) rfl rfl (all_bytes _) hBb12 rfl (by simp [xorK_length, hd]) (LV 3 rfl (LV 7 rfl (LV 8 rfl (LV 10 rfl (LV 11 rfl (LV 97 rfl (LT 1000003 rfl (LB 1000004 rfl (LT 1000005 rfl (LB 1000007 rfl (LT 1000008 rfl (LT 1000010 rfl (LB 1000011 rfl (LeftS.cons (t := 1900000) rfl (Surv.tab (by omega)) (LeftS.cons (t := 1900001) rfl (Surv.tab (by omega)) LN))))))))))))))), ?_⟩
 refine TL ?_
 refine RA rfl ?_
 refine RN ?_
 refine GS ?_
 refine TL ?_
 refine RS (ok_field field32_1 (by decide) rfl) ?_
 refine RS (ok_loadV (s := 1000003) (by decide) Tryz.underlying3 rfl rfl rfl (SC_ix f hmk _ _ _)) ?_
 refine RS (ok_field field32_2 (by decide) rfl) ?_
 refine RS (ok_loadP (s := 1000003) (by decide) Tryz.underlying30 rfl size30 rfl rfl (by simp [rowV_length, hmk]) (SC_non f hmk _ _ _)) ?_
 refine RS (ok_loadA (s := 1000007) (by decide) Tryz.underlying33 rfl (size33.of (by rw [List.length_map, xorK_length, hd])) rfl rfl) ?_
 refine RS (ok_call (ref9Message_fn i s c hs hc (xorK f s c 0 d) (by rw [xorK_length, hd]) hi) (A3 rfl rfl rfl)) ?_
 refine RS (ok_str (l := (msgL i s c (xorK f s c 0 d))) Tryz.underlying49 Tryz.underlying5 Tryz.underlying9 rfl (Le.refl _)) ?_
 refine RA rfl ?_
 refine RN ?_
 refine GS ?_
 refine TL ?_
 refine RS (ok_field field32_1 (by decide) rfl) ?_
 refine RS (ok_loadV (s := 1000010) (by decide) Tryz.underlying3 rfl rfl rfl (SC_ix f hmk _ _ _)) ?_
 refine RS (ok_field field32_2 (by decide) rfl) ?_
 refine RS (ok_loadP (s := 1000010) (by decide) Tryz.underlying30 rfl size30 rfl rfl (by simp [rowV_length, hmk]) (SC_non f hmk _ _ _)) ?_
 refine RS (ok_loadA (s := 1000011) (by decide) Tryz.underlying33 rfl (size33.of (by rw [List.length_map, xorK_length, hd])) rfl rfl) ?_
 refine RS (ok_call (ref9Message_fn i s c hs hc (xorK f s c 0 d) (by rw [xorK_length, hd]) hi) (A3 rfl rfl rfl)) ?_
 refine RS (ok_str (l := (msgL i s c (xorK f s c 0 d))) Tryz.underlying49 Tryz.underlying5 Tryz.underlying9 rfl (Le.refl _)) ?_
 refine RA rfl ?_
 refine RN ?_
 refine A.sub (KC 3 rfl (KC 7 rfl (KC 8 rfl (KC 10 rfl (KC 11 rfl (KC 13 rfl (KC 14 rfl (KC 15 rfl (KC 1000003 rfl (KC 1000004 rfl (KC 1000005 rfl (KC 1000007 rfl (KC 1000008 rfl (KC 1000010 rfl (KC 1000011 rfl (KC 1000012 rfl (KC 1900000 rfl (KC 1900001 rfl KN)))))))))))))))))) ?_
 refine GS ?_
 refine TL ?_
 refine RS (ok_loadA (s := 1000010) (by decide) Tryz.underlying32 rfl (size32.of (SC_len f hmk _ _ _)) rfl rfl) ?_
 refine RS (ok_loadA (s := 1000003) (by decide) Tryz.underlying32 rfl (size32.of (SC_len f hmk _ _ _)) rfl rfl) ?_
 refine RS (ok_eqlT (n := 5) true flat32 (by decide) (by kernel_rfl) (by kernel_rfl) rfl rfl (kinS f hmk _ _ _) (kinS f hmk _ _ _) ⟨fun _ => rfl, fun _ => rfl⟩) ?_
 refine RM rfl ?_
 refine RQ (ok_loadA (s := 1000011) (by decide) Tryz.underlying33 rfl (size33.of (by rw [List.length_map, xorK_length, hd])) rfl rfl) ?_
 refine RQ (ok_loadA (s := 1000007) (by decide) Tryz.underlying33 rfl (size33.of (by rw [List.length_map, xorK_length, hd])) rfl rfl) ?_
 refine RQ (ok_eqlT (n := 3) true flat33 (by decide) (by kernel_rfl) (by kernel_rfl) rfl rfl (kinB (by rw [xorK_length, hd])) (kinB (by rw [xorK_length, hd])) ⟨fun _ => rfl, fun _ => rfl⟩) ?_; refine RZ (.bool true) (by rfl) ?_
 refine RP rfl rfl ?_
 refine RA rfl ?_
 refine RN ?_
 refine GS ?_
 refine TN 16 ?_
 refine RS (ok_field field32_0 (by decide) rfl) ?_
 refine RS (ok_field field26_0 (by decide) rfl) ?_
 refine RS (ok_loadP (s := 1000010) (by decide) Tryz.underlying22 rfl size22 rfl rfl (by simp [rowV_length, hmk]) (SC_enc f mk _)) ?_
 refine RS (ok_field field32_0 (by decide) rfl) ?_
 refine RS (ok_field field26_1 (by decide) rfl) ?_
 refine RS (ok_loadP (s := 1000010) (by decide) Tryz.underlying24 rfl size24 rfl rfl (by simp [rowV_length, hmk]) (SC_mac f hmk _)) ?_
 refine RS (ok_field field32_1 (by decide) rfl) ?_
 refine RS (ok_loadV (s := 1000010) (by decide) Tryz.underlying3 rfl rfl rfl (SC_ix f hmk _ _ _)) ?_
 refine RS (ok_field field32_2 (by decide) rfl) ?_
 refine RS (ok_loadP (s := 1000010) (by decide) Tryz.underlying30 rfl size30 rfl rfl (by simp [rowV_length, hmk]) (SC_non f hmk _ _ _)) ?_
 refine RS (ok_loadA (s := 1000011) (by decide) Tryz.underlying33 rfl (size33.of (by rw [List.length_map, xorK_length, hd])) rfl rfl) ?_
 refine RS (ok_loadA (s := 1000008) (by decide) Tryz.underlying34 rfl (size34.of (by rw [List.length_map, hmac_length])) rfl rfl) ?_
 refine RS (ok_call (ref9Open_ok f mk hf hmk i s c hs hc (xorK f s c 0 d) (by rw [xorK_length, hd]) hi (hmac mk (msgL i s c (xorK f s c 0 d))) (hmac_length _ _) rfl) (Args.cons rfl (Le.refl _) (Args.cons rfl (Le.refl _) (Args.cons rfl (Le.refl _) (A3 rfl rfl rfl))))) ?_
 refine RM rfl ?_
 refine RS (ok_extract rfl rfl) ?_
 refine RS (ok_extract rfl rfl) ?_
 refine RN ?_
 refine ⟨_, _, eff_alloc (n := 159) (d := 17) (k := 1000017) zero33 (by decide), fun b17 hb17 => ?_⟩
 have hBb17 := hb17.1
 have hlt_b4_b17 : b4 < b17 := hb17.2 1000004 _ _ _ rfl
 have hlt_b7_b17 : b7 < b17 := hb17.2 1000007 _ _ _ rfl
 have hlt_b11_b17 : b11 < b17 := hb17.2 1000011 _ _ _ rfl
 have hlt_b12_b17 : b12 < b17 := hb17.2 1000012 _ _ _ rfl
 refine TF 17 ?_
 refine RN ?_
 refine ⟨_, eff_storeA (n := 159) (s := 1000017) (size33.of (by simp [xorK_length, hd])) rfl rfl (all_bytes _) hBb17 rfl (by simp [xorK_length, hd]) (LV 13 rfl (LV 14 rfl (LV 15 rfl (LV 16 rfl (LV 135 rfl (LT 1000003 rfl (LB 1000004 rfl (LT 1000005 rfl (LB 1000007 rfl (LT 1000008 rfl (LT 1000010 rfl (LB 1000011 rfl (LB 1000012 rfl (LeftS.cons (t := 1900000) rfl (Surv.tab (by omega)) (LeftS.cons (t := 1900001) rfl (Surv.tab (by omega)) LN))))))))))))))), ?_⟩
 refine TL ?_
 refine RA rfl ?_
 refine RN ?_
 refine A.sub (KC 13 rfl (KC 14 rfl (KC 15 rfl (KC 16 rfl (KC 18 rfl (KC 1000003 rfl (KC 1000004 rfl (KC 1000005 rfl (KC 1000007 rfl (KC 1000008 rfl (KC 1000010 rfl (KC 1000011 rfl (KC 1000012 rfl (KC 1000017 rfl (KC 1900000 rfl (KC 1900001 rfl KN)))))))))))))))) ?_
 refine GS ?_
 refine TL ?_
 refine RM rfl ?_
 refine RM rfl ?_
 refine RS (ok_seq rfl rfl) ?_; refine RZ (.bool true) (by simp) ?_
 refine RM rfl ?_
 refine RS (ok_eqBool Tryz.underlying4 rfl rfl) ?_; refine RZ (.bool true) (by rfl) ?_
 refine RM rfl ?_
 refine RQ (ok_move rfl) ?_
 refine RQ (ok_bin rfl rfl rfl) ?_; refine RZ (.bool true) (by rfl) ?_
 refine RQ (ok_move rfl) ?_
 refine RQ (ok_bin rfl rfl rfl) ?_; refine RZ (.bool true) (by rfl) ?_
 refine RQ (ok_eqBool Tryz.underlying4 rfl rfl) ?_; refine RZ (.bool true) (by rfl) ?_
 refine RP rfl rfl ?_
 refine RM rfl ?_
 refine RQ (ok_move rfl) ?_
 refine RQ (ok_not rfl) ?_; refine RZ (.bool false) (by rfl) ?_
 refine RQ (ok_move rfl) ?_
 refine RQ (ok_move rfl) ?_
 refine RQ (ok_bin rfl rfl rfl) ?_; refine RZ (.bool true) (by rfl) ?_
 refine RQ (ok_pick rfl rfl) ?_
 refine RP rfl rfl ?_
 refine RM rfl ?_
 refine RQ (ok_callM lives9_fn (Sub.cons rfl (Sub.cons rfl KN)) tabs_v Args.nil) ?_
 refine RP rfl rfl ?_
 refine RA rfl ?_
 refine RN ?_
 refine A.ret ?_
 exact End.ret1 rfl rfl (by first | exact Le.refl _ | exact Le.old _ _)
set_option maxHeartbeats 4000000 in
theorem SealsChanged_3_da_ok (f : Nat → Nat) (mk : List UInt8) (hf : By f) (hmk : mk.length = 32) (i : Nat) (hi : i < 4096) (s c : Nat) (hs : s < 4294967296) (hc : c < 18446744073709551616) (d : List UInt8) (hd : d.length = 32) (z0 z1 z2 : UInt8) (hq : z0.toNat % 4 = 3) (y : List UInt8) (hy2 : (xorK f s c 0 d).set (z1.toNat % 32) ((xorK f s c 0 d).getD (z1.toNat % 32) 0 ^^^ z2) = y) (hyl : y.length = 32) (hne : y ≠ (xorK f s c 0 d)) (h : (hmac mk (msgL i s c (xorK f s c 0 d))) = (hmac mk (msgL i s c y)))  : FnM Tryz.prog 5 tabs [.v (aggV (rowV 16 f ++ mk.map byteV ++ [nI i, nW s, nQ c])), .v (aggV (d.map byteV)), .v (aggV ([z0, z1, z2].map byteV))] (.v (.bool true)) := by
 have hz1 := z1.toNat_lt
 refine FnM.of Tryz.func5 rfl (by kernel_rfl) Tryz.ntmps5 (by simp) (by decide) (fun w => [(0, .v (aggV (rowV 16 f ++ mk.map byteV ++ [nI i, nW s, nQ c]))), (1, .v (aggV (d.map byteV))), (2, .v (aggV ([z0, z1, z2].map byteV))), (1900000, tab 0 (H8.list.map u32V)), (1900001, tab 1 (K64.map u32V))]) (fun w => (StartM.v rfl (StartM.v rfl (StartM.v rfl (StartM.m (by simp [tabs]) (by decide) (StartM.m (by simp [tabs]) (by decide) StartM.nil)))))) fun w₀ hM => ?_
 have htab := tabs_hi hM
 refine GS ?_
 refine TN 0 ?_
 refine RN ?_
 refine ⟨_, _, eff_box (n := 159) (d := 3) (k := 1000003) rfl (by decide), fun b3 hb3 => ?_⟩
 have hBb3 := hb3.1
 refine TN 1 ?_
 refine RN ?_
 refine ⟨_, _, eff_box (n := 159) (d := 4) (k := 1000004) rfl (by decide), fun b4 hb4 => ?_⟩
 have hBb4 := hb4.1
 refine TN 2 ?_
 refine RN ?_
 refine ⟨_, _, eff_box (n := 159) (d := 5) (k := 1000005) rfl (by decide), fun b5 hb5 => ?_⟩
 have hBb5 := hb5.1
 refine TL ?_
 refine RA rfl ?_
 refine RN ?_
 refine A.seq ?_
 refine GS ?_
 refine TL ?_
 refine RS (ok_field field32_1 (by decide) rfl) ?_
 refine RS (ok_loadV (s := 1000003) (by decide) Tryz.underlying3 rfl rfl rfl (SC_ix f hmk _ _ _)) ?_
 refine RS (ok_call (bad9_no (i : Int) (by omega) (by omega)) (A1 rfl)) ?_
 refine RN ?_
 refine A.no rfl ?_
 refine A.skip ?_
 refine EN ?_
 refine GS ?_
 refine TN 12 ?_
 refine RS (ok_field field32_0 (by decide) rfl) ?_
 refine RS (ok_loadP (s := 1000003) (by decide) Tryz.underlying26 rfl size26 rfl rfl (by simp [rowV_length, hmk]) (SC_keys f hmk _)) ?_
 refine RS (ok_field field32_1 (by decide) rfl) ?_
 refine RS (ok_loadV (s := 1000003) (by decide) Tryz.underlying3 rfl rfl rfl (SC_ix f hmk _ _ _)) ?_
 refine RS (ok_field field32_2 (by decide) rfl) ?_
 refine RS (ok_loadP (s := 1000003) (by decide) Tryz.underlying30 rfl size30 rfl rfl (by simp [rowV_length, hmk]) (SC_non f hmk _ _ _)) ?_
 refine RS (ok_loadA (s := 1000004) (by decide) Tryz.underlying33 rfl (size33.of (by rw [List.length_map, hd])) rfl rfl) ?_
 refine RS (ok_callM (Seal_ok f mk hf hmk i s c hs hc d hd hi) (Sub.cons rfl (Sub.cons rfl KN)) tabs_v (Args.cons rfl (Le.refl _) (A3 rfl rfl rfl))) ?_
 refine RM rfl ?_
 refine RS (ok_extractV rfl rfl) ?_
 refine RS (ok_extractV rfl rfl) ?_
 refine RS (ok_extractV rfl rfl) ?_
 refine RN ?_
 refine ⟨_, _, eff_alloc (n := 159) (d := 7) (k := 1000007) zero33 (by decide), fun b7 hb7 => ?_⟩
 have hBb7 := hb7.1
 have hlt_b4_b7 : b4 < b7 := hb7.2 1000004 _ _ _ rfl
 refine TN 13 ?_
 refine RN ?_
 refine ⟨_, _, eff_alloc (n := 159) (d := 8) (k := 1000008) zero34 (by decide), fun b8 hb8 => ?_⟩
 have hBb8 := hb8.1
 refine TF 14 ?_
 refine RN ?_
 refine ⟨_, eff_storeA (n := 159) (s := 1000007) (size33.of (by rw [List.length_map, xorK_length, hd])) rfl rfl (all_bytes _) hBb7 rfl (by simp [xorK_length, hd]) (LV 3 rfl (LV 5 rfl (LV 7 rfl (LV 8 rfl (LV 33 rfl (LV 34 rfl (LT 1000003 rfl (LB 1000004 rfl (LT 1000005 rfl (LT 1000008 rfl (LeftS.cons (t := 1900000) rfl (Surv.tab (by omega)) (LeftS.cons (t := 1900001) rfl (Surv.tab (by omega)) LN)))))))))))), ?_⟩
 refine TF 15 ?_
 refine RN ?_
 refine ⟨_, eff_storeA (n := 159) (s := 1000008) (size34.of (by rw [List.length_map, hmac_length])) rfl rfl (all_bytes _) hBb8 rfl (by simp [hmac_length]) (LV 3 rfl (LV 5 rfl (LV 7 rfl (LV 8 rfl (LV 34 rfl (LT 1000003 rfl (LT 1000004 rfl (LT 1000005 rfl (LT 1000007 rfl (LeftS.cons (t := 1900000) rfl (Surv.tab (by omega)) (LeftS.cons (t := 1900001) rfl (Surv.tab (by omega)) LN))))))))))), ?_⟩
 refine TL ?_
 refine RA rfl ?_
 refine RN ?_
 refine A.seq ?_
 refine GS ?_
 refine TL ?_
 refine RM rfl ?_
 refine RBS rfl rfl rfl (.bool false) (by rfl) ?_
 refine RN ?_
 refine A.sub (KC 3 rfl (KC 5 rfl (KC 7 rfl (KC 8 rfl (KC 36 rfl (KC 1000003 rfl (KC 1000004 rfl (KC 1000005 rfl (KC 1000007 rfl (KC 1000008 rfl (KC 1900000 rfl (KC 1900001 rfl KN)))))))))))) ?_
 refine A.no rfl ?_
 refine A.skip ?_
 refine EN ?_
 refine A.regsK [⟨2, 10, 32, List.replicate 16 (.int .u8 0) ++ List.replicate 32 (.int .u8 0) ++ [.int .i64 0] ++ [.int .u32 0] ++ [.int .u64 0], 4, (rowV 16 f ++ mk.map byteV ++ [nI i, nW s, nQ c])⟩, ⟨3, 11, 33, List.replicate 32 (.int .u8 0), 5, (xorK f s c 0 d).map byteV⟩] (by kernel_rfl) (by kernel_rfl) (by kernel_rfl) ?_
 refine KopsK.pure (_) rfl (.inl rfl) FromV.all (fun B' => (ok_loadA (s := 1000003) (by decide) Tryz.underlying32 rfl (size32.of (SC_len f hmk _ _ _)) rfl rfl)) ?_
 refine KopsK.pure (_) rfl (.inl rfl) FromV.all (fun B' => (ok_loadA (s := 1000007) (by decide) Tryz.underlying33 rfl (size33.of (by rw [List.length_map, xorK_length, hd])) rfl rfl)) ?_
 refine KopsK.alloc 0 rfl rfl rfl rfl zero32 rfl ?_
 refine KopsK.alloc 1 rfl rfl rfl rfl zero33 rfl ?_
 refine KopsK.store 0 ((37, .v _) :: _) rfl rfl rfl rfl (by kernel_rfl) (FromV.op 0 (by kernel_rfl) rfl rfl FromV.all) rfl (size32.of (SC_len f hmk _ _ _)) (by simp [rowV_length, hmk]) (SC_one f mk rfl rfl rfl) ?_
 refine KopsK.store 1 ((38, .v _) :: _) rfl rfl rfl rfl (by kernel_rfl) (FromV.op 1 (by kernel_rfl) rfl rfl FromV.all) rfl (size33.of (by rw [List.length_map, xorK_length, hd])) (by simp [xorK_length, hd]) (all_bytes _) ?_
 refine KopsK.nil ⟨by kernel_rfl, _, FromW.all, fun bs hbs hds => ?_⟩
 have hb10 := hbs 0 (by simp)
 have hb11 := hbs 1 (by simp)
 have hne_b10_b11 := hds 0 1 (by simp) (by simp) (by decide)
 dsimp only [varEnv]
 generalize bs 0 = b10 at *
 generalize bs (0 + 1) = b11 at *
 have hBb10 := hb10.1
 have hlt_b3_b10 : b3 < b10 := hb10.2 1000003 _ _ _ rfl
 have hlt_b4_b10 : b4 < b10 := hb10.2 1000004 _ _ _ rfl
 have hlt_b5_b10 : b5 < b10 := hb10.2 1000005 _ _ _ rfl
 have hlt_b7_b10 : b7 < b10 := hb10.2 1000007 _ _ _ rfl
 have hlt_b8_b10 : b8 < b10 := hb10.2 1000008 _ _ _ rfl
 have hBb11 := hb11.1
 have hlt_b3_b11 : b3 < b11 := hb11.2 1000003 _ _ _ rfl
 have hlt_b4_b11 : b4 < b11 := hb11.2 1000004 _ _ _ rfl
 have hlt_b5_b11 : b5 < b11 := hb11.2 1000005 _ _ _ rfl
 have hlt_b7_b11 : b7 < b11 := hb11.2 1000007 _ _ _ rfl
 have hlt_b8_b11 : b8 < b11 := hb11.2 1000008 _ _ _ rfl
 refine A.sub (KC 3 rfl (KC 5 rfl (KC 7 rfl (KC 8 rfl (KC 10 rfl (KC 11 rfl (KC 1000003 rfl (KC 1000004 rfl (KC 1000005 rfl (KC 1000007 rfl (KC 1000008 rfl (KC 1000010 rfl (KC 1000011 rfl (KC 1900000 rfl (KC 1900001 rfl KN))))))))))))))) ?_
 refine A.seq ?_
 refine GS ?_
 refine TL ?_
 refine RS (ok_index0 (0) Tryz.underlying48 info5 rfl rfl (rfl) (by decide)) ?_
 refine RS (ok_loadV (s := 1000005) (by decide) Tryz.underlying5 rfl rfl rfl (rfl)) ?_; refine RZ (byteV z0) (by rfl) ?_
 refine RS (ok_rem rfl rfl (by decide)) ?_; refine RZ (.int .u8 3) (by rw [tmod_lit _ (by decide), show Int.toNat 4 = 4 from rfl, hq]; rfl) ?_
 refine RN ?_
 refine A.block ?_
 refine GS ?_
 refine TL ?_
 refine RBS rfl rfl rfl (.bool false) (by rfl) ?_
 refine RA rfl ?_
 refine RN ?_
 refine A.no rfl ?_
 refine GS ?_
 refine TL ?_
 refine RBS rfl rfl rfl (.bool false) (by rfl) ?_
 refine RA rfl ?_
 refine RN ?_
 refine A.no rfl ?_
 refine GS ?_
 refine TL ?_
 refine RBS rfl rfl rfl (.bool false) (by rfl) ?_
 refine RA rfl ?_
 refine RN ?_
 refine A.no rfl ?_
 refine GS ?_
 refine TL ?_
 refine RBS rfl rfl rfl (.bool true) (by rfl) ?_
 refine RA rfl ?_
 refine RN ?_
 refine A.yes rfl ?_
 refine A.reg (by kernel_rfl) (by kernel_rfl) (.inr (by kernel_rfl)) ?_
 refine TD 10 ?_
 refine RS (ok_index0 (1) Tryz.underlying48 info5 rfl rfl (rfl) (by decide)) ?_
 refine RS (ok_loadV (s := 1000005) (by decide) Tryz.underlying5 rfl rfl rfl (rfl)) ?_; refine RZ (byteV z1) (by rfl) ?_
 refine RS (ok_rem rfl rfl (by decide)) ?_; refine RZ (nB ((z1.toNat % 32))) (by rw [tmod_lit _ (by decide)]; rfl) ?_
 refine RS (ok_conv Tryz.underlying5 Tryz.underlying3 rfl) ?_; refine RZ (nI ((z1.toNat % 32))) (by rw [wrapN_i64 (by omega)]) ?_
 refine RS (ok_index0 ((z1.toNat % 32)) Tryz.underlying33 info5 rfl rfl (rfl) (by omega)) ?_
 refine RS (ok_loadV (s := 1000011) (by decide) Tryz.underlying5 rfl rfl rfl (map_getB (by rw [xorK_length, hd]; omega))) ?_
 refine RS (ok_index0 (2) Tryz.underlying48 info5 rfl rfl (rfl) (by decide)) ?_
 refine RS (ok_loadV (s := 1000005) (by decide) Tryz.underlying5 rfl rfl rfl (rfl)) ?_; refine RZ (byteV z2) (by rfl) ?_
 refine RBS rfl rfl rfl (byteV ((xorK f s c 0 d).getD (z1.toNat % 32) 0 ^^^ z2)) (congrArg (Value.int .u8) (xor_u8_nat ((xorK f s c 0 d).getD (z1.toNat % 32) 0) z2)) ?_
 refine RS (ok_index0 ((z1.toNat % 32)) Tryz.underlying33 info5 rfl rfl (rfl) (by omega)) ?_
 refine RN ?_
 refine ⟨_, eff_storeS (n := 159) (s := 1000011) info5 rfl rfl rfl hBb11 rfl (by rw [List.length_map, xorK_length, hd]; omega) (LV 3 rfl (LV 7 rfl (LV 8 rfl (LV 10 rfl (LV 11 rfl (LT 1000003 rfl (LB 1000004 rfl (LT 1000005 rfl (LB 1000007 rfl (LT 1000008 rfl (LT 1000010 rfl (LeftS.cons (t := 1900000) rfl (Surv.tab (by omega)) (LeftS.cons (t := 1900001) rfl (Surv.tab (by omega)) LN))))))))))))), ?_⟩
 refine TL ?_
 refine RN ?_
 refine End.sub (KC 3 rfl (KC 7 rfl (KC 8 rfl (KC 10 rfl (KC 11 rfl (KC 1000003 rfl (KC 1000004 rfl (KC 1000005 rfl (KC 1000007 rfl (KC 1000008 rfl (KC 1000010 rfl (KE 1000011 rfl (show _ = blk b11 33 (y.map byteV) from congrArg _ (by rw [← List.map_set]; exact congrArg (List.map byteV) hy2)) (KC 1900000 rfl (KC 1900001 rfl KN)))))))))))))) ?_
 refine End.normal_block ?_
 refine EN ?_
 refine GS ?_
 refine TN 12 ?_
 refine RS (ok_field field32_0 (by decide) rfl) ?_
 refine RS (ok_loadP (s := 1000010) (by decide) Tryz.underlying26 rfl size26 rfl rfl (by simp [rowV_length, hmk]) (SC_keys f hmk _)) ?_
 refine RS (ok_field field32_1 (by decide) rfl) ?_
 refine RS (ok_loadV (s := 1000010) (by decide) Tryz.underlying3 rfl rfl rfl (SC_ix f hmk _ _ _)) ?_
 refine RS (ok_field field32_2 (by decide) rfl) ?_
 refine RS (ok_loadP (s := 1000010) (by decide) Tryz.underlying30 rfl size30 rfl rfl (by simp [rowV_length, hmk]) (SC_non f hmk _ _ _)) ?_
 refine RS (ok_loadA (s := 1000011) (by decide) Tryz.underlying33 rfl (size33.of (by rw [List.length_map, hyl])) rfl rfl) ?_
 refine RS (ok_loadA (s := 1000008) (by decide) Tryz.underlying34 rfl (size34.of (by rw [List.length_map, hmac_length])) rfl rfl) ?_
 refine RS (ok_callM (Open_ok f mk hf hmk i s c hs hc y hyl hi (hmac mk (msgL i s c (xorK f s c 0 d))) (hmac_length _ _) h) (Sub.cons rfl (Sub.cons rfl KN)) tabs_v (Args.cons rfl (Le.refl _) (Args.cons rfl (Le.refl _) (A3 rfl rfl rfl)))) ?_
 refine RM rfl ?_
 refine RS (ok_extractV rfl rfl) ?_
 refine RS (ok_extractV rfl rfl) ?_
 refine RN ?_
 refine ⟨_, _, eff_alloc (n := 159) (d := 12) (k := 1000012) zero33 (by decide), fun b12 hb12 => ?_⟩
 have hBb12 := hb12.1
 have hlt_b4_b12 : b4 < b12 := hb12.2 1000004 _ _ _ rfl
 have hlt_b7_b12 : b7 < b12 := hb12.2 1000007 _ _ _ rfl
 have hlt_b11_b12 : b11 < b12 := hb12.2 1000011 _ _ _ rfl
 refine TF 13 ?_
 refine RN ?_
 refine ⟨_, eff_storeA (n := 159) (s := 1000012) (size33.of (by simp [xorK_length, hyl])) rfl rfl (all_bytes _) hBb12 rfl (by simp [xorK_length, hyl]) (LV 3 rfl (LV 7 rfl (LV 8 rfl (LV 10 rfl (LV 11 rfl (LV 97 rfl (LT 1000003 rfl (LB 1000004 rfl (LT 1000005 rfl (LB 1000007 rfl (LT 1000008 rfl (LT 1000010 rfl (LB 1000011 rfl (LeftS.cons (t := 1900000) rfl (Surv.tab (by omega)) (LeftS.cons (t := 1900001) rfl (Surv.tab (by omega)) LN))))))))))))))), ?_⟩
 refine TL ?_
 refine RA rfl ?_
 refine RN ?_
 refine GS ?_
 refine TL ?_
 refine RS (ok_field field32_1 (by decide) rfl) ?_
 refine RS (ok_loadV (s := 1000003) (by decide) Tryz.underlying3 rfl rfl rfl (SC_ix f hmk _ _ _)) ?_
 refine RS (ok_field field32_2 (by decide) rfl) ?_
 refine RS (ok_loadP (s := 1000003) (by decide) Tryz.underlying30 rfl size30 rfl rfl (by simp [rowV_length, hmk]) (SC_non f hmk _ _ _)) ?_
 refine RS (ok_loadA (s := 1000007) (by decide) Tryz.underlying33 rfl (size33.of (by rw [List.length_map, xorK_length, hd])) rfl rfl) ?_
 refine RS (ok_call (ref9Message_fn i s c hs hc (xorK f s c 0 d) (by rw [xorK_length, hd]) hi) (A3 rfl rfl rfl)) ?_
 refine RS (ok_str (l := (msgL i s c (xorK f s c 0 d))) Tryz.underlying49 Tryz.underlying5 Tryz.underlying9 rfl (Le.refl _)) ?_
 refine RA rfl ?_
 refine RN ?_
 refine GS ?_
 refine TL ?_
 refine RS (ok_field field32_1 (by decide) rfl) ?_
 refine RS (ok_loadV (s := 1000010) (by decide) Tryz.underlying3 rfl rfl rfl (SC_ix f hmk _ _ _)) ?_
 refine RS (ok_field field32_2 (by decide) rfl) ?_
 refine RS (ok_loadP (s := 1000010) (by decide) Tryz.underlying30 rfl size30 rfl rfl (by simp [rowV_length, hmk]) (SC_non f hmk _ _ _)) ?_
 refine RS (ok_loadA (s := 1000011) (by decide) Tryz.underlying33 rfl (size33.of (by rw [List.length_map, hyl])) rfl rfl) ?_
 refine RS (ok_call (ref9Message_fn i s c hs hc y hyl hi) (A3 rfl rfl rfl)) ?_
 refine RS (ok_str (l := (msgL i s c y)) Tryz.underlying49 Tryz.underlying5 Tryz.underlying9 rfl (Le.refl _)) ?_
 refine RA rfl ?_
 refine RN ?_
 refine A.sub (KC 3 rfl (KC 7 rfl (KC 8 rfl (KC 10 rfl (KC 11 rfl (KC 13 rfl (KC 14 rfl (KC 15 rfl (KC 1000003 rfl (KC 1000004 rfl (KC 1000005 rfl (KC 1000007 rfl (KC 1000008 rfl (KC 1000010 rfl (KC 1000011 rfl (KC 1000012 rfl (KC 1900000 rfl (KC 1900001 rfl KN)))))))))))))))))) ?_
 refine GS ?_
 refine TL ?_
 refine RS (ok_loadA (s := 1000010) (by decide) Tryz.underlying32 rfl (size32.of (SC_len f hmk _ _ _)) rfl rfl) ?_
 refine RS (ok_loadA (s := 1000003) (by decide) Tryz.underlying32 rfl (size32.of (SC_len f hmk _ _ _)) rfl rfl) ?_
 refine RS (ok_eqlT (n := 5) true flat32 (by decide) (by kernel_rfl) (by kernel_rfl) rfl rfl (kinS f hmk _ _ _) (kinS f hmk _ _ _) ⟨fun _ => rfl, fun _ => rfl⟩) ?_
 refine RM rfl ?_
 refine RQ (ok_loadA (s := 1000011) (by decide) Tryz.underlying33 rfl (size33.of (by rw [List.length_map, hyl])) rfl rfl) ?_
 refine RQ (ok_loadA (s := 1000007) (by decide) Tryz.underlying33 rfl (size33.of (by rw [List.length_map, xorK_length, hd])) rfl rfl) ?_
 refine RQ (ok_eqlT (n := 3) false flat33 (by decide) (by kernel_rfl) (by kernel_rfl) rfl rfl (kinB hyl) (kinB (by rw [xorK_length, hd])) ⟨fun h => (by cases h), fun h => (hne (bytes_inj h)).elim⟩) ?_; refine RZ (.bool false) (by rfl) ?_
 refine RP rfl rfl ?_
 refine RA rfl ?_
 refine RN ?_
 refine GS ?_
 refine TN 16 ?_
 refine RS (ok_field field32_0 (by decide) rfl) ?_
 refine RS (ok_field field26_0 (by decide) rfl) ?_
 refine RS (ok_loadP (s := 1000010) (by decide) Tryz.underlying22 rfl size22 rfl rfl (by simp [rowV_length, hmk]) (SC_enc f mk _)) ?_
 refine RS (ok_field field32_0 (by decide) rfl) ?_
 refine RS (ok_field field26_1 (by decide) rfl) ?_
 refine RS (ok_loadP (s := 1000010) (by decide) Tryz.underlying24 rfl size24 rfl rfl (by simp [rowV_length, hmk]) (SC_mac f hmk _)) ?_
 refine RS (ok_field field32_1 (by decide) rfl) ?_
 refine RS (ok_loadV (s := 1000010) (by decide) Tryz.underlying3 rfl rfl rfl (SC_ix f hmk _ _ _)) ?_
 refine RS (ok_field field32_2 (by decide) rfl) ?_
 refine RS (ok_loadP (s := 1000010) (by decide) Tryz.underlying30 rfl size30 rfl rfl (by simp [rowV_length, hmk]) (SC_non f hmk _ _ _)) ?_
 refine RS (ok_loadA (s := 1000011) (by decide) Tryz.underlying33 rfl (size33.of (by rw [List.length_map, hyl])) rfl rfl) ?_
 refine RS (ok_loadA (s := 1000008) (by decide) Tryz.underlying34 rfl (size34.of (by rw [List.length_map, hmac_length])) rfl rfl) ?_
 refine RS (ok_call (ref9Open_ok f mk hf hmk i s c hs hc y hyl hi (hmac mk (msgL i s c (xorK f s c 0 d))) (hmac_length _ _) h) (Args.cons rfl (Le.refl _) (Args.cons rfl (Le.refl _) (Args.cons rfl (Le.refl _) (A3 rfl rfl rfl))))) ?_
 refine RM rfl ?_
 refine RS (ok_extract rfl rfl) ?_
 refine RS (ok_extract rfl rfl) ?_
 refine RN ?_
 refine ⟨_, _, eff_alloc (n := 159) (d := 17) (k := 1000017) zero33 (by decide), fun b17 hb17 => ?_⟩
 have hBb17 := hb17.1
 have hlt_b4_b17 : b4 < b17 := hb17.2 1000004 _ _ _ rfl
 have hlt_b7_b17 : b7 < b17 := hb17.2 1000007 _ _ _ rfl
 have hlt_b11_b17 : b11 < b17 := hb17.2 1000011 _ _ _ rfl
 have hlt_b12_b17 : b12 < b17 := hb17.2 1000012 _ _ _ rfl
 refine TF 17 ?_
 refine RN ?_
 refine ⟨_, eff_storeA (n := 159) (s := 1000017) (size33.of (by simp [xorK_length, hyl])) rfl rfl (all_bytes _) hBb17 rfl (by simp [xorK_length, hyl]) (LV 13 rfl (LV 14 rfl (LV 15 rfl (LV 16 rfl (LV 135 rfl (LT 1000003 rfl (LB 1000004 rfl (LT 1000005 rfl (LB 1000007 rfl (LT 1000008 rfl (LT 1000010 rfl (LB 1000011 rfl (LB 1000012 rfl (LeftS.cons (t := 1900000) rfl (Surv.tab (by omega)) (LeftS.cons (t := 1900001) rfl (Surv.tab (by omega)) LN))))))))))))))), ?_⟩
 refine TL ?_
 refine RA rfl ?_
 refine RN ?_
 refine A.sub (KC 13 rfl (KC 14 rfl (KC 15 rfl (KC 16 rfl (KC 18 rfl (KC 1000003 rfl (KC 1000004 rfl (KC 1000005 rfl (KC 1000007 rfl (KC 1000008 rfl (KC 1000010 rfl (KC 1000011 rfl (KC 1000012 rfl (KC 1000017 rfl (KC 1900000 rfl (KC 1900001 rfl KN)))))))))))))))) ?_
 refine GS ?_
 refine TL ?_
 refine RM rfl ?_
 refine RM rfl ?_
 refine RS (ok_seq rfl rfl) ?_; refine RZ (.bool false) (congrArg Value.bool (beq_eq_false_iff_ne.2 fun hh => hne (msgL_inj (by omega) (by omega) hs hs hc hc hh).2.2.2.symm)) ?_
 refine RM rfl ?_
 refine RS (ok_eqBool Tryz.underlying4 rfl rfl) ?_; refine RZ (.bool true) (by rfl) ?_
 refine RM rfl ?_
 refine RQ (ok_move rfl) ?_
 refine RQ (ok_bin rfl rfl rfl) ?_; refine RZ (.bool true) (by rfl) ?_
 refine RQ (ok_move rfl) ?_
 refine RQ (ok_bin rfl rfl rfl) ?_; refine RZ (.bool true) (by rfl) ?_
 refine RQ (ok_eqBool Tryz.underlying4 rfl rfl) ?_; refine RZ (.bool true) (by rfl) ?_
 refine RP rfl rfl ?_
 refine RM rfl ?_
 refine RQ (ok_move rfl) ?_
 refine RQ (ok_not rfl) ?_; refine RZ (.bool true) (by rfl) ?_
 refine RQ (ok_move rfl) ?_
 refine RK ?_
 refine RK ?_
 refine RQ (ok_pick rfl rfl) ?_
 refine RP rfl rfl ?_
 refine RM rfl ?_
 refine RQ (ok_callM lives9_fn (Sub.cons rfl (Sub.cons rfl KN)) tabs_v Args.nil) ?_
 refine RP rfl rfl ?_
 refine RA rfl ?_
 refine RN ?_
 refine A.ret ?_
 exact End.ret1 rfl rfl (by first | exact Le.refl _ | exact Le.old _ _)
set_option maxHeartbeats 4000000 in
theorem SealsChanged_3_da_no (f : Nat → Nat) (mk : List UInt8) (hf : By f) (hmk : mk.length = 32) (i : Nat) (hi : i < 4096) (s c : Nat) (hs : s < 4294967296) (hc : c < 18446744073709551616) (d : List UInt8) (hd : d.length = 32) (z0 z1 z2 : UInt8) (hq : z0.toNat % 4 = 3) (y : List UInt8) (hy2 : (xorK f s c 0 d).set (z1.toNat % 32) ((xorK f s c 0 d).getD (z1.toNat % 32) 0 ^^^ z2) = y) (hyl : y.length = 32) (hne : y ≠ (xorK f s c 0 d)) (h : (hmac mk (msgL i s c (xorK f s c 0 d))) ≠ (hmac mk (msgL i s c y)))  : FnM Tryz.prog 5 tabs [.v (aggV (rowV 16 f ++ mk.map byteV ++ [nI i, nW s, nQ c])), .v (aggV (d.map byteV)), .v (aggV ([z0, z1, z2].map byteV))] (.v (.bool true)) := by
 have hz1 := z1.toNat_lt
 refine FnM.of Tryz.func5 rfl (by kernel_rfl) Tryz.ntmps5 (by simp) (by decide) (fun w => [(0, .v (aggV (rowV 16 f ++ mk.map byteV ++ [nI i, nW s, nQ c]))), (1, .v (aggV (d.map byteV))), (2, .v (aggV ([z0, z1, z2].map byteV))), (1900000, tab 0 (H8.list.map u32V)), (1900001, tab 1 (K64.map u32V))]) (fun w => (StartM.v rfl (StartM.v rfl (StartM.v rfl (StartM.m (by simp [tabs]) (by decide) (StartM.m (by simp [tabs]) (by decide) StartM.nil)))))) fun w₀ hM => ?_
 have htab := tabs_hi hM
 refine GS ?_
 refine TN 0 ?_
 refine RN ?_
 refine ⟨_, _, eff_box (n := 159) (d := 3) (k := 1000003) rfl (by decide), fun b3 hb3 => ?_⟩
 have hBb3 := hb3.1
 refine TN 1 ?_
 refine RN ?_
 refine ⟨_, _, eff_box (n := 159) (d := 4) (k := 1000004) rfl (by decide), fun b4 hb4 => ?_⟩
 have hBb4 := hb4.1
 refine TN 2 ?_
 refine RN ?_
 refine ⟨_, _, eff_box (n := 159) (d := 5) (k := 1000005) rfl (by decide), fun b5 hb5 => ?_⟩
 have hBb5 := hb5.1
 refine TL ?_
 refine RA rfl ?_
 refine RN ?_
 refine A.seq ?_
 refine GS ?_
 refine TL ?_
 refine RS (ok_field field32_1 (by decide) rfl) ?_
 refine RS (ok_loadV (s := 1000003) (by decide) Tryz.underlying3 rfl rfl rfl (SC_ix f hmk _ _ _)) ?_
 refine RS (ok_call (bad9_no (i : Int) (by omega) (by omega)) (A1 rfl)) ?_
 refine RN ?_
 refine A.no rfl ?_
 refine A.skip ?_
 refine EN ?_
 refine GS ?_
 refine TN 12 ?_
 refine RS (ok_field field32_0 (by decide) rfl) ?_
 refine RS (ok_loadP (s := 1000003) (by decide) Tryz.underlying26 rfl size26 rfl rfl (by simp [rowV_length, hmk]) (SC_keys f hmk _)) ?_
 refine RS (ok_field field32_1 (by decide) rfl) ?_
 refine RS (ok_loadV (s := 1000003) (by decide) Tryz.underlying3 rfl rfl rfl (SC_ix f hmk _ _ _)) ?_
 refine RS (ok_field field32_2 (by decide) rfl) ?_
 refine RS (ok_loadP (s := 1000003) (by decide) Tryz.underlying30 rfl size30 rfl rfl (by simp [rowV_length, hmk]) (SC_non f hmk _ _ _)) ?_
 refine RS (ok_loadA (s := 1000004) (by decide) Tryz.underlying33 rfl (size33.of (by rw [List.length_map, hd])) rfl rfl) ?_
 refine RS (ok_callM (Seal_ok f mk hf hmk i s c hs hc d hd hi) (Sub.cons rfl (Sub.cons rfl KN)) tabs_v (Args.cons rfl (Le.refl _) (A3 rfl rfl rfl))) ?_
 refine RM rfl ?_
 refine RS (ok_extractV rfl rfl) ?_
 refine RS (ok_extractV rfl rfl) ?_
 refine RS (ok_extractV rfl rfl) ?_
 refine RN ?_
 refine ⟨_, _, eff_alloc (n := 159) (d := 7) (k := 1000007) zero33 (by decide), fun b7 hb7 => ?_⟩
 have hBb7 := hb7.1
 have hlt_b4_b7 : b4 < b7 := hb7.2 1000004 _ _ _ rfl
 refine TN 13 ?_
 refine RN ?_
 refine ⟨_, _, eff_alloc (n := 159) (d := 8) (k := 1000008) zero34 (by decide), fun b8 hb8 => ?_⟩
 have hBb8 := hb8.1
 refine TF 14 ?_
 refine RN ?_
 refine ⟨_, eff_storeA (n := 159) (s := 1000007) (size33.of (by rw [List.length_map, xorK_length, hd])) rfl rfl (all_bytes _) hBb7 rfl (by simp [xorK_length, hd]) (LV 3 rfl (LV 5 rfl (LV 7 rfl (LV 8 rfl (LV 33 rfl (LV 34 rfl (LT 1000003 rfl (LB 1000004 rfl (LT 1000005 rfl (LT 1000008 rfl (LeftS.cons (t := 1900000) rfl (Surv.tab (by omega)) (LeftS.cons (t := 1900001) rfl (Surv.tab (by omega)) LN)))))))))))), ?_⟩
 refine TF 15 ?_
 refine RN ?_
 refine ⟨_, eff_storeA (n := 159) (s := 1000008) (size34.of (by rw [List.length_map, hmac_length])) rfl rfl (all_bytes _) hBb8 rfl (by simp [hmac_length]) (LV 3 rfl (LV 5 rfl (LV 7 rfl (LV 8 rfl (LV 34 rfl (LT 1000003 rfl (LT 1000004 rfl (LT 1000005 rfl (LT 1000007 rfl (LeftS.cons (t := 1900000) rfl (Surv.tab (by omega)) (LeftS.cons (t := 1900001) rfl (Surv.tab (by omega)) LN))))))))))), ?_⟩
 refine TL ?_
 refine RA rfl ?_
 refine RN ?_
 refine A.seq ?_
 refine GS ?_
 refine TL ?_
 refine RM rfl ?_
 refine RBS rfl rfl rfl (.bool false) (by rfl) ?_
 refine RN ?_
 refine A.sub (KC 3 rfl (KC 5 rfl (KC 7 rfl (KC 8 rfl (KC 36 rfl (KC 1000003 rfl (KC 1000004 rfl (KC 1000005 rfl (KC 1000007 rfl (KC 1000008 rfl (KC 1900000 rfl (KC 1900001 rfl KN)))))))))))) ?_
 refine A.no rfl ?_
 refine A.skip ?_
 refine EN ?_
 refine A.regsK [⟨2, 10, 32, List.replicate 16 (.int .u8 0) ++ List.replicate 32 (.int .u8 0) ++ [.int .i64 0] ++ [.int .u32 0] ++ [.int .u64 0], 4, (rowV 16 f ++ mk.map byteV ++ [nI i, nW s, nQ c])⟩, ⟨3, 11, 33, List.replicate 32 (.int .u8 0), 5, (xorK f s c 0 d).map byteV⟩] (by kernel_rfl) (by kernel_rfl) (by kernel_rfl) ?_
 refine KopsK.pure (_) rfl (.inl rfl) FromV.all (fun B' => (ok_loadA (s := 1000003) (by decide) Tryz.underlying32 rfl (size32.of (SC_len f hmk _ _ _)) rfl rfl)) ?_
 refine KopsK.pure (_) rfl (.inl rfl) FromV.all (fun B' => (ok_loadA (s := 1000007) (by decide) Tryz.underlying33 rfl (size33.of (by rw [List.length_map, xorK_length, hd])) rfl rfl)) ?_
 refine KopsK.alloc 0 rfl rfl rfl rfl zero32 rfl ?_
 refine KopsK.alloc 1 rfl rfl rfl rfl zero33 rfl ?_
 refine KopsK.store 0 ((37, .v _) :: _) rfl rfl rfl rfl (by kernel_rfl) (FromV.op 0 (by kernel_rfl) rfl rfl FromV.all) rfl (size32.of (SC_len f hmk _ _ _)) (by simp [rowV_length, hmk]) (SC_one f mk rfl rfl rfl) ?_
 refine KopsK.store 1 ((38, .v _) :: _) rfl rfl rfl rfl (by kernel_rfl) (FromV.op 1 (by kernel_rfl) rfl rfl FromV.all) rfl (size33.of (by rw [List.length_map, xorK_length, hd])) (by simp [xorK_length, hd]) (all_bytes _) ?_
 refine KopsK.nil ⟨by kernel_rfl, _, FromW.all, fun bs hbs hds => ?_⟩
 have hb10 := hbs 0 (by simp)
 have hb11 := hbs 1 (by simp)
 have hne_b10_b11 := hds 0 1 (by simp) (by simp) (by decide)
 dsimp only [varEnv]
 generalize bs 0 = b10 at *
 generalize bs (0 + 1) = b11 at *
 have hBb10 := hb10.1
 have hlt_b3_b10 : b3 < b10 := hb10.2 1000003 _ _ _ rfl
 have hlt_b4_b10 : b4 < b10 := hb10.2 1000004 _ _ _ rfl
 have hlt_b5_b10 : b5 < b10 := hb10.2 1000005 _ _ _ rfl
 have hlt_b7_b10 : b7 < b10 := hb10.2 1000007 _ _ _ rfl
 have hlt_b8_b10 : b8 < b10 := hb10.2 1000008 _ _ _ rfl
 have hBb11 := hb11.1
 have hlt_b3_b11 : b3 < b11 := hb11.2 1000003 _ _ _ rfl
 have hlt_b4_b11 : b4 < b11 := hb11.2 1000004 _ _ _ rfl
 have hlt_b5_b11 : b5 < b11 := hb11.2 1000005 _ _ _ rfl
 have hlt_b7_b11 : b7 < b11 := hb11.2 1000007 _ _ _ rfl
 have hlt_b8_b11 : b8 < b11 := hb11.2 1000008 _ _ _ rfl
 refine A.sub (KC 3 rfl (KC 5 rfl (KC 7 rfl (KC 8 rfl (KC 10 rfl (KC 11 rfl (KC 1000003 rfl (KC 1000004 rfl (KC 1000005 rfl (KC 1000007 rfl (KC 1000008 rfl (KC 1000010 rfl (KC 1000011 rfl (KC 1900000 rfl (KC 1900001 rfl KN))))))))))))))) ?_
 refine A.seq ?_
 refine GS ?_
 refine TL ?_
 refine RS (ok_index0 (0) Tryz.underlying48 info5 rfl rfl (rfl) (by decide)) ?_
 refine RS (ok_loadV (s := 1000005) (by decide) Tryz.underlying5 rfl rfl rfl (rfl)) ?_; refine RZ (byteV z0) (by rfl) ?_
 refine RS (ok_rem rfl rfl (by decide)) ?_; refine RZ (.int .u8 3) (by rw [tmod_lit _ (by decide), show Int.toNat 4 = 4 from rfl, hq]; rfl) ?_
 refine RN ?_
 refine A.block ?_
 refine GS ?_
 refine TL ?_
 refine RBS rfl rfl rfl (.bool false) (by rfl) ?_
 refine RA rfl ?_
 refine RN ?_
 refine A.no rfl ?_
 refine GS ?_
 refine TL ?_
 refine RBS rfl rfl rfl (.bool false) (by rfl) ?_
 refine RA rfl ?_
 refine RN ?_
 refine A.no rfl ?_
 refine GS ?_
 refine TL ?_
 refine RBS rfl rfl rfl (.bool false) (by rfl) ?_
 refine RA rfl ?_
 refine RN ?_
 refine A.no rfl ?_
 refine GS ?_
 refine TL ?_
 refine RBS rfl rfl rfl (.bool true) (by rfl) ?_
 refine RA rfl ?_
 refine RN ?_
 refine A.yes rfl ?_
 refine A.reg (by kernel_rfl) (by kernel_rfl) (.inr (by kernel_rfl)) ?_
 refine TD 10 ?_
 refine RS (ok_index0 (1) Tryz.underlying48 info5 rfl rfl (rfl) (by decide)) ?_
 refine RS (ok_loadV (s := 1000005) (by decide) Tryz.underlying5 rfl rfl rfl (rfl)) ?_; refine RZ (byteV z1) (by rfl) ?_
 refine RS (ok_rem rfl rfl (by decide)) ?_; refine RZ (nB ((z1.toNat % 32))) (by rw [tmod_lit _ (by decide)]; rfl) ?_
 refine RS (ok_conv Tryz.underlying5 Tryz.underlying3 rfl) ?_; refine RZ (nI ((z1.toNat % 32))) (by rw [wrapN_i64 (by omega)]) ?_
 refine RS (ok_index0 ((z1.toNat % 32)) Tryz.underlying33 info5 rfl rfl (rfl) (by omega)) ?_
 refine RS (ok_loadV (s := 1000011) (by decide) Tryz.underlying5 rfl rfl rfl (map_getB (by rw [xorK_length, hd]; omega))) ?_
 refine RS (ok_index0 (2) Tryz.underlying48 info5 rfl rfl (rfl) (by decide)) ?_
 refine RS (ok_loadV (s := 1000005) (by decide) Tryz.underlying5 rfl rfl rfl (rfl)) ?_; refine RZ (byteV z2) (by rfl) ?_
 refine RBS rfl rfl rfl (byteV ((xorK f s c 0 d).getD (z1.toNat % 32) 0 ^^^ z2)) (congrArg (Value.int .u8) (xor_u8_nat ((xorK f s c 0 d).getD (z1.toNat % 32) 0) z2)) ?_
 refine RS (ok_index0 ((z1.toNat % 32)) Tryz.underlying33 info5 rfl rfl (rfl) (by omega)) ?_
 refine RN ?_
 refine ⟨_, eff_storeS (n := 159) (s := 1000011) info5 rfl rfl rfl hBb11 rfl (by rw [List.length_map, xorK_length, hd]; omega) (LV 3 rfl (LV 7 rfl (LV 8 rfl (LV 10 rfl (LV 11 rfl (LT 1000003 rfl (LB 1000004 rfl (LT 1000005 rfl (LB 1000007 rfl (LT 1000008 rfl (LT 1000010 rfl (LeftS.cons (t := 1900000) rfl (Surv.tab (by omega)) (LeftS.cons (t := 1900001) rfl (Surv.tab (by omega)) LN))))))))))))), ?_⟩
 refine TL ?_
 refine RN ?_
 refine End.sub (KC 3 rfl (KC 7 rfl (KC 8 rfl (KC 10 rfl (KC 11 rfl (KC 1000003 rfl (KC 1000004 rfl (KC 1000005 rfl (KC 1000007 rfl (KC 1000008 rfl (KC 1000010 rfl (KE 1000011 rfl (show _ = blk b11 33 (y.map byteV) from congrArg _ (by rw [← List.map_set]; exact congrArg (List.map byteV) hy2)) (KC 1900000 rfl (KC 1900001 rfl KN)))))))))))))) ?_
 refine End.normal_block ?_
 refine EN ?_
 refine GS ?_
 refine TN 12 ?_
 refine RS (ok_field field32_0 (by decide) rfl) ?_
 refine RS (ok_loadP (s := 1000010) (by decide) Tryz.underlying26 rfl size26 rfl rfl (by simp [rowV_length, hmk]) (SC_keys f hmk _)) ?_
 refine RS (ok_field field32_1 (by decide) rfl) ?_
 refine RS (ok_loadV (s := 1000010) (by decide) Tryz.underlying3 rfl rfl rfl (SC_ix f hmk _ _ _)) ?_
 refine RS (ok_field field32_2 (by decide) rfl) ?_
 refine RS (ok_loadP (s := 1000010) (by decide) Tryz.underlying30 rfl size30 rfl rfl (by simp [rowV_length, hmk]) (SC_non f hmk _ _ _)) ?_
 refine RS (ok_loadA (s := 1000011) (by decide) Tryz.underlying33 rfl (size33.of (by rw [List.length_map, hyl])) rfl rfl) ?_
 refine RS (ok_loadA (s := 1000008) (by decide) Tryz.underlying34 rfl (size34.of (by rw [List.length_map, hmac_length])) rfl rfl) ?_
 refine RS (ok_callM (Open_int f mk hf hmk i s c hs hc y hyl hi (hmac mk (msgL i s c (xorK f s c 0 d))) (hmac_length _ _) h) (Sub.cons rfl (Sub.cons rfl KN)) tabs_v (Args.cons rfl (Le.refl _) (Args.cons rfl (Le.refl _) (A3 rfl rfl rfl)))) ?_
 refine RM rfl ?_
 refine RS (ok_extractV rfl rfl) ?_
 refine RS (ok_extractV rfl rfl) ?_
 refine RN ?_
 refine ⟨_, _, eff_alloc (n := 159) (d := 12) (k := 1000012) zero33 (by decide), fun b12 hb12 => ?_⟩
 have hBb12 := hb12.1
 have hlt_b4_b12 : b4 < b12 := hb12.2 1000004 _ _ _ rfl
 have hlt_b7_b12 : b7 < b12 := hb12.2 1000007 _ _ _ rfl
 have hlt_b11_b12 : b11 < b12 := hb12.2 1000011 _ _ _ rfl
 refine TF 13 ?_
 refine RN ?_
 refine ⟨_, eff_storeA (n := 159) (s := 1000012) (size33.of (rfl)) rfl rfl (rfl) hBb12 rfl (rfl) (LV 3 rfl (LV 7 rfl (LV 8 rfl (LV 10 rfl (LV 11 rfl (LV 97 rfl (LT 1000003 rfl (LB 1000004 rfl (LT 1000005 rfl (LB 1000007 rfl (LT 1000008 rfl (LT 1000010 rfl (LB 1000011 rfl (LeftS.cons (t := 1900000) rfl (Surv.tab (by omega)) (LeftS.cons (t := 1900001) rfl (Surv.tab (by omega)) LN))))))))))))))), ?_⟩
 refine TL ?_
 refine RA rfl ?_
 refine RN ?_
 refine GS ?_
 refine TL ?_
 refine RS (ok_field field32_1 (by decide) rfl) ?_
 refine RS (ok_loadV (s := 1000003) (by decide) Tryz.underlying3 rfl rfl rfl (SC_ix f hmk _ _ _)) ?_
 refine RS (ok_field field32_2 (by decide) rfl) ?_
 refine RS (ok_loadP (s := 1000003) (by decide) Tryz.underlying30 rfl size30 rfl rfl (by simp [rowV_length, hmk]) (SC_non f hmk _ _ _)) ?_
 refine RS (ok_loadA (s := 1000007) (by decide) Tryz.underlying33 rfl (size33.of (by rw [List.length_map, xorK_length, hd])) rfl rfl) ?_
 refine RS (ok_call (ref9Message_fn i s c hs hc (xorK f s c 0 d) (by rw [xorK_length, hd]) hi) (A3 rfl rfl rfl)) ?_
 refine RS (ok_str (l := (msgL i s c (xorK f s c 0 d))) Tryz.underlying49 Tryz.underlying5 Tryz.underlying9 rfl (Le.refl _)) ?_
 refine RA rfl ?_
 refine RN ?_
 refine GS ?_
 refine TL ?_
 refine RS (ok_field field32_1 (by decide) rfl) ?_
 refine RS (ok_loadV (s := 1000010) (by decide) Tryz.underlying3 rfl rfl rfl (SC_ix f hmk _ _ _)) ?_
 refine RS (ok_field field32_2 (by decide) rfl) ?_
 refine RS (ok_loadP (s := 1000010) (by decide) Tryz.underlying30 rfl size30 rfl rfl (by simp [rowV_length, hmk]) (SC_non f hmk _ _ _)) ?_
 refine RS (ok_loadA (s := 1000011) (by decide) Tryz.underlying33 rfl (size33.of (by rw [List.length_map, hyl])) rfl rfl) ?_
 refine RS (ok_call (ref9Message_fn i s c hs hc y hyl hi) (A3 rfl rfl rfl)) ?_
 refine RS (ok_str (l := (msgL i s c y)) Tryz.underlying49 Tryz.underlying5 Tryz.underlying9 rfl (Le.refl _)) ?_
 refine RA rfl ?_
 refine RN ?_
 refine A.sub (KC 3 rfl (KC 7 rfl (KC 8 rfl (KC 10 rfl (KC 11 rfl (KC 13 rfl (KC 14 rfl (KC 15 rfl (KC 1000003 rfl (KC 1000004 rfl (KC 1000005 rfl (KC 1000007 rfl (KC 1000008 rfl (KC 1000010 rfl (KC 1000011 rfl (KC 1000012 rfl (KC 1900000 rfl (KC 1900001 rfl KN)))))))))))))))))) ?_
 refine GS ?_
 refine TL ?_
 refine RS (ok_loadA (s := 1000010) (by decide) Tryz.underlying32 rfl (size32.of (SC_len f hmk _ _ _)) rfl rfl) ?_
 refine RS (ok_loadA (s := 1000003) (by decide) Tryz.underlying32 rfl (size32.of (SC_len f hmk _ _ _)) rfl rfl) ?_
 refine RS (ok_eqlT (n := 5) true flat32 (by decide) (by kernel_rfl) (by kernel_rfl) rfl rfl (kinS f hmk _ _ _) (kinS f hmk _ _ _) ⟨fun _ => rfl, fun _ => rfl⟩) ?_
 refine RM rfl ?_
 refine RQ (ok_loadA (s := 1000011) (by decide) Tryz.underlying33 rfl (size33.of (by rw [List.length_map, hyl])) rfl rfl) ?_
 refine RQ (ok_loadA (s := 1000007) (by decide) Tryz.underlying33 rfl (size33.of (by rw [List.length_map, xorK_length, hd])) rfl rfl) ?_
 refine RQ (ok_eqlT (n := 3) false flat33 (by decide) (by kernel_rfl) (by kernel_rfl) rfl rfl (kinB hyl) (kinB (by rw [xorK_length, hd])) ⟨fun h => (by cases h), fun h => (hne (bytes_inj h)).elim⟩) ?_; refine RZ (.bool false) (by rfl) ?_
 refine RP rfl rfl ?_
 refine RA rfl ?_
 refine RN ?_
 refine GS ?_
 refine TN 16 ?_
 refine RS (ok_field field32_0 (by decide) rfl) ?_
 refine RS (ok_field field26_0 (by decide) rfl) ?_
 refine RS (ok_loadP (s := 1000010) (by decide) Tryz.underlying22 rfl size22 rfl rfl (by simp [rowV_length, hmk]) (SC_enc f mk _)) ?_
 refine RS (ok_field field32_0 (by decide) rfl) ?_
 refine RS (ok_field field26_1 (by decide) rfl) ?_
 refine RS (ok_loadP (s := 1000010) (by decide) Tryz.underlying24 rfl size24 rfl rfl (by simp [rowV_length, hmk]) (SC_mac f hmk _)) ?_
 refine RS (ok_field field32_1 (by decide) rfl) ?_
 refine RS (ok_loadV (s := 1000010) (by decide) Tryz.underlying3 rfl rfl rfl (SC_ix f hmk _ _ _)) ?_
 refine RS (ok_field field32_2 (by decide) rfl) ?_
 refine RS (ok_loadP (s := 1000010) (by decide) Tryz.underlying30 rfl size30 rfl rfl (by simp [rowV_length, hmk]) (SC_non f hmk _ _ _)) ?_
 refine RS (ok_loadA (s := 1000011) (by decide) Tryz.underlying33 rfl (size33.of (by rw [List.length_map, hyl])) rfl rfl) ?_
 refine RS (ok_loadA (s := 1000008) (by decide) Tryz.underlying34 rfl (size34.of (by rw [List.length_map, hmac_length])) rfl rfl) ?_
 refine RS (ok_call (ref9Open_int f mk hf hmk i s c hs hc y hyl hi (hmac mk (msgL i s c (xorK f s c 0 d))) (hmac_length _ _) h) (Args.cons rfl (Le.refl _) (Args.cons rfl (Le.refl _) (Args.cons rfl (Le.refl _) (A3 rfl rfl rfl))))) ?_
 refine RM rfl ?_
 refine RS (ok_extract rfl rfl) ?_
 refine RS (ok_extract rfl rfl) ?_
 refine RN ?_
 refine ⟨_, _, eff_alloc (n := 159) (d := 17) (k := 1000017) zero33 (by decide), fun b17 hb17 => ?_⟩
 have hBb17 := hb17.1
 have hlt_b4_b17 : b4 < b17 := hb17.2 1000004 _ _ _ rfl
 have hlt_b7_b17 : b7 < b17 := hb17.2 1000007 _ _ _ rfl
 have hlt_b11_b17 : b11 < b17 := hb17.2 1000011 _ _ _ rfl
 have hlt_b12_b17 : b12 < b17 := hb17.2 1000012 _ _ _ rfl
 refine TF 17 ?_
 refine RN ?_
 refine ⟨_, eff_storeA (n := 159) (s := 1000017) (size33.of (rfl)) rfl rfl (rfl) hBb17 rfl (rfl) (LV 13 rfl (LV 14 rfl (LV 15 rfl (LV 16 rfl (LV 135 rfl (LT 1000003 rfl (LB 1000004 rfl (LT 1000005 rfl (LB 1000007 rfl (LT 1000008 rfl (LT 1000010 rfl (LB 1000011 rfl (LB 1000012 rfl (LeftS.cons (t := 1900000) rfl (Surv.tab (by omega)) (LeftS.cons (t := 1900001) rfl (Surv.tab (by omega)) LN))))))))))))))), ?_⟩
 refine TL ?_
 refine RA rfl ?_
 refine RN ?_
 refine A.sub (KC 13 rfl (KC 14 rfl (KC 15 rfl (KC 16 rfl (KC 18 rfl (KC 1000003 rfl (KC 1000004 rfl (KC 1000005 rfl (KC 1000007 rfl (KC 1000008 rfl (KC 1000010 rfl (KC 1000011 rfl (KC 1000012 rfl (KC 1000017 rfl (KC 1900000 rfl (KC 1900001 rfl KN)))))))))))))))) ?_
 refine GS ?_
 refine TL ?_
 refine RM rfl ?_
 refine RM rfl ?_
 refine RS (ok_seq rfl rfl) ?_; refine RZ (.bool false) (congrArg Value.bool (beq_eq_false_iff_ne.2 fun hh => hne (msgL_inj (by omega) (by omega) hs hs hc hc hh).2.2.2.symm)) ?_
 refine RM rfl ?_
 refine RS (ok_eqBool Tryz.underlying4 rfl rfl) ?_; refine RZ (.bool true) (by rfl) ?_
 refine RM rfl ?_
 refine RQ (ok_move rfl) ?_
 refine RQ (ok_bin rfl rfl rfl) ?_; refine RZ (.bool false) (by rfl) ?_
 refine RQ (ok_move rfl) ?_
 refine RQ (ok_bin rfl rfl rfl) ?_; refine RZ (.bool false) (by rfl) ?_
 refine RQ (ok_eqBool Tryz.underlying4 rfl rfl) ?_; refine RZ (.bool true) (by rfl) ?_
 refine RP rfl rfl ?_
 refine RM rfl ?_
 refine RQ (ok_move rfl) ?_
 refine RQ (ok_not rfl) ?_; refine RZ (.bool true) (by rfl) ?_
 refine RQ (ok_move rfl) ?_
 refine RK ?_
 refine RK ?_
 refine RQ (ok_pick rfl rfl) ?_
 refine RP rfl rfl ?_
 refine RM rfl ?_
 refine RQ (ok_callM lives9_fn (Sub.cons rfl (Sub.cons rfl KN)) tabs_v Args.nil) ?_
 refine RP rfl rfl ?_
 refine RA rfl ?_
 refine RN ?_
 refine A.ret ?_
 exact End.ret1 rfl rfl (by first | exact Le.refl _ | exact Le.old _ _)
theorem SealsChanged_good (f : Nat → Nat) (mk : List UInt8) (hf : By f) (hmk : mk.length = 32) (i : Nat) (hi : i < 4096) (s c : Nat) (hs : s < 4294967296) (hc : c < 18446744073709551616) (d : List UInt8) (hd : d.length = 32) (z0 z1 z2 : UInt8) : FnM Tryz.prog 5 tabs [.v (aggV (rowV 16 f ++ mk.map byteV ++ [nI i, nW s, nQ c])), .v (aggV (d.map byteV)), .v (aggV ([z0, z1, z2].map byteV))] (.v (.bool true)) := by
 have h4 := Nat.mod_lt z0.toNat (show 0 < 4 by decide)
 rcases (show z0.toNat % 4 = 0 ∨ z0.toNat % 4 = 1 ∨ z0.toNat % 4 = 2 ∨ z0.toNat % 4 = 3 by omega) with hq | hq | hq | hq
 ·by_cases he : (i + z1.toNat) % 4096 = i
  ·exact SealsChanged_0_eq f mk hf hmk i hi s c hs hc d hd z0 z1 z2 hq he
  ·by_cases h : (hmac mk (msgL i s c (xorK f s c 0 d))) = (hmac mk (msgL ((i + z1.toNat) % 4096) s c (xorK f s c 0 d)))
   ·exact SealsChanged_0_ts_ok f mk hf hmk i hi s c hs hc d hd z0 z1 z2 hq _ rfl (by omega) he h
   ·exact SealsChanged_0_ts_no f mk hf hmk i hi s c hs hc d hd z0 z1 z2 hq _ rfl (by omega) he h
 ·by_cases he : (c + z1.toNat) % 18446744073709551616 = c
  ·exact SealsChanged_1_eq f mk hf hmk i hi s c hs hc d hd z0 z1 z2 hq he
  ·by_cases h : (hmac mk (msgL i s c (xorK f s c 0 d))) = (hmac mk (msgL i s ((c + z1.toNat) % 18446744073709551616) (xorK f s c 0 d)))
   ·exact SealsChanged_1_ts_ok f mk hf hmk i hi s c hs hc d hd z0 z1 z2 hq _ rfl (Nat.mod_lt _ (by decide)) he h
   ·exact SealsChanged_1_ts_no f mk hf hmk i hi s c hs hc d hd z0 z1 z2 hq _ rfl (Nat.mod_lt _ (by decide)) he h
 ·by_cases he : (s + z1.toNat) % 4294967296 = s
  ·exact SealsChanged_2_eq f mk hf hmk i hi s c hs hc d hd z0 z1 z2 hq he
  ·by_cases h : (hmac mk (msgL i s c (xorK f s c 0 d))) = (hmac mk (msgL i ((s + z1.toNat) % 4294967296) c (xorK f s c 0 d)))
   ·exact SealsChanged_2_ts_ok f mk hf hmk i hi s c hs hc d hd z0 z1 z2 hq _ rfl (Nat.mod_lt _ (by decide)) he h
   ·exact SealsChanged_2_ts_no f mk hf hmk i hi s c hs hc d hd z0 z1 z2 hq _ rfl (Nat.mod_lt _ (by decide)) he h
 ·by_cases he : (xorK f s c 0 d).set (z1.toNat % 32) ((xorK f s c 0 d).getD (z1.toNat % 32) 0 ^^^ z2) = (xorK f s c 0 d)
  ·exact SealsChanged_3_eq f mk hf hmk i hi s c hs hc d hd z0 z1 z2 hq he
  ·by_cases h : (hmac mk (msgL i s c (xorK f s c 0 d))) = (hmac mk (msgL i s c ((xorK f s c 0 d).set (z1.toNat % 32) ((xorK f s c 0 d).getD (z1.toNat % 32) 0 ^^^ z2))))
   ·exact SealsChanged_3_da_ok f mk hf hmk i hi s c hs hc d hd z0 z1 z2 hq _ rfl (by rw [List.length_set, xorK_length, hd]) he h
   ·exact SealsChanged_3_da_no f mk hf hmk i hi s c hs hc d hd z0 z1 z2 hq _ rfl (by rw [List.length_set, xorK_length, hd]) he h
theorem SealsChanged_fn (f : Nat → Nat) (mk : List UInt8) (hf : By f) (hmk : mk.length = 32) (i : Int) (s c : Nat) (hs : s < 4294967296) (hc : c < 18446744073709551616) (d : List UInt8) (hd : d.length = 32) (z : List UInt8) (hz : z.length = 3) : FnM Tryz.prog 5 tabs [.v (aggV (rowV 16 f ++ mk.map byteV ++ [.int .i64 i, nW s, nQ c])), .v (aggV (d.map byteV)), .v (aggV (z.map byteV))] (.v (.bool true)) := by
 match z, hz with
 | [z0, z1, z2], _ =>
  by_cases hi : i < 0 ∨ 4096 ≤ i
  ·exact SealsChanged_bad f mk hf hmk i hi s c hs hc d hd z0 z1 z2
  ·obtain ⟨k, rfl⟩ := Int.eq_ofNat_of_zero_le (show 0 ≤ i by omega)
   exact SealsChanged_good f mk hf hmk k (by omega) s c hs hc d hd z0 z1 z2
end Go.Proofs.YthadcgkcgpinhaaGreatDoor
namespace Go.Proofs.YthadcgkcgpinhaaGreatDoor
open Go Go.RowKit Go.ChangeShapes Go.WideShapes
section
variable {H : Type} {enc : TypeId × Value → H} {P : Program} {w : World} {base : Nat} {held : Bool}
end
end Go.Proofs.YthadcgkcgpinhaaGreatDoor
namespace Go.Proofs.YthadcgkcgpinhaaGreatDoor
open Go Go.RowKit Go.ChangeShapes Go.WideShapes
section
variable {H : Type} {enc : TypeId × Value → H} {P : Program} {w : World} {base : Nat} {held : Bool}
/-- Keys, an index, a nonce. -/
theorem arg_S {t : TypeId} {v : Value} {d : DataW H} {ps : List MemPlace} (hf : flat P 5 t = some (List.replicate 16 .u8 ++ (List.replicate 32 .u8 ++ [.i64, .u32, .u64]))) (hg : isAggT P t = true) {r : Reach} {b0 : Nat} (hk : Value.okWide P w r b0 t v)
    (h : DataW.Trod enc P w base (fun _ => true) held t v d ps) : ∃ (f : Nat → Nat) (mk : List UInt8) (i : Int) (s c : Nat), (∀ i, f i < 256) ∧ mk.length = 32 ∧ s < 4294967296 ∧ c < 18446744073709551616 ∧ -9223372036854775808 ≤ i ∧ i ≤ 9223372036854775807 ∧
      v = aggV (rowV 16 f ++ mk.map byteV ++ [.int .i64 i, .int .u32 ((s : Nat) : Int), .int .u64 ((c : Nat) : Int)]) := by
  obtain ⟨xs, rfl, hx⟩ := arg_flat 5 hf hg hk h
  obtain ⟨x, y, rfl, h1, h2⟩ := hx.append
  obtain ⟨l, hl, rfl⟩ := h1.bytes
  obtain ⟨x, y, rfl, h3, h4⟩ := h2.append
  obtain ⟨mk, hmk, rfl⟩ := h3.bytes
  obtain ⟨i, y, rfl, h5, h6⟩ := h4.cons
  obtain ⟨n, y, rfl, h7, h8⟩ := h6.cons
  obtain ⟨m, rfl, h9⟩ := h8.one
  obtain ⟨s, rfl, hs⟩ := nat_u32 h7
  obtain ⟨c, rfl, hc⟩ := nat_u64 h9
  exact ⟨byL l, mk, i, s, c, byL_lt l, hmk, hs, hc, (bounds_i64 h5).1, (bounds_i64 h5).2, by rw [rowV_byL hl, List.append_assoc]⟩
end
end Go.Proofs.YthadcgkcgpinhaaGreatDoor
