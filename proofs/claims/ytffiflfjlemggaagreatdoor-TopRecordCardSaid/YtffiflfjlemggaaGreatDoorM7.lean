/-
  OWN TEXTS of this seat, put together, part 7: C11x, Law10, C11v, Law9, Law7.
-/
import Derived.Test.YtffiflfjlemggaaGreatDoorM2
import Derived.Test.YtffiflfjlemggaaGreatDoorM6
import Derived.Test.YtffiflfjlemggaaGreatDoorM1
import Derived.Test.YtffiflfjlemggaaGreatDoorM5
namespace Go.Proofs.YtffiflfjlemggaaGreatDoor
open Go Go.RowKit
set_option linter.unusedVariables false
set_option maxRecDepth 20000
theorem field56_0 : FieldIs Tryz.prog 56 0 0 1 := by unfold FieldIs; kernel_rfl
theorem field56_1 : FieldIs Tryz.prog 56 1 1 2 := by unfold FieldIs; kernel_rfl
theorem field56_2 : FieldIs Tryz.prog 56 2 3 32 := by unfold FieldIs; kernel_rfl
def zTV (x s c : Nat) (d : List UInt8) : List Value := .int .u16 ((x : Nat) : Int) :: nW s :: nQ c :: d.map byteV
theorem zTV_len {d : List UInt8} (h : d.length = 32) (x s c : Nat) : (zTV x s c d).length = 35 := by simp [zTV, h]
theorem zTV_d {d : List UInt8} (h : d.length = 32) (x s c : Nat) : ((zTV x s c d).drop 3).take 32 = d.map byteV := List.take_of_length_le (by show (d.map byteV).length ≤ 32; rw [List.length_map, h]; decide)
theorem flatMK : flat Tryz.prog 3 52 = some (List.replicate 32 .u8) := by kernel_rfl
theorem good1 {s c : Nat} {t : List UInt8} : ¬ BadR 1 s c t := fun h => by unfold BadR at h; simp at h

set_option maxHeartbeats 4000000 in
theorem TopRecord_A (p E K d : List UInt8) (x s c : Nat) (hx : x < 65536) (hs : s < 4294967296) (hc : c < 18446744073709551616) (hd : d.length = 32) (hp : p.length = 32) (hE : E.length = 16) (hK : K.length = 32) (hV : FnM Tryz.prog 23 tabs [.v (aggV (p.map byteV))] (.v (aggV (E.map byteV ++ K.map byteV)))) : FnM Tryz.prog 5 tabs [.v (aggV (p.map byteV)), .v (aggV (p.map byteV)), .v (aggV (zTV x s c d))] (.v (.bool true)) := by
 refine FnM.of Tryz.func5 rfl (by kernel_rfl) Tryz.ntmps5 (by simp) (by decide) (fun w => [(0, .v (aggV (p.map byteV))), (1, .v (aggV (p.map byteV))), (2, .v (aggV (zTV x s c d))), (1900000, tab 0 (H8.list.map u32V)), (1900001, tab 1 (K64.map u32V))]) (fun w => (StartM.v rfl (StartM.v rfl (StartM.v rfl (StartM.m (by simp [tabs]) (by decide) (StartM.m (by simp [tabs]) (by decide) StartM.nil)))))) fun w₀ hM => ?_
 have htab := tabs_hi hM
 refine GS ?_
 refine TN 0 ?_
 refine RN ?_
 refine ZB 1000003 rfl fun b3 ⟨hBb3, hb3⟩ => ?_
 refine TN 1 ?_
 refine RN ?_
 refine ZB 1000004 rfl fun b4 ⟨hBb4, hb4⟩ => ?_
 have hlt_b3_b4 := hb4 1000003 b3 _ _ rfl
 refine TN 2 ?_
 refine RN ?_
 refine ZB 1000005 rfl fun b5 ⟨hBb5, hb5⟩ => ?_
 refine TL ?_
 refine RVN 1 rfl ?_
 refine A.regsK [⟨4, 7, 58, List.replicate 16 (.int .u8 0) ++ List.replicate 32 (.int .u8 0), 6, rowV 16 (byL E) ++ K.map byteV⟩, ⟨5, 8, 58, List.replicate 16 (.int .u8 0) ++ List.replicate 32 (.int .u8 0), 7, rowV 16 (byL E) ++ K.map byteV⟩] (by kernel_rfl) (by kernel_rfl) (by kernel_rfl) ?_
 refine KopsK.pure (_) rfl (.inl rfl) FromV.all (fun B' => (ok_loadA (s := 1000003) (by decide) Tryz.underlying52 rfl (size52.of (by rw [List.length_map, hp])) rfl rfl)) ?_
 refine KopsK.pure ((23, .v _) :: _) rfl (.inl rfl) (FromV.op 0 (by kernel_rfl) rfl rfl FromV.all) (fun B' => (OpOk.asV (aggV (rowV 16 (byL E) ++ K.map byteV)) (congrArg aggV (by rw [rowV_byL hE])) (ok_callM (hV) (Sub.cons rfl (Sub.cons rfl KN)) tabs_v (A1 rfl)))) ?_
 refine KopsK.pure (_) rfl (.inl rfl) FromV.all (fun B' => (ok_loadA (s := 1000004) (by decide) Tryz.underlying52 rfl (size52.of (by rw [List.length_map, hp])) rfl rfl)) ?_
 refine KopsK.pure ((25, .v _) :: _) rfl (.inl rfl) (FromV.op 2 (by kernel_rfl) rfl rfl FromV.all) (fun B' => (OpOk.asV (aggV (rowV 16 (byL E) ++ K.map byteV)) (congrArg aggV (by rw [rowV_byL hE])) (ok_callM (hV) (Sub.cons rfl (Sub.cons rfl KN)) tabs_v (A1 rfl)))) ?_
 refine KopsK.alloc 0 rfl rfl rfl rfl zero58 rfl ?_
 refine KopsK.alloc 1 rfl rfl rfl rfl zero58 rfl ?_
 refine KopsK.store 0 ((24, .v _) :: _) rfl rfl rfl rfl (by kernel_rfl) (FromV.op 1 (by kernel_rfl) rfl rfl FromV.all) rfl (size58.of (by simp [rowV_length, hK])) (by simp [rowV_length, hK]) (KM_one _ _) ?_
 refine KopsK.store 1 ((26, .v _) :: _) rfl rfl rfl rfl (by kernel_rfl) (FromV.op 3 (by kernel_rfl) rfl rfl FromV.all) rfl (size58.of (by simp [rowV_length, hK])) (by simp [rowV_length, hK]) (KM_one _ _) ?_
 refine KopsK.nil ⟨by kernel_rfl, _, FromW.all, fun bs hbs hds => ?_⟩
 have hb7 := hbs 0 (by simp)
 have hb8 := hbs 1 (by simp)
 have hne_b7_b8 := hds 0 1 (by simp) (by simp) (by decide)
 dsimp only [varEnv]
 generalize bs 0 = b7 at *
 generalize bs (0 + 1) = b8 at *
 have hBb7 := hb7.1
 have hlt_b3_b7 : b3 < b7 := hb7.2 1000003 _ _ _ rfl
 have hlt_b4_b7 : b4 < b7 := hb7.2 1000004 _ _ _ rfl
 have hlt_b5_b7 : b5 < b7 := hb7.2 1000005 _ _ _ rfl
 have hBb8 := hb8.1
 have hlt_b3_b8 : b3 < b8 := hb8.2 1000003 _ _ _ rfl
 have hlt_b4_b8 : b4 < b8 := hb8.2 1000004 _ _ _ rfl
 have hlt_b5_b8 : b5 < b8 := hb8.2 1000005 _ _ _ rfl
 refine A.sub (SV [3, 4, 5, 7, 8, 1000003, 1000004, 1000005, 1000007, 1000008, 1900000, 1900001] rfl) ?_
 refine GT ?_
 refine RS (ok_field field56_0 (by decide) rfl) ?_
 refine RLV 1000005 Tryz.underlying53 rfl rfl rfl ?_
 refine RS (ok_rem rfl rfl (by decide)) ?_; refine RZ (.int .u16 (((x % 4096) : Nat) : Int)) (by rw [tmod_lit _ (by decide)]; rfl) ?_
 refine RS (ok_conv Tryz.underlying53 Tryz.underlying3 rfl) ?_; refine RZ (nI ((x % 4096))) (by rw [wrapN_i64 (by omega)]) ?_
 refine RVN 1 rfl ?_
 refine GS ?_
 refine TN 11 ?_
 refine RS (ok_loadA (s := 1000007) (by decide) Tryz.underlying58 rfl (size58.of (by simp [rowV_length, hK])) rfl rfl) ?_
 refine RM rfl ?_
 refine RS (ok_field field56_1 (by decide) rfl) ?_
 refine RS (ok_loadP (s := 1000005) (by decide) Tryz.underlying41 rfl size41 rfl rfl (by rw [zTV_len hd]; decide) (rfl)) ?_
 refine RS (ok_field field56_2 (by decide) rfl) ?_
 refine RS (ok_loadP (s := 1000005) (by decide) Tryz.underlying54 rfl size54 rfl rfl (by rw [zTV_len hd]; decide) (zTV_d hd x s c)) ?_
 refine RS (ok_callM (Seal_ok (byL E) K (byL_lt E) hK (x % 4096) s c hs hc d hd (Nat.mod_lt _ (by decide))) (Sub.cons rfl (Sub.cons rfl KN)) tabs_v (Args.cons rfl (Le.refl _) (A3 rfl rfl rfl))) ?_
 refine RVN 4 rfl ?_
 refine ZN 1000010 zero54 fun b10 ⟨hBb10, hb10⟩ => ?_
 refine TN 12 ?_
 refine RN ?_
 refine ZN 1000011 zero31 fun b11 ⟨hBb11, hb11⟩ => ?_
 refine TF 13 ?_
 refine RN ?_
 refine ⟨_, eff_storeA (n := 131) (s := 1000010) (size54.of (by rw [List.length_map]; exact ((xorK_length (byL E) s c 0 d).trans hd))) rfl rfl (all_bytes _) hBb10 rfl (by rw [List.length_map, List.length_replicate]; exact ((xorK_length (byL E) s c 0 d).trans hd).symm) (LT 1000003 rfl (LT 1000004 rfl (LT 1000005 rfl (LT 1000007 rfl (LT 1000008 rfl (LT 1000011 rfl (LeftS.cons (t := 1900000) rfl (Surv.tab (by omega)) (LeftS.cons (t := 1900001) rfl (Surv.tab (by omega)) (LW [3, 4, 5, 7, 8, 9, 10, 11, 40, 41] rfl))))))))), ?_⟩
 refine TF 14 ?_
 refine RN ?_
 refine ⟨_, eff_storeA (n := 131) (s := 1000011) (size31.of (by rw [List.length_map, hmac_length])) rfl rfl (all_bytes _) hBb11 rfl (by first | (rw [List.length_map, hmac_length, List.length_replicate]; done) | (rw [List.length_map, hmac_length]; rfl)) (LT 1000003 rfl (LT 1000004 rfl (LT 1000005 rfl (LT 1000007 rfl (LT 1000008 rfl (LT 1000010 rfl (LeftS.cons (t := 1900000) rfl (Surv.tab (by omega)) (LeftS.cons (t := 1900001) rfl (Surv.tab (by omega)) (LW [3, 4, 5, 7, 8, 9, 10, 11, 41] rfl))))))))), ?_⟩
 refine TL ?_
 refine RVN 1 rfl ?_
 refine GS ?_
 refine TN 4 ?_
 refine RS (ok_field field56_1 (by decide) rfl) ?_
 refine RS (ok_loadP (s := 1000005) (by decide) Tryz.underlying41 rfl size41 rfl rfl (by rw [zTV_len hd]; decide) (rfl)) ?_
 refine RS (ok_loadA (s := 1000011) (by decide) Tryz.underlying31 rfl (size31.of (by rw [List.length_map, hmac_length])) rfl rfl) ?_
 refine RS (ok_litS [(0, byteV 1), (1, aggV [nW s, nQ c]), (2, aggV ((hmac K (msgL (x % 4096) s c (xorK (byL E) s c 0 d))).map byteV))] (recV 1 s c (hmac K (msgL (x % 4096) s c (xorK (byL E) s c 0 d)))) ⟨rfl, rfl, rfl, rfl, rfl, rfl, trivial⟩ (by exact bRecT 1 s c (hmac_length K _))) ?_
 refine RN ?_
 refine ZM 1000047 (fun B' => ok_callB (PutRecord_okB 1 s c (hmac K (msgL (x % 4096) s c (xorK (byL E) s c 0 d))) (hmac_length K _) hs hc good1) newD_mono (A1 rfl)) rfl fun b47 ⟨hBb47, hb47⟩ => ?_
 have hlt_b3_b47 := hb47 1000003 b3 _ _ rfl
 have hlt_b4_b47 := hb47 1000004 b4 _ _ rfl
 have hlt_b5_b47 := hb47 1000005 b5 _ _ rfl
 have hlt_b7_b47 := hb47 1000007 b7 _ _ rfl
 have hlt_b8_b47 := hb47 1000008 b8 _ _ rfl
 have hlt_b10_b47 := hb47 1000010 b10 _ _ rfl
 have hlt_b11_b47 := hb47 1000011 b11 _ _ rfl
 refine TL ?_
 refine RVN 5 rfl ?_
 refine A.sub (SV [3, 4, 5, 7, 8, 9, 10, 11, 12, 13, 14, 1000003, 1000004, 1000005, 1000007, 1000008, 1000010, 1000011, 1000047, 1900000, 1900001] rfl) ?_
 refine GS ?_
 refine TN 5 ?_
 refine RS (OpOk.fact (ok_move rfl) (d := byt (recL 1 s c (hmac K (msgL (x % 4096) s c (xorK (byL E) s c 0 d))))) (s := 1000047) (by decide) rfl (slice_byt (recL 1 s c (hmac K (msgL (x % 4096) s c (xorK (byL E) s c 0 d)))) (recL_len 1 s c (hmac_length K _)).symm (by decide) (by decide) (by rw [List.drop_zero, List.take_of_length_le (by rw [List.length_map, recL_len 1 s c (hmac_length K _)]; decide)]))) ?_
 refine RS (ok_call (GetRecord_put 1 s c (hmac K (msgL (x % 4096) s c (xorK (byL E) s c 0 d))) (hmac_length K _) hs hc good1) (A1 rfl)) ?_
 refine RVN 3 rfl ?_
 refine ZN 1000015 zero64 fun b15 ⟨hBb15, hb15⟩ => ?_
 refine TF 6 ?_
 refine RN ?_
 refine ⟨_, eff_storeA (n := 131) (s := 1000015) (size64.of (rec_len 1 s c (hmac_length K _))) rfl rfl (rec_one _ _ _ _) hBb15 rfl (by rw [rec_len 1 s c (hmac_length K _)]; rfl) (LT 1000003 rfl (LT 1000004 rfl (LT 1000005 rfl (LT 1000007 rfl (LT 1000008 rfl (LT 1000010 rfl (LT 1000011 rfl (LT 1000047 rfl (LeftS.cons (t := 1900000) rfl (Surv.tab (by omega)) (LeftS.cons (t := 1900001) rfl (Surv.tab (by omega)) (LW [3, 4, 5, 7, 8, 9, 10, 11, 12, 14, 15, 54] rfl))))))))))), ?_⟩
 refine TL ?_
 refine RVN 1 rfl ?_
 refine GS ?_
 refine TN 11 ?_
 refine RS (ok_loadA (s := 1000007) (by decide) Tryz.underlying58 rfl (size58.of (by simp [rowV_length, hK])) rfl rfl) ?_
 refine RM rfl ?_
 refine RS (ok_field field64_1 (by decide) rfl) ?_
 refine RS (ok_loadP (s := 1000015) (by decide) Tryz.underlying41 rfl size41 rfl rfl (by simp [recV]) (rfl)) ?_
 refine RS (ok_loadA (s := 1000010) (by decide) Tryz.underlying54 rfl (size54.of (by rw [List.length_map]; exact ((xorK_length (byL E) s c 0 d).trans hd))) rfl rfl) ?_
 refine RS (ok_field field64_2 (by decide) rfl) ?_
 refine RS (ok_loadP (s := 1000015) (by decide) Tryz.underlying31 rfl size31 rfl rfl (by simp [recV, hmac_length]) (rec_tag (hmac_length K _))) ?_
 refine RS (ok_callM (Open_ok (byL E) K (byL_lt E) hK (x % 4096) s c hs hc (xorK (byL E) s c 0 d) ((xorK_length (byL E) s c 0 d).trans hd) (Nat.mod_lt _ (by decide)) (hmac K (msgL (x % 4096) s c (xorK (byL E) s c 0 d))) (hmac_length K _) rfl) (Sub.cons rfl (Sub.cons rfl KN)) tabs_v (Args.cons rfl (Le.refl _) (Args.cons rfl (Le.refl _) (A3 rfl rfl rfl)))) ?_; refine RZ (.tuple #[aggV (d.map byteV), .int .i64 0]) (by rw [xorK_xorK (byL_lt E)]) ?_
 refine RVN 3 rfl ?_
 refine ZN 1000017 zero54 fun b17 ⟨hBb17, hb17⟩ => ?_
 have hlt_b10_b17 := hb17 1000010 b10 _ _ rfl
 refine TF 12 ?_
 refine RN ?_
 refine ⟨_, eff_storeA (n := 131) (s := 1000017) (size54.of (by rw [List.length_map, hd])) rfl rfl (all_bytes _) hBb17 rfl (by rw [List.length_map, hd]; rfl) (LT 1000003 rfl (LT 1000004 rfl (LT 1000005 rfl (LT 1000007 rfl (LT 1000008 rfl (LB 1000010 rfl (LT 1000011 rfl (LT 1000015 rfl (LT 1000047 rfl (LeftS.cons (t := 1900000) rfl (Surv.tab (by omega)) (LeftS.cons (t := 1900001) rfl (Surv.tab (by omega)) (LW [3, 4, 5, 8, 9, 10, 11, 12, 14, 15, 16, 17, 65] rfl)))))))))))), ?_⟩
 refine TL ?_
 refine RVN 1 rfl ?_
 refine QS ?_
 refine GT ?_
 refine RV 2 rfl ?_
 refine RZ (.bool false) (by rfl) ?_
 refine RV 3 rfl ?_
 refine RZ (.bool false) (by rfl) ?_
 refine RV 4 rfl ?_
 refine RZ (.bool false) (by rfl) ?_
 refine RV 4 rfl ?_
 refine RZ (.bool false) (by rfl) ?_
 refine RV 2 rfl ?_
 refine RQ (ok_loadA (s := 1000017) (by decide) Tryz.underlying54 rfl (size54.of (by rw [List.length_map, hd])) rfl rfl) ?_
 refine RQ (ok_field field56_2 (by decide) rfl) ?_
 refine RQ (ok_loadP (s := 1000005) (by decide) Tryz.underlying54 rfl size54 rfl rfl (by rw [zTV_len hd]; decide) (zTV_d hd x s c)) ?_
 refine RQ (ok_neqT (n := 3) true flat54 (by decide) (by kernel_rfl) (by kernel_rfl) rfl rfl (kinB hd) (kinB hd) ⟨fun _ => rfl, fun _ => rfl⟩) ?_; refine RZ (.bool false) (by rfl) ?_
 refine RVN 1 rfl ?_
 refine A.sub (SV [3, 4, 5, 8, 9, 10, 11, 15, 85, 1000003, 1000004, 1000005, 1000007, 1000008, 1000010, 1000011, 1000015, 1000017, 1000047, 1900000, 1900001] rfl) ?_
 refine A.no rfl ?_
 refine QK ?_
 refine GS ?_
 refine TN 11 ?_
 refine RS (ok_loadA (s := 1000008) (by decide) Tryz.underlying58 rfl (size58.of (by simp [rowV_length, hK])) rfl rfl) ?_
 refine RM rfl ?_
 refine RS (ok_field field64_1 (by decide) rfl) ?_
 refine RS (ok_loadP (s := 1000015) (by decide) Tryz.underlying41 rfl size41 rfl rfl (by simp [recV]) (rfl)) ?_
 refine RS (ok_loadA (s := 1000010) (by decide) Tryz.underlying54 rfl (size54.of (by rw [List.length_map]; exact ((xorK_length (byL E) s c 0 d).trans hd))) rfl rfl) ?_
 refine RS (ok_field field64_2 (by decide) rfl) ?_
 refine RS (ok_loadP (s := 1000015) (by decide) Tryz.underlying31 rfl size31 rfl rfl (by simp [recV, hmac_length]) (rec_tag (hmac_length K _))) ?_
 refine RS (ok_callM (Open_ok (byL E) K (byL_lt E) hK (x % 4096) s c hs hc (xorK (byL E) s c 0 d) ((xorK_length (byL E) s c 0 d).trans hd) (Nat.mod_lt _ (by decide)) (hmac K (msgL (x % 4096) s c (xorK (byL E) s c 0 d))) (hmac_length K _) rfl) (Sub.cons rfl (Sub.cons rfl KN)) tabs_v (Args.cons rfl (Le.refl _) (Args.cons rfl (Le.refl _) (A3 rfl rfl rfl)))) ?_
 refine RVN 3 rfl ?_
 refine ZN 1000019 zero54 fun b19 ⟨hBb19, hb19⟩ => ?_
 have hlt_b10_b19 := hb19 1000010 b10 _ _ rfl
 have hlt_b17_b19 := hb19 1000017 b17 _ _ rfl
 refine TF 12 ?_
 refine RN ?_
 refine ⟨_, eff_storeA (n := 131) (s := 1000019) (size54.of (by rw [List.length_map, xorK_length, xorK_length, hd])) rfl rfl (all_bytes _) hBb19 rfl (by rw [List.length_map, xorK_length, xorK_length, hd]; rfl) (LT 1000003 rfl (LT 1000004 rfl (LT 1000005 rfl (LT 1000007 rfl (LT 1000008 rfl (LB 1000010 rfl (LT 1000011 rfl (LT 1000015 rfl (LB 1000017 rfl (LT 1000047 rfl (LeftS.cons (t := 1900000) rfl (Surv.tab (by omega)) (LeftS.cons (t := 1900001) rfl (Surv.tab (by omega)) (LW [3, 4, 5, 8, 9, 10, 11, 96] rfl))))))))))))), ?_⟩
 refine TL ?_
 refine RVN 1 rfl ?_
 refine GS ?_
 refine TN 4 ?_
 refine RM rfl ?_
 refine RS (ok_field field56_1 (by decide) rfl) ?_
 refine RS (ok_loadP (s := 1000005) (by decide) Tryz.underlying41 rfl size41 rfl rfl (by rw [zTV_len hd]; decide) (rfl)) ?_
 refine RS (ok_loadA (s := 1000010) (by decide) Tryz.underlying54 rfl (size54.of (by rw [List.length_map]; exact ((xorK_length (byL E) s c 0 d).trans hd))) rfl rfl) ?_
 refine RN ?_
 refine ZM 1000102 (fun B' => ok_callB (Message_ok (x % 4096) s c hs hc (xorK (byL E) s c 0 d) ((xorK_length (byL E) s c 0 d).trans hd) (Nat.mod_lt _ (by decide))) newD_mono (A3 rfl rfl rfl)) rfl fun b102 ⟨hBb102, hb102⟩ => ?_
 have hlt_b3_b102 := hb102 1000003 b3 _ _ rfl
 have hlt_b4_b102 := hb102 1000004 b4 _ _ rfl
 have hlt_b5_b102 := hb102 1000005 b5 _ _ rfl
 have hlt_b7_b102 := hb102 1000007 b7 _ _ rfl
 have hlt_b8_b102 := hb102 1000008 b8 _ _ rfl
 have hlt_b10_b102 := hb102 1000010 b10 _ _ rfl
 have hlt_b11_b102 := hb102 1000011 b11 _ _ rfl
 have hlt_b15_b102 := hb102 1000015 b15 _ _ rfl
 have hlt_b17_b102 := hb102 1000017 b17 _ _ rfl
 have hlt_b19_b102 := hb102 1000019 b19 _ _ rfl
 have hlt_b47_b102 := hb102 1000047 b47 _ _ rfl
 refine TL ?_
 refine RVN 5 rfl ?_
 refine GTD ?_
 refine RV 2 rfl ?_
 refine RZ (.bool true) (by rfl) ?_
 refine RV 3 rfl ?_
 refine RZ (.bool true) (by rfl) ?_
 refine RQ (ok_field field58_1 (by decide) rfl) ?_
 refine RQ (OpOk.fact (ok_sliceX (l := 0) (h := 32) (m := 32) Tryz.underlying52 info5 rfl (.inr ⟨rfl, rfl⟩) (.inr ⟨rfl, rfl, rfl⟩) (.inr ⟨rfl, rfl⟩) (by decide) (by decide) (by decide) (.inl (by decide))) (d := byt K) (s := 1000008) (by decide) rfl (slice_byt K hK.symm (by decide) (by simp only [maxLen]; omega) (KM_mac (byL E) hK))) ?_
 refine RQ (OpOk.fact (ok_move rfl) (d := byt (msgL (x % 4096) s c (xorK (byL E) s c 0 d))) (s := 1000102) (by decide) rfl (slice_byt (msgL (x % 4096) s c (xorK (byL E) s c 0 d)) (msgL_length ((xorK_length (byL E) s c 0 d).trans hd)).symm (by decide) (by decide) (by rw [List.drop_zero, List.take_of_length_le (by rw [List.length_map, msgL_length ((xorK_length (byL E) s c 0 d).trans hd)]; decide)]))) ?_
 refine RQ (ok_build [byt (msgL (x % 4096) s c (xorK (byL E) s c 0 d))] Tryz.underlying103 info22 rfl (by decide) (by decide) rfl ⟨rfl, rfl, trivial⟩ (fun d hd w x h => by simp only [List.mem_cons, List.not_mem_nil, or_false] at hd; rcases hd with rfl <;> first | exact lst_one h | exact bytes_one h | exact old_one (fun _ _ h => lst_one h) h | exact list_one h | exact v_one rfl h)) ?_
 refine RQ (ok_callM (macOf_fn K [(msgL (x % 4096) s c (xorK (byL E) s c 0 d))] (msgL (x % 4096) s c (xorK (byL E) s c 0 d)) (by simp) (by rw [hK]; decide) (by simp) (by rw [msgL_length ((xorK_length (byL E) s c 0 d).trans hd)]; decide)) (Sub.cons rfl (Sub.cons rfl KN)) tabs_v (Args.cons rfl (Le.refl _) (Args.cons rfl (list_lst1 (Le.refl _)) Args.nil))) ?_
 refine RQ (ok_loadA (s := 1000011) (by decide) Tryz.underlying31 rfl (size31.of (by rw [List.length_map, hmac_length])) rfl rfl) ?_
 refine RQ (ok_eqlT (n := 3) (decide ((hmac K (msgL (x % 4096) s c (xorK (byL E) s c 0 d))) = (hmac K (msgL (x % 4096) s c (xorK (byL E) s c 0 d))))) flat31 (by decide) (by kernel_rfl) (by kernel_rfl) rfl rfl (kinB (hmac_length _ _)) (kinB (hmac_length K _)) (decB _ _)) ?_; refine RZ (.bool true) (by simp) ?_
 refine RQ (ok_beq Tryz.underlying4 rfl rfl) ?_; refine RZ (.bool true) (by rfl) ?_
 refine RV 2 rfl ?_
 refine RQ (ok_loadA (s := 1000003) (by decide) Tryz.underlying52 rfl (size52.of (by rw [List.length_map, hp])) rfl rfl) ?_
 refine RQ (ok_loadA (s := 1000004) (by decide) Tryz.underlying52 rfl (size52.of (by rw [List.length_map, hp])) rfl rfl) ?_
 refine RQ (ok_neqT (n := 3) (decide (p = p)) flatMK (by decide) (by kernel_rfl) (by kernel_rfl) rfl rfl (kinB hp) (kinB hp) (decB _ _)) ?_; refine RZ (.bool false) (by simp) ?_
 refine RV 3 rfl ?_
 refine RZ (.bool true) (by rfl) ?_
 refine RV 3 rfl ?_
 refine RQ (ok_callM (live11_fn) (Sub.cons rfl (Sub.cons rfl KN)) tabs_v Args.nil) ?_
 refine RVN 2 rfl ?_
 refine A.sub (SV [6, 1000003, 1000004, 1000005, 1000007, 1000008, 1000010, 1000011, 1000015, 1000017, 1000019, 1000047, 1000102, 1900000, 1900001] rfl) ?_
 refine A.ret ?_
 exact ER rfl rfl
set_option maxHeartbeats 4000000 in
theorem TopRecord_B (p q E F K L d : List UInt8) (x s c : Nat) (hx : x < 65536) (hs : s < 4294967296) (hc : c < 18446744073709551616) (hd : d.length = 32) (hp : p.length = 32) (hE : E.length = 16) (hK : K.length = 32) (hq : q.length = 32) (hF : F.length = 16) (hL : L.length = 32) (hne : p ≠ q) (hV : FnM Tryz.prog 23 tabs [.v (aggV (p.map byteV))] (.v (aggV (E.map byteV ++ K.map byteV)))) (hW : FnM Tryz.prog 23 tabs [.v (aggV (q.map byteV))] (.v (aggV (F.map byteV ++ L.map byteV)))) (ht : (hmac K (msgL (x % 4096) s c (xorK (byL E) s c 0 d))) = (hmac L (msgL (x % 4096) s c (xorK (byL E) s c 0 d)))) : FnM Tryz.prog 5 tabs [.v (aggV (p.map byteV)), .v (aggV (q.map byteV)), .v (aggV (zTV x s c d))] (.v (.bool true)) := by
 refine FnM.of Tryz.func5 rfl (by kernel_rfl) Tryz.ntmps5 (by simp) (by decide) (fun w => [(0, .v (aggV (p.map byteV))), (1, .v (aggV (q.map byteV))), (2, .v (aggV (zTV x s c d))), (1900000, tab 0 (H8.list.map u32V)), (1900001, tab 1 (K64.map u32V))]) (fun w => (StartM.v rfl (StartM.v rfl (StartM.v rfl (StartM.m (by simp [tabs]) (by decide) (StartM.m (by simp [tabs]) (by decide) StartM.nil)))))) fun w₀ hM => ?_
 have htab := tabs_hi hM
 refine GS ?_
 refine TN 0 ?_
 refine RN ?_
 refine ZB 1000003 rfl fun b3 ⟨hBb3, hb3⟩ => ?_
 refine TN 1 ?_
 refine RN ?_
 refine ZB 1000004 rfl fun b4 ⟨hBb4, hb4⟩ => ?_
 have hlt_b3_b4 := hb4 1000003 b3 _ _ rfl
 refine TN 2 ?_
 refine RN ?_
 refine ZB 1000005 rfl fun b5 ⟨hBb5, hb5⟩ => ?_
 refine TL ?_
 refine RVN 1 rfl ?_
 refine A.regsK [⟨4, 7, 58, List.replicate 16 (.int .u8 0) ++ List.replicate 32 (.int .u8 0), 6, rowV 16 (byL E) ++ K.map byteV⟩, ⟨5, 8, 58, List.replicate 16 (.int .u8 0) ++ List.replicate 32 (.int .u8 0), 7, rowV 16 (byL F) ++ L.map byteV⟩] (by kernel_rfl) (by kernel_rfl) (by kernel_rfl) ?_
 refine KopsK.pure (_) rfl (.inl rfl) FromV.all (fun B' => (ok_loadA (s := 1000003) (by decide) Tryz.underlying52 rfl (size52.of (by rw [List.length_map, hp])) rfl rfl)) ?_
 refine KopsK.pure ((23, .v _) :: _) rfl (.inl rfl) (FromV.op 0 (by kernel_rfl) rfl rfl FromV.all) (fun B' => (OpOk.asV (aggV (rowV 16 (byL E) ++ K.map byteV)) (congrArg aggV (by rw [rowV_byL hE])) (ok_callM (hV) (Sub.cons rfl (Sub.cons rfl KN)) tabs_v (A1 rfl)))) ?_
 refine KopsK.pure (_) rfl (.inl rfl) FromV.all (fun B' => (ok_loadA (s := 1000004) (by decide) Tryz.underlying52 rfl (size52.of (by rw [List.length_map, hq])) rfl rfl)) ?_
 refine KopsK.pure ((25, .v _) :: _) rfl (.inl rfl) (FromV.op 2 (by kernel_rfl) rfl rfl FromV.all) (fun B' => (OpOk.asV (aggV (rowV 16 (byL F) ++ L.map byteV)) (congrArg aggV (by rw [rowV_byL hF])) (ok_callM (hW) (Sub.cons rfl (Sub.cons rfl KN)) tabs_v (A1 rfl)))) ?_
 refine KopsK.alloc 0 rfl rfl rfl rfl zero58 rfl ?_
 refine KopsK.alloc 1 rfl rfl rfl rfl zero58 rfl ?_
 refine KopsK.store 0 ((24, .v _) :: _) rfl rfl rfl rfl (by kernel_rfl) (FromV.op 1 (by kernel_rfl) rfl rfl FromV.all) rfl (size58.of (by simp [rowV_length, hK])) (by simp [rowV_length, hK]) (KM_one _ _) ?_
 refine KopsK.store 1 ((26, .v _) :: _) rfl rfl rfl rfl (by kernel_rfl) (FromV.op 3 (by kernel_rfl) rfl rfl FromV.all) rfl (size58.of (by simp [rowV_length, hL])) (by simp [rowV_length, hL]) (KM_one _ _) ?_
 refine KopsK.nil ⟨by kernel_rfl, _, FromW.all, fun bs hbs hds => ?_⟩
 have hb7 := hbs 0 (by simp)
 have hb8 := hbs 1 (by simp)
 have hne_b7_b8 := hds 0 1 (by simp) (by simp) (by decide)
 dsimp only [varEnv]
 generalize bs 0 = b7 at *
 generalize bs (0 + 1) = b8 at *
 have hBb7 := hb7.1
 have hlt_b3_b7 : b3 < b7 := hb7.2 1000003 _ _ _ rfl
 have hlt_b4_b7 : b4 < b7 := hb7.2 1000004 _ _ _ rfl
 have hlt_b5_b7 : b5 < b7 := hb7.2 1000005 _ _ _ rfl
 have hBb8 := hb8.1
 have hlt_b3_b8 : b3 < b8 := hb8.2 1000003 _ _ _ rfl
 have hlt_b4_b8 : b4 < b8 := hb8.2 1000004 _ _ _ rfl
 have hlt_b5_b8 : b5 < b8 := hb8.2 1000005 _ _ _ rfl
 refine A.sub (SV [3, 4, 5, 7, 8, 1000003, 1000004, 1000005, 1000007, 1000008, 1900000, 1900001] rfl) ?_
 refine GT ?_
 refine RS (ok_field field56_0 (by decide) rfl) ?_
 refine RLV 1000005 Tryz.underlying53 rfl rfl rfl ?_
 refine RS (ok_rem rfl rfl (by decide)) ?_; refine RZ (.int .u16 (((x % 4096) : Nat) : Int)) (by rw [tmod_lit _ (by decide)]; rfl) ?_
 refine RS (ok_conv Tryz.underlying53 Tryz.underlying3 rfl) ?_; refine RZ (nI ((x % 4096))) (by rw [wrapN_i64 (by omega)]) ?_
 refine RVN 1 rfl ?_
 refine GS ?_
 refine TN 11 ?_
 refine RS (ok_loadA (s := 1000007) (by decide) Tryz.underlying58 rfl (size58.of (by simp [rowV_length, hK])) rfl rfl) ?_
 refine RM rfl ?_
 refine RS (ok_field field56_1 (by decide) rfl) ?_
 refine RS (ok_loadP (s := 1000005) (by decide) Tryz.underlying41 rfl size41 rfl rfl (by rw [zTV_len hd]; decide) (rfl)) ?_
 refine RS (ok_field field56_2 (by decide) rfl) ?_
 refine RS (ok_loadP (s := 1000005) (by decide) Tryz.underlying54 rfl size54 rfl rfl (by rw [zTV_len hd]; decide) (zTV_d hd x s c)) ?_
 refine RS (ok_callM (Seal_ok (byL E) K (byL_lt E) hK (x % 4096) s c hs hc d hd (Nat.mod_lt _ (by decide))) (Sub.cons rfl (Sub.cons rfl KN)) tabs_v (Args.cons rfl (Le.refl _) (A3 rfl rfl rfl))) ?_
 refine RVN 4 rfl ?_
 refine ZN 1000010 zero54 fun b10 ⟨hBb10, hb10⟩ => ?_
 refine TN 12 ?_
 refine RN ?_
 refine ZN 1000011 zero31 fun b11 ⟨hBb11, hb11⟩ => ?_
 refine TF 13 ?_
 refine RN ?_
 refine ⟨_, eff_storeA (n := 131) (s := 1000010) (size54.of (by rw [List.length_map]; exact ((xorK_length (byL E) s c 0 d).trans hd))) rfl rfl (all_bytes _) hBb10 rfl (by rw [List.length_map, List.length_replicate]; exact ((xorK_length (byL E) s c 0 d).trans hd).symm) (LT 1000003 rfl (LT 1000004 rfl (LT 1000005 rfl (LT 1000007 rfl (LT 1000008 rfl (LT 1000011 rfl (LeftS.cons (t := 1900000) rfl (Surv.tab (by omega)) (LeftS.cons (t := 1900001) rfl (Surv.tab (by omega)) (LW [3, 4, 5, 7, 8, 9, 10, 11, 40, 41] rfl))))))))), ?_⟩
 refine TF 14 ?_
 refine RN ?_
 refine ⟨_, eff_storeA (n := 131) (s := 1000011) (size31.of (by rw [List.length_map, hmac_length])) rfl rfl (all_bytes _) hBb11 rfl (by first | (rw [List.length_map, hmac_length, List.length_replicate]; done) | (rw [List.length_map, hmac_length]; rfl)) (LT 1000003 rfl (LT 1000004 rfl (LT 1000005 rfl (LT 1000007 rfl (LT 1000008 rfl (LT 1000010 rfl (LeftS.cons (t := 1900000) rfl (Surv.tab (by omega)) (LeftS.cons (t := 1900001) rfl (Surv.tab (by omega)) (LW [3, 4, 5, 7, 8, 9, 10, 11, 41] rfl))))))))), ?_⟩
 refine TL ?_
 refine RVN 1 rfl ?_
 refine GS ?_
 refine TN 4 ?_
 refine RS (ok_field field56_1 (by decide) rfl) ?_
 refine RS (ok_loadP (s := 1000005) (by decide) Tryz.underlying41 rfl size41 rfl rfl (by rw [zTV_len hd]; decide) (rfl)) ?_
 refine RS (ok_loadA (s := 1000011) (by decide) Tryz.underlying31 rfl (size31.of (by rw [List.length_map, hmac_length])) rfl rfl) ?_
 refine RS (ok_litS [(0, byteV 1), (1, aggV [nW s, nQ c]), (2, aggV ((hmac K (msgL (x % 4096) s c (xorK (byL E) s c 0 d))).map byteV))] (recV 1 s c (hmac K (msgL (x % 4096) s c (xorK (byL E) s c 0 d)))) ⟨rfl, rfl, rfl, rfl, rfl, rfl, trivial⟩ (by exact bRecT 1 s c (hmac_length K _))) ?_
 refine RN ?_
 refine ZM 1000047 (fun B' => ok_callB (PutRecord_okB 1 s c (hmac K (msgL (x % 4096) s c (xorK (byL E) s c 0 d))) (hmac_length K _) hs hc good1) newD_mono (A1 rfl)) rfl fun b47 ⟨hBb47, hb47⟩ => ?_
 have hlt_b3_b47 := hb47 1000003 b3 _ _ rfl
 have hlt_b4_b47 := hb47 1000004 b4 _ _ rfl
 have hlt_b5_b47 := hb47 1000005 b5 _ _ rfl
 have hlt_b7_b47 := hb47 1000007 b7 _ _ rfl
 have hlt_b8_b47 := hb47 1000008 b8 _ _ rfl
 have hlt_b10_b47 := hb47 1000010 b10 _ _ rfl
 have hlt_b11_b47 := hb47 1000011 b11 _ _ rfl
 refine TL ?_
 refine RVN 5 rfl ?_
 refine A.sub (SV [3, 4, 5, 7, 8, 9, 10, 11, 12, 13, 14, 1000003, 1000004, 1000005, 1000007, 1000008, 1000010, 1000011, 1000047, 1900000, 1900001] rfl) ?_
 refine GS ?_
 refine TN 5 ?_
 refine RS (OpOk.fact (ok_move rfl) (d := byt (recL 1 s c (hmac K (msgL (x % 4096) s c (xorK (byL E) s c 0 d))))) (s := 1000047) (by decide) rfl (slice_byt (recL 1 s c (hmac K (msgL (x % 4096) s c (xorK (byL E) s c 0 d)))) (recL_len 1 s c (hmac_length K _)).symm (by decide) (by decide) (by rw [List.drop_zero, List.take_of_length_le (by rw [List.length_map, recL_len 1 s c (hmac_length K _)]; decide)]))) ?_
 refine RS (ok_call (GetRecord_put 1 s c (hmac K (msgL (x % 4096) s c (xorK (byL E) s c 0 d))) (hmac_length K _) hs hc good1) (A1 rfl)) ?_
 refine RVN 3 rfl ?_
 refine ZN 1000015 zero64 fun b15 ⟨hBb15, hb15⟩ => ?_
 refine TF 6 ?_
 refine RN ?_
 refine ⟨_, eff_storeA (n := 131) (s := 1000015) (size64.of (rec_len 1 s c (hmac_length K _))) rfl rfl (rec_one _ _ _ _) hBb15 rfl (by rw [rec_len 1 s c (hmac_length K _)]; rfl) (LT 1000003 rfl (LT 1000004 rfl (LT 1000005 rfl (LT 1000007 rfl (LT 1000008 rfl (LT 1000010 rfl (LT 1000011 rfl (LT 1000047 rfl (LeftS.cons (t := 1900000) rfl (Surv.tab (by omega)) (LeftS.cons (t := 1900001) rfl (Surv.tab (by omega)) (LW [3, 4, 5, 7, 8, 9, 10, 11, 12, 14, 15, 54] rfl))))))))))), ?_⟩
 refine TL ?_
 refine RVN 1 rfl ?_
 refine GS ?_
 refine TN 11 ?_
 refine RS (ok_loadA (s := 1000007) (by decide) Tryz.underlying58 rfl (size58.of (by simp [rowV_length, hK])) rfl rfl) ?_
 refine RM rfl ?_
 refine RS (ok_field field64_1 (by decide) rfl) ?_
 refine RS (ok_loadP (s := 1000015) (by decide) Tryz.underlying41 rfl size41 rfl rfl (by simp [recV]) (rfl)) ?_
 refine RS (ok_loadA (s := 1000010) (by decide) Tryz.underlying54 rfl (size54.of (by rw [List.length_map]; exact ((xorK_length (byL E) s c 0 d).trans hd))) rfl rfl) ?_
 refine RS (ok_field field64_2 (by decide) rfl) ?_
 refine RS (ok_loadP (s := 1000015) (by decide) Tryz.underlying31 rfl size31 rfl rfl (by simp [recV, hmac_length]) (rec_tag (hmac_length K _))) ?_
 refine RS (ok_callM (Open_ok (byL E) K (byL_lt E) hK (x % 4096) s c hs hc (xorK (byL E) s c 0 d) ((xorK_length (byL E) s c 0 d).trans hd) (Nat.mod_lt _ (by decide)) (hmac K (msgL (x % 4096) s c (xorK (byL E) s c 0 d))) (hmac_length K _) rfl) (Sub.cons rfl (Sub.cons rfl KN)) tabs_v (Args.cons rfl (Le.refl _) (Args.cons rfl (Le.refl _) (A3 rfl rfl rfl)))) ?_; refine RZ (.tuple #[aggV (d.map byteV), .int .i64 0]) (by rw [xorK_xorK (byL_lt E)]) ?_
 refine RVN 3 rfl ?_
 refine ZN 1000017 zero54 fun b17 ⟨hBb17, hb17⟩ => ?_
 have hlt_b10_b17 := hb17 1000010 b10 _ _ rfl
 refine TF 12 ?_
 refine RN ?_
 refine ⟨_, eff_storeA (n := 131) (s := 1000017) (size54.of (by rw [List.length_map, hd])) rfl rfl (all_bytes _) hBb17 rfl (by rw [List.length_map, hd]; rfl) (LT 1000003 rfl (LT 1000004 rfl (LT 1000005 rfl (LT 1000007 rfl (LT 1000008 rfl (LB 1000010 rfl (LT 1000011 rfl (LT 1000015 rfl (LT 1000047 rfl (LeftS.cons (t := 1900000) rfl (Surv.tab (by omega)) (LeftS.cons (t := 1900001) rfl (Surv.tab (by omega)) (LW [3, 4, 5, 8, 9, 10, 11, 12, 14, 15, 16, 17, 65] rfl)))))))))))), ?_⟩
 refine TL ?_
 refine RVN 1 rfl ?_
 refine QS ?_
 refine GT ?_
 refine RV 2 rfl ?_
 refine RZ (.bool false) (by rfl) ?_
 refine RV 3 rfl ?_
 refine RZ (.bool false) (by rfl) ?_
 refine RV 4 rfl ?_
 refine RZ (.bool false) (by rfl) ?_
 refine RV 4 rfl ?_
 refine RZ (.bool false) (by rfl) ?_
 refine RV 2 rfl ?_
 refine RQ (ok_loadA (s := 1000017) (by decide) Tryz.underlying54 rfl (size54.of (by rw [List.length_map, hd])) rfl rfl) ?_
 refine RQ (ok_field field56_2 (by decide) rfl) ?_
 refine RQ (ok_loadP (s := 1000005) (by decide) Tryz.underlying54 rfl size54 rfl rfl (by rw [zTV_len hd]; decide) (zTV_d hd x s c)) ?_
 refine RQ (ok_neqT (n := 3) true flat54 (by decide) (by kernel_rfl) (by kernel_rfl) rfl rfl (kinB hd) (kinB hd) ⟨fun _ => rfl, fun _ => rfl⟩) ?_; refine RZ (.bool false) (by rfl) ?_
 refine RVN 1 rfl ?_
 refine A.sub (SV [3, 4, 5, 8, 9, 10, 11, 15, 85, 1000003, 1000004, 1000005, 1000007, 1000008, 1000010, 1000011, 1000015, 1000017, 1000047, 1900000, 1900001] rfl) ?_
 refine A.no rfl ?_
 refine QK ?_
 refine GS ?_
 refine TN 11 ?_
 refine RS (ok_loadA (s := 1000008) (by decide) Tryz.underlying58 rfl (size58.of (by simp [rowV_length, hL])) rfl rfl) ?_
 refine RM rfl ?_
 refine RS (ok_field field64_1 (by decide) rfl) ?_
 refine RS (ok_loadP (s := 1000015) (by decide) Tryz.underlying41 rfl size41 rfl rfl (by simp [recV]) (rfl)) ?_
 refine RS (ok_loadA (s := 1000010) (by decide) Tryz.underlying54 rfl (size54.of (by rw [List.length_map]; exact ((xorK_length (byL E) s c 0 d).trans hd))) rfl rfl) ?_
 refine RS (ok_field field64_2 (by decide) rfl) ?_
 refine RS (ok_loadP (s := 1000015) (by decide) Tryz.underlying31 rfl size31 rfl rfl (by simp [recV, hmac_length]) (rec_tag (hmac_length K _))) ?_
 refine RS (ok_callM (Open_ok (byL F) L (byL_lt F) hL (x % 4096) s c hs hc (xorK (byL E) s c 0 d) ((xorK_length (byL E) s c 0 d).trans hd) (Nat.mod_lt _ (by decide)) (hmac K (msgL (x % 4096) s c (xorK (byL E) s c 0 d))) (hmac_length K _) ht) (Sub.cons rfl (Sub.cons rfl KN)) tabs_v (Args.cons rfl (Le.refl _) (Args.cons rfl (Le.refl _) (A3 rfl rfl rfl)))) ?_
 refine RVN 3 rfl ?_
 refine ZN 1000019 zero54 fun b19 ⟨hBb19, hb19⟩ => ?_
 have hlt_b10_b19 := hb19 1000010 b10 _ _ rfl
 have hlt_b17_b19 := hb19 1000017 b17 _ _ rfl
 refine TF 12 ?_
 refine RN ?_
 refine ⟨_, eff_storeA (n := 131) (s := 1000019) (size54.of (by rw [List.length_map, xorK_length, xorK_length, hd])) rfl rfl (all_bytes _) hBb19 rfl (by rw [List.length_map, xorK_length, xorK_length, hd]; rfl) (LT 1000003 rfl (LT 1000004 rfl (LT 1000005 rfl (LT 1000007 rfl (LT 1000008 rfl (LB 1000010 rfl (LT 1000011 rfl (LT 1000015 rfl (LB 1000017 rfl (LT 1000047 rfl (LeftS.cons (t := 1900000) rfl (Surv.tab (by omega)) (LeftS.cons (t := 1900001) rfl (Surv.tab (by omega)) (LW [3, 4, 5, 8, 9, 10, 11, 96] rfl))))))))))))), ?_⟩
 refine TL ?_
 refine RVN 1 rfl ?_
 refine GS ?_
 refine TN 4 ?_
 refine RM rfl ?_
 refine RS (ok_field field56_1 (by decide) rfl) ?_
 refine RS (ok_loadP (s := 1000005) (by decide) Tryz.underlying41 rfl size41 rfl rfl (by rw [zTV_len hd]; decide) (rfl)) ?_
 refine RS (ok_loadA (s := 1000010) (by decide) Tryz.underlying54 rfl (size54.of (by rw [List.length_map]; exact ((xorK_length (byL E) s c 0 d).trans hd))) rfl rfl) ?_
 refine RN ?_
 refine ZM 1000102 (fun B' => ok_callB (Message_ok (x % 4096) s c hs hc (xorK (byL E) s c 0 d) ((xorK_length (byL E) s c 0 d).trans hd) (Nat.mod_lt _ (by decide))) newD_mono (A3 rfl rfl rfl)) rfl fun b102 ⟨hBb102, hb102⟩ => ?_
 have hlt_b3_b102 := hb102 1000003 b3 _ _ rfl
 have hlt_b4_b102 := hb102 1000004 b4 _ _ rfl
 have hlt_b5_b102 := hb102 1000005 b5 _ _ rfl
 have hlt_b7_b102 := hb102 1000007 b7 _ _ rfl
 have hlt_b8_b102 := hb102 1000008 b8 _ _ rfl
 have hlt_b10_b102 := hb102 1000010 b10 _ _ rfl
 have hlt_b11_b102 := hb102 1000011 b11 _ _ rfl
 have hlt_b15_b102 := hb102 1000015 b15 _ _ rfl
 have hlt_b17_b102 := hb102 1000017 b17 _ _ rfl
 have hlt_b19_b102 := hb102 1000019 b19 _ _ rfl
 have hlt_b47_b102 := hb102 1000047 b47 _ _ rfl
 refine TL ?_
 refine RVN 5 rfl ?_
 refine GTD ?_
 refine RV 2 rfl ?_
 refine RZ (.bool true) (by rfl) ?_
 refine RV 3 rfl ?_
 refine RZ (.bool true) (by rfl) ?_
 refine RQ (ok_field field58_1 (by decide) rfl) ?_
 refine RQ (OpOk.fact (ok_sliceX (l := 0) (h := 32) (m := 32) Tryz.underlying52 info5 rfl (.inr ⟨rfl, rfl⟩) (.inr ⟨rfl, rfl, rfl⟩) (.inr ⟨rfl, rfl⟩) (by decide) (by decide) (by decide) (.inl (by decide))) (d := byt L) (s := 1000008) (by decide) rfl (slice_byt L hL.symm (by decide) (by simp only [maxLen]; omega) (KM_mac (byL F) hL))) ?_
 refine RQ (OpOk.fact (ok_move rfl) (d := byt (msgL (x % 4096) s c (xorK (byL E) s c 0 d))) (s := 1000102) (by decide) rfl (slice_byt (msgL (x % 4096) s c (xorK (byL E) s c 0 d)) (msgL_length ((xorK_length (byL E) s c 0 d).trans hd)).symm (by decide) (by decide) (by rw [List.drop_zero, List.take_of_length_le (by rw [List.length_map, msgL_length ((xorK_length (byL E) s c 0 d).trans hd)]; decide)]))) ?_
 refine RQ (ok_build [byt (msgL (x % 4096) s c (xorK (byL E) s c 0 d))] Tryz.underlying103 info22 rfl (by decide) (by decide) rfl ⟨rfl, rfl, trivial⟩ (fun d hd w x h => by simp only [List.mem_cons, List.not_mem_nil, or_false] at hd; rcases hd with rfl <;> first | exact lst_one h | exact bytes_one h | exact old_one (fun _ _ h => lst_one h) h | exact list_one h | exact v_one rfl h)) ?_
 refine RQ (ok_callM (macOf_fn L [(msgL (x % 4096) s c (xorK (byL E) s c 0 d))] (msgL (x % 4096) s c (xorK (byL E) s c 0 d)) (by simp) (by rw [hL]; decide) (by simp) (by rw [msgL_length ((xorK_length (byL E) s c 0 d).trans hd)]; decide)) (Sub.cons rfl (Sub.cons rfl KN)) tabs_v (Args.cons rfl (Le.refl _) (Args.cons rfl (list_lst1 (Le.refl _)) Args.nil))) ?_
 refine RQ (ok_loadA (s := 1000011) (by decide) Tryz.underlying31 rfl (size31.of (by rw [List.length_map, hmac_length])) rfl rfl) ?_
 refine RQ (ok_eqlT (n := 3) (decide ((hmac L (msgL (x % 4096) s c (xorK (byL E) s c 0 d))) = (hmac K (msgL (x % 4096) s c (xorK (byL E) s c 0 d))))) flat31 (by decide) (by kernel_rfl) (by kernel_rfl) rfl rfl (kinB (hmac_length _ _)) (kinB (hmac_length K _)) (decB _ _)) ?_; refine RZ (.bool true) (by simp [ht]) ?_
 refine RQ (ok_beq Tryz.underlying4 rfl rfl) ?_; refine RZ (.bool true) (by rfl) ?_
 refine RV 2 rfl ?_
 refine RQ (ok_loadA (s := 1000003) (by decide) Tryz.underlying52 rfl (size52.of (by rw [List.length_map, hp])) rfl rfl) ?_
 refine RQ (ok_loadA (s := 1000004) (by decide) Tryz.underlying52 rfl (size52.of (by rw [List.length_map, hq])) rfl rfl) ?_
 refine RQ (ok_neqT (n := 3) (decide (p = q)) flatMK (by decide) (by kernel_rfl) (by kernel_rfl) rfl rfl (kinB hp) (kinB hq) (decB _ _)) ?_; refine RZ (.bool true) (by simp [hne]) ?_
 refine RV 6 rfl ?_
 refine RQ (ok_callM (live11_fn) (Sub.cons rfl (Sub.cons rfl KN)) tabs_v Args.nil) ?_
 refine RVN 2 rfl ?_
 refine A.sub (SV [6, 1000003, 1000004, 1000005, 1000007, 1000008, 1000010, 1000011, 1000015, 1000017, 1000019, 1000047, 1000102, 1900000, 1900001] rfl) ?_
 refine A.ret ?_
 exact ER rfl rfl
set_option maxHeartbeats 4000000 in
theorem TopRecord_C (p q E F K L d : List UInt8) (x s c : Nat) (hx : x < 65536) (hs : s < 4294967296) (hc : c < 18446744073709551616) (hd : d.length = 32) (hp : p.length = 32) (hE : E.length = 16) (hK : K.length = 32) (hq : q.length = 32) (hF : F.length = 16) (hL : L.length = 32) (hne : p ≠ q) (hV : FnM Tryz.prog 23 tabs [.v (aggV (p.map byteV))] (.v (aggV (E.map byteV ++ K.map byteV)))) (hW : FnM Tryz.prog 23 tabs [.v (aggV (q.map byteV))] (.v (aggV (F.map byteV ++ L.map byteV)))) (ht : (hmac K (msgL (x % 4096) s c (xorK (byL E) s c 0 d))) ≠ (hmac L (msgL (x % 4096) s c (xorK (byL E) s c 0 d)))) : FnM Tryz.prog 5 tabs [.v (aggV (p.map byteV)), .v (aggV (q.map byteV)), .v (aggV (zTV x s c d))] (.v (.bool true)) := by
 refine FnM.of Tryz.func5 rfl (by kernel_rfl) Tryz.ntmps5 (by simp) (by decide) (fun w => [(0, .v (aggV (p.map byteV))), (1, .v (aggV (q.map byteV))), (2, .v (aggV (zTV x s c d))), (1900000, tab 0 (H8.list.map u32V)), (1900001, tab 1 (K64.map u32V))]) (fun w => (StartM.v rfl (StartM.v rfl (StartM.v rfl (StartM.m (by simp [tabs]) (by decide) (StartM.m (by simp [tabs]) (by decide) StartM.nil)))))) fun w₀ hM => ?_
 have htab := tabs_hi hM
 refine GS ?_
 refine TN 0 ?_
 refine RN ?_
 refine ZB 1000003 rfl fun b3 ⟨hBb3, hb3⟩ => ?_
 refine TN 1 ?_
 refine RN ?_
 refine ZB 1000004 rfl fun b4 ⟨hBb4, hb4⟩ => ?_
 have hlt_b3_b4 := hb4 1000003 b3 _ _ rfl
 refine TN 2 ?_
 refine RN ?_
 refine ZB 1000005 rfl fun b5 ⟨hBb5, hb5⟩ => ?_
 refine TL ?_
 refine RVN 1 rfl ?_
 refine A.regsK [⟨4, 7, 58, List.replicate 16 (.int .u8 0) ++ List.replicate 32 (.int .u8 0), 6, rowV 16 (byL E) ++ K.map byteV⟩, ⟨5, 8, 58, List.replicate 16 (.int .u8 0) ++ List.replicate 32 (.int .u8 0), 7, rowV 16 (byL F) ++ L.map byteV⟩] (by kernel_rfl) (by kernel_rfl) (by kernel_rfl) ?_
 refine KopsK.pure (_) rfl (.inl rfl) FromV.all (fun B' => (ok_loadA (s := 1000003) (by decide) Tryz.underlying52 rfl (size52.of (by rw [List.length_map, hp])) rfl rfl)) ?_
 refine KopsK.pure ((23, .v _) :: _) rfl (.inl rfl) (FromV.op 0 (by kernel_rfl) rfl rfl FromV.all) (fun B' => (OpOk.asV (aggV (rowV 16 (byL E) ++ K.map byteV)) (congrArg aggV (by rw [rowV_byL hE])) (ok_callM (hV) (Sub.cons rfl (Sub.cons rfl KN)) tabs_v (A1 rfl)))) ?_
 refine KopsK.pure (_) rfl (.inl rfl) FromV.all (fun B' => (ok_loadA (s := 1000004) (by decide) Tryz.underlying52 rfl (size52.of (by rw [List.length_map, hq])) rfl rfl)) ?_
 refine KopsK.pure ((25, .v _) :: _) rfl (.inl rfl) (FromV.op 2 (by kernel_rfl) rfl rfl FromV.all) (fun B' => (OpOk.asV (aggV (rowV 16 (byL F) ++ L.map byteV)) (congrArg aggV (by rw [rowV_byL hF])) (ok_callM (hW) (Sub.cons rfl (Sub.cons rfl KN)) tabs_v (A1 rfl)))) ?_
 refine KopsK.alloc 0 rfl rfl rfl rfl zero58 rfl ?_
 refine KopsK.alloc 1 rfl rfl rfl rfl zero58 rfl ?_
 refine KopsK.store 0 ((24, .v _) :: _) rfl rfl rfl rfl (by kernel_rfl) (FromV.op 1 (by kernel_rfl) rfl rfl FromV.all) rfl (size58.of (by simp [rowV_length, hK])) (by simp [rowV_length, hK]) (KM_one _ _) ?_
 refine KopsK.store 1 ((26, .v _) :: _) rfl rfl rfl rfl (by kernel_rfl) (FromV.op 3 (by kernel_rfl) rfl rfl FromV.all) rfl (size58.of (by simp [rowV_length, hL])) (by simp [rowV_length, hL]) (KM_one _ _) ?_
 refine KopsK.nil ⟨by kernel_rfl, _, FromW.all, fun bs hbs hds => ?_⟩
 have hb7 := hbs 0 (by simp)
 have hb8 := hbs 1 (by simp)
 have hne_b7_b8 := hds 0 1 (by simp) (by simp) (by decide)
 dsimp only [varEnv]
 generalize bs 0 = b7 at *
 generalize bs (0 + 1) = b8 at *
 have hBb7 := hb7.1
 have hlt_b3_b7 : b3 < b7 := hb7.2 1000003 _ _ _ rfl
 have hlt_b4_b7 : b4 < b7 := hb7.2 1000004 _ _ _ rfl
 have hlt_b5_b7 : b5 < b7 := hb7.2 1000005 _ _ _ rfl
 have hBb8 := hb8.1
 have hlt_b3_b8 : b3 < b8 := hb8.2 1000003 _ _ _ rfl
 have hlt_b4_b8 : b4 < b8 := hb8.2 1000004 _ _ _ rfl
 have hlt_b5_b8 : b5 < b8 := hb8.2 1000005 _ _ _ rfl
 refine A.sub (SV [3, 4, 5, 7, 8, 1000003, 1000004, 1000005, 1000007, 1000008, 1900000, 1900001] rfl) ?_
 refine GT ?_
 refine RS (ok_field field56_0 (by decide) rfl) ?_
 refine RLV 1000005 Tryz.underlying53 rfl rfl rfl ?_
 refine RS (ok_rem rfl rfl (by decide)) ?_; refine RZ (.int .u16 (((x % 4096) : Nat) : Int)) (by rw [tmod_lit _ (by decide)]; rfl) ?_
 refine RS (ok_conv Tryz.underlying53 Tryz.underlying3 rfl) ?_; refine RZ (nI ((x % 4096))) (by rw [wrapN_i64 (by omega)]) ?_
 refine RVN 1 rfl ?_
 refine GS ?_
 refine TN 11 ?_
 refine RS (ok_loadA (s := 1000007) (by decide) Tryz.underlying58 rfl (size58.of (by simp [rowV_length, hK])) rfl rfl) ?_
 refine RM rfl ?_
 refine RS (ok_field field56_1 (by decide) rfl) ?_
 refine RS (ok_loadP (s := 1000005) (by decide) Tryz.underlying41 rfl size41 rfl rfl (by rw [zTV_len hd]; decide) (rfl)) ?_
 refine RS (ok_field field56_2 (by decide) rfl) ?_
 refine RS (ok_loadP (s := 1000005) (by decide) Tryz.underlying54 rfl size54 rfl rfl (by rw [zTV_len hd]; decide) (zTV_d hd x s c)) ?_
 refine RS (ok_callM (Seal_ok (byL E) K (byL_lt E) hK (x % 4096) s c hs hc d hd (Nat.mod_lt _ (by decide))) (Sub.cons rfl (Sub.cons rfl KN)) tabs_v (Args.cons rfl (Le.refl _) (A3 rfl rfl rfl))) ?_
 refine RVN 4 rfl ?_
 refine ZN 1000010 zero54 fun b10 ⟨hBb10, hb10⟩ => ?_
 refine TN 12 ?_
 refine RN ?_
 refine ZN 1000011 zero31 fun b11 ⟨hBb11, hb11⟩ => ?_
 refine TF 13 ?_
 refine RN ?_
 refine ⟨_, eff_storeA (n := 131) (s := 1000010) (size54.of (by rw [List.length_map]; exact ((xorK_length (byL E) s c 0 d).trans hd))) rfl rfl (all_bytes _) hBb10 rfl (by rw [List.length_map, List.length_replicate]; exact ((xorK_length (byL E) s c 0 d).trans hd).symm) (LT 1000003 rfl (LT 1000004 rfl (LT 1000005 rfl (LT 1000007 rfl (LT 1000008 rfl (LT 1000011 rfl (LeftS.cons (t := 1900000) rfl (Surv.tab (by omega)) (LeftS.cons (t := 1900001) rfl (Surv.tab (by omega)) (LW [3, 4, 5, 7, 8, 9, 10, 11, 40, 41] rfl))))))))), ?_⟩
 refine TF 14 ?_
 refine RN ?_
 refine ⟨_, eff_storeA (n := 131) (s := 1000011) (size31.of (by rw [List.length_map, hmac_length])) rfl rfl (all_bytes _) hBb11 rfl (by first | (rw [List.length_map, hmac_length, List.length_replicate]; done) | (rw [List.length_map, hmac_length]; rfl)) (LT 1000003 rfl (LT 1000004 rfl (LT 1000005 rfl (LT 1000007 rfl (LT 1000008 rfl (LT 1000010 rfl (LeftS.cons (t := 1900000) rfl (Surv.tab (by omega)) (LeftS.cons (t := 1900001) rfl (Surv.tab (by omega)) (LW [3, 4, 5, 7, 8, 9, 10, 11, 41] rfl))))))))), ?_⟩
 refine TL ?_
 refine RVN 1 rfl ?_
 refine GS ?_
 refine TN 4 ?_
 refine RS (ok_field field56_1 (by decide) rfl) ?_
 refine RS (ok_loadP (s := 1000005) (by decide) Tryz.underlying41 rfl size41 rfl rfl (by rw [zTV_len hd]; decide) (rfl)) ?_
 refine RS (ok_loadA (s := 1000011) (by decide) Tryz.underlying31 rfl (size31.of (by rw [List.length_map, hmac_length])) rfl rfl) ?_
 refine RS (ok_litS [(0, byteV 1), (1, aggV [nW s, nQ c]), (2, aggV ((hmac K (msgL (x % 4096) s c (xorK (byL E) s c 0 d))).map byteV))] (recV 1 s c (hmac K (msgL (x % 4096) s c (xorK (byL E) s c 0 d)))) ⟨rfl, rfl, rfl, rfl, rfl, rfl, trivial⟩ (by exact bRecT 1 s c (hmac_length K _))) ?_
 refine RN ?_
 refine ZM 1000047 (fun B' => ok_callB (PutRecord_okB 1 s c (hmac K (msgL (x % 4096) s c (xorK (byL E) s c 0 d))) (hmac_length K _) hs hc good1) newD_mono (A1 rfl)) rfl fun b47 ⟨hBb47, hb47⟩ => ?_
 have hlt_b3_b47 := hb47 1000003 b3 _ _ rfl
 have hlt_b4_b47 := hb47 1000004 b4 _ _ rfl
 have hlt_b5_b47 := hb47 1000005 b5 _ _ rfl
 have hlt_b7_b47 := hb47 1000007 b7 _ _ rfl
 have hlt_b8_b47 := hb47 1000008 b8 _ _ rfl
 have hlt_b10_b47 := hb47 1000010 b10 _ _ rfl
 have hlt_b11_b47 := hb47 1000011 b11 _ _ rfl
 refine TL ?_
 refine RVN 5 rfl ?_
 refine A.sub (SV [3, 4, 5, 7, 8, 9, 10, 11, 12, 13, 14, 1000003, 1000004, 1000005, 1000007, 1000008, 1000010, 1000011, 1000047, 1900000, 1900001] rfl) ?_
 refine GS ?_
 refine TN 5 ?_
 refine RS (OpOk.fact (ok_move rfl) (d := byt (recL 1 s c (hmac K (msgL (x % 4096) s c (xorK (byL E) s c 0 d))))) (s := 1000047) (by decide) rfl (slice_byt (recL 1 s c (hmac K (msgL (x % 4096) s c (xorK (byL E) s c 0 d)))) (recL_len 1 s c (hmac_length K _)).symm (by decide) (by decide) (by rw [List.drop_zero, List.take_of_length_le (by rw [List.length_map, recL_len 1 s c (hmac_length K _)]; decide)]))) ?_
 refine RS (ok_call (GetRecord_put 1 s c (hmac K (msgL (x % 4096) s c (xorK (byL E) s c 0 d))) (hmac_length K _) hs hc good1) (A1 rfl)) ?_
 refine RVN 3 rfl ?_
 refine ZN 1000015 zero64 fun b15 ⟨hBb15, hb15⟩ => ?_
 refine TF 6 ?_
 refine RN ?_
 refine ⟨_, eff_storeA (n := 131) (s := 1000015) (size64.of (rec_len 1 s c (hmac_length K _))) rfl rfl (rec_one _ _ _ _) hBb15 rfl (by rw [rec_len 1 s c (hmac_length K _)]; rfl) (LT 1000003 rfl (LT 1000004 rfl (LT 1000005 rfl (LT 1000007 rfl (LT 1000008 rfl (LT 1000010 rfl (LT 1000011 rfl (LT 1000047 rfl (LeftS.cons (t := 1900000) rfl (Surv.tab (by omega)) (LeftS.cons (t := 1900001) rfl (Surv.tab (by omega)) (LW [3, 4, 5, 7, 8, 9, 10, 11, 12, 14, 15, 54] rfl))))))))))), ?_⟩
 refine TL ?_
 refine RVN 1 rfl ?_
 refine GS ?_
 refine TN 11 ?_
 refine RS (ok_loadA (s := 1000007) (by decide) Tryz.underlying58 rfl (size58.of (by simp [rowV_length, hK])) rfl rfl) ?_
 refine RM rfl ?_
 refine RS (ok_field field64_1 (by decide) rfl) ?_
 refine RS (ok_loadP (s := 1000015) (by decide) Tryz.underlying41 rfl size41 rfl rfl (by simp [recV]) (rfl)) ?_
 refine RS (ok_loadA (s := 1000010) (by decide) Tryz.underlying54 rfl (size54.of (by rw [List.length_map]; exact ((xorK_length (byL E) s c 0 d).trans hd))) rfl rfl) ?_
 refine RS (ok_field field64_2 (by decide) rfl) ?_
 refine RS (ok_loadP (s := 1000015) (by decide) Tryz.underlying31 rfl size31 rfl rfl (by simp [recV, hmac_length]) (rec_tag (hmac_length K _))) ?_
 refine RS (ok_callM (Open_ok (byL E) K (byL_lt E) hK (x % 4096) s c hs hc (xorK (byL E) s c 0 d) ((xorK_length (byL E) s c 0 d).trans hd) (Nat.mod_lt _ (by decide)) (hmac K (msgL (x % 4096) s c (xorK (byL E) s c 0 d))) (hmac_length K _) rfl) (Sub.cons rfl (Sub.cons rfl KN)) tabs_v (Args.cons rfl (Le.refl _) (Args.cons rfl (Le.refl _) (A3 rfl rfl rfl)))) ?_; refine RZ (.tuple #[aggV (d.map byteV), .int .i64 0]) (by rw [xorK_xorK (byL_lt E)]) ?_
 refine RVN 3 rfl ?_
 refine ZN 1000017 zero54 fun b17 ⟨hBb17, hb17⟩ => ?_
 have hlt_b10_b17 := hb17 1000010 b10 _ _ rfl
 refine TF 12 ?_
 refine RN ?_
 refine ⟨_, eff_storeA (n := 131) (s := 1000017) (size54.of (by rw [List.length_map, hd])) rfl rfl (all_bytes _) hBb17 rfl (by rw [List.length_map, hd]; rfl) (LT 1000003 rfl (LT 1000004 rfl (LT 1000005 rfl (LT 1000007 rfl (LT 1000008 rfl (LB 1000010 rfl (LT 1000011 rfl (LT 1000015 rfl (LT 1000047 rfl (LeftS.cons (t := 1900000) rfl (Surv.tab (by omega)) (LeftS.cons (t := 1900001) rfl (Surv.tab (by omega)) (LW [3, 4, 5, 8, 9, 10, 11, 12, 14, 15, 16, 17, 65] rfl)))))))))))), ?_⟩
 refine TL ?_
 refine RVN 1 rfl ?_
 refine QS ?_
 refine GT ?_
 refine RV 2 rfl ?_
 refine RZ (.bool false) (by rfl) ?_
 refine RV 3 rfl ?_
 refine RZ (.bool false) (by rfl) ?_
 refine RV 4 rfl ?_
 refine RZ (.bool false) (by rfl) ?_
 refine RV 4 rfl ?_
 refine RZ (.bool false) (by rfl) ?_
 refine RV 2 rfl ?_
 refine RQ (ok_loadA (s := 1000017) (by decide) Tryz.underlying54 rfl (size54.of (by rw [List.length_map, hd])) rfl rfl) ?_
 refine RQ (ok_field field56_2 (by decide) rfl) ?_
 refine RQ (ok_loadP (s := 1000005) (by decide) Tryz.underlying54 rfl size54 rfl rfl (by rw [zTV_len hd]; decide) (zTV_d hd x s c)) ?_
 refine RQ (ok_neqT (n := 3) true flat54 (by decide) (by kernel_rfl) (by kernel_rfl) rfl rfl (kinB hd) (kinB hd) ⟨fun _ => rfl, fun _ => rfl⟩) ?_; refine RZ (.bool false) (by rfl) ?_
 refine RVN 1 rfl ?_
 refine A.sub (SV [3, 4, 5, 8, 9, 10, 11, 15, 85, 1000003, 1000004, 1000005, 1000007, 1000008, 1000010, 1000011, 1000015, 1000017, 1000047, 1900000, 1900001] rfl) ?_
 refine A.no rfl ?_
 refine QK ?_
 refine GS ?_
 refine TN 11 ?_
 refine RS (ok_loadA (s := 1000008) (by decide) Tryz.underlying58 rfl (size58.of (by simp [rowV_length, hL])) rfl rfl) ?_
 refine RM rfl ?_
 refine RS (ok_field field64_1 (by decide) rfl) ?_
 refine RS (ok_loadP (s := 1000015) (by decide) Tryz.underlying41 rfl size41 rfl rfl (by simp [recV]) (rfl)) ?_
 refine RS (ok_loadA (s := 1000010) (by decide) Tryz.underlying54 rfl (size54.of (by rw [List.length_map]; exact ((xorK_length (byL E) s c 0 d).trans hd))) rfl rfl) ?_
 refine RS (ok_field field64_2 (by decide) rfl) ?_
 refine RS (ok_loadP (s := 1000015) (by decide) Tryz.underlying31 rfl size31 rfl rfl (by simp [recV, hmac_length]) (rec_tag (hmac_length K _))) ?_
 refine RS (ok_callM (Open_int (byL F) L (byL_lt F) hL (x % 4096) s c hs hc (xorK (byL E) s c 0 d) ((xorK_length (byL E) s c 0 d).trans hd) (Nat.mod_lt _ (by decide)) (hmac K (msgL (x % 4096) s c (xorK (byL E) s c 0 d))) (hmac_length K _) ht) (Sub.cons rfl (Sub.cons rfl KN)) tabs_v (Args.cons rfl (Le.refl _) (Args.cons rfl (Le.refl _) (A3 rfl rfl rfl)))) ?_
 refine RVN 3 rfl ?_
 refine ZN 1000019 zero54 fun b19 ⟨hBb19, hb19⟩ => ?_
 have hlt_b10_b19 := hb19 1000010 b10 _ _ rfl
 have hlt_b17_b19 := hb19 1000017 b17 _ _ rfl
 refine TF 12 ?_
 refine RN ?_
 refine ZA 1000019 (size54.of rfl) hBb19 rfl rfl rfl (LT 1000003 rfl (LT 1000004 rfl (LT 1000005 rfl (LT 1000007 rfl (LT 1000008 rfl (LB 1000010 rfl (LT 1000011 rfl (LT 1000015 rfl (LB 1000017 rfl (LT 1000047 rfl (LeftS.cons (t := 1900000) rfl (Surv.tab (by omega)) (LeftS.cons (t := 1900001) rfl (Surv.tab (by omega)) (LW [3, 4, 5, 8, 9, 10, 11, 96] rfl))))))))))))) ?_
 refine TL ?_
 refine RVN 1 rfl ?_
 refine GS ?_
 refine TN 4 ?_
 refine RM rfl ?_
 refine RS (ok_field field56_1 (by decide) rfl) ?_
 refine RS (ok_loadP (s := 1000005) (by decide) Tryz.underlying41 rfl size41 rfl rfl (by rw [zTV_len hd]; decide) (rfl)) ?_
 refine RS (ok_loadA (s := 1000010) (by decide) Tryz.underlying54 rfl (size54.of (by rw [List.length_map]; exact ((xorK_length (byL E) s c 0 d).trans hd))) rfl rfl) ?_
 refine RN ?_
 refine ZM 1000102 (fun B' => ok_callB (Message_ok (x % 4096) s c hs hc (xorK (byL E) s c 0 d) ((xorK_length (byL E) s c 0 d).trans hd) (Nat.mod_lt _ (by decide))) newD_mono (A3 rfl rfl rfl)) rfl fun b102 ⟨hBb102, hb102⟩ => ?_
 have hlt_b3_b102 := hb102 1000003 b3 _ _ rfl
 have hlt_b4_b102 := hb102 1000004 b4 _ _ rfl
 have hlt_b5_b102 := hb102 1000005 b5 _ _ rfl
 have hlt_b7_b102 := hb102 1000007 b7 _ _ rfl
 have hlt_b8_b102 := hb102 1000008 b8 _ _ rfl
 have hlt_b10_b102 := hb102 1000010 b10 _ _ rfl
 have hlt_b11_b102 := hb102 1000011 b11 _ _ rfl
 have hlt_b15_b102 := hb102 1000015 b15 _ _ rfl
 have hlt_b17_b102 := hb102 1000017 b17 _ _ rfl
 have hlt_b19_b102 := hb102 1000019 b19 _ _ rfl
 have hlt_b47_b102 := hb102 1000047 b47 _ _ rfl
 refine TL ?_
 refine RVN 5 rfl ?_
 refine GTD ?_
 refine RV 2 rfl ?_
 refine RZ (.bool true) (by rfl) ?_
 refine RV 3 rfl ?_
 refine RZ (.bool false) (by rfl) ?_
 refine RQ (ok_field field58_1 (by decide) rfl) ?_
 refine RQ (OpOk.fact (ok_sliceX (l := 0) (h := 32) (m := 32) Tryz.underlying52 info5 rfl (.inr ⟨rfl, rfl⟩) (.inr ⟨rfl, rfl, rfl⟩) (.inr ⟨rfl, rfl⟩) (by decide) (by decide) (by decide) (.inl (by decide))) (d := byt L) (s := 1000008) (by decide) rfl (slice_byt L hL.symm (by decide) (by simp only [maxLen]; omega) (KM_mac (byL F) hL))) ?_
 refine RQ (OpOk.fact (ok_move rfl) (d := byt (msgL (x % 4096) s c (xorK (byL E) s c 0 d))) (s := 1000102) (by decide) rfl (slice_byt (msgL (x % 4096) s c (xorK (byL E) s c 0 d)) (msgL_length ((xorK_length (byL E) s c 0 d).trans hd)).symm (by decide) (by decide) (by rw [List.drop_zero, List.take_of_length_le (by rw [List.length_map, msgL_length ((xorK_length (byL E) s c 0 d).trans hd)]; decide)]))) ?_
 refine RQ (ok_build [byt (msgL (x % 4096) s c (xorK (byL E) s c 0 d))] Tryz.underlying103 info22 rfl (by decide) (by decide) rfl ⟨rfl, rfl, trivial⟩ (fun d hd w x h => by simp only [List.mem_cons, List.not_mem_nil, or_false] at hd; rcases hd with rfl <;> first | exact lst_one h | exact bytes_one h | exact old_one (fun _ _ h => lst_one h) h | exact list_one h | exact v_one rfl h)) ?_
 refine RQ (ok_callM (macOf_fn L [(msgL (x % 4096) s c (xorK (byL E) s c 0 d))] (msgL (x % 4096) s c (xorK (byL E) s c 0 d)) (by simp) (by rw [hL]; decide) (by simp) (by rw [msgL_length ((xorK_length (byL E) s c 0 d).trans hd)]; decide)) (Sub.cons rfl (Sub.cons rfl KN)) tabs_v (Args.cons rfl (Le.refl _) (Args.cons rfl (list_lst1 (Le.refl _)) Args.nil))) ?_
 refine RQ (ok_loadA (s := 1000011) (by decide) Tryz.underlying31 rfl (size31.of (by rw [List.length_map, hmac_length])) rfl rfl) ?_
 refine RQ (ok_eqlT (n := 3) (decide ((hmac L (msgL (x % 4096) s c (xorK (byL E) s c 0 d))) = (hmac K (msgL (x % 4096) s c (xorK (byL E) s c 0 d))))) flat31 (by decide) (by kernel_rfl) (by kernel_rfl) rfl rfl (kinB (hmac_length _ _)) (kinB (hmac_length K _)) (decB _ _)) ?_; refine RZ (.bool false) (by simp [Ne.symm ht]) ?_
 refine RQ (ok_beq Tryz.underlying4 rfl rfl) ?_; refine RZ (.bool true) (by rfl) ?_
 refine RV 2 rfl ?_
 refine RQ (ok_loadA (s := 1000003) (by decide) Tryz.underlying52 rfl (size52.of (by rw [List.length_map, hp])) rfl rfl) ?_
 refine RQ (ok_loadA (s := 1000004) (by decide) Tryz.underlying52 rfl (size52.of (by rw [List.length_map, hq])) rfl rfl) ?_
 refine RQ (ok_neqT (n := 3) (decide (p = q)) flatMK (by decide) (by kernel_rfl) (by kernel_rfl) rfl rfl (kinB hp) (kinB hq) (decB _ _)) ?_; refine RZ (.bool true) (by simp [hne]) ?_
 refine RV 6 rfl ?_
 refine RQ (ok_callM (live11_fn) (Sub.cons rfl (Sub.cons rfl KN)) tabs_v Args.nil) ?_
 refine RVN 2 rfl ?_
 refine A.sub (SV [6, 1000003, 1000004, 1000005, 1000007, 1000008, 1000010, 1000011, 1000015, 1000017, 1000019, 1000047, 1000102, 1900000, 1900001] rfl) ?_
 refine A.ret ?_
 exact ER rfl rfl
theorem TopRecord_fn (p q d : List UInt8) (x s c : Nat) (hx : x < 65536) (hs : s < 4294967296) (hc : c < 18446744073709551616) (hd : d.length = 32) (hp : p.length = 32) (hq : q.length = 32) : FnM Tryz.prog 5 tabs [.v (aggV (p.map byteV)), .v (aggV (q.map byteV)), .v (aggV (zTV x s c d))] (.v (.bool true)) := by
 by_cases he : p = q
 ·subst he; exact TopRecord_A p _ _ d x s c hx hs hc hd hp (hkdf_length 16) (hkdf_length 32) (Volume_fn p hp)
 rcases Classical.em (hmac (hkdf (hmac [99, 97, 105, 115, 115, 111, 110] p) [109, 97, 99] 32) (msgL (x % 4096) s c (xorK (byL (hkdf (hmac [99, 97, 105, 115, 115, 111, 110] p) [101, 110, 99, 114, 121, 112, 116] 16)) s c 0 d)) = hmac (hkdf (hmac [99, 97, 105, 115, 115, 111, 110] q) [109, 97, 99] 32) (msgL (x % 4096) s c (xorK (byL (hkdf (hmac [99, 97, 105, 115, 115, 111, 110] p) [101, 110, 99, 114, 121, 112, 116] 16)) s c 0 d))) with h | h
 ·exact TopRecord_B p q _ _ _ _ d x s c hx hs hc hd hp (hkdf_length 16) (hkdf_length 32) hq (hkdf_length 16) (hkdf_length 32) he (Volume_fn p hp) (Volume_fn q hq) h
 ·exact TopRecord_C p q _ _ _ _ d x s c hx hs hc hd hp (hkdf_length 16) (hkdf_length 32) hq (hkdf_length 16) (hkdf_length 32) he (Volume_fn p hp) (Volume_fn q hq) h
end Go.Proofs.YtffiflfjlemggaaGreatDoor
namespace Go.Proofs.YtffiflfjlemggaaGreatDoor
open Go Go.RowKit Go.ChangeShapes Go.WideShapes
section
variable {H : Type} {enc : TypeId × Value → H} {P : Program} {w : World} {base : Nat} {held : Bool}
theorem arg_Z11 {t : TypeId} {v : Value} {d : DataW H} {ps : List MemPlace} (hf : flat P 5 t = some (.u16 :: .u32 :: .u64 :: List.replicate 32 .u8)) (hg : isAggT P t = true) {r : Reach} {b0 : Nat} (hk : Value.okWide P w r b0 t v)
    (h : DataW.Trod enc P w base (fun _ => true) held t v d ps) : ∃ (x s c : Nat) (tg : List UInt8), x < 65536 ∧ s < 4294967296 ∧ c < 18446744073709551616 ∧ tg.length = 32 ∧ v = aggV (.int .u16 ((x : Nat) : Int) :: .int .u32 ((s : Nat) : Int) :: .int .u64 ((c : Nat) : Int) :: tg.map byteV) := by
  obtain ⟨xs, rfl, hx⟩ := arg_flat 5 hf hg hk h
  obtain ⟨n, y, rfl, h1, h2⟩ := hx.cons
  obtain ⟨m, y, rfl, h3, h4⟩ := h2.cons
  obtain ⟨q, y, rfl, h5, h6⟩ := h4.cons
  obtain ⟨l, hl, rfl⟩ := h6.bytes
  obtain ⟨a, rfl, ha⟩ := nat_u16 h1
  obtain ⟨s, rfl, hs⟩ := nat_u32 h3
  obtain ⟨c, rfl, hc⟩ := nat_u64 h5
  exact ⟨a, s, c, l, ha, hs, hc, hl, rfl⟩
end
end Go.Proofs.YtffiflfjlemggaaGreatDoor
namespace Go.Proofs.YtffiflfjlemggaaGreatDoor
open Go Go.RowKit
set_option linter.unusedVariables false
set_option maxRecDepth 20000
theorem cel_hi {t : List UInt8} (h : t.length = 32) (e m : Nat) : lst ((((celL t e m).map byteD).take 32).drop 0) = byt t := congrArg lst (by rw [List.drop_zero, ← List.map_take, celL, List.take_left' h])
theorem cel_lo {t : List UInt8} (h : t.length = 32) (e m : Nat) : lst ((((celL t e m).map byteD).take 48).drop 32) = byt (be 8 e ++ be 8 m) := congrArg lst (by rw [List.take_of_length_le (by rw [List.length_map, celL_len h]; decide), ← List.map_drop, celL, List.drop_left' h])
def bK (a : Nat) : Sta := fun _ => a
theorem colK {a : Nat} (r : Nat) : col (fun _ => a) r = a := by
 show gm 2 (a ^^^ a) ^^^ a ^^^ a ^^^ a = a
 rw [Nat.xor_self, gm_zero, Nat.zero_xor, Nat.xor_self, Nat.zero_xor]
theorem enc_const {a : Nat} : enc (fun _ => 0) (bK a) = bK (Nat.repeat sub8 10 a) := by
 have hk : ∀ k, keyS (fun _ => 0) k = fun _ => 0 := fun _ => rfl
 have hR : ∀ r, encR (fun _ => 0) (bK a) r = bK (Nat.repeat sub8 r a) := fun r => by
  induction r with
  | zero => funext i; show a ^^^ 0 = a; rw [Nat.xor_zero]
  | succ r ih =>
   rw [encR, ih]; funext i
   show col (fun _ => sub8 (Nat.repeat sub8 r a)) (i % 4) ^^^ 0 = sub8 (Nat.repeat sub8 r a)
   rw [colK, Nat.xor_zero]
 rw [enc, hR]; funext i
 show sub8 (Nat.repeat sub8 9 a) ^^^ 0 = _
 rw [Nat.xor_zero]; rfl
theorem rep_lt8 {a : Nat} (ha : a < 256) : ∀ n, Nat.repeat sub8 n a < 256
 | 0 => ha
 | n + 1 => sub8_lt _
theorem fillK {a i : Nat} : (rowV 16 (fun j => if j < i then a else 0)).set i (nB a) = rowV 16 (fun j => if j < i + 1 then a else 0) := rowV_set' fun j _ => by by_cases h : j = i <;> by_cases h2 : j < i <;> simp [h, h2] <;> omega
theorem mul23 {a : Nat} (ha : a < 256) : gm 2 a ^^^ gm 3 a ^^^ a ^^^ a = a := by
 rw [Nat.xor_assoc, Nat.xor_self, Nat.xor_zero, show gm 3 a = gm 2 a ^^^ gm 1 a from gm_addL a 2 1, gm_one' ha, ← Nat.xor_assoc, Nat.xor_self, Nat.zero_xor]

theorem TopCells_A (t : List UInt8) (ht : t.length = 32) (e m : Nat) (he : e < 18446744073709551616) (hm : m < 18446744073709551616) (a b : List UInt8) (h : 100 < a.length) : FnM Tryz.prog 7 tabs [.v (aggV (celV t e m)), byt a, byt b] (.v (.bool true)) := by
 refine FnM.of Tryz.func7 rfl (by kernel_rfl) Tryz.ntmps7 (by simp) (by decide) (fun w => [(0, .v (aggV (celV t e m))), (1, old w.heap.size (byt a)), (2, old w.heap.size (byt b)), (1900000, tab 0 (H8.list.map u32V)), (1900001, tab 1 (K64.map u32V))]) (fun w => (StartM.v rfl (StartM.old rfl (StartM.old rfl (StartM.m (by simp [tabs]) (by decide) (StartM.m (by simp [tabs]) (by decide) StartM.nil)))))) fun w₀ hM => ?_
 have htab := tabs_hi hM
 refine GS ?_
 refine TN 0 ?_
 refine RN ?_
 refine ZB 1000003 rfl fun b3 ⟨hBb3, hb3⟩ => ?_
 refine TL ?_
 refine RVN 1 rfl ?_
 refine QS ?_
 refine GT ?_
 refine RM rfl ?_
 refine RS (ok_lenB Tryz.underlying22 rfl (Le.old _ _)) ?_
 refine RB rfl rfl rfl ?_
 refine RT ?_
 refine RVN 5 rfl ?_
 refine A.yes rfl ?_
 refine GT ?_
 refine RS (ok_callM (live11_fn) (Sub.cons rfl (Sub.cons rfl KN)) tabs_v Args.nil) ?_
 refine RVN 1 rfl ?_
 refine A.ret ?_
 refine End.ret_then ?_
 exact ER rfl rfl
theorem TopCells_B (t : List UInt8) (ht : t.length = 32) (e m : Nat) (he : e < 18446744073709551616) (hm : m < 18446744073709551616) (a b : List UInt8) (h0 : a.length ≤ 100) (h : 100 < b.length) : FnM Tryz.prog 7 tabs [.v (aggV (celV t e m)), byt a, byt b] (.v (.bool true)) := by
 refine FnM.of Tryz.func7 rfl (by kernel_rfl) Tryz.ntmps7 (by simp) (by decide) (fun w => [(0, .v (aggV (celV t e m))), (1, old w.heap.size (byt a)), (2, old w.heap.size (byt b)), (1900000, tab 0 (H8.list.map u32V)), (1900001, tab 1 (K64.map u32V))]) (fun w => (StartM.v rfl (StartM.old rfl (StartM.old rfl (StartM.m (by simp [tabs]) (by decide) (StartM.m (by simp [tabs]) (by decide) StartM.nil)))))) fun w₀ hM => ?_
 have htab := tabs_hi hM
 refine GS ?_
 refine TN 0 ?_
 refine RN ?_
 refine ZB 1000003 rfl fun b3 ⟨hBb3, hb3⟩ => ?_
 refine TL ?_
 refine RVN 1 rfl ?_
 refine QS ?_
 refine GT ?_
 refine RM rfl ?_
 refine RS (ok_lenB Tryz.underlying22 rfl (Le.old _ _)) ?_
 refine RB rfl rfl rfl ?_
 refine RF ?_
 refine RV 2 rfl ?_
 refine RQ (ok_lenB Tryz.underlying22 rfl (Le.old _ _)) ?_
 refine RQ (ok_bin rfl rfl rfl) ?_
 refine RT ?_
 refine RVN 1 rfl ?_
 refine A.yes rfl ?_
 refine GT ?_
 refine RS (ok_callM (live11_fn) (Sub.cons rfl (Sub.cons rfl KN)) tabs_v Args.nil) ?_
 refine RVN 1 rfl ?_
 refine A.ret ?_
 refine End.ret_then ?_
 exact ER rfl rfl
set_option maxHeartbeats 4000000 in
theorem TopCells_C (t : List UInt8) (ht : t.length = 32) (e m : Nat) (he : e < 18446744073709551616) (hm : m < 18446744073709551616) (a b : List UInt8) (ha : a.length ≤ 100) (hb : b.length ≤ 100) : FnM Tryz.prog 7 tabs [.v (aggV (celV t e m)), byt a, byt b] (.v (.bool true)) := by
 refine FnM.of Tryz.func7 rfl (by kernel_rfl) Tryz.ntmps7 (by simp) (by decide) (fun w => [(0, .v (aggV (celV t e m))), (1, old w.heap.size (byt a)), (2, old w.heap.size (byt b)), (1900000, tab 0 (H8.list.map u32V)), (1900001, tab 1 (K64.map u32V))]) (fun w => (StartM.v rfl (StartM.old rfl (StartM.old rfl (StartM.m (by simp [tabs]) (by decide) (StartM.m (by simp [tabs]) (by decide) StartM.nil)))))) fun w₀ hM => ?_
 have htab := tabs_hi hM
 refine GS ?_
 refine TN 0 ?_
 refine RN ?_
 refine ZB 1000003 rfl fun b3 ⟨hBb3, hb3⟩ => ?_
 refine TL ?_
 refine RVN 1 rfl ?_
 refine QS ?_
 refine GT ?_
 refine RM rfl ?_
 refine RS (ok_lenB Tryz.underlying22 rfl (Le.old _ _)) ?_
 refine RB rfl rfl rfl ?_
 refine RF ?_
 refine RV 2 rfl ?_
 refine RQ (ok_lenB Tryz.underlying22 rfl (Le.old _ _)) ?_
 refine RQ (ok_bin rfl rfl rfl) ?_
 refine RF ?_
 refine RVN 1 rfl ?_
 refine A.no rfl ?_
 refine QK ?_
 refine GS ?_
 refine TF 5 ?_
 refine RV 2 rfl ?_
 refine RS (ok_build [old w₀.heap.size (byt a), old w₀.heap.size (byt b)] Tryz.underlying103 info22 rfl (by decide) (by decide) rfl ⟨rfl, rfl, rfl, rfl, trivial⟩ (fun d hd w x h => by simp only [List.mem_cons, List.not_mem_nil, or_false] at hd; rcases hd with rfl | rfl <;> first | exact lst_one h | exact bytes_one h | exact old_one (fun _ _ h => lst_one h) h | exact list_one h | exact v_one rfl h)) ?_
 refine RS (ok_callM (Of_fn [a, b] (a ++ b) (by simp) (by simp) (by rw [List.length_append]; omega)) (Sub.cons rfl (Sub.cons rfl KN)) tabs_v (Args.cons rfl (list_lst2 (Le.old _ _) (Le.old _ _)) Args.nil)) ?_
 refine RS (ok_field field75_0 (by decide) rfl) ?_
 refine RN ?_
 refine ⟨_, eff_storeP (n := 76) (s := 1000003) (size31.of (by rw [List.length_map, sha_length])) rfl rfl (all_byte _) hBb3 rfl (by rw [List.length_map, sha_length, cel_len ht]; decide) (LO 1 rfl (LO 2 rfl (LV 3 rfl (LeftS.cons (t := 1900000) rfl (Surv.tab (by omega)) (LeftS.cons (t := 1900001) rfl (Surv.tab (by omega)) LN))))), ?_⟩
 refine TL ?_
 refine RN ?_
 refine A.sub (KC 1 rfl (KC 2 rfl (KC 3 rfl (KE 1000003 rfl (show _ = blk b3 75 (celV (sha (a ++ b)) e m) from congrArg _ (cel_set0 e m (sha_length _) ht)) (KC 1900000 rfl (KC 1900001 rfl KN)))))) ?_
 refine GS ?_
 refine TN 1 ?_
 refine RS (ok_loadA (s := 1000003) (by decide) Tryz.underlying75 rfl (size75.of (cel_len (sha_length _) e m)) rfl rfl) ?_
 refine RN ?_
 refine ⟨_, _, eff_nameF (c := 48) (by rw [List.length_map, celL_len (sha_length _) e m]) (n := 76) (d := 26) (k := 1000026) rfl rfl (fun B' => ok_callB (PutCell_fnB (sha (a ++ b)) (sha_length _) e m he hm) (fun _ _ => fresh_mono _ _) (A1 rfl)) (by decide) (by decide), fun b26 hb26 => ?_⟩
 have hBb26 := hb26.1
 have hlt_b3_b26 : b3 < b26 := hb26.2 1000003 _ _ _ rfl
 refine TL ?_
 refine RVN 1 rfl ?_
 refine GS ?_
 refine TN 5 ?_
 refine RS (OpOk.fact (ok_move rfl) (d := byt (celL (sha (a ++ b)) e m)) (s := 1000026) (by decide) rfl (slice_byt (celL (sha (a ++ b)) e m) (celL_len (sha_length _) e m).symm (Nat.le_refl _) (by decide) (by rw [List.drop_zero, List.take_of_length_le (by rw [List.length_map, celL_len (sha_length _) e m]; exact Nat.le_refl _)]))) ?_
 refine RS (ok_call (GetCell_put (sha (a ++ b)) (sha_length _) e m he hm) (A1 rfl)) ?_
 refine RVN 3 rfl ?_
 refine ZN 1000008 zero75 fun b8 ⟨hBb8, hb8⟩ => ?_
 have hlt_b3_b8 := hb8 1000003 b3 _ _ rfl
 refine TF 6 ?_
 refine RN ?_
 refine ⟨_, eff_storeA (n := 76) (s := 1000008) (size75.of (cel_len (sha_length _) e m)) rfl rfl (cel_one _ e m) hBb8 rfl (by rw [cel_len (sha_length _) e m]; rfl) (LO 1 rfl (LO 2 rfl (LB 1000003 rfl (LT 1000026 rfl (LeftS.cons (t := 1900000) rfl (Surv.tab (by omega)) (LeftS.cons (t := 1900001) rfl (Surv.tab (by omega)) (LW [3, 7, 8, 31] rfl))))))), ?_⟩
 refine TL ?_
 refine RVN 1 rfl ?_
 refine GS ?_
 refine TN 6 ?_
 refine RV 2 rfl ?_
 refine RS (ok_build [old w₀.heap.size (byt a), old w₀.heap.size (byt b)] Tryz.underlying103 info22 rfl (by decide) (by decide) rfl ⟨rfl, rfl, rfl, rfl, trivial⟩ (fun d hd w x h => by simp only [List.mem_cons, List.not_mem_nil, or_false] at hd; rcases hd with rfl | rfl <;> first | exact lst_one h | exact bytes_one h | exact old_one (fun _ _ h => lst_one h) h | exact list_one h | exact v_one rfl h)) ?_
 refine RS (ok_call (Join_fn [a, b] (by simp) (by simp; omega)) (Args.cons rfl (list_lst2 (Le.old _ _) (Le.old _ _)) Args.nil)) ?_
 refine RS (ok_build [bytes [a, b].flatten [a, b].flatten.length] Tryz.underlying103 info22 rfl (by decide) (by decide) rfl ⟨rfl, rfl, trivial⟩ (fun d hd w x h => by simp only [List.mem_cons, List.not_mem_nil, or_false] at hd; rcases hd with rfl <;> first | exact lst_one h | exact bytes_one h | exact old_one (fun _ _ h => lst_one h) h | exact list_one h | exact v_one rfl h)) ?_
 refine RS (ok_callM (Of_fn [[a, b].flatten] (a ++ b) (by simp) (by simp) (by rw [List.length_append]; omega)) (Sub.cons rfl (Sub.cons rfl KN)) tabs_v (Args.cons rfl (list_lst1 (le_byt _ _)) Args.nil)) ?_
 refine RN ?_
 refine ZN 1000010 zero31 fun b10 ⟨hBb10, hb10⟩ => ?_
 refine TF 7 ?_
 refine RN ?_
 refine ⟨_, eff_storeA (n := 76) (s := 1000010) (size31.of (by rw [List.length_map, sha_length])) rfl rfl (all_bytes _) hBb10 rfl (by first | (rw [List.length_map, sha_length, List.length_replicate]; done) | (rw [List.length_map, sha_length]; rfl)) (LT 1000003 rfl (LT 1000008 rfl (LT 1000026 rfl (LeftS.cons (t := 1900000) rfl (Surv.tab (by omega)) (LeftS.cons (t := 1900001) rfl (Surv.tab (by omega)) (LW [3, 7, 8, 9, 10] rfl)))))), ?_⟩
 refine TL ?_
 refine RN ?_
 refine GTD ?_
 refine RV 3 rfl ?_
 refine RQ (ok_loadA (s := 1000008) (by decide) Tryz.underlying75 rfl (size75.of (cel_len (sha_length _) e m)) rfl rfl) ?_
 refine RQ (ok_loadA (s := 1000003) (by decide) Tryz.underlying75 rfl (size75.of (cel_len (sha_length _) e m)) rfl rfl) ?_
 refine RQ (ok_eqlT (n := 4) true flat75 (by decide) (by kernel_rfl) (by kernel_rfl) rfl rfl (kinCel (sha_length _) e m) (kinCel (sha_length _) e m) ⟨fun _ => rfl, fun _ => rfl⟩) ?_
 refine RV 3 rfl ?_
 refine RQ (ok_lenV Tryz.underlying22 rfl) ?_
 refine RV 3 rfl ?_
 refine RQ (OpOk.fact (ok_move rfl) (d := byt (celL (sha (a ++ b)) e m)) (s := 1000026) (by decide) rfl (slice_byt (celL (sha (a ++ b)) e m) (celL_len (sha_length _) e m).symm (Nat.le_refl _) (by decide) (by rw [List.drop_zero, List.take_of_length_le (by rw [List.length_map, celL_len (sha_length _) e m]; exact Nat.le_refl _)]))) ?_
 refine RQ (ok_slice (ds := (celL (sha (a ++ b)) e m).map byteD) 0 32 Tryz.underlying22 info5 rfl (Le.refl _) (.inr ⟨rfl, rfl⟩) (.inl ⟨_, _, rfl, rfl⟩) (by decide) (by rw [List.length_map, celL_len (sha_length _) e m]; decide)) ?_
 refine RQ (ok_str (l := (sha (a ++ b))) Tryz.underlying22 Tryz.underlying5 Tryz.underlying9 rfl (Le.eq (cel_hi (sha_length _) e m))) ?_
 refine RQ ((ok_sliceA (s := 1000010) 0 32 (by decide) Tryz.underlying31 info5 rfl rfl (.inr ⟨rfl, rfl⟩) (.inr ⟨rfl, rfl⟩) (by omega) (by omega) (by rw [List.length_map, (sha_length _)]) (by decide)).le (byt_all (sha_length _))) ?_
 refine RQ (ok_str (l := (sha (a ++ b))) Tryz.underlying22 Tryz.underlying5 Tryz.underlying9 rfl (Le.refl _)) ?_
 refine RQ (ok_seq rfl rfl) ?_; refine RZ (.bool true) (by simp) ?_
 refine RV 2 rfl ?_
 refine RQ (OpOk.fact (ok_move rfl) (d := byt (celL (sha (a ++ b)) e m)) (s := 1000026) (by decide) rfl (slice_byt (celL (sha (a ++ b)) e m) (celL_len (sha_length _) e m).symm (Nat.le_refl _) (by decide) (by rw [List.drop_zero, List.take_of_length_le (by rw [List.length_map, celL_len (sha_length _) e m]; exact Nat.le_refl _)]))) ?_
 refine RQ (ok_slice (ds := (celL (sha (a ++ b)) e m).map byteD) 32 48 Tryz.underlying22 info5 rfl (Le.refl _) (.inl ⟨_, _, rfl, rfl⟩) (.inr ⟨rfl, by rw [List.length_map, celL_len (sha_length _) e m]⟩) (by decide) (by rw [List.length_map, celL_len (sha_length _) e m]; decide)) ?_
 refine RQ (ok_str (l := be 8 e ++ be 8 m) Tryz.underlying22 Tryz.underlying5 Tryz.underlying9 rfl (Le.eq (cel_lo (sha_length _) e m))) ?_
 refine RQ (ok_field field75_1 (by decide) rfl) ?_
 refine RQ (ok_loadV (s := 1000003) (by decide) Tryz.underlying39 rfl rfl rfl (cel_e (sha_length _) e m)) ?_
 refine RQ (ok_call ((refPut64_fn ((e : Nat) : Int) (by omega) (by omega)).le (d' := bytes (be 8 e) 8) (Le.refl _)) (A1 rfl)) ?_
 refine RQ (ok_str (l := be 8 e) Tryz.underlying22 Tryz.underlying5 Tryz.underlying9 rfl (le_byt _ _)) ?_
 refine RQ (ok_field field75_2 (by decide) rfl) ?_
 refine RQ (ok_loadV (s := 1000003) (by decide) Tryz.underlying39 rfl rfl rfl (cel_m (sha_length _) e m)) ?_
 refine RQ (ok_call ((refPut64_fn ((m : Nat) : Int) (by omega) (by omega)).le (d' := bytes (be 8 m) 8) (Le.refl _)) (A1 rfl)) ?_
 refine RQ (ok_str (l := be 8 m) Tryz.underlying22 Tryz.underlying5 Tryz.underlying9 rfl (le_byt _ _)) ?_
 refine RQ (ok_addS (a := be 8 e) (b := be 8 m) rfl rfl (by rw [be_length, be_length]; decide)) ?_
 refine RQ (ok_seq rfl rfl) ?_; refine RZ (.bool true) (by simp) ?_
 refine RV 2 rfl ?_
 refine RQ (ok_callM (live11_fn) (Sub.cons rfl (Sub.cons rfl KN)) tabs_v Args.nil) ?_
 refine RVN 2 rfl ?_
 refine A.sub (SV [6, 1000003, 1000008, 1000010, 1000026, 1900000, 1900001] rfl) ?_
 refine A.ret ?_
 exact ER rfl rfl
theorem TopCells_fn (t : List UInt8) (ht : t.length = 32) (e m : Nat) (he : e < 18446744073709551616) (hm : m < 18446744073709551616) (a b : List UInt8) : FnM Tryz.prog 7 tabs [.v (aggV (celV t e m)), byt a, byt b] (.v (.bool true)) := by
 rcases Nat.lt_or_ge 100 a.length with h | ha
 ·exact TopCells_A t ht e m he hm a b h
 rcases Nat.lt_or_ge 100 b.length with h | hb
 ·exact TopCells_B t ht e m he hm a b ha h
 ·exact TopCells_C t ht e m he hm a b ha hb
set_option maxHeartbeats 4000000 in
theorem TopSubstitute_fn (a : Nat) (ha : a < 256) : FnM Tryz.prog 6 tabs [.v (nB a)] (.v (.bool true)) := by
 refine FnM.of Tryz.func6 rfl (by kernel_rfl) Tryz.ntmps6 (by simp) (by decide) (fun w => [(0, .v (nB a)), (1900000, tab 0 (H8.list.map u32V)), (1900001, tab 1 (K64.map u32V))]) (fun w => (StartM.v rfl (StartM.m (by simp [tabs]) (by decide) (StartM.m (by simp [tabs]) (by decide) StartM.nil)))) fun w₀ hM => ?_
 have htab := tabs_hi hM
 refine GV rfl ?_
 refine GS ?_
 refine TN 0 ?_
 refine RN ?_
 refine ZN 1000003 zero37 fun b3 ⟨hBb3, hb3⟩ => ?_
 refine TL ?_
 refine RN ?_
 refine QS ?_
 refine GV rfl ?_
 refine A.block ?_
 refine A.loop (ι := Nat) (fun i => i ≤ 16) (fun i => [(0, .v (nB a)), (3, .v (.pointer (some ⟨b3, 0, none⟩))), (4, .v (nI i)), (1000003, blk b3 37 (rowV 16 (fun j => if j < i then a else 0))), (1900000, tab 0 (H8.list.map u32V)), (1900001, tab 1 (K64.map u32V))]) (fun i => 16 - i) 0 ?_ ?_ ?_
 ·exact Nat.zero_le _
 ·exact (KC 0 rfl (KC 3 rfl (KC 4 rfl (KE 1000003 rfl (congrArg (blk b3 37) (rowV_zero 16)) (KC 1900000 rfl (KC 1900001 rfl KN))))))
 intro i hi
 refine QS ?_
 refine GV rfl ?_
 refine A.cond rfl (fun hc10 => ?_) (fun hc10 => ?_)
 ·have hlt : i < 16 := by simp at hc10; omega
  refine QK ?_
  refine QSB ?_
  refine GE ?_
  refine TF 3 ?_
  refine RV 2 rfl ?_
  refine RS (ok_index0 _ Tryz.underlying37 info5 rfl rfl (rfl) (by omega)) ?_
  refine RN ?_
  refine ⟨_, eff_storeS (n := 49) (s := 1000003) info5 rfl rfl rfl hBb3 rfl (by simp only [rowV_length]; omega) (LeftS.cons (t := 1900000) rfl (Surv.tab (by omega)) (LeftS.cons (t := 1900001) rfl (Surv.tab (by omega)) (LW [0, 3, 4] rfl))), ?_⟩
  refine TL ?_
  refine RN ?_
  refine End.normal_block ?_
  refine EN ?_
  refine GTE ?_
  refine RV 2 rfl ?_
  refine RZ (nI (i + 1)) (by rw [wrap_i64 (by omega) (by omega)]; exact congrArg (Value.int .i64) (by omega)) ?_
  refine RVN 1 rfl ?_
  refine End.normal_then ?_
  refine End.again (i + 1) ?_ ?_ ?_
  ·show _ ≤ _; omega
  ·show _ - _ < _ - _; omega
  ·exact (KC 0 rfl (KC 3 rfl (KC 4 rfl (KE 1000003 rfl (congrArg _ fillK) (KC 1900000 rfl (KC 1900001 rfl KN))))))
 ·obtain rfl : i = 16 := by simp at hc10; omega
  refine A.exit ?_
  refine End.exit_then ?_
  refine End.exit_then ?_
  refine End.exit_here ?_
  refine EN ?_
  refine GS ?_
  refine TN 3 ?_
  refine RS (ok_litS [] (rowV 176 (fun _ => 0)) trivial (by kernel_rfl)) ?_
  refine RS (ok_loadA (s := 1000003) (by decide) Tryz.underlying37 rfl (size37.of (rowV_length _ _)) rfl rfl) ?_; refine RZ (aggV (rowV 16 (bK a))) (congrArg aggV (rowV_congr fun j hj => if_pos hj)) ?_
  refine RS (ok_call (Encrypt_fn (fun _ => 0) (bK a) (fun _ => by decide) (fun _ => ha)) (A2 rfl rfl)) ?_; refine RZ (aggV (rowV 16 (bK (Nat.repeat sub8 10 a)))) (congrArg (fun f => aggV (rowV 16 f)) enc_const) ?_
  refine RN ?_
  refine ZN 1000005 zero37 fun b5 ⟨hBb5, hb5⟩ => ?_
  have hlt_b3_b5 := hb5 1000003 b3 _ _ rfl
  refine TF 4 ?_
  refine RN ?_
  refine ⟨_, eff_storeA (n := 49) (s := 1000005) (size37.of (rowV_length _ _)) rfl rfl (rowV_one _ _) hBb5 rfl (by first | (simp only [rowV_length]; done) | simp only [rowV_length, List.length_replicate]) (LB 1000003 rfl (LeftS.cons (t := 1900000) rfl (Surv.tab (by omega)) (LeftS.cons (t := 1900001) rfl (Surv.tab (by omega)) (LW [0, 5] rfl)))), ?_⟩
  refine TL ?_
  refine RN ?_
  refine GV rfl ?_
  refine QS ?_
  refine GV rfl ?_
  refine A.block ?_
  refine A.loop (ι := Nat) (fun n => n ≤ 10) (fun n => [(0, .v (nB a)), (5, .v (.pointer (some ⟨b5, 0, none⟩))), (6, .v (nB ((Nat.repeat sub8 n a)))), (7, .v (nI n)), (1000005, blk b5 37 (rowV 16 (bK (Nat.repeat sub8 10 a)))), (1900000, tab 0 (H8.list.map u32V)), (1900001, tab 1 (K64.map u32V))]) (fun n => 10 - n) 0 ?_ ?_ ?_
  ·exact Nat.zero_le _
  ·exact (SV [0, 5, 6, 7, 1000005, 1900000, 1900001] rfl)
  intro n hn
  refine QS ?_
  refine GV rfl ?_
  refine A.cond rfl (fun hc21 => ?_) (fun hc21 => ?_)
  ·have hlt : n < 10 := by simp at hc21; omega
   refine QK ?_
   refine QSB ?_
   refine GTE ?_
   refine RM rfl ?_
   refine RS (ok_call (Sub_fn (Nat.repeat sub8 n a) (rep_lt8 ha _)) (A1 rfl)) ?_; refine RZ (nB ((Nat.repeat sub8 (n + 1) a))) (rfl) ?_
   refine RVN 1 rfl ?_
   refine End.normal_block ?_
   refine EN ?_
   refine GTE ?_
   refine RV 2 rfl ?_
   refine RZ (nI (n + 1)) (by rw [wrap_i64 (by omega) (by omega)]; exact congrArg (Value.int .i64) (by omega)) ?_
   refine RVN 1 rfl ?_
   refine End.normal_then ?_
   refine End.again (n + 1) ?_ ?_ ?_
   ·show _ ≤ _; omega
   ·show _ - _ < _ - _; omega
   ·exact (SV [0, 5, 6, 7, 1000005, 1900000, 1900001] rfl)
  ·obtain rfl : n = 10 := by simp at hc21; omega
   refine A.exit ?_
   refine End.exit_then ?_
   refine End.exit_then ?_
   refine End.exit_here ?_
   refine EN ?_
   refine QS ?_
   refine GV rfl ?_
   refine A.block ?_
   refine A.loop (ι := Nat) (fun q => q ≤ 16) (fun q => [(0, .v (nB a)), (5, .v (.pointer (some ⟨b5, 0, none⟩))), (6, .v (nB ((Nat.repeat sub8 10 a)))), (8, .v (nI q)), (1000005, blk b5 37 (rowV 16 (bK (Nat.repeat sub8 10 a)))), (1900000, tab 0 (H8.list.map u32V)), (1900001, tab 1 (K64.map u32V))]) (fun q => 16 - q) 0 ?_ ?_ ?_
   ·exact Nat.zero_le _
   ·exact (SV [0, 5, 6, 8, 1000005, 1900000, 1900001] rfl)
   intro q hq
   refine QS ?_
   refine GV rfl ?_
   refine A.cond rfl (fun hc27 => ?_) (fun hc27 => ?_)
   ·have hlt : q < 16 := by simp at hc27; omega
    refine QK ?_
    refine QSB ?_
    refine GT ?_
    refine RM rfl ?_
    refine RS (ok_index0 _ Tryz.underlying37 info5 rfl rfl (rfl) (by omega)) ?_
    refine RS (ok_loadV (s := 1000005) (by decide) Tryz.underlying5 rfl rfl rfl (rowV_get (by omega))) ?_; refine RZ (nB ((Nat.repeat sub8 10 a))) (rfl) ?_
    refine RV 2 rfl ?_
    refine RZ (.bool false) (by simp) ?_
    refine RN ?_
    refine A.no rfl ?_
    refine A.skip ?_
    refine End.normal_block ?_
    refine EN ?_
    refine GTE ?_
    refine RV 2 rfl ?_
    refine RZ (nI (q + 1)) (by rw [wrap_i64 (by omega) (by omega)]; exact congrArg (Value.int .i64) (by omega)) ?_
    refine RVN 1 rfl ?_
    refine End.normal_then ?_
    refine End.again (q + 1) ?_ ?_ ?_
    ·show _ ≤ _; omega
    ·show _ - _ < _ - _; omega
    ·exact (SV [0, 5, 6, 8, 1000005, 1900000, 1900001] rfl)
   ·obtain rfl : q = 16 := by simp at hc27; omega
    refine A.exit ?_
    refine End.exit_then ?_
    refine End.exit_then ?_
    refine End.exit_here ?_
    refine EN ?_
    refine GT ?_
    refine RM rfl ?_
    refine RS (ok_call (Mul_fn 2 a (by decide) ha) (A2 rfl rfl)) ?_
    refine RM rfl ?_
    refine RS (ok_call (Mul_fn 3 a (by decide) ha) (A2 rfl rfl)) ?_
    refine RB rfl rfl rfl ?_
    refine RZ (nB (gm 2 a ^^^ gm 3 a)) (by rw [show IntKind.u8.bits = 8 from rfl, xor_u8N (gm_lt _ (by decide)) (gm_lt _ (by decide))]) ?_
    refine RV 2 rfl ?_
    refine RZ (nB (gm 2 a ^^^ gm 3 a ^^^ a)) (by rw [show IntKind.u8.bits = 8 from rfl, xor_u8N (xor_lt _ _ (gm_lt _ (by decide)) (gm_lt _ (by decide))) ha]) ?_
    refine RV 2 rfl ?_
    refine RZ (nB a) (by rw [show IntKind.u8.bits = 8 from rfl, xor_u8N (xor_lt _ _ (xor_lt _ _ (gm_lt _ (by decide)) (gm_lt _ (by decide))) ha) ha, mul23 ha]) ?_
    refine RV 2 rfl ?_
    refine RZ (.bool true) (by simp) ?_
    refine RM rfl ?_
    refine RQ (ok_callM (live11_fn) (Sub.cons rfl (Sub.cons rfl KN)) tabs_v Args.nil) ?_
    refine RVN 2 rfl ?_
    refine A.ret ?_
    exact ER rfl rfl
end Go.Proofs.YtffiflfjlemggaaGreatDoor
namespace Go.Proofs.YtffiflfjlemggaaGreatDoor
open Go Go.RowKit Go.ChangeShapes Go.WideShapes
section
variable {H : Type} {enc : TypeId × Value → H} {P : Program} {w : World} {base : Nat} {held : Bool}
theorem arg_nB {t : TypeId} {v : Value} {d : DataW H} {ps : List MemPlace} (ht : P.underlying t = some (.int .u8)) {r : Reach} {b0 : Nat} (hk : Value.okWide P w r b0 t v)
    (h : DataW.Trod enc P w base (fun _ => true) held t v d ps) : ∃ n : Nat, n < 256 ∧ v = .int .u8 ((n : Nat) : Int) := by
  obtain ⟨n, rfl, hw⟩ := arg_num ht hk h
  obtain ⟨a, rfl, ha⟩ := nat_u8 hw
  exact ⟨a, ha, rfl⟩
end
end Go.Proofs.YtffiflfjlemggaaGreatDoor
namespace Go.Proofs.YtffiflfjlemggaaGreatDoor
open Go Go.RowKit Go.ChangeShapes Go.WideShapes
section
variable {H : Type} {enc : TypeId × Value → H} {P : Program} {w : World} {base : Nat} {held : Bool}
theorem arg_cel10 {t : TypeId} {v : Value} {d : DataW H} {ps : List MemPlace} (hf : flat P 4 t = some (List.replicate 32 .u8 ++ [.u64, .u64])) (hg : isAggT P t = true) {r : Reach} {b0 : Nat} (hk : Value.okWide P w r b0 t v)
    (h : DataW.Trod enc P w base (fun _ => true) held t v d ps) : ∃ (tg : List UInt8) (e m : Nat), tg.length = 32 ∧ e < 18446744073709551616 ∧ m < 18446744073709551616 ∧ v = aggV (celV tg e m) := by
  obtain ⟨xs, rfl, hx⟩ := arg_flat 4 hf hg hk h
  obtain ⟨x, y, rfl, h1, h2⟩ := hx.append
  obtain ⟨l, hl, rfl⟩ := h1.bytes
  obtain ⟨n, y, rfl, h3, h4⟩ := h2.cons
  obtain ⟨m, rfl, h5⟩ := h4.one
  obtain ⟨e, rfl, he⟩ := nat_u64 h3
  obtain ⟨m, rfl, hm⟩ := nat_u64 h5
  exact ⟨l, e, m, hl, he, hm, rfl⟩
end
end Go.Proofs.YtffiflfjlemggaaGreatDoor
