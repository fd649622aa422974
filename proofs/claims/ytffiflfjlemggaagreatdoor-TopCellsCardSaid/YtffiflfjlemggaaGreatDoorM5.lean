/-
  OWN TEXTS of this seat, put together, part 5: C09a, C08b, Cut, Rec, Chain, Flow, C10a, C10b, Lay, Keep, Pair, Use, Ledg, PredF, C11a, C11b, Parts, C11c.
-/
import Derived.Test.YtffiflfjlemggaaGreatDoorM2
import Derived.Test.YtffiflfjlemggaaGreatDoorM3
import Derived.Test.YtffiflfjlemggaaGreatDoorM4
import Derived.Shelf.SlSortCmp.Whole1
import Derived.Shelf.Strings.Builder1
import Derived.Shelf.Strings.Builder2
import Derived.Shelf.Small.Strs
import Derived.Shelf.Strings.Search2
import Derived.Shelf.Strings.Repeat
import Derived.Test.YtffiflfjlemggaaGreatDoorProg
namespace Go.Proofs.YtffiflfjlemggaaGreatDoor
open Go Go.RowKit
set_option linter.unusedVariables false
set_option maxRecDepth 20000
theorem flat54 : flat Tryz.prog 3 54 = some (List.replicate 32 .u8) := by kernel_rfl
theorem flat31 : flat Tryz.prog 3 31 = some (List.replicate 32 .u8) := by kernel_rfl

theorem zero54 : ZeroIs Tryz.prog 54 (List.replicate 32 (.int .u8 0)) := by unfold ZeroIs; kernel_rfl
theorem size54 : SizeIs Tryz.prog 54 32 := by unfold SizeIs; kernel_rfl
theorem checkIndex_ok (i : Int) (h0 : 0 ≤ i) (h : i < 4096) : Fn Tryz.prog 61 [.v (.int .i64 i)] (.v (.int .i64 0)) := by
 refine FV Tryz.func61 rfl Tryz.ntmps61 rfl fun w₀ => ?_
 refine GV rfl ?_
 refine QS ?_
 refine GT ?_
 refine RV 2 rfl ?_
 refine RZ (.bool false) (by simp; omega) ?_
 refine RV 3 rfl ?_
 refine RZ (.bool false) (by simp; omega) ?_
 refine RVN 1 rfl ?_
 refine A.no rfl ?_
 refine QK ?_
 refine GV rfl ?_
 refine A.ret ?_
 exact ER rfl rfl
theorem messageOf_fn (i : Nat) (s c : Nat) (hs : s < 4294967296) (hc : c < 18446744073709551616) (d : List UInt8) (hd : d.length = 32) (hi : i < 4096) : Fn Tryz.prog 73 [.v (nI i), .v (aggV ([nW s, nQ c])), .v (aggV (d.map byteV))] (bytes (msgL i s c d) 48) := by
 refine FV Tryz.func73 rfl Tryz.ntmps73 rfl fun w₀ => ?_
 refine GS ?_
 refine TN 0 ?_
 refine RN ?_
 refine ZB 1000004 rfl fun b4 ⟨hBb4, hb4⟩ => ?_
 refine TN 1 ?_
 refine RN ?_
 refine ZB 1000005 rfl fun b5 ⟨hBb5, hb5⟩ => ?_
 refine TL ?_
 refine RVN 1 rfl ?_
 refine GTD ?_
 refine RM rfl ?_
 refine RS (ok_conv Tryz.underlying3 Tryz.underlying38 rfl) ?_; refine RZ (nW i) (by rw [wrapN_u32 (by omega)]) ?_
 refine RS (ok_call ((Put32_fn ((i : Nat) : Int) (by omega) (by omega)).le (d' := bytes (be 4 i) 4) (Le.refl _)) (A1 rfl)) ?_
 refine RL 1000004 Tryz.underlying41 rfl rfl (size41.of rfl) ?_
 refine RS (ok_call (Put_fn s c hs hc) (A1 rfl)) ?_
 refine RS ((ok_sliceA (s := 1000005) 0 32 (by decide) Tryz.underlying54 info5 rfl rfl (.inr ⟨rfl, rfl⟩) (.inr ⟨rfl, rfl⟩) (by omega) (by omega) (by rw [List.length_map, hd]) (by decide)).le (d' := byt d) (byt_all hd)) ?_
 refine RS (ok_build [bytes (be 4 i) 4, bytes (nonceL s c) 12, byt d] Tryz.underlying103 info22 rfl (by decide) (by decide) rfl ⟨rfl, rfl, rfl, rfl, rfl, rfl, trivial⟩ (fun d' hd' w x h => by simp only [List.mem_cons, List.not_mem_nil, or_false] at hd'; rcases hd' with rfl | rfl | rfl <;> first | exact list_one h | exact lst_one h)) ?_
 refine RS ((ok_call (Join_fn [be 4 i, nonceL s c, d] (by simp) (by simp [be_length, nonceL_length, hd])) (Args.cons rfl (list_lst3 (le_byt _ 4) (le_byt _ 12) (Le.refl _)) Args.nil)).le (d' := bytes (msgL i s c d) 48) (Le.eq (by rw [msg_flat, msgL_length hd]))) ?_
 refine RVN 1 rfl ?_
 refine A.ret ?_
 exact ER rfl rfl
theorem messageOf_fnB (i : Nat) (s c : Nat) (hs : s < 4294967296) (hc : c < 18446744073709551616) (d : List UInt8) (hd : d.length = 32) (hi : i < 4096) : FnB Tryz.prog 73 [.v (nI i), .v (aggV ([nW s, nQ c])), .v (aggV (d.map byteV))] (fun B => fresh B 5 ((msgL i s c d).map byteV) 48) := by
 refine FnB.of Tryz.func73 rfl (by kernel_rfl) Tryz.ntmps73 (by simp) (fun w => [(0, .v (nI i)), (1, .v (aggV ([nW s, nQ c]))), (2, .v (aggV (d.map byteV)))]) (fun w => (Start.v rfl (Start.v rfl (Start.v rfl Start.nil)))) fun w₀ => ?_
 refine GS ?_
 refine TN 0 ?_
 refine RN ?_
 refine ZB 1000004 rfl fun b4 ⟨hBb4, hb4⟩ => ?_
 refine TN 1 ?_
 refine RN ?_
 refine ZB 1000005 rfl fun b5 ⟨hBb5, hb5⟩ => ?_
 refine TL ?_
 refine RVN 1 rfl ?_
 refine GTD ?_
 refine RM rfl ?_
 refine RS (ok_conv Tryz.underlying3 Tryz.underlying38 rfl) ?_; refine RZ (nW i) (by rw [wrapN_u32 (by omega)]) ?_
 refine RS (ok_call ((Put32_fn ((i : Nat) : Int) (by omega) (by omega)).le (d' := bytes (be 4 i) 4) (Le.refl _)) (A1 rfl)) ?_
 refine RL 1000004 Tryz.underlying41 rfl rfl (size41.of rfl) ?_
 refine RS (ok_call (Put_fn s c hs hc) (A1 rfl)) ?_
 refine RS ((ok_sliceA (s := 1000005) 0 32 (by decide) Tryz.underlying54 info5 rfl rfl (.inr ⟨rfl, rfl⟩) (.inr ⟨rfl, rfl⟩) (by omega) (by omega) (by rw [List.length_map, hd]) (by decide)).le (d' := byt d) (byt_all hd)) ?_
 refine RS (ok_build [bytes (be 4 i) 4, bytes (nonceL s c) 12, byt d] Tryz.underlying103 info22 rfl (by decide) (by decide) rfl ⟨rfl, rfl, rfl, rfl, rfl, rfl, trivial⟩ (fun d' hd' w x h => by simp only [List.mem_cons, List.not_mem_nil, or_false] at hd'; rcases hd' with rfl | rfl | rfl <;> first | exact list_one h | exact lst_one h)) ?_
 refine RS ((ok_callB (Join_fnB [be 4 i, nonceL s c, d] (by simp) (by simp [be_length, nonceL_length, hd])) (fun _ _ => fresh_mono _ _) (Args.cons rfl (list_lst3 (le_byt _ 4) (le_byt _ 12) (Le.refl _)) Args.nil)).le (d' := fresh w₀.heap.size 5 ((msgL i s c d).map byteV) 48) (Le.eq (by rw [msg_flat, msgL_length hd]))) ?_
 refine RVN 1 rfl ?_
 refine A.ret ?_
 exact ER rfl rfl
set_option maxHeartbeats 1000000 in
theorem tagOf_fn (f : Nat → Nat) (mk : List UInt8) (hf : By f) (hmk : mk.length = 32) (i : Nat) (s c : Nat) (hs : s < 4294967296) (hc : c < 18446744073709551616) (d : List UInt8) (hd : d.length = 32) (hi : i < 4096) : FnM Tryz.prog 64 tabs [.v (aggV ((rowV 16 f ++ mk.map byteV))), .v (nI i), .v (aggV ([nW s, nQ c])), .v (aggV (d.map byteV))] (.v (aggV ((hmac mk (msgL i s c d)).map byteV))) := by
 refine FnM.of Tryz.func64 rfl (by kernel_rfl) Tryz.ntmps64 (by simp) (by decide) (fun w => [(0, .v (aggV ((rowV 16 f ++ mk.map byteV)))), (1, .v (nI i)), (2, .v (aggV ([nW s, nQ c]))), (3, .v (aggV (d.map byteV))), (1900000, tab 0 (H8.list.map u32V)), (1900001, tab 1 (K64.map u32V))]) (fun w => (StartM.v rfl (StartM.v rfl (StartM.v rfl (StartM.v rfl (StartM.m (by simp [tabs]) (by decide) (StartM.m (by simp [tabs]) (by decide) StartM.nil))))))) fun w₀ hM => ?_
 have htab := tabs_hi hM
 refine GS ?_
 refine TN 0 ?_
 refine RN ?_
 refine ZB 1000004 rfl fun b4 ⟨hBb4, hb4⟩ => ?_
 refine TN 1 ?_
 refine RN ?_
 refine ZB 1000006 rfl fun b6 ⟨hBb6, hb6⟩ => ?_
 refine TN 2 ?_
 refine RN ?_
 refine ZB 1000007 rfl fun b7 ⟨hBb7, hb7⟩ => ?_
 refine TN 3 ?_
 refine RN ?_
 refine ZN 1000008 zero31 fun b8 ⟨hBb8, hb8⟩ => ?_
 refine TL ?_
 refine RN ?_
 refine GD ?_
 refine TD 8 ?_
 refine RS (ok_field field58_1 (by decide) rfl) ?_
 refine RS (OpOk.fact (ok_sliceX (l := 0) (h := 32) (m := 32) Tryz.underlying52 info5 rfl (.inr ⟨rfl, rfl⟩) (.inr ⟨rfl, rfl, rfl⟩) (.inr ⟨rfl, rfl⟩) (by decide) (by decide) (by decide) (.inl (by decide))) (d := byt mk) (s := 1000004) (by decide) rfl (slice_byt mk hmk.symm (by decide) (by simp only [maxLen]; omega) (KM_mac f hmk))) ?_
 refine RM rfl ?_
 refine RL 1000006 Tryz.underlying41 rfl rfl (size41.of rfl) ?_
 refine RS (ok_loadA (s := 1000007) (by decide) Tryz.underlying54 rfl (size54.of (by rw [List.length_map, hd])) rfl rfl) ?_
 refine RS (ok_call (messageOf_fn i s c hs hc d hd hi) (A3 rfl rfl rfl)) ?_
 refine RS (ok_build [bytes (msgL i s c d) 48] Tryz.underlying103 info22 rfl (by decide) (by decide) rfl ⟨rfl, rfl, trivial⟩ (fun d' hd' w x h => by simp only [List.mem_cons, List.not_mem_nil, or_false] at hd'; subst hd'; exact list_one h)) ?_
 refine RS (ok_callM (macOf_fn mk [(msgL i s c d)] (msgL i s c d) (by simp) (by omega) (by simp) (by rw [msgL_length hd]; decide)) (Sub.cons rfl (Sub.cons rfl KN)) tabs_v (Args.cons rfl (Le.refl _) (Args.cons rfl (list_lst1 (le_byt _ 48)) Args.nil))) ?_
 refine RN ?_
 refine ⟨_, eff_storeA (n := 17) (s := 1000008) (size31.of (by rw [List.length_map, hmac_length])) rfl rfl (all_bytes _) hBb8 rfl (by simp [hmac_length]) (LV 8 rfl (LT 1000004 rfl (LT 1000006 rfl (LT 1000007 rfl (LeftS.cons (t := 1900000) rfl (Surv.tab (by omega)) (LeftS.cons (t := 1900001) rfl (Surv.tab (by omega)) LN)))))), ?_⟩
 refine TL ?_
 refine RN ?_
 refine A.ret ?_
 exact End.cell1 (s := 1000008) rfl Tryz.underlying31 rfl (size31.of (by rw [List.length_map, hmac_length])) rfl rfl (Le.refl _)
set_option maxHeartbeats 1000000 in
theorem combined_fn (f : Nat → Nat) (mk : List UInt8) (hf : By f) (hmk : mk.length = 32) (s c : Nat) (hs : s < 4294967296) (hc : c < 18446744073709551616) (d : List UInt8) (hd : d.length = 32)  : Fn Tryz.prog 63 [.v (aggV ((rowV 16 f ++ mk.map byteV))), .v (aggV ([nW s, nQ c])), .v (aggV (d.map byteV))] (.v (aggV ((xorK f s c 0 d).map byteV))) := by
 refine FV Tryz.func63 rfl Tryz.ntmps63 rfl fun w₀ => ?_
 refine GS ?_
 refine TN 0 ?_
 refine RN ?_
 refine ZB 1000003 rfl fun b3 ⟨hBb3, hb3⟩ => ?_
 refine TN 1 ?_
 refine RN ?_
 refine ZB 1000004 rfl fun b4 ⟨hBb4, hb4⟩ => ?_
 refine TN 2 ?_
 refine RN ?_
 refine ZB 1000005 rfl fun b5 ⟨hBb5, hb5⟩ => ?_
 refine TN 3 ?_
 refine RN ?_
 refine ZN 1000006 zero54 fun b6 ⟨hBb6, hb6⟩ => ?_
 have hlt_b5_b6 := hb6 1000005 b5 _ _ rfl
 refine TL ?_
 refine RN ?_
 refine GTD ?_
 refine RS (ok_field field58_0 (by decide) rfl) ?_
 refine RS (ok_loadP (s := 1000003) (by decide) Tryz.underlying37 rfl size37 rfl rfl (by simp [rowV_length, hmk]) (K_key f _)) ?_
 refine RL 1000004 Tryz.underlying41 rfl rfl (size41.of rfl) ?_
 refine RS ((ok_sliceA (s := 1000005) 0 32 (by decide) Tryz.underlying54 info5 rfl rfl (.inr ⟨rfl, rfl⟩) (.inr ⟨rfl, rfl⟩) (by omega) (by omega) (by rw [List.length_map, hd]) (by decide)).le (d' := byt d) (byt_all hd)) ?_
 refine RS (ok_call (Xor7_fn f hf s c 0 d hs hc (by omega)) (Args.cons rfl (Le.refl _) (A3 rfl rfl rfl))) ?_
 refine RM rfl ?_
 refine RS (ok_extract rfl rfl) ?_
 refine RS (ok_extract rfl rfl) ?_
 refine RVN 2 rfl ?_
 refine GS ?_
 refine TF 3 ?_
 refine RM rfl ?_
 refine RS (ok_arrayB (xorK f s c 0 d) (by rw [xorK_length, hd]; exact Tryz.underlying54) rfl (le_byt _ _) (by rw [xorK_length, hd]; decide)) ?_
 refine RS (ok_loadB Tryz.underlying54 rfl (size54.of (by rw [xorK_length, hd])) rfl) ?_
 refine RN ?_
 refine ⟨_, eff_storeA (n := 20) (s := 1000006) (size54.of (by rw [List.length_map, xorK_length, hd])) rfl rfl (all_bytes _) hBb6 rfl (by simp [xorK_length, hd]) (LV 6 rfl (LT 1000003 rfl (LT 1000004 rfl (LB 1000005 rfl LN)))), ?_⟩
 refine TL ?_
 refine RN ?_
 refine A.ret ?_
 exact End.cell1 (s := 1000006) rfl Tryz.underlying54 rfl (size54.of (by rw [List.length_map, xorK_length, hd])) rfl rfl (Le.refl _)
theorem checkTag_int (f : Nat → Nat) (mk : List UInt8) (hf : By f) (hmk : mk.length = 32) (i : Nat) (s c : Nat) (hs : s < 4294967296) (hc : c < 18446744073709551616) (d : List UInt8) (hd : d.length = 32) (hi : i < 4096)(tg : List UInt8) (htg : tg.length = 32) (h : tg ≠ (hmac mk (msgL i s c d))) : FnM Tryz.prog 70 tabs [.v (aggV ((rowV 16 f ++ mk.map byteV))), .v (nI i), .v (aggV ([nW s, nQ c])), .v (aggV (d.map byteV)), .v (aggV (tg.map byteV))] (.v (.int .i64 9)) := by
 refine FnM.of Tryz.func70 rfl (by kernel_rfl) Tryz.ntmps70 (by simp) (by decide) (fun w => [(0, .v (aggV ((rowV 16 f ++ mk.map byteV)))), (1, .v (nI i)), (2, .v (aggV ([nW s, nQ c]))), (3, .v (aggV (d.map byteV))), (4, .v (aggV (tg.map byteV))), (1900000, tab 0 (H8.list.map u32V)), (1900001, tab 1 (K64.map u32V))]) (fun w => (StartM.v rfl (StartM.v rfl (StartM.v rfl (StartM.v rfl (StartM.v rfl (StartM.m (by simp [tabs]) (by decide) (StartM.m (by simp [tabs]) (by decide) StartM.nil)))))))) fun w₀ hM => ?_
 have htab := tabs_hi hM
 refine GS ?_
 refine TN 0 ?_
 refine RN ?_
 refine ZB 1000005 rfl fun b5 ⟨hBb5, hb5⟩ => ?_
 refine TN 1 ?_
 refine RN ?_
 refine ZB 1000007 rfl fun b7 ⟨hBb7, hb7⟩ => ?_
 refine TN 2 ?_
 refine RN ?_
 refine ZB 1000008 rfl fun b8 ⟨hBb8, hb8⟩ => ?_
 refine TN 3 ?_
 refine RN ?_
 refine ZB 1000009 rfl fun b9 ⟨hBb9, hb9⟩ => ?_
 refine TL ?_
 refine RVN 1 rfl ?_
 refine QS ?_
 refine GT ?_
 refine RM rfl ?_
 refine RS (ok_call (checkIndex_ok (i : Int) (by omega) (by omega)) (A1 rfl)) ?_
 refine RVN 1 rfl ?_
 refine GT ?_
 refine RV 2 rfl ?_
 refine RZ (.bool false) (by rfl) ?_
 refine RN ?_
 refine A.no rfl ?_
 refine QK ?_
 refine QS ?_
 refine GTD ?_
 refine RS (ok_loadA (s := 1000009) (by decide) Tryz.underlying31 rfl (size31.of (by rw [List.length_map, htg])) rfl rfl) ?_
 refine RS (ok_loadA (s := 1000005) (by decide) Tryz.underlying58 rfl (size58.of (KM_len f hmk)) rfl rfl) ?_
 refine RM rfl ?_
 refine RL 1000007 Tryz.underlying41 rfl rfl (size41.of rfl) ?_
 refine RS (ok_loadA (s := 1000008) (by decide) Tryz.underlying54 rfl (size54.of (by rw [List.length_map, hd])) rfl rfl) ?_
 refine RS (ok_callM (tagOf_fn f mk hf hmk i s c hs hc d hd hi) (Sub.cons rfl (Sub.cons rfl KN)) tabs_v (Args.cons rfl (Le.refl _) (A3 rfl rfl rfl))) ?_
 refine RS (ok_neqT (n := 3) (decide (tg = (hmac mk (msgL i s c d)))) flat31 (by decide) (by kernel_rfl) (by kernel_rfl) rfl rfl (kinB htg) (kinB (hmac_length _ _)) (decB _ _)) ?_; refine RZ (.bool true) (by simp [h]) ?_
 refine RN ?_
 refine A.yes rfl ?_
 refine GV rfl ?_
 refine A.ret ?_
 refine End.ret_then ?_
 exact ER rfl rfl
theorem checkTag_ok (f : Nat → Nat) (mk : List UInt8) (hf : By f) (hmk : mk.length = 32) (i : Nat) (s c : Nat) (hs : s < 4294967296) (hc : c < 18446744073709551616) (d : List UInt8) (hd : d.length = 32) (hi : i < 4096)(tg : List UInt8) (htg : tg.length = 32) (h : tg = (hmac mk (msgL i s c d))) : FnM Tryz.prog 70 tabs [.v (aggV ((rowV 16 f ++ mk.map byteV))), .v (nI i), .v (aggV ([nW s, nQ c])), .v (aggV (d.map byteV)), .v (aggV (tg.map byteV))] (.v (.int .i64 0)) := by
 refine FnM.of Tryz.func70 rfl (by kernel_rfl) Tryz.ntmps70 (by simp) (by decide) (fun w => [(0, .v (aggV ((rowV 16 f ++ mk.map byteV)))), (1, .v (nI i)), (2, .v (aggV ([nW s, nQ c]))), (3, .v (aggV (d.map byteV))), (4, .v (aggV (tg.map byteV))), (1900000, tab 0 (H8.list.map u32V)), (1900001, tab 1 (K64.map u32V))]) (fun w => (StartM.v rfl (StartM.v rfl (StartM.v rfl (StartM.v rfl (StartM.v rfl (StartM.m (by simp [tabs]) (by decide) (StartM.m (by simp [tabs]) (by decide) StartM.nil)))))))) fun w₀ hM => ?_
 have htab := tabs_hi hM
 refine GS ?_
 refine TN 0 ?_
 refine RN ?_
 refine ZB 1000005 rfl fun b5 ⟨hBb5, hb5⟩ => ?_
 refine TN 1 ?_
 refine RN ?_
 refine ZB 1000007 rfl fun b7 ⟨hBb7, hb7⟩ => ?_
 refine TN 2 ?_
 refine RN ?_
 refine ZB 1000008 rfl fun b8 ⟨hBb8, hb8⟩ => ?_
 refine TN 3 ?_
 refine RN ?_
 refine ZB 1000009 rfl fun b9 ⟨hBb9, hb9⟩ => ?_
 refine TL ?_
 refine RVN 1 rfl ?_
 refine QS ?_
 refine GT ?_
 refine RM rfl ?_
 refine RS (ok_call (checkIndex_ok (i : Int) (by omega) (by omega)) (A1 rfl)) ?_
 refine RVN 1 rfl ?_
 refine GT ?_
 refine RV 2 rfl ?_
 refine RZ (.bool false) (by rfl) ?_
 refine RN ?_
 refine A.no rfl ?_
 refine QK ?_
 refine QS ?_
 refine GTD ?_
 refine RS (ok_loadA (s := 1000009) (by decide) Tryz.underlying31 rfl (size31.of (by rw [List.length_map, htg])) rfl rfl) ?_
 refine RS (ok_loadA (s := 1000005) (by decide) Tryz.underlying58 rfl (size58.of (KM_len f hmk)) rfl rfl) ?_
 refine RM rfl ?_
 refine RL 1000007 Tryz.underlying41 rfl rfl (size41.of rfl) ?_
 refine RS (ok_loadA (s := 1000008) (by decide) Tryz.underlying54 rfl (size54.of (by rw [List.length_map, hd])) rfl rfl) ?_
 refine RS (ok_callM (tagOf_fn f mk hf hmk i s c hs hc d hd hi) (Sub.cons rfl (Sub.cons rfl KN)) tabs_v (Args.cons rfl (Le.refl _) (A3 rfl rfl rfl))) ?_
 refine RS (ok_neqT (n := 3) (decide (tg = (hmac mk (msgL i s c d)))) flat31 (by decide) (by kernel_rfl) (by kernel_rfl) rfl rfl (kinB htg) (kinB (hmac_length _ _)) (decB _ _)) ?_; refine RZ (.bool false) (by simp [h]) ?_
 refine RN ?_
 refine A.no rfl ?_
 refine QK ?_
 refine GV rfl ?_
 refine A.ret ?_
 exact ER rfl rfl
theorem behind_no (e : Int) (h : e ≠ 0) (v : Value) : Fn Tryz.prog 60 [.v (.int .i64 e), .v v] (.v (.int .i64 e)) := by
 refine FV Tryz.func60 rfl Tryz.ntmps60 rfl fun w₀ => ?_
 refine GV rfl ?_
 refine QS ?_
 refine GT ?_
 refine RV 2 rfl ?_
 refine RZ (.bool false) (by simp [h]) ?_
 refine RN ?_
 refine A.no rfl ?_
 refine QK ?_
 refine GV rfl ?_
 refine A.ret ?_
 exact ER rfl rfl
theorem behind_fnL {B fa : Nat} {gs : List (TypeId × Nat)} {us : List Value} {M : Env} {G : Nat → Nat → Prop} {M' : Nat → Env} (hG : ∀ m m' i, m ≤ m' → G m' i → G m i) (hgB : ∀ p ∈ gs, B ≤ p.2) (ha : FnL Tryz.prog fa B gs us M G (fun _ => .tuple #[]) M') : FnL Tryz.prog 60 B gs [.int .i64 0, .func (.func fa) #[] us.toArray] M G (fun _ => .int .i64 0) M' := by
 refine FnL.unpacked (k := 1000090) (k' := 1000091) ?_
 have ha' := ha.packed 1000090 1000091
 refine FnL.of (n := 10) (kw := 1000099) (ks := 1000098) Tryz.func60 rfl (by kernel_rfl) Tryz.ntmps60 (by simp) (by decide) (vbL_cons (vL rfl) vbL_nil) (vL rfl) (vL rfl) [(0, .v (.int .i64 0)), (1, .v (.func (.func fa) #[] us.toArray))]
  (fun p hp => by simp only [List.mem_cons, List.not_mem_nil, or_false] at hp; rcases hp with rfl | rfl <;> exact ⟨_, rfl, rfl⟩) fun w₀ w₁ hw hw₁ => ?_
 subst hw
 refine GV rfl ?_
 refine QS ?_
 refine GT ?_
 refine RV 2 rfl ?_
 refine RZ (.bool true) (by rfl) ?_
 refine RN ?_
 refine A.yes rfl ?_
 refine GE ?_
 refine TN 1 ?_
 refine RVN 1 rfl ?_
 refine ⟨_, _, eff_callL (n := 10) (vs := []) (us := us) ha' rfl Args.nil (subL_M (KC 1000090 rfl KN) (vbL_cons (vL rfl) vbL_nil)) (fun _ => vbL_cons (vL rfl) vbL_nil) hgB (fun κ a w h => selfL_self (h.of 1000098 _ rfl)) (by decide) (by decide) (leftG_v (t := 0) rfl (leftG_w (t := 1000099) rfl leftG_nil)), fun i hi => ?_⟩
 obtain ⟨m, _, _, hm, hGi⟩ := hi
 have hGw := hG _ _ _ (hm 1000099 _ _ rfl) hGi
 refine TL ?_
 refine RN ?_
 refine EN ?_
 refine GV rfl ?_
 refine A.ret ?_
 exact End.wroteL1 (.inl rfl) rfl (kw := 1000099) rfl i rfl hGw (by decide) (lookL_cons (k := 1000091) (vL rfl) rfl lookL_nil)
set_option maxHeartbeats 1000000 in
theorem Message1_fnL (B : Nat) (p0 p1 p2 p3 : Nat) (i : Nat) (s c : Nat) (hs : s < 4294967296) (hc : c < 18446744073709551616) (d : List UInt8) (hd : d.length = 32) (hi : i < 4096) (hB3 : B ≤ p3) : FnL Tryz.prog 72 B [(22, p3)] [ptr p0, ptr p1, ptr p2, ptr p3] [(1000003, blk p0 3 [nI i]), (1000004, blk p1 41 [nW s, nQ c]), (1000005, blk p2 54 (d.map byteV)), (1000008, blk p3 22 [.slice none 0 0])] (fun m b => m ≤ b) (fun _ => .tuple #[]) (fun b => [(1000008, blk p3 22 [.slice (some ⟨b, 0, none⟩) 48 48]), (1000013, blk b 5 ((msgL i s c d).map byteV))]) := by
 refine FnL.of (n := 8) (kw := 1000099) (ks := 1000098) Tryz.func72 rfl (by kernel_rfl) Tryz.ntmps72 (by simp) (by decide) (vbL_cons (vL rfl) (vbL_cons (vL rfl) (vbL_cons (vL rfl) (vbL_cons (vL rfl) vbL_nil)))) (vL rfl) (vL rfl) [(0, .v (ptr p0)), (1, .v (ptr p1)), (2, .v (ptr p2)), (3, .v (ptr p3))]
  (fun p hp => by simp only [List.mem_cons, List.not_mem_nil, or_false] at hp; rcases hp with rfl | rfl | rfl | rfl <;> exact ⟨_, rfl, rfl⟩) fun w₀ w₁ hw hw₁ => ?_
 have hBp3 : w₀.heap.size ≤ p3 := by omega
 refine GE ?_
 refine TN 3 ?_
 refine RLV 1000003 Tryz.underlying3 rfl rfl rfl ?_
 refine RL 1000004 Tryz.underlying41 rfl rfl (size41.of rfl) ?_
 refine RS (ok_loadA (s := 1000005) (by decide) Tryz.underlying54 rfl (size54.of (by rw [List.length_map, hd])) rfl rfl) ?_
 refine RN ?_
 refine ⟨_, _, eff_nameFL (c := 48) (by rw [List.length_map, msgL_length hd]) (n := 8) (d := 7) (k := 1000007) rfl rfl (fun B' => ok_callB (messageOf_fnB i s c hs hc d hd hi) (fun _ _ => fresh_mono _ _) (A3 rfl rfl rfl)) (by decide) (by decide), fun b7 hb7 => ?_⟩
 have hBb7 := hb7.1
 have hlt_p0_b7 : p0 < b7 := hb7.2.1 1000003 _ _ _ rfl
 have hlt_p1_b7 : p1 < b7 := hb7.2.1 1000004 _ _ _ rfl
 have hlt_p2_b7 : p2 < b7 := hb7.2.1 1000005 _ _ _ rfl
 have hlt_p3_b7 : p3 < b7 := hb7.2.1 1000008 _ _ _ rfl
 have hw_b7 := hb7.2.2 1000099 _ _ rfl
 refine TF 4 ?_
 refine RN ?_
 refine ⟨_, eff_storeS (n := 8) (s := 1000008) info22 rfl rfl rfl hBp3 rfl (by simp) (LT 1000003 rfl (LT 1000004 rfl (LT 1000005 rfl (LT 1000007 rfl (LeftS.cons (t := 1000099) rfl (Surv.wroteL (by simp)) LN))))), ?_⟩
 refine TL ?_
 refine RN ?_
 exact End.wroteL0 (.inr rfl) rfl (kw := 1000099) rfl b7 hw_b7 (by decide) (lookL_cons (k := 1000008) (vL rfl) rfl (lookL_cons (k := 1000007) (vL rfl) rfl lookL_nil))
set_option maxHeartbeats 1000000 in
theorem Message_ok (i : Nat) (s c : Nat) (hs : s < 4294967296) (hc : c < 18446744073709551616) (d : List UInt8) (hd : d.length = 32) (hi : i < 4096) : FnB Tryz.prog 28 [.v (nI i), .v (aggV ([nW s, nQ c])), .v (aggV (d.map byteV))] (fun B => newD B 5 (fun b => .tuple #[.slice (some ⟨b, 0, none⟩) 48 48, .int .i64 0]) ((msgL i s c d).map byteV)) := by
 refine FnB.of Tryz.func28 rfl (by kernel_rfl) Tryz.ntmps28 (by simp) (fun w => [(0, .v (nI i)), (1, .v (aggV ([nW s, nQ c]))), (2, .v (aggV (d.map byteV)))]) (fun w => (Start.v rfl (Start.v rfl (Start.v rfl Start.nil)))) fun w₀ => ?_
 refine GS ?_
 refine TN 0 ?_
 refine RN ?_
 refine ⟨_, _, eff_box1 (n := 16) (d := 3) (k := 1000003) rfl rfl (by decide), fun b3 hb3 => ?_⟩
 have hBb3 := hb3.1
 refine TN 1 ?_
 refine RN ?_
 refine ZB 1000004 rfl fun b4 ⟨hBb4, hb4⟩ => ?_
 refine TN 2 ?_
 refine RN ?_
 refine ZB 1000005 rfl fun b5 ⟨hBb5, hb5⟩ => ?_
 refine TL ?_
 refine RVN 2 rfl ?_
 refine GS ?_
 refine TN 0 ?_
 refine RN ?_
 refine ZN 1000008 zero22 fun b8 ⟨hBb8, hb8⟩ => ?_
 refine TL ?_
 refine RN ?_
 refine GS ?_
 refine TN 3 ?_
 refine RLV 1000003 Tryz.underlying3 rfl rfl rfl ?_
 refine RS (ok_call (checkIndex_ok (i : Int) (by omega) (by omega)) (A1 rfl)) ?_
 refine RS (ok_makeFuncN [ptr b3, ptr b4, ptr b5, ptr b8] ⟨rfl, rfl, rfl, rfl, trivial⟩) ?_
 refine RN ?_
 refine ⟨_, _, eff_callLN (n := 16) (vs := [.int .i64 0, .func (.func 72) #[] #[ptr b3, ptr b4, ptr b5, ptr b8]]) (us := []) (behind_fnL (fun _ _ _ h1 h2 => Nat.le_trans h1 h2) (fun p hp => by simp only [List.mem_cons, List.not_mem_nil, or_false] at hp; rcases hp with rfl <;> assumption) (Message1_fnL w₀.heap.size b3 b4 b5 b8 i s c hs hc d hd hi hBb8)) rfl (A2 rfl rfl) (subL_M (SV [1000003, 1000004, 1000005, 1000008] rfl) (vbL_cons (vL rfl) (vbL_cons (vL rfl) (vbL_cons (vL rfl) (vbL_cons (vL rfl) vbL_nil))))) (fun _ => (vbL_cons (vL rfl) (vbL_cons (vL rfl) vbL_nil))) (gsL_cons (k := 1000008) hBb8 rfl gsL_nil) (by decide) (by decide) (LeftL.one (LV 8 rfl (LT 1000003 rfl (LT 1000004 rfl (LT 1000005 rfl LN))))), fun b13 hb13 => ?_⟩
 have hBb13 := hb13.1
 have hlt_b3_b13 : b3 < b13 := hb13.2.1 1000003 _ _ _ rfl
 have hlt_b4_b13 : b4 < b13 := hb13.2.1 1000004 _ _ _ rfl
 have hlt_b5_b13 : b5 < b13 := hb13.2.1 1000005 _ _ _ rfl
 have hlt_b8_b13 : b8 < b13 := hb13.2.1 1000008 _ _ _ rfl
 refine TL ?_
 refine RVN 1 rfl ?_
 refine GT ?_
 refine RLV 1000008 Tryz.underlying22 rfl rfl rfl ?_
 refine RVN 3 rfl ?_
 refine A.ret ?_
 exact End.newTT (kg := 1000013) rfl rfl rfl rfl hBb13 rfl rfl
set_option maxHeartbeats 1000000 in
theorem Seal1_fnL (B : Nat) (p0 p1 p2 p3 p4 p5 : Nat) (htab : 1 < B) (f : Nat → Nat) (mk : List UInt8) (hf : By f) (hmk : mk.length = 32) (i : Nat) (s c : Nat) (hs : s < 4294967296) (hc : c < 18446744073709551616) (d : List UInt8) (hd : d.length = 32) (hi : i < 4096) (hB3 : B ≤ p3) (hB5 : B ≤ p5) (hne : p2 < p3) : FnL Tryz.prog 62 B [(54, p3), (31, p5)] [ptr p0, ptr p1, ptr p2, ptr p3, ptr p4, ptr p5] [(1000004, blk p0 58 (rowV 16 f ++ mk.map byteV)), (1000006, blk p1 41 [nW s, nQ c]), (1000007, blk p2 54 (d.map byteV)), (1000008, blk p3 54 (List.replicate 32 (.int .u8 0))), (1000005, blk p4 3 [nI i]), (1000009, blk p5 31 (List.replicate 32 (.int .u8 0))), (1900000, tab 0 (H8.list.map u32V)), (1900001, tab 1 (K64.map u32V))] (fun _ _ => True) (fun _ => .tuple #[]) (fun b => [(1000008, blk p3 54 ((xorK f s c 0 d).map byteV)), (1000009, blk p5 31 ((hmac mk (msgL i s c (xorK f s c 0 d))).map byteV))]) := by
 refine FnL.of (n := 15) (kw := 1000099) (ks := 1000098) Tryz.func62 rfl (by kernel_rfl) Tryz.ntmps62 (by simp) (by decide) (vbL_cons (vL rfl) (vbL_cons (vL rfl) (vbL_cons (vL rfl) (vbL_cons (vL rfl) (vbL_cons (vL rfl) (vbL_cons (vL rfl) (vbL_cons (vL rfl) (vbL_cons (vL rfl) vbL_nil)))))))) (vL rfl) (vL rfl) [(0, .v (ptr p0)), (1, .v (ptr p1)), (2, .v (ptr p2)), (3, .v (ptr p3)), (4, .v (ptr p4)), (5, .v (ptr p5))]
  (fun p hp => by simp only [List.mem_cons, List.not_mem_nil, or_false] at hp; rcases hp with rfl | rfl | rfl | rfl | rfl | rfl <;> exact ⟨_, rfl, rfl⟩) fun w₀ w₁ hw hw₁ => ?_
 have hBp3 : w₀.heap.size ≤ p3 := by omega
 have hBp5 : w₀.heap.size ≤ p5 := by omega
 refine GS ?_
 refine TF 4 ?_
 refine RS (ok_loadA (s := 1000004) (by decide) Tryz.underlying58 rfl (size58.of (KM_len f hmk)) rfl rfl) ?_
 refine RL 1000006 Tryz.underlying41 rfl rfl (size41.of rfl) ?_
 refine RS (ok_loadA (s := 1000007) (by decide) Tryz.underlying54 rfl (size54.of (by rw [List.length_map, hd])) rfl rfl) ?_
 refine RS (ok_call (combined_fn f mk hf hmk s c hs hc d hd) (A3 rfl rfl rfl)) ?_
 refine RN ?_
 refine ⟨_, eff_storeA (n := 15) (s := 1000008) (size54.of (by rw [List.length_map, xorK_length, hd])) rfl rfl (all_bytes _) hBp3 rfl (by simp [xorK_length, hd]) (LT 1000004 rfl (LT 1000005 rfl (LT 1000006 rfl (LB 1000007 rfl (LT 1000009 rfl (LeftS.cons (t := 1000099) rfl (Surv.wroteL (by simp)) (LeftS.cons (t := 1900000) rfl (Surv.tab (by omega)) (LeftS.cons (t := 1900001) rfl (Surv.tab (by omega)) (LW [0, 1, 3, 4, 5] rfl))))))))), ?_⟩
 refine TL ?_
 refine RN ?_
 refine GE ?_
 refine TF 5 ?_
 refine RS (ok_loadA (s := 1000004) (by decide) Tryz.underlying58 rfl (size58.of (KM_len f hmk)) rfl rfl) ?_
 refine RLV 1000005 Tryz.underlying3 rfl rfl rfl ?_
 refine RL 1000006 Tryz.underlying41 rfl rfl (size41.of rfl) ?_
 refine RS (ok_loadA (s := 1000008) (by decide) Tryz.underlying54 rfl (size54.of (by rw [List.length_map, xorK_length, hd])) rfl rfl) ?_
 refine RS (ok_callM (tagOf_fn f mk hf hmk i s c hs hc (xorK f s c 0 d) (by rw [xorK_length, hd]) hi) (Sub.cons rfl (Sub.cons rfl KN)) tabs_v (Args.cons rfl (Le.refl _) (A3 rfl rfl rfl))) ?_
 refine RN ?_
 refine ⟨_, eff_storeA (n := 15) (s := 1000009) (size31.of (by rw [List.length_map, hmac_length])) rfl rfl (all_bytes _) hBp5 rfl (by simp [hmac_length]) (LT 1000004 rfl (LT 1000005 rfl (LT 1000006 rfl (LT 1000007 rfl (LT 1000008 rfl (LeftS.cons (t := 1000099) rfl (Surv.wroteL (by simp)) (LeftS.cons (t := 1900000) rfl (Surv.tab (by omega)) (LeftS.cons (t := 1900001) rfl (Surv.tab (by omega)) LN)))))))), ?_⟩
 refine TL ?_
 refine RN ?_
 exact End.wroteL0 (.inr rfl) rfl (kw := 1000099) rfl 0 trivial (by decide) (lookL_cons (k := 1000008) (vL rfl) rfl (lookL_cons (k := 1000009) (vL rfl) rfl lookL_nil))
set_option maxHeartbeats 2000000 in
theorem Seal_ok (f : Nat → Nat) (mk : List UInt8) (hf : By f) (hmk : mk.length = 32) (i : Nat) (s c : Nat) (hs : s < 4294967296) (hc : c < 18446744073709551616) (d : List UInt8) (hd : d.length = 32) (hi : i < 4096) : FnM Tryz.prog 24 tabs [.v (aggV ((rowV 16 f ++ mk.map byteV))), .v (nI i), .v (aggV ([nW s, nQ c])), .v (aggV (d.map byteV))] (.v (.tuple #[aggV ((xorK f s c 0 d).map byteV), aggV ((hmac mk (msgL i s c (xorK f s c 0 d))).map byteV), .int .i64 0])) := by
 refine FnM.of Tryz.func24 rfl (by kernel_rfl) Tryz.ntmps24 (by simp) (by decide) (fun w => [(0, .v (aggV ((rowV 16 f ++ mk.map byteV)))), (1, .v (nI i)), (2, .v (aggV ([nW s, nQ c]))), (3, .v (aggV (d.map byteV))), (1900000, tab 0 (H8.list.map u32V)), (1900001, tab 1 (K64.map u32V))]) (fun w => (StartM.v rfl (StartM.v rfl (StartM.v rfl (StartM.v rfl (StartM.m (by simp [tabs]) (by decide) (StartM.m (by simp [tabs]) (by decide) StartM.nil))))))) fun w₀ hM => ?_
 have htab := tabs_hi hM
 refine GS ?_
 refine TN 0 ?_
 refine RN ?_
 refine ZB 1000004 rfl fun b4 ⟨hBb4, hb4⟩ => ?_
 refine TN 1 ?_
 refine RN ?_
 refine ⟨_, _, eff_box1 (n := 18) (d := 5) (k := 1000005) rfl rfl (by decide), fun b5 hb5 => ?_⟩
 have hBb5 := hb5.1
 refine TN 2 ?_
 refine RN ?_
 refine ZB 1000006 rfl fun b6 ⟨hBb6, hb6⟩ => ?_
 refine TN 3 ?_
 refine RN ?_
 refine ZB 1000007 rfl fun b7 ⟨hBb7, hb7⟩ => ?_
 refine TN 4 ?_
 refine RN ?_
 refine ZN 1000008 zero54 fun b8 ⟨hBb8, hb8⟩ => ?_
 have hlt_b7_b8 := hb8 1000007 b7 _ _ rfl
 refine TN 5 ?_
 refine RN ?_
 refine ZN 1000009 zero31 fun b9 ⟨hBb9, hb9⟩ => ?_
 refine TL ?_
 refine RVN 1 rfl ?_
 refine GS ?_
 refine TF 3 ?_
 refine RLV 1000005 Tryz.underlying3 rfl rfl rfl ?_
 refine RS (ok_call (checkIndex_ok (i : Int) (by omega) (by omega)) (A1 rfl)) ?_
 refine RS (ok_makeFuncN [ptr b4, ptr b6, ptr b7, ptr b8, ptr b5, ptr b9] ⟨rfl, rfl, rfl, rfl, rfl, rfl, trivial⟩) ?_
 refine RN ?_
 refine ⟨_, eff_callL1 (n := 18) (vs := [.int .i64 0, .func (.func 62) #[] #[ptr b4, ptr b6, ptr b7, ptr b8, ptr b5, ptr b9]]) (us := []) (behind_fnL (fun _ _ _ _ _ => trivial) (fun p hp => by simp only [List.mem_cons, List.not_mem_nil, or_false] at hp; rcases hp with rfl | rfl <;> assumption) (Seal1_fnL w₀.heap.size b4 b6 b7 b8 b5 b9 htab f mk hf hmk i s c hs hc d hd hi hBb8 hBb9 (by omega))) rfl (A2 rfl rfl) (subL_M (SV [1000004, 1000006, 1000007, 1000008, 1000005, 1000009, 1900000, 1900001] rfl) (vbL_cons (vL rfl) (vbL_cons (vL rfl) (vbL_cons (vL rfl) (vbL_cons (vL rfl) (vbL_cons (vL rfl) (vbL_cons (vL rfl) (vbL_cons (vL rfl) (vbL_cons (vL rfl) vbL_nil))))))))) (vbL_cons (vL rfl) (vbL_cons (vL rfl) vbL_nil)) (gsL_cons (k := 1000008) hBb8 rfl (gsL_cons (k := 1000009) hBb9 rfl gsL_nil)) (by decide) (by decide) (LeftL.cons (LT 1000004 rfl (LT 1000005 rfl (LT 1000006 rfl (LB 1000007 rfl (LeftS.cons (t := 1900000) rfl (Surv.tab (by omega)) (LeftS.cons (t := 1900001) rfl (Surv.tab (by omega)) (LW [8, 9] rfl))))))) (LeftL.one (LT 1000004 rfl (LT 1000005 rfl (LT 1000006 rfl (LT 1000007 rfl (LeftS.cons (t := 1900000) rfl (Surv.tab (by omega)) (LeftS.cons (t := 1900001) rfl (Surv.tab (by omega)) (LW [8, 9] rfl))))))))), ?_⟩
 refine TL ?_
 refine RVN 1 rfl ?_
 refine A.regsN (E1 := ((15, .v _) :: (16, .v _) :: (17, .v _) :: (10, .v _) :: _)) [_, _, _, _, _, _] (by kernel_rfl) (by kernel_rfl) (by kernel_rfl) (Nops.cons (_) rfl (.inr ⟨_, rfl, .inl rfl⟩) FromN.all (nop_loadA (s := 1000008) (vL rfl) Tryz.underlying54 rfl (size54.of (by rw [List.length_map, xorK_length, hd])) rfl rfl) (Nops.cons (_) rfl (.inr ⟨_, rfl, .inl rfl⟩) FromN.all (nop_loadA (s := 1000009) (vL rfl) Tryz.underlying31 rfl (size31.of (by rw [List.length_map, hmac_length])) rfl rfl) (Nops.cons (_) rfl (.inr ⟨_, rfl, .inl rfl⟩) FromN.all (nop_move rfl) (Nops.cons ((15, .v _) :: _) rfl (.inl rfl) (FromN.op 0 (by kernel_rfl) rfl rfl FromN.all) (nop_storeA (s := 1000008) (vL rfl) (size54.of (by rw [List.length_map, xorK_length, hd])) rfl rfl (all_bytes _) rfl) (Nops.cons ((16, .v _) :: _) rfl (.inl rfl) (FromN.op 1 (by kernel_rfl) rfl rfl FromN.all) (nop_storeA (s := 1000009) (vL rfl) (size31.of (by rw [List.length_map, hmac_length])) rfl rfl (all_bytes _) rfl) (Nops.cons ((17, .v _) :: _) rfl (.inr ⟨_, rfl, .inr rfl⟩) (FromN.op 2 (by kernel_rfl) rfl rfl FromN.all) (nop_assign rfl) Nops.nil)))))) (FromE.op 0 rfl rfl (FromE.op 1 rfl rfl (FromE.op 2 rfl rfl (FromE.op 5 rfl rfl FromE.all)))) ?_
 refine A.ret ?_
 exact End.cell3 (s := 1000008) (s₂ := 1000009) rfl Tryz.underlying54 rfl (size54.of (by rw [List.length_map, xorK_length, hd])) Tryz.underlying31 rfl (size31.of (by rw [List.length_map, hmac_length])) rfl rfl rfl rfl rfl
set_option maxHeartbeats 1000000 in
theorem Open1_fnL (B : Nat) (p0 p1 p2 p3 : Nat) (f : Nat → Nat) (mk : List UInt8) (hf : By f) (hmk : mk.length = 32) (s c : Nat) (hs : s < 4294967296) (hc : c < 18446744073709551616) (d : List UInt8) (hd : d.length = 32)  (hB3 : B ≤ p3) (hne : p2 < p3) : FnL Tryz.prog 71 B [(54, p3)] [ptr p0, ptr p1, ptr p2, ptr p3] [(1000005, blk p0 58 (rowV 16 f ++ mk.map byteV)), (1000007, blk p1 41 [nW s, nQ c]), (1000008, blk p2 54 (d.map byteV)), (1000012, blk p3 54 (List.replicate 32 (.int .u8 0)))] (fun _ _ => True) (fun _ => .tuple #[]) (fun b => [(1000012, blk p3 54 ((xorK f s c 0 d).map byteV))]) := by
 refine FnL.of (n := 8) (kw := 1000099) (ks := 1000098) Tryz.func71 rfl (by kernel_rfl) Tryz.ntmps71 (by simp) (by decide) (vbL_cons (vL rfl) (vbL_cons (vL rfl) (vbL_cons (vL rfl) (vbL_cons (vL rfl) vbL_nil)))) (vL rfl) (vL rfl) [(0, .v (ptr p0)), (1, .v (ptr p1)), (2, .v (ptr p2)), (3, .v (ptr p3))]
  (fun p hp => by simp only [List.mem_cons, List.not_mem_nil, or_false] at hp; rcases hp with rfl | rfl | rfl | rfl <;> exact ⟨_, rfl, rfl⟩) fun w₀ w₁ hw hw₁ => ?_
 have hBp3 : w₀.heap.size ≤ p3 := by omega
 refine GE ?_
 refine TF 4 ?_
 refine RS (ok_loadA (s := 1000005) (by decide) Tryz.underlying58 rfl (size58.of (KM_len f hmk)) rfl rfl) ?_
 refine RL 1000007 Tryz.underlying41 rfl rfl (size41.of rfl) ?_
 refine RS (ok_loadA (s := 1000008) (by decide) Tryz.underlying54 rfl (size54.of (by rw [List.length_map, hd])) rfl rfl) ?_
 refine RS (ok_call (combined_fn f mk hf hmk s c hs hc d hd) (A3 rfl rfl rfl)) ?_
 refine RN ?_
 refine ⟨_, eff_storeA (n := 8) (s := 1000012) (size54.of (by rw [List.length_map, xorK_length, hd])) rfl rfl (all_bytes _) hBp3 rfl (by simp [xorK_length, hd]) (LT 1000005 rfl (LT 1000007 rfl (LB 1000008 rfl (LeftS.cons (t := 1000099) rfl (Surv.wroteL (by simp)) LN)))), ?_⟩
 refine TL ?_
 refine RN ?_
 exact End.wroteL0 (.inr rfl) rfl (kw := 1000099) rfl 0 trivial (by decide) (lookL_cons (k := 1000012) (vL rfl) rfl lookL_nil)
set_option maxHeartbeats 1000000 in
theorem Open_int (f : Nat → Nat) (mk : List UInt8) (hf : By f) (hmk : mk.length = 32) (i : Nat) (s c : Nat) (hs : s < 4294967296) (hc : c < 18446744073709551616) (d : List UInt8) (hd : d.length = 32) (hi : i < 4096)(tg : List UInt8) (htg : tg.length = 32) (h : tg ≠ (hmac mk (msgL i s c d))) : FnM Tryz.prog 27 tabs [.v (aggV ((rowV 16 f ++ mk.map byteV))), .v (nI i), .v (aggV ([nW s, nQ c])), .v (aggV (d.map byteV)), .v (aggV (tg.map byteV))] (.v (.tuple #[aggV (List.replicate 32 (.int .u8 0)), .int .i64 9])) := by
 refine FnM.of Tryz.func27 rfl (by kernel_rfl) Tryz.ntmps27 (by simp) (by decide) (fun w => [(0, .v (aggV ((rowV 16 f ++ mk.map byteV)))), (1, .v (nI i)), (2, .v (aggV ([nW s, nQ c]))), (3, .v (aggV (d.map byteV))), (4, .v (aggV (tg.map byteV))), (1900000, tab 0 (H8.list.map u32V)), (1900001, tab 1 (K64.map u32V))]) (fun w => (StartM.v rfl (StartM.v rfl (StartM.v rfl (StartM.v rfl (StartM.v rfl (StartM.m (by simp [tabs]) (by decide) (StartM.m (by simp [tabs]) (by decide) StartM.nil)))))))) fun w₀ hM => ?_
 have htab := tabs_hi hM
 refine GS ?_
 refine TN 0 ?_
 refine RN ?_
 refine ZB 1000005 rfl fun b5 ⟨hBb5, hb5⟩ => ?_
 refine TN 1 ?_
 refine RN ?_
 refine ZB 1000007 rfl fun b7 ⟨hBb7, hb7⟩ => ?_
 refine TN 2 ?_
 refine RN ?_
 refine ZB 1000008 rfl fun b8 ⟨hBb8, hb8⟩ => ?_
 refine TN 3 ?_
 refine RN ?_
 refine ZB 1000009 rfl fun b9 ⟨hBb9, hb9⟩ => ?_
 refine TN 4 ?_
 refine RN ?_
 refine ZN 1000010 zero54 fun b10 ⟨hBb10, hb10⟩ => ?_
 have hlt_b8_b10 := hb10 1000008 b8 _ _ rfl
 refine TL ?_
 refine RVN 1 rfl ?_
 refine GS ?_
 refine TN 0 ?_
 refine RN ?_
 refine ZN 1000012 zero54 fun b12 ⟨hBb12, hb12⟩ => ?_
 have hlt_b8_b12 := hb12 1000008 b8 _ _ rfl
 have hlt_b10_b12 := hb12 1000010 b10 _ _ rfl
 refine TL ?_
 refine RN ?_
 refine GT ?_
 refine RS (ok_loadA (s := 1000005) (by decide) Tryz.underlying58 rfl (size58.of (KM_len f hmk)) rfl rfl) ?_
 refine RM rfl ?_
 refine RL 1000007 Tryz.underlying41 rfl rfl (size41.of rfl) ?_
 refine RS (ok_loadA (s := 1000008) (by decide) Tryz.underlying54 rfl (size54.of (by rw [List.length_map, hd])) rfl rfl) ?_
 refine RS (ok_loadA (s := 1000009) (by decide) Tryz.underlying31 rfl (size31.of (by rw [List.length_map, htg])) rfl rfl) ?_
 refine RS (ok_callM (checkTag_int f mk hf hmk i s c hs hc d hd hi tg htg h) (Sub.cons rfl (Sub.cons rfl KN)) tabs_v (Args.cons rfl (Le.refl _) (Args.cons rfl (Le.refl _) (A3 rfl rfl rfl)))) ?_
 refine RS (ok_makeFuncN [ptr b5, ptr b7, ptr b8, ptr b12] ⟨rfl, rfl, rfl, rfl, trivial⟩) ?_
 refine RS (ok_call (behind_no 9 (by decide) _) (A2 rfl rfl)) ?_
 refine RVN 1 rfl ?_
 refine GS ?_
 refine TF 2 ?_
 refine RL 1000012 Tryz.underlying54 rfl rfl (size54.of rfl) ?_
 refine RVN 1 rfl ?_
 refine ZA 1000010 (size54.of rfl) hBb10 rfl rfl rfl (LT 1000005 rfl (LT 1000007 rfl (LB 1000008 rfl (LT 1000009 rfl (LB 1000012 rfl (LeftS.cons (t := 1900000) rfl (Surv.tab (by omega)) (LeftS.cons (t := 1900001) rfl (Surv.tab (by omega)) (LW [10, 23] rfl)))))))) ?_
 refine TL ?_
 refine RVN 1 rfl ?_
 refine A.ret ?_
 exact End.cellV (s := 1000010) rfl Tryz.underlying54 rfl (size54.of (rfl)) rfl rfl rfl
set_option maxHeartbeats 1000000 in
theorem Open_ok (f : Nat → Nat) (mk : List UInt8) (hf : By f) (hmk : mk.length = 32) (i : Nat) (s c : Nat) (hs : s < 4294967296) (hc : c < 18446744073709551616) (d : List UInt8) (hd : d.length = 32) (hi : i < 4096)(tg : List UInt8) (htg : tg.length = 32) (h : tg = (hmac mk (msgL i s c d))) : FnM Tryz.prog 27 tabs [.v (aggV ((rowV 16 f ++ mk.map byteV))), .v (nI i), .v (aggV ([nW s, nQ c])), .v (aggV (d.map byteV)), .v (aggV (tg.map byteV))] (.v (.tuple #[aggV ((xorK f s c 0 d).map byteV), .int .i64 0])) := by
 refine FnM.of Tryz.func27 rfl (by kernel_rfl) Tryz.ntmps27 (by simp) (by decide) (fun w => [(0, .v (aggV ((rowV 16 f ++ mk.map byteV)))), (1, .v (nI i)), (2, .v (aggV ([nW s, nQ c]))), (3, .v (aggV (d.map byteV))), (4, .v (aggV (tg.map byteV))), (1900000, tab 0 (H8.list.map u32V)), (1900001, tab 1 (K64.map u32V))]) (fun w => (StartM.v rfl (StartM.v rfl (StartM.v rfl (StartM.v rfl (StartM.v rfl (StartM.m (by simp [tabs]) (by decide) (StartM.m (by simp [tabs]) (by decide) StartM.nil)))))))) fun w₀ hM => ?_
 have htab := tabs_hi hM
 refine GS ?_
 refine TN 0 ?_
 refine RN ?_
 refine ZB 1000005 rfl fun b5 ⟨hBb5, hb5⟩ => ?_
 refine TN 1 ?_
 refine RN ?_
 refine ZB 1000007 rfl fun b7 ⟨hBb7, hb7⟩ => ?_
 refine TN 2 ?_
 refine RN ?_
 refine ZB 1000008 rfl fun b8 ⟨hBb8, hb8⟩ => ?_
 refine TN 3 ?_
 refine RN ?_
 refine ZB 1000009 rfl fun b9 ⟨hBb9, hb9⟩ => ?_
 refine TN 4 ?_
 refine RN ?_
 refine ZN 1000010 zero54 fun b10 ⟨hBb10, hb10⟩ => ?_
 have hlt_b8_b10 := hb10 1000008 b8 _ _ rfl
 refine TL ?_
 refine RVN 1 rfl ?_
 refine GS ?_
 refine TN 0 ?_
 refine RN ?_
 refine ZN 1000012 zero54 fun b12 ⟨hBb12, hb12⟩ => ?_
 have hlt_b8_b12 := hb12 1000008 b8 _ _ rfl
 have hlt_b10_b12 := hb12 1000010 b10 _ _ rfl
 refine TL ?_
 refine RN ?_
 refine GS ?_
 refine TF 7 ?_
 refine RS (ok_loadA (s := 1000005) (by decide) Tryz.underlying58 rfl (size58.of (KM_len f hmk)) rfl rfl) ?_
 refine RM rfl ?_
 refine RL 1000007 Tryz.underlying41 rfl rfl (size41.of rfl) ?_
 refine RS (ok_loadA (s := 1000008) (by decide) Tryz.underlying54 rfl (size54.of (by rw [List.length_map, hd])) rfl rfl) ?_
 refine RS (ok_loadA (s := 1000009) (by decide) Tryz.underlying31 rfl (size31.of (by rw [List.length_map, htg])) rfl rfl) ?_
 refine RS (ok_callM (checkTag_ok f mk hf hmk i s c hs hc d hd hi tg htg h) (Sub.cons rfl (Sub.cons rfl KN)) tabs_v (Args.cons rfl (Le.refl _) (Args.cons rfl (Le.refl _) (A3 rfl rfl rfl)))) ?_
 refine RS (ok_makeFuncN [ptr b5, ptr b7, ptr b8, ptr b12] ⟨rfl, rfl, rfl, rfl, trivial⟩) ?_
 refine RN ?_
 refine ⟨_, eff_callL1 (n := 24) (vs := [.int .i64 0, .func (.func 71) #[] #[ptr b5, ptr b7, ptr b8, ptr b12]]) (us := []) (behind_fnL (fun _ _ _ _ _ => trivial) (fun p hp => by simp only [List.mem_cons, List.not_mem_nil, or_false] at hp; rcases hp with rfl <;> assumption) (Open1_fnL w₀.heap.size b5 b7 b8 b12 f mk hf hmk s c hs hc d hd hBb12 (by omega))) rfl (A2 rfl rfl) (subL_M (SV [1000005, 1000007, 1000008, 1000012] rfl) (vbL_cons (vL rfl) (vbL_cons (vL rfl) (vbL_cons (vL rfl) (vbL_cons (vL rfl) vbL_nil))))) (vbL_cons (vL rfl) vbL_nil) (gsL_cons (k := 1000012) hBb12 rfl gsL_nil) (by decide) (by decide) (LeftL.one (LT 1000005 rfl (LT 1000007 rfl (LB 1000008 rfl (LT 1000009 rfl (LB 1000010 rfl (LeftS.cons (t := 1900000) rfl (Surv.tab (by omega)) (LeftS.cons (t := 1900001) rfl (Surv.tab (by omega)) (LW [10, 12] rfl))))))))), ?_⟩
 refine TL ?_
 refine RVN 1 rfl ?_
 refine GS ?_
 refine TF 2 ?_
 refine RS (ok_loadA (s := 1000012) (by decide) Tryz.underlying54 rfl (size54.of (by rw [List.length_map, xorK_length, hd])) rfl rfl) ?_
 refine RVN 1 rfl ?_
 refine ⟨_, eff_storeA (n := 24) (s := 1000010) (size54.of (by rw [List.length_map, xorK_length, hd])) rfl rfl (all_bytes _) hBb10 rfl (by simp [xorK_length, hd]) (LT 1000005 rfl (LT 1000007 rfl (LB 1000008 rfl (LT 1000009 rfl (LB 1000012 rfl (LeftS.cons (t := 1900000) rfl (Surv.tab (by omega)) (LeftS.cons (t := 1900001) rfl (Surv.tab (by omega)) (LW [10, 23] rfl)))))))), ?_⟩
 refine TL ?_
 refine RVN 1 rfl ?_
 refine A.ret ?_
 exact End.cellV (s := 1000010) rfl Tryz.underlying54 rfl (size54.of (by rw [List.length_map, xorK_length, hd])) rfl rfl rfl
end Go.Proofs.YtffiflfjlemggaaGreatDoor
namespace Go.Proofs.YtffiflfjlemggaaGreatDoor
open Go Go.RowKit
set_option linter.unusedVariables false
set_option maxRecDepth 20000

theorem checkShard_ok (cs : List Nat) (m l r : Nat) (sh : Int) (h : 0 ≤ sh) (h2 : sh < (cs.length : Int)) (hV : Valid cs m l r) : Fn Tryz.prog 85 [hdD (vlst (rowQ cs)) (alR m l r), .v (.int .i64 sh)] (.v (.int .i64 0)) := by
 refine Fn.of Tryz.func85 rfl (by kernel_rfl) Tryz.ntmps85 (by simp) (fun w => [(0, old w.heap.size (hdD (vlst (rowQ cs)) (alR m l r))), (1, .v (.int .i64 sh))]) (fun w => (Start.old rfl (Start.v rfl Start.nil))) fun w₀ => ?_
 refine A.nameHd (t := 0) (k := 1000200) rfl fun v hv => ?_
 refine GS ?_
 refine TN 0 ?_
 refine RN ?_
 refine ZB 1000002 rfl fun b2 ⟨hBb2, hb2⟩ => ?_
 refine TL ?_
 refine RVN 1 rfl ?_
 refine QS ?_
 refine GT ?_
 refine RV 2 rfl ?_
 refine RZ (.bool false) (by simp; omega) ?_
 refine RV 2 rfl ?_
 refine RQ (ok_field field83_0 (by decide) rfl) ?_
 refine RQ (OpOk.valO (ok_loadV (s := 1000002) (by decide) Tryz.underlying81 rfl rfl rfl (rfl)) (k := 1000200) (by decide) rfl) ?_
 refine RQ (ok_lenU cs.length Tryz.underlying81 rfl LA (rowQ_length cs)) ?_
 refine RQ (ok_bin rfl rfl rfl) ?_
 refine RZ (.bool false) (by simp; omega) ?_
 refine RVN 1 rfl ?_
 refine A.no rfl ?_
 refine QK ?_
 refine GT ?_
 refine RS (OpOk.hdO (ok_loadA (s := 1000002) (by decide) Tryz.underlying83 rfl (size83.of (rfl)) rfl rfl) hv (k := 1000200) (by decide) rfl) ?_
 refine RS (ok_call (Check_ok cs m l r hV) (Args.cons rfl (Le.old _ _) Args.nil)) ?_
 refine RVN 1 rfl ?_
 refine A.ret ?_
 exact ER rfl rfl
theorem nonceOf_fn (s c : Nat) (hs : s < 4294967296) : Fn Tryz.prog 86 [.v (nI s), .v (nQ c)] (.v (aggV ([nW s, nQ c]))) := by
 refine FV Tryz.func86 rfl Tryz.ntmps86 rfl fun w₀ => ?_
 refine GS ?_
 refine TN 0 ?_
 refine RN ?_
 refine ZN 1000004 zero41 fun b4 ⟨hBb4, hb4⟩ => ?_
 refine TL ?_
 refine RN ?_
 refine GS ?_
 refine TF 4 ?_
 refine RM rfl ?_
 refine RS (ok_conv Tryz.underlying3 Tryz.underlying38 rfl) ?_; refine RZ (nW s) (by rw [wrapN_u32 hs]) ?_
 refine RM rfl ?_
 refine RS (ok_litS [(0, nW s), (1, nQ c)] [nW s, nQ c] ⟨rfl, rfl, rfl, rfl, trivial⟩ (buildN s c)) ?_
 refine RN ?_
 refine ZA 1000004 (size41.of rfl) hBb4 rfl rfl rfl (LV 4 rfl LN) ?_
 refine TL ?_
 refine RN ?_
 refine A.ret ?_
 exact End.cell1 (s := 1000004) rfl Tryz.underlying41 rfl (size41.of (rfl)) rfl rfl (Le.refl _)
theorem copied_fnB (cs : List Nat) (m l r : Nat) (hb : cs.length ≤ 8) : FnB Tryz.prog 84 [hdD (vlst (rowQ cs)) (alR m l r)] (fun B => newD B 39 (fun b => aggV (.slice (some ⟨b, 0, none⟩) (cs.length) (cs.length) :: alR m l r)) (rowQ cs)) := by
 refine FnB.of Tryz.func84 rfl (by kernel_rfl) Tryz.ntmps84 (by simp) (fun w => [(0, old w.heap.size (hdD (vlst (rowQ cs)) (alR m l r)))]) (fun w => (Start.old rfl Start.nil)) fun w₀ => ?_
 refine A.nameHd (t := 0) (k := 1000200) rfl fun v hv => ?_
 refine GS ?_
 refine TN 0 ?_
 refine RN ?_
 refine ZB 1000001 rfl fun b1 ⟨hBb1, hb1⟩ => ?_
 refine TN 1 ?_
 refine RN ?_
 refine ZN 1000002 zero83 fun b2 ⟨hBb2, hb2⟩ => ?_
 have hlt_b1_b2 := hb2 1000001 b1 _ _ rfl
 refine TL ?_
 refine RN ?_
 refine GS ?_
 refine TN 3 ?_
 refine RS (ok_field field83_0 (by decide) rfl) ?_
 refine RS (OpOk.valO (ok_loadV (s := 1000001) (by decide) Tryz.underlying81 rfl rfl rfl (rfl)) (k := 1000200) (by decide) rfl) ?_
 refine RS (ok_lenU cs.length Tryz.underlying81 rfl LA (rowQ_length cs)) ?_
 refine RN ?_
 refine ⟨_, _, eff_nameF (c := cs.length) (by simp) (n := 15) (d := 7) (k := 1000007) rfl rfl (fun B' => ok_make cs.length Tryz.underlying81 info39 (by decide) rfl rfl rfl rfl rfl (by omega)) (by decide) (by decide), fun b7 hb7 => ?_⟩
 have hBb7 := hb7.1
 have hlt_b1_b7 : b1 < b7 := hb7.2 1000001 _ _ _ rfl
 have hlt_b2_b7 : b2 < b7 := hb7.2 1000002 _ _ _ rfl
 refine TL ?_
 refine RVN 1 rfl ?_
 refine GS ?_
 refine TF 3 ?_
 refine RM rfl ?_
 refine RS (ok_field field83_0 (by decide) rfl) ?_
 refine RS (OpOk.valO (ok_loadV (s := 1000001) (by decide) Tryz.underlying81 rfl rfl rfl (rfl)) (k := 1000200) (by decide) rfl) ?_
 refine RN ?_
 refine ⟨_, eff_copyV (n := 15) (s := 1000007) (us := rowQ cs) Tryz.underlying81 info39 rfl rfl LA (rowQ_one cs) (rowQ_length cs) hBb7 rfl (by simp) (by decide) (LT 1000001 rfl (LT 1000002 rfl (LO 1000200 rfl (LW [1, 2, 3] rfl)))), ?_⟩
 refine TL ?_
 refine RN ?_
 refine GS ?_
 refine TF 2 ?_
 refine RM rfl ?_
 refine RS (ok_field field83_0 (by decide) rfl) ?_
 refine RN ?_
 refine ⟨_, eff_storeS (n := 15) (s := 1000001) info81 rfl rfl rfl hBb1 rfl (by simp) (LB 1000002 rfl (LT 1000007 rfl (LO 1000200 rfl (LW [1, 2] rfl)))), ?_⟩
 refine TL ?_
 refine RN ?_
 refine GS ?_
 refine TF 1 ?_
 refine RL 1000001 Tryz.underlying83 rfl rfl (size83.of rfl) ?_
 refine RN ?_
 refine ZA 1000002 (size83.of rfl) hBb2 rfl rfl rfl (LV 2 rfl (LB 1000001 rfl (LT 1000007 rfl (LO 1000200 rfl LN)))) ?_
 refine TL ?_
 refine RN ?_
 refine A.ret ?_
 exact End.new1 (s := 1000002) (kg := 1000007) rfl Tryz.underlying83 rfl (size83.of rfl) rfl rfl rfl hBb7 rfl rfl
theorem New_C (n l r : Nat) (h1 : 1 ≤ n) (h2 : n ≤ 8) (hV : Valid (List.replicate n 0) 0 l r) : FnB Tryz.prog 35 [.v (nI n), .v (nQ l), .v (nQ r)] (fun B => newD B 39 (fun b => .tuple #[aggV (.slice (some ⟨b, 0, none⟩) (n) (n) :: alR 0 l r), .int .i64 0]) (rowQ (List.replicate n 0))) := by
 refine FnB.of Tryz.func35 rfl (by kernel_rfl) Tryz.ntmps35 (by simp) (fun w => [(0, .v (nI n)), (1, .v (nQ l)), (2, .v (nQ r))]) (fun w => (Start.v rfl (Start.v rfl (Start.v rfl Start.nil)))) fun w₀ => ?_
 refine GS ?_
 refine TN 0 ?_
 refine RN ?_
 refine ZN 1000006 zero83 fun b6 ⟨hBb6, hb6⟩ => ?_
 refine TL ?_
 refine RVN 1 rfl ?_
 refine QS ?_
 refine GT ?_
 refine RM rfl ?_
 refine RS (ok_call (allowed_yes (n : Int) (by omega) (by omega)) (A1 rfl)) ?_
 refine RS (ok_not rfl) ?_; refine RZ (.bool false) (by rfl) ?_
 refine RN ?_
 refine A.no rfl ?_
 refine QK ?_
 refine GS ?_
 refine TN 1 ?_
 refine RVN 1 rfl ?_
 refine ⟨_, _, eff_nameF (c := n) (by simp) (n := 26) (d := 15) (k := 1000015) rfl rfl (fun B' => ok_make n Tryz.underlying81 info39 (by decide) rfl rfl rfl rfl rfl (by omega)) (by decide) (by decide), fun b15 hb15 => ?_⟩
 have hBb15 := hb15.1
 have hlt_b6_b15 : b6 < b15 := hb15.2 1000006 _ _ _ rfl
 refine TN 5 ?_
 refine RV 2 rfl ?_
 refine RS (ok_litS [(0, .slice (some ⟨b15, 0, none⟩) (n) (n)), (2, qV l), (3, qV r)] (.slice (some ⟨b15, 0, none⟩) (n) (n) :: alR 0 l r) ⟨rfl, rfl, rfl, rfl, rfl, rfl, trivial⟩ (buildA023 _ _ _ _ _)) ?_
 refine RN ?_
 refine ZN 1000008 zero83 fun b8 ⟨hBb8, hb8⟩ => ?_
 have hlt_b6_b8 := hb8 1000006 b6 _ _ rfl
 refine TF 6 ?_
 refine RN ?_
 refine ZA 1000008 (size83.of rfl) hBb8 rfl rfl rfl (LB 1000006 rfl (LT 1000015 rfl (LW [6, 8] rfl))) ?_
 refine TL ?_
 refine RN ?_
 refine QS ?_
 refine GT ?_
 refine RS (OpOk.fact (ok_loadA (s := 1000008) (by decide) Tryz.underlying83 rfl (size83.of (rfl)) rfl rfl) (d := hdD (vlst (rowQ (List.replicate n 0))) (alR 0 l r)) (s := 1000015) (by decide) rfl (hd_ofL (rowQ (List.replicate n 0)) (alR 0 l r) (by simp [rowQ]) (Nat.le_refl _) (by simp only [maxLen]; omega) (by simp [rowQ]))) ?_
 refine RS (ok_call (Check_ok (List.replicate n 0) 0 l r hV) (A1 rfl)) ?_
 refine RVN 1 rfl ?_
 refine GT ?_
 refine RV 2 rfl ?_
 refine RZ (.bool false) (by rfl) ?_
 refine RN ?_
 refine A.no rfl ?_
 refine QK ?_
 refine GS ?_
 refine TF 1 ?_
 refine RL 1000008 Tryz.underlying83 rfl rfl (size83.of rfl) ?_
 refine RN ?_
 refine ZA 1000006 (size83.of rfl) hBb6 rfl rfl rfl (LV 6 rfl (LB 1000008 rfl (LT 1000015 rfl LN))) ?_
 refine TL ?_
 refine RVN 1 rfl ?_
 refine A.ret ?_
 exact End.newT (s := 1000006) (kg := 1000015) rfl Tryz.underlying83 rfl (size83.of rfl) rfl rfl rfl rfl hBb15 rfl (rowQ_rep n 0)
theorem Take_ok (cs : List Nat) (m l r : Nat) (s : Nat) (h : s < cs.length) (hV : Valid cs m l r) (hc : cs.getD s 0 < m) (hm : m < 18446744073709551616) : FnB Tryz.prog 37 [hdD (vlst (rowQ cs)) (alR m l r), .v (nI s)] (fun B => newD B 39 (fun b => .tuple #[aggV [nW s, nQ (cs.getD s 0)], aggV (.slice (some ⟨b, 0, none⟩) (cs.length) (cs.length) :: alR m l r), .int .i64 0]) (rowQ (cs.set s (cs.getD s 0 + 1)))) := by
 have hle8 := hV.2.1
 have hgm : cs.getD s 0 ≤ m := getD_le hV.2.2.1
 refine FnB.of Tryz.func37 rfl (by kernel_rfl) Tryz.ntmps37 (by simp) (fun w => [(0, old w.heap.size (hdD (vlst (rowQ cs)) (alR m l r))), (1, .v (nI s))]) (fun w => (Start.old rfl (Start.v rfl Start.nil))) fun w₀ => ?_
 refine A.nameHd (t := 0) (k := 1000200) rfl fun v hv => ?_
 refine GS ?_
 refine TN 0 ?_
 refine RN ?_
 refine ZB 1000002 rfl fun b2 ⟨hBb2, hb2⟩ => ?_
 refine TN 1 ?_
 refine RN ?_
 refine ZN 1000004 zero41 fun b4 ⟨hBb4, hb4⟩ => ?_
 refine TN 2 ?_
 refine RN ?_
 refine ZN 1000005 zero83 fun b5 ⟨hBb5, hb5⟩ => ?_
 have hlt_b2_b5 := hb5 1000002 b2 _ _ rfl
 refine TL ?_
 refine RVN 1 rfl ?_
 refine QS ?_
 refine GT ?_
 refine RS (OpOk.hdO (ok_loadA (s := 1000002) (by decide) Tryz.underlying83 rfl (size83.of (rfl)) rfl rfl) hv (k := 1000200) (by decide) rfl) ?_
 refine RM rfl ?_
 refine RS (ok_call (checkShard_ok cs m l r (s : Int) (by omega) (by omega) hV) (Args.cons rfl (Le.old _ _) (A1 rfl))) ?_
 refine RVN 1 rfl ?_
 refine GT ?_
 refine RV 2 rfl ?_
 refine RZ (.bool false) (by rfl) ?_
 refine RN ?_
 refine A.no rfl ?_
 refine QK ?_
 refine GS ?_
 refine TN 7 ?_
 refine RM rfl ?_
 refine RS (ok_field field83_0 (by decide) rfl) ?_
 refine RS (OpOk.valO (ok_loadV (s := 1000002) (by decide) Tryz.underlying81 rfl rfl rfl (rfl)) (k := 1000200) (by decide) rfl) ?_
 refine RM rfl ?_
 refine RS (ok_indexU s Tryz.underlying81 info39 rfl LA rfl (rowQ_get h)) ?_
 refine RS (ok_load Tryz.underlying39 rfl rfl) ?_
 refine RS (ok_call (nonceOf_fn s (cs.getD s 0) (by omega)) (A2 rfl rfl)) ?_
 refine RN ?_
 refine ZN 1000008 zero41 fun b8 ⟨hBb8, hb8⟩ => ?_
 have hlt_b4_b8 := hb8 1000004 b4 _ _ rfl
 refine TF 8 ?_
 refine RN ?_
 refine ZA 1000008 (size41.of rfl) hBb8 rfl rfl rfl (LT 1000002 rfl (LB 1000004 rfl (LT 1000005 rfl (LO 1000200 rfl (LW [1, 2, 4, 5, 8] rfl))))) ?_
 refine TL ?_
 refine RN ?_
 refine QS ?_
 refine GTD ?_
 refine RL 1000008 Tryz.underlying41 rfl rfl (size41.of rfl) ?_
 refine RM rfl ?_
 refine RS (ok_field field83_1 (by decide) rfl) ?_
 refine RLV 1000002 Tryz.underlying39 rfl rfl rfl ?_
 refine RS (ok_call (nonceOf_fn s m (by omega)) (A2 rfl rfl)) ?_
 refine RS (ok_eqlT (n := 3) false flatN (by decide) (by kernel_rfl) (by kernel_rfl) rfl rfl (kinN _ _) (kinN _ _) (neN (by omega))) ?_
 refine RN ?_
 refine A.sub (SV [1, 2, 4, 5, 8, 30, 1000002, 1000004, 1000005, 1000008, 1000200] rfl) ?_
 refine A.no rfl ?_
 refine QK ?_
 refine GS ?_
 refine TN 1 ?_
 refine RS (OpOk.hdO (ok_loadA (s := 1000002) (by decide) Tryz.underlying83 rfl (size83.of (rfl)) rfl rfl) hv (k := 1000200) (by decide) rfl) ?_
 refine RN ?_
 refine ZM 1000034 (fun B' => ok_callB (copied_fnB cs m l r (by omega)) newD_mono (Args.cons rfl (Le.old _ _) Args.nil)) rfl fun b34 ⟨hBb34, hb34⟩ => ?_
 have hlt_b2_b34 := hb34 1000002 b2 _ _ rfl
 have hlt_b4_b34 := hb34 1000004 b4 _ _ rfl
 have hlt_b5_b34 := hb34 1000005 b5 _ _ rfl
 have hlt_b8_b34 := hb34 1000008 b8 _ _ rfl
 refine TN 2 ?_
 refine RN ?_
 refine ZN 1000009 zero83 fun b9 ⟨hBb9, hb9⟩ => ?_
 have hlt_b2_b9 := hb9 1000002 b2 _ _ rfl
 have hlt_b5_b9 := hb9 1000005 b5 _ _ rfl
 refine TF 3 ?_
 refine RN ?_
 refine ZA 1000009 (size83.of rfl) hBb9 rfl rfl rfl (LB 1000002 rfl (LT 1000004 rfl (LB 1000005 rfl (LT 1000008 rfl (LT 1000034 rfl (LO 1000200 rfl (LW [1, 4, 5, 8, 9] rfl))))))) ?_
 refine TL ?_
 refine RN ?_
 refine GS ?_
 refine TF 7 ?_
 refine RS (ok_field field83_0 (by decide) rfl) ?_
 refine RLV 1000009 Tryz.underlying81 rfl rfl rfl ?_
 refine RM rfl ?_
 refine RS (ok_indexV s Tryz.underlying81 info39 rfl rfl rfl (by omega)) ?_
 refine RS (ok_loadV (s := 1000034) (by decide) Tryz.underlying39 rfl rfl rfl (by rw [Nat.zero_add]; exact rowQ_get h)) ?_
 refine RB rfl rfl rfl ?_
 refine RZ (nQ (cs.getD s 0 + 1)) (by rw [wrap_u64 (by omega) (by omega)]; rfl) ?_
 refine RS (ok_indexV s Tryz.underlying81 info39 rfl rfl rfl (by omega)) ?_
 refine RN ?_
 refine ⟨_, eff_storeS (n := 44) (s := 1000034) info39 rfl rfl rfl hBb34 rfl (by rw [rowQ_length]; omega) (LT 1000002 rfl (LT 1000004 rfl (LT 1000005 rfl (LT 1000008 rfl (LT 1000009 rfl (LO 1000200 rfl (LW [4, 5, 8, 9] rfl))))))), ?_⟩
 refine TL ?_
 refine RN ?_
 refine A.sub (KC 4 rfl (KC 5 rfl (KC 8 rfl (KC 9 rfl (KC 1000002 rfl (KC 1000004 rfl (KC 1000005 rfl (KC 1000008 rfl (KC 1000009 rfl (KE 1000034 rfl (show _ = blk b34 39 (rowQ (cs.set s (cs.getD s 0 + 1))) from congrArg _ (by rw [Nat.zero_add, rowQ_set])) (KC 1000200 rfl KN))))))))))) ?_
 refine A.regsE (by kernel_rfl) ?_
 refine AnyT.step 0 [1] (by kernel_rfl) ?_
 refine NextT.pure (by kernel_rfl) rfl rfl rfl (ok_loadA (s := 1000008) (by decide) Tryz.underlying41 rfl (size41.of (rfl)) rfl rfl) ?_ ?_
 ·refine AnyT.step 1 [2] (by kernel_rfl) ?_
  refine NextT.pure (by kernel_rfl) rfl rfl rfl (ok_loadA (s := 1000009) (by decide) Tryz.underlying83 rfl (size83.of (rfl)) rfl rfl) ?_ ?_
  ·refine AnyT.step 2 [] (by kernel_rfl) ?_
   refine NextT.eff rfl (eff_storeA (n := 44) (s := 1000004) (size41.of (rfl)) rfl rfl (rfl) hBb4 rfl (rfl) (LV 4 rfl (LV 5 rfl (LV 8 rfl (LV 9 rfl (LV 42 rfl (LV 43 rfl (LT 1000002 rfl (LT 1000005 rfl (LB 1000008 rfl (LT 1000009 rfl (LT 1000034 rfl (LO 1000200 rfl LN))))))))))))) ?_ ?_
   ·refine AnyT.step 3 [] (by kernel_rfl) ?_
    refine NextT.eff rfl (eff_storeA (n := 44) (s := 1000005) (size83.of (rfl)) rfl rfl (rfl) hBb5 rfl (rfl) (LV 4 rfl (LV 5 rfl (LV 8 rfl (LV 9 rfl (LV 42 rfl (LV 43 rfl (LB 1000002 rfl (LT 1000004 rfl (LT 1000008 rfl (LB 1000009 rfl (LT 1000034 rfl (LO 1000200 rfl LN))))))))))))) ?_ ?_
    ·refine AnyT.step 4 [] (by kernel_rfl) ?_
     refine NextT.pure (by kernel_rfl) rfl rfl rfl (ok_assign rfl) ?_ ?_
     ·refine AnyT.last (by kernel_rfl) ?_
      refine A.sub (SV [4, 5, 6, 1000002, 1000004, 1000005, 1000008, 1000009, 1000034, 1000200] rfl) ?_
      refine A.ret ?_
      exact End.new3 (s := 1000004) (s₂ := 1000005) (kg := 1000034) rfl Tryz.underlying41 rfl (size41.of rfl) Tryz.underlying83 rfl (size83.of rfl) rfl rfl rfl rfl rfl rfl hBb34 rfl rfl
     exact trivial
    exact trivial
   exact trivial
  refine NextT.eff rfl (eff_storeA (n := 44) (s := 1000004) (size41.of (rfl)) rfl rfl (rfl) hBb4 rfl (rfl) (LV 4 rfl (LV 5 rfl (LV 8 rfl (LV 9 rfl (LV 42 rfl (LT 1000002 rfl (LT 1000005 rfl (LB 1000008 rfl (LT 1000009 rfl (LT 1000034 rfl (LO 1000200 rfl LN)))))))))))) ?_ ?_
  ·refine AnyT.step 1 [] (by kernel_rfl) ?_
   refine NextT.pure (by kernel_rfl) rfl rfl rfl (ok_loadA (s := 1000009) (by decide) Tryz.underlying83 rfl (size83.of (rfl)) rfl rfl) ?_ ?_
   ·refine AnyT.step 3 [] (by kernel_rfl) ?_
    refine NextT.eff rfl (eff_storeA (n := 44) (s := 1000005) (size83.of (rfl)) rfl rfl (rfl) hBb5 rfl (rfl) (LV 4 rfl (LV 5 rfl (LV 8 rfl (LV 9 rfl (LV 42 rfl (LV 43 rfl (LB 1000002 rfl (LT 1000004 rfl (LT 1000008 rfl (LB 1000009 rfl (LT 1000034 rfl (LO 1000200 rfl LN))))))))))))) ?_ ?_
    ·refine AnyT.step 4 [] (by kernel_rfl) ?_
     refine NextT.pure (by kernel_rfl) rfl rfl rfl (ok_assign rfl) ?_ ?_
     ·refine AnyT.last (by kernel_rfl) ?_
      refine A.sub (SV [4, 5, 6, 1000002, 1000004, 1000005, 1000008, 1000009, 1000034, 1000200] rfl) ?_
      refine A.ret ?_
      exact End.new3 (s := 1000004) (s₂ := 1000005) (kg := 1000034) rfl Tryz.underlying41 rfl (size41.of rfl) Tryz.underlying83 rfl (size83.of rfl) rfl rfl rfl rfl rfl rfl hBb34 rfl rfl
     exact trivial
    exact trivial
   exact trivial
  exact trivial
 refine NextT.pure (by kernel_rfl) rfl rfl rfl (ok_loadA (s := 1000009) (by decide) Tryz.underlying83 rfl (size83.of (rfl)) rfl rfl) ?_ ?_
 ·refine AnyT.step 0 [] (by kernel_rfl) ?_
  refine NextT.pure (by kernel_rfl) rfl rfl rfl (ok_loadA (s := 1000008) (by decide) Tryz.underlying41 rfl (size41.of (rfl)) rfl rfl) ?_ ?_
  ·refine AnyT.step 2 [] (by kernel_rfl) ?_
   refine NextT.eff rfl (eff_storeA (n := 44) (s := 1000004) (size41.of (rfl)) rfl rfl (rfl) hBb4 rfl (rfl) (LV 4 rfl (LV 5 rfl (LV 8 rfl (LV 9 rfl (LV 42 rfl (LV 43 rfl (LT 1000002 rfl (LT 1000005 rfl (LB 1000008 rfl (LT 1000009 rfl (LT 1000034 rfl (LO 1000200 rfl LN))))))))))))) ?_ ?_
   ·refine AnyT.step 3 [] (by kernel_rfl) ?_
    refine NextT.eff rfl (eff_storeA (n := 44) (s := 1000005) (size83.of (rfl)) rfl rfl (rfl) hBb5 rfl (rfl) (LV 4 rfl (LV 5 rfl (LV 8 rfl (LV 9 rfl (LV 42 rfl (LV 43 rfl (LB 1000002 rfl (LT 1000004 rfl (LT 1000008 rfl (LB 1000009 rfl (LT 1000034 rfl (LO 1000200 rfl LN))))))))))))) ?_ ?_
    ·refine AnyT.step 4 [] (by kernel_rfl) ?_
     refine NextT.pure (by kernel_rfl) rfl rfl rfl (ok_assign rfl) ?_ ?_
     ·refine AnyT.last (by kernel_rfl) ?_
      refine A.sub (SV [4, 5, 6, 1000002, 1000004, 1000005, 1000008, 1000009, 1000034, 1000200] rfl) ?_
      refine A.ret ?_
      exact End.new3 (s := 1000004) (s₂ := 1000005) (kg := 1000034) rfl Tryz.underlying41 rfl (size41.of rfl) Tryz.underlying83 rfl (size83.of rfl) rfl rfl rfl rfl rfl rfl hBb34 rfl rfl
     exact trivial
    exact trivial
   exact trivial
  exact trivial
 exact trivial
theorem Extend_ok (cs : List Nat) (m l r : Nat) (hV : Valid cs m l r) (hl : l < 18446744073709551616) (h : r ≤ l - m) : FnB Tryz.prog 36 [hdD (vlst (rowQ cs)) (alR m l r)] (fun B => newD B 39 (fun b => .tuple #[aggV (.slice (some ⟨b, 0, none⟩) (cs.length) (cs.length) :: alR (m + r) l r), .int .i64 0]) (rowQ cs)) := by
 have hml := hV.2.2.2.1
 refine FnB.of Tryz.func36 rfl (by kernel_rfl) Tryz.ntmps36 (by simp) (fun w => [(0, old w.heap.size (hdD (vlst (rowQ cs)) (alR m l r)))]) (fun w => (Start.old rfl Start.nil)) fun w₀ => ?_
 refine A.nameHd (t := 0) (k := 1000200) rfl fun v hv => ?_
 refine GS ?_
 refine TN 0 ?_
 refine RN ?_
 refine ZB 1000001 rfl fun b1 ⟨hBb1, hb1⟩ => ?_
 refine TN 1 ?_
 refine RN ?_
 refine ZN 1000002 zero83 fun b2 ⟨hBb2, hb2⟩ => ?_
 have hlt_b1_b2 := hb2 1000001 b1 _ _ rfl
 refine TL ?_
 refine RVN 1 rfl ?_
 refine QS ?_
 refine GT ?_
 refine RS (OpOk.hdO (ok_loadA (s := 1000001) (by decide) Tryz.underlying83 rfl (size83.of (rfl)) rfl rfl) hv (k := 1000200) (by decide) rfl) ?_
 refine RS (ok_call (Check_ok cs m l r hV) (Args.cons rfl (Le.old _ _) Args.nil)) ?_
 refine RVN 1 rfl ?_
 refine GT ?_
 refine RV 2 rfl ?_
 refine RZ (.bool false) (by rfl) ?_
 refine RN ?_
 refine A.no rfl ?_
 refine QK ?_
 refine QS ?_
 refine GT ?_
 refine RS (ok_field field83_3 (by decide) rfl) ?_
 refine RLV 1000001 Tryz.underlying39 rfl rfl rfl ?_
 refine RS (ok_field field83_2 (by decide) rfl) ?_
 refine RLV 1000001 Tryz.underlying39 rfl rfl rfl ?_
 refine RS (ok_field field83_1 (by decide) rfl) ?_
 refine RLV 1000001 Tryz.underlying39 rfl rfl rfl ?_
 refine RB rfl rfl rfl ?_
 refine RZ (nQ (l - m)) (by rw [wrap_u64 (by omega) (by omega)]; exact congrArg (Value.int .u64) (by omega)) ?_
 refine RB rfl rfl rfl ?_
 refine RZ (.bool false) (by simp; omega) ?_
 refine RN ?_
 refine A.no rfl ?_
 refine QK ?_
 refine GS ?_
 refine TN 1 ?_
 refine RS (OpOk.hdO (ok_loadA (s := 1000001) (by decide) Tryz.underlying83 rfl (size83.of (rfl)) rfl rfl) hv (k := 1000200) (by decide) rfl) ?_
 refine RN ?_
 refine ZM 1000022 (fun B' => ok_callB (copied_fnB cs m l r hV.2.1) newD_mono (Args.cons rfl (Le.old _ _) Args.nil)) rfl fun b22 ⟨hBb22, hb22⟩ => ?_
 have hlt_b1_b22 := hb22 1000001 b1 _ _ rfl
 have hlt_b2_b22 := hb22 1000002 b2 _ _ rfl
 refine TN 2 ?_
 refine RN ?_
 refine ZN 1000005 zero83 fun b5 ⟨hBb5, hb5⟩ => ?_
 have hlt_b1_b5 := hb5 1000001 b1 _ _ rfl
 have hlt_b2_b5 := hb5 1000002 b2 _ _ rfl
 refine TF 3 ?_
 refine RN ?_
 refine ZA 1000005 (size83.of rfl) hBb5 rfl rfl rfl (LB 1000001 rfl (LB 1000002 rfl (LT 1000022 rfl (LO 1000200 rfl (LW [1, 2, 5] rfl))))) ?_
 refine TL ?_
 refine RN ?_
 refine GS ?_
 refine TF 6 ?_
 refine RS (ok_field field83_1 (by decide) rfl) ?_
 refine RLV 1000005 Tryz.underlying39 rfl rfl rfl ?_
 refine RS (ok_field field83_3 (by decide) rfl) ?_
 refine RLV 1000001 Tryz.underlying39 rfl rfl rfl ?_
 refine RB rfl rfl rfl ?_
 refine RZ (nQ (m + r)) (by rw [wrap_u64 (by omega) (by omega)]; rfl) ?_
 refine RS (ok_field field83_1 (by decide) rfl) ?_
 refine RN ?_
 refine ⟨_, eff_storeS (n := 30) (s := 1000005) info39 rfl rfl rfl hBb5 rfl (by simp [alR]) (LB 1000001 rfl (LB 1000002 rfl (LT 1000022 rfl (LO 1000200 rfl (LW [2, 5] rfl))))), ?_⟩
 refine TL ?_
 refine RN ?_
 refine A.sub (SV [2, 5, 1000001, 1000002, 1000005, 1000022, 1000200] rfl) ?_
 refine GS ?_
 refine TF 1 ?_
 refine RL 1000005 Tryz.underlying83 rfl rfl (size83.of rfl) ?_
 refine RN ?_
 refine ZA 1000002 (size83.of rfl) hBb2 rfl rfl rfl (LV 2 rfl (LB 1000001 rfl (LB 1000005 rfl (LT 1000022 rfl (LO 1000200 rfl LN))))) ?_
 refine TL ?_
 refine RVN 1 rfl ?_
 refine A.ret ?_
 exact End.newT (s := 1000002) (kg := 1000022) rfl Tryz.underlying83 rfl (size83.of rfl) rfl rfl rfl rfl hBb22 rfl rfl
end Go.Proofs.YtffiflfjlemggaaGreatDoor
namespace Go.Proofs.YtffiflfjlemggaaGreatDoor
open Go Go.RowKit
variable {κ : Cx}
/-- Where the rest of a slice of room c lies, k elements behind its head. -/
def cutA (c k : Nat) (A : Option Addr) : Option Addr := if c = k then A else A.map (·.add k)
section
variable {P : Program} {B : Nat} {E : Env} {dst : Option Tmp} {ty : TypeId} {pos : String} {after : Array Edge} {guard : Option (Nat × Bool)}
/-- x[:h] of a slice whose value is known. -/
theorem ok_sliceHi {t e : TypeId} {z : Value} {nb : Nat} {x o : Operand} {A : Option Addr} {len c : Nat} {kd : IntKind} (h : Nat) (ht : P.underlying t = some (.slice e)) (hs : InfoIs P e z nb) (hx : E.at x = some (.v (.slice A len c))) (ho : E.at o = some (.v (.int kd (h : Int)))) (hh : h ≤ c) (h0 : 0 < c) :
    OpOk P B ⟨dst, .slice t x none (some o) none, ty, pos, after, guard⟩ E (.v (.slice A h c)) := fun ρ w _ _ hρ => by
  have h1 : ρ x = _ := hρ x (by simp [Op.operands]) _ hx
  have h2 : ρ o = .int kd (h : Int) := hρ o (by simp [Op.operands]) _ ho
  have hr := run_slice_list (P := P) ht hs w A len c 0 h none (some (.int kd (h : Int))) kd kd (.inr ⟨rfl, rfl⟩) (.inl rfl) (Nat.zero_le _) hh
  have hA : A.map (·.add 0) = A := by cases A <;> simp [Addr.add] 
  rw [if_neg (by omega), hA, Nat.sub_zero, Nat.sub_zero] at hr
  exact out_val (x := .slice A h c) (w' := w) (by simp [execOp, h1, h2, hr]) ⟨Grow.refl w, rfl⟩
/-- x[l:] of a slice whose value is known. -/
theorem ok_sliceLo {t e : TypeId} {z : Value} {nb : Nat} {x o : Operand} {A : Option Addr} {len c : Nat} {kd : IntKind} (l : Nat) (ht : P.underlying t = some (.slice e)) (hs : InfoIs P e z nb) (hx : E.at x = some (.v (.slice A len c))) (ho : E.at o = some (.v (.int kd (l : Int)))) (hl : l ≤ len) (hc : len ≤ c) :
    OpOk P B ⟨dst, .slice t x (some o) none none, ty, pos, after, guard⟩ E (.v (.slice (cutA c l A) (len - l) (c - l))) := fun ρ w _ _ hρ => by
  have h1 : ρ x = _ := hρ x (by simp [Op.operands]) _ hx
  have h2 : ρ o = .int kd (l : Int) := hρ o (by simp [Op.operands]) _ ho
  have hr := run_slice_list (P := P) ht hs w A len c l len (some (.int kd (l : Int))) none kd kd (.inl rfl) (.inr ⟨rfl, rfl⟩) hl hc
  exact out_val (x := .slice (cutA c l A) (len - l) (c - l)) (w' := w) (by simp [execOp, h1, h2, hr, cutA]) ⟨Grow.refl w, rfl⟩
end
section
variable {P : Program} {n B : Nat} {ops : Array Oper} {E : Env} {ty : TypeId} {pos : String} {after : Array Edge}
/-- A call of a method value that writes one block. -/
theorem eff_callBR {f : FuncId} {M : Env} {T g s dst : Nat} {xs ys us : List Value} {ds : List D} {u : Value} {x : Operand} {args : Array Operand} {argTypes : Array TypeId} {E' : Env} (hf : FnWR P f M T g xs ys (us.map D.v ++ ds) u) (hM : ∀ p ∈ M, ∃ k, vbase ≤ k ∧ E.look k = some p.2)
    (hx : E.at x = some (.v (.func (.func f) us.toArray #[]))) (ha : Args E ds args.toList) (hg : B ≤ g) (hblk : E.look s = some (blk g T xs)) (hn : n ≤ vbase) (hdst : dst < n) (hl : LeftS B T g E' E) :
    Eff P n B ops ⟨some dst, .call { callee := .value x, args := args, argTypes := argTypes }, ty, pos, after, none⟩ E ((dst, .v u) :: (s, blk g T ys) :: E') := by
  intro κ a w K Q h hK
  obtain ⟨fn, h1, h2, h3⟩ := hf.body
  have hfun : a.eval x = .func (.func f) us.toArray #[] := h.at_ x _ hx
  have hrun : (execOp a.eval ⟨some dst, .call { callee := .value x, args := args, argTypes := argTypes }, ty, pos, after, none⟩).run P w = .ok (.enter f (us.toArray ++ args.map a.eval)) w := by
    have h2' : ¬ fn.name = "runtime.NumGoroutine" := by simpa using h2
    have h3' : ¬ fn.body = none := by intro h; rw [h] at h3; cases h3
    simp [execOp, resolve, Deferred.ofValue, hfun, invoke, callFunc, h1, h2', h3']
  obtain ⟨hlt, hh⟩ := h.of s _ hblk
  have hcall := hf.calls (us ++ args.toList.map a.eval) w (by simp [ha.length]) (fun j e v he hv => by
    rcases Nat.lt_or_ge j us.length with hj | hj
    · rw [List.getElem?_append_left (by simpa using hj), List.getElem?_map] at he
      rw [List.getElem?_append_left hj] at hv
      rw [hv] at he
      injection he with he; subst he; rfl
    · rw [List.getElem?_append_right (by simpa using hj), List.length_map] at he
      rw [List.getElem?_append_right hj, List.getElem?_map] at hv
      cases hxj : args.toList[j - us.length]? with
      | none => rw [hxj] at hv; cases hv
      | some y =>
        rw [hxj] at hv; injection hv with hv; subst hv
        obtain ⟨e', h4, h5⟩ := ha.nth he hxj
        exact h5.of (h.at_ y _ h4)) (fun p hp => by
    obtain ⟨k, h4, h5⟩ := hM p hp
    have h6 := h.of k _ h5
    rwa [show a.tmps.getD k undef = undef from by
      rw [Array.getD_eq_getD_getElem?, Array.getElem?_eq_none (by rw [h.size]; omega)]; rfl] at h6) hlt hh
  have harr : (us ++ args.toList.map a.eval).toArray = us.toArray ++ args.map a.eval := by apply Array.ext'; simp
  rw [harr] at hcall
  rw [if_pos (by simp [Region.wanted])]
  refine opR (by nofun) ?_
  unfold Oper.wp
  rw [hrun, Oper.upon_enter]
  refine Calls.mono hcall ?_
  rintro e w' ⟨rfl, hw, hh'⟩
  have hwr : Wrote B T g w w' := ⟨hg, hw.os, hw.tape, hw.output, hw.size, hw.cel, hw.other⟩
  have hst := hl.st h hwr
  have hlt' : g < w'.heap.size := (Array.getElem?_eq_some_iff.1 hh').1
  exact hK _ _ (hwr.below h.base) (St.put (hst.push (d := blk g T ys) ⟨hlt', hh'⟩) hdst rfl)
end
section
variable {P : Program} {n : Nat} {w₀ : World} {E : Env}
/-- A slice of bytes that came in gets a name; its room is told. -/
theorem A.nameC {c : Code} {Q : Exit → Act → World → Prop} {t k B' : Nat} {l : List UInt8} (ht : E.look t = some (old B' (byt l)))
    (h : ∀ (A₀ : Option Addr) (m : Nat), l.length ≤ m → m ≤ maxLen → A κ P w₀ n c ((t, .v (.slice A₀ l.length m)) :: (k, old B' (valM (.slice A₀ l.length m) (byt l))) :: E) Q) : A κ P w₀ n c E Q := fun a w g hs => by
  obtain ⟨hB, m, hb⟩ := hs.of t _ ht
  obtain ⟨A₀, h1, h2, h3, h4⟩ := bytes_open (l := l) hb
  exact h A₀ m h2 h3 a w g ((hs.push (t := k) (d := old B' (valM (.slice A₀ l.length m) (byt l))) ⟨hB, h1 ▸ ⟨m, hb⟩⟩).push (d := .v (.slice A₀ l.length m)) h1)
theorem RowIn.take {B : Nat} {w : World} {A : Option Addr} {vs : List Value} (h : RowIn B w A vs) (k : Nat) : RowIn B w A (vs.take k) := fun j u hu => by
  rw [List.getElem?_take] at hu
  split at hu
  · exact h j u hu
  · cases hu
theorem RowIn.drop {B : Nat} {w : World} {A : Option Addr} {vs : List Value} (h : RowIn B w A vs) (k : Nat) : RowIn B w (A.map (·.add k)) (vs.drop k) := fun j u hu => by
  rw [List.getElem?_drop] at hu
  obtain ⟨ad, h1, h2, h3⟩ := h _ u hu
  exact ⟨ad.add k, by rw [h1]; rfl, by rw [block_of_add]; exact h2, by rw [add_of_add]; exact h3⟩
/-- What the two parts of such a slice read as. -/
theorem A.cut {c : Code} {Q : Exit → Act → World → Prop} {k₀ k₁ k₂ B' m len i : Nat} {A₀ : Option Addr} {l : List UInt8} (hk : E.look k₀ = some (old B' (valM (.slice A₀ len m) (byt l)))) (hi : i ≤ len)
    (h : A κ P w₀ n c ((k₁, old B' (valM (.slice A₀ i m) (byt (l.take i)))) :: (k₂, old B' (valM (.slice (cutA m i A₀) (len - i) (m - i)) (byt (l.drop i)))) :: E) Q) : A κ P w₀ n c E Q := fun a w g hs => by
  obtain ⟨hB, m', hb⟩ := hs.of k₀ _ hk
  obtain ⟨A₁, h1, h2, h3, h4⟩ := bytes_open (l := l) hb
  injection h1 with h5 h6 h7
  subst h5; subst h6; subst h7
  have e1 : (bytes (l.take i) m).OfB B' w (.slice A₀ i m) := by
    have := bytes_mk (l := l.take i) (c := m) (A := A₀) (B := B') (w := w) (by simp; omega) h3 (by rw [List.map_take]; exact h4.take i)
    rwa [List.length_take, Nat.min_eq_left hi] at this
  have e2 : (bytes (l.drop i) (m - i)).OfB B' w (.slice (cutA m i A₀) (l.length - i) (m - i)) := by
    have := bytes_mk (l := l.drop i) (c := m - i) (A := cutA m i A₀) (B := B') (w := w) (by simp; omega) (by omega) (by
      rw [List.map_drop, cutA]
      split
      · rw [List.drop_eq_nil_of_le (by simp; omega)]; exact RowIn.nil
      · exact h4.drop i)
    rwa [List.length_drop] at this
  exact h a w g ((hs.push (t := k₂) (d := old B' (valM (.slice (cutA m i A₀) (l.length - i) (m - i)) (byt (l.drop i)))) ⟨hB, _, e2⟩).push (t := k₁) (d := old B' (valM (.slice A₀ i m) (byt (l.take i)))) ⟨hB, _, e1⟩)
end
end Go.Proofs.YtffiflfjlemggaaGreatDoor
namespace Go.Proofs.YtffiflfjlemggaaGreatDoor
open Go Go.RowKit
set_option linter.unusedVariables false
def zD : List UInt8 := List.replicate 32 0
def recV (x : UInt8) (s c : Nat) (t : List UInt8) : List Value := byteV x :: .int .u32 ((s : Nat) : Int) :: .int .u64 ((c : Nat) : Int) :: t.map byteV
def celV (t : List UInt8) (e m : Nat) : List Value := t.map byteV ++ [.int .u64 ((e : Nat) : Int), .int .u64 ((m : Nat) : Int)]
def recL (x : UInt8) (s c : Nat) (t : List UInt8) : List UInt8 := x :: (nonceL s c ++ t)
def celL (t : List UInt8) (e m : Nat) : List UInt8 := t ++ (be 8 e ++ be 8 m)
def BadR (x : UInt8) (s c : Nat) (t : List UInt8) : Prop := 2 < x.toNat ∨ (x.toNat = 0 ∧ ¬ (s = 0 ∧ c = 0 ∧ t = zD))
def BadE (x : UInt8) (t : List UInt8) : Prop := 2 < x.toNat ∨ (x.toNat = 0 ∧ ¬ t = zD)
instance {x : UInt8} {s c : Nat} {t : List UInt8} : Decidable (BadR x s c t) := by unfold BadR; infer_instance
instance {x : UInt8} {t : List UInt8} : Decidable (BadE x t) := by unfold BadE; infer_instance
/-- The errors of sizes. -/
def szE (a n : Nat) : Int := if a < n then 6 else if n < a then 5 else 0
theorem szE_eq {a n : Nat} (h : a = n) : szE a n = 0 := by unfold szE; rw [if_neg (by omega), if_neg (by omega)]
theorem szE_lo {a n : Nat} (h : a < n) : szE a n = 6 := by unfold szE; rw [if_pos h]
theorem szE_hi {a n : Nat} (h : n < a) : szE a n = 5 := by unfold szE; rw [if_neg (by omega), if_pos h]
def ckS (n : Nat) (z : Bool) : Int := if 2 < n ∨ (n = 0 ∧ z = false) then 1 else 0
def ckR (x : UInt8) (s c : Nat) (t : List UInt8) : Int := if BadR x s c t then 1 else 0
theorem ckS_rec (x : UInt8) (s c : Nat) (t : List UInt8) : ckS x.toNat (decide (x.toNat = 0 ∧ s = 0 ∧ c = 0 ∧ t = zD)) = ckR x s c t := by
  unfold ckS ckR BadR
  by_cases h : x.toNat = 0 <;> by_cases h2 : s = 0 ∧ c = 0 ∧ t = zD <;> simp [h, h2]
theorem ckR_ok {x : UInt8} {s c : Nat} {t : List UInt8} (h : ¬ BadR x s c t) : ckR x s c t = 0 := if_neg h
theorem byteV_inj {a b : UInt8} (h : byteV a = byteV b) : a = b := by
  have := bytes_inj (a := [a]) (b := [b]) (by rw [List.map_cons, List.map_cons, h])
  simpa using this
theorem byteV_zero {x : UInt8} : byteV x = byteV 0 ↔ x.toNat = 0 := by
  refine ⟨fun h => by rw [byteV_inj h]; rfl, fun h => ?_⟩
  rw [show x = 0 from UInt8.toNat_inj.1 h]
theorem dec_rec (x : UInt8) (s c : Nat) (t : List UInt8) : decide (x.toNat = 0 ∧ s = 0 ∧ c = 0 ∧ t = zD) = true ↔ recV x s c t = recV 0 0 0 zD := by
  rw [decide_eq_true_iff]
  refine ⟨fun ⟨h1, h2, h3, h4⟩ => by rw [h2, h3, h4, recV, recV, byteV_zero.2 h1], fun h => ?_⟩
  unfold recV at h
  injection h with h1 h
  injection h with h2 h
  injection h with h3 h
  injection h2 with _ h2
  injection h3 with _ h3
  exact ⟨byteV_zero.1 h1, by omega, by omega, bytes_inj h⟩
theorem kinRec (x : UInt8) (s c : Nat) {t : List UInt8} (h : t.length = 32) : Kin (fun _ _ => True) (.u8 :: .u32 :: .u64 :: List.replicate 32 .u8) (recV x s c t) := kin_cons (kin_cons (kin_cons (kinB h)))
theorem kinCel {t : List UInt8} (h : t.length = 32) (e m : Nat) : Kin (fun _ _ => True) (List.replicate 32 .u8 ++ [.u64, .u64]) (celV t e m) := Kin.join (kinB h) (kin_cons (kin_cons kin_nil))
theorem rec_len (x : UInt8) (s c : Nat) {t : List UInt8} (h : t.length = 32) : (recV x s c t).length = 35 := by simp [recV, h]
theorem cel_len {t : List UInt8} (h : t.length = 32) (e m : Nat) : (celV t e m).length = 34 := by simp [celV, h]
theorem recL_len (x : UInt8) (s c : Nat) {t : List UInt8} (h : t.length = 32) : (recL x s c t).length = 45 := by simp [recL, h, nonceL_length]
theorem celL_len {t : List UInt8} (h : t.length = 32) (e m : Nat) : (celL t e m).length = 48 := by simp [celL, h, be_length]
theorem all_byte (l : List UInt8) : (l.map byteV).all (·.oneCell') = true := by simp [List.all_eq_true, byteV, Value.oneCell']
theorem rec_one (x : UInt8) (s c : Nat) (t : List UInt8) : (recV x s c t).all (·.oneCell') = true := by simp only [recV, List.all_cons, all_byte]; rfl
theorem cel_one (t : List UInt8) (e m : Nat) : (celV t e m).all (·.oneCell') = true := by simp only [celV, List.all_append, all_byte]; rfl
theorem rec_tag {x : UInt8} {s c : Nat} {t : List UInt8} (h : t.length = 32) : ((recV x s c t).drop 3).take 32 = t.map byteV := List.take_of_length_le (by rw [List.length_drop, rec_len x s c h]; decide)
theorem cel_root {t : List UInt8} (h : t.length = 32) (e m : Nat) : ((celV t e m).drop 0).take 32 = t.map byteV := List.take_left' (by simp [h])
theorem cel_e {t : List UInt8} (h : t.length = 32) (e m : Nat) : (celV t e m)[32]? = some (.int .u64 ((e : Nat) : Int)) := by
  rw [celV, List.getElem?_append_right (by simp [h])]; simp [h]
theorem cel_m {t : List UInt8} (h : t.length = 32) (e m : Nat) : (celV t e m)[33]? = some (.int .u64 ((m : Nat) : Int)) := by
  rw [celV, List.getElem?_append_right (by simp [h])]; simp [h]
theorem rec_set3 (x : UInt8) (s c : Nat) {t t' : List UInt8} (h : t.length = 32) (h' : t'.length = 32) : (recV x s c t').take 3 ++ t.map byteV ++ (recV x s c t').drop (3 + (t.map byteV).length) = recV x s c t := by
  rw [List.length_map, h, List.drop_eq_nil_of_le (by rw [rec_len x s c h']; decide), List.append_nil]; rfl
theorem cel_set0 {t t' : List UInt8} (e m : Nat) (h : t.length = 32) (h' : t'.length = 32) : (celV t' e m).take 0 ++ t.map byteV ++ (celV t' e m).drop (0 + (t.map byteV).length) = celV t e m := by
  rw [List.length_map, h, List.take_zero, List.nil_append, Nat.zero_add, celV, List.drop_left' (by simp [h'])]; rfl
theorem cel_set32 {t : List UInt8} (e e' m : Nat) (h : t.length = 32) : (celV t e m).set 32 (.int .u64 ((e' : Nat) : Int)) = celV t e' m := by
  rw [celV, List.set_append_right _ _ (by simp [h])]; simp [h, celV]
theorem cel_set33 {t : List UInt8} (e m m' : Nat) (h : t.length = 32) : (celV t e m).set 33 (.int .u64 ((m' : Nat) : Int)) = celV t e m' := by
  rw [celV, List.set_append_right _ _ (by simp [h])]; simp [h, celV]
/-! ### The first byte, and all others together -/
def pX (l : List UInt8) : UInt8 := l.getD 0 0
def sumL (l : List UInt8) : Nat := (l.map UInt8.toNat).sum
def rest (l : List UInt8) : Nat := sumL (l.drop 1)
end Go.Proofs.YtffiflfjlemggaaGreatDoor
namespace Go.Proofs.YtffiflfjlemggaaGreatDoor
open Go Go.RowKit
variable {κ : Cx}

def RelX (eff : Bool) (B : Nat) (w w' : World) : Prop := if eff then Below B w w' else Grow w w'
theorem RelX.below {eff : Bool} {B : Nat} {w w' : World} (h : RelX eff B w w') (hB : B ≤ w.heap.size) : Below B w w' := by
  cases eff with
  | true => exact h
  | false => exact Below.mono (show Grow w w' from h) hB
def OpOkX (eff : Bool) (P : Program) (B : Nat) (o : Oper) (E : Env) (d : D) : Prop :=
  ∀ (ρ : Operand → Value) (w : World), B ≤ w.heap.size → (∀ t e, vbase ≤ t → E.look t = some e → e.Of w undef) → (∀ x, x ∈ o.op.operands → ∀ e, E.at x = some e → e.Of w (ρ x)) → Out P o ρ w fun x w' => RelX eff B w w' ∧ d.Of w' x
def GoodX (eff : Bool) (P : Program) (B : Nat) (ops : Array Oper) (o : Oper) (E : Env) (d : D) : Prop :=
  (GuardIs ops E o true ∧ OpOkX eff P B o E d) ∨ (GuardIs ops E o false ∧ d = .v undef)
/-- Of an operation: does it change memory, does what is told of its value stay true whatever happens above the base, and which operation makes it untrue. -/
structure Mk where
  eff : Bool
  stab : Bool
  kill : Option Nat
section
variable {P : Program} {B : Nat} {ops : Array Oper} {Q : Exit → Act → World → Prop}
inductive TraceX (P : Program) (B : Nat) (ops : Array Oper) : List Oper → Env → List Mk → List D → Env → Prop
  | nil {E : Env} : TraceX P B ops [] E [] [] E
  | cons {o : Oper} {rest : List Oper} {E E' : Env} {t : Nat} {d : D} {ds : List D} {m : Mk} {ms : List Mk} (ht : o.dst = some t) (hg : GoodX m.eff P B ops o E d) (hs : m.stab = true → Stays B d) (hr : TraceX P B ops rest ((t, d) :: E) ms ds E') : TraceX P B ops (o :: rest) E (m :: ms) (d :: ds) E'
theorem TraceX.nth {rest : List Oper} {E E' : Env} {ms : List Mk} {ds : List D} (h : TraceX P B ops rest E ms ds E') : ∀ {i : Nat} {o : Oper}, rest[i]? = some o →
    ∃ t d Ei m, o.dst = some t ∧ ds[i]? = some d ∧ ms[i]? = some m ∧ GoodX m.eff P B ops o Ei d ∧ (m.stab = true → Stays B d) ∧ ∀ s e, Ei.look s = some e →
      (∃ j o', j < i ∧ rest[j]? = some o' ∧ o'.dst = some s ∧ ds[j]? = some e) ∨ ((∀ j o', j < i → rest[j]? = some o' → o'.dst ≠ some s) ∧ E.look s = some e) := by
  induction h with
  | nil => intro i o hi; simp at hi
  | @cons o0 rest E E' t0 d0 ds m0 ms ht hg hs hr ih =>
    intro i o hi
    cases i with
    | zero =>
      simp at hi; subst hi
      exact ⟨t0, d0, E, m0, ht, rfl, rfl, hg, hs, fun s e he => .inr ⟨fun j _ hj => by omega, he⟩⟩
    | succ i =>
      obtain ⟨t, d, Ei, m, h1, h2, h2', h3, h3', h4⟩ := ih (i := i) (by simpa using hi)
      refine ⟨t, d, Ei, m, h1, by simpa using h2, by simpa using h2', h3, h3', fun s e he => ?_⟩
      rcases h4 s e he with ⟨j, o', hj, ho', hd, hds⟩ | ⟨hno, hl⟩
      · exact .inl ⟨j + 1, o', by omega, by simpa using ho', hd, by simpa using hds⟩
      · by_cases hs : t0 = s
        · subst hs
          rw [look_here] at hl
          exact .inl ⟨0, o0, by omega, rfl, ht, by simpa using hl⟩
        · rw [look_past _ _ hs] at hl
          refine .inr ⟨fun j o' hj ho' => ?_, hl⟩
          cases j with
          | zero => simp at ho'; subst ho'; rw [ht]; intro h; injection h with h; exact hs h
          | succ j => exact hno j o' (by omega) (by simpa using ho')
theorem TraceX.last {rest : List Oper} {E E' : Env} {ms : List Mk} {ds : List D} (h : TraceX P B ops rest E ms ds E') : ∀ s e, E'.look s = some e →
      (∃ (j : Nat) (o' : Oper), rest[j]? = some o' ∧ o'.dst = some s ∧ ds[j]? = some e) ∨ ((∀ (j : Nat) (o' : Oper), rest[j]? = some o' → o'.dst ≠ some s) ∧ E.look s = some e) := by
  induction h with
  | nil => intro s e he; exact .inr ⟨fun j _ hj => by simp at hj, he⟩
  | @cons o0 rest E E' t0 d0 ds m0 ms ht hg hs hr ih =>
    intro s e he
    rcases ih s e he with ⟨j, o', ho', hd, hds⟩ | ⟨hno, hl⟩
    · exact .inl ⟨j + 1, o', by simpa using ho', hd, by simpa using hds⟩
    · by_cases hs : t0 = s
      · subst hs
        rw [look_here] at hl
        exact .inl ⟨0, o0, rfl, ht, by simpa using hl⟩
      · rw [look_past _ _ hs] at hl
        refine .inr ⟨fun j o' ho' => ?_, hl⟩
        cases j with
        | zero => simp at ho'; subst ho'; rw [ht]; intro h; injection h with h; exact hs h
        | succ j => exact hno j o' (by simpa using ho')
/-- The region gone through in the order of the text. -/
def RunX (P : Program) (B : Nat) (ops : Array Oper) (rest : List Oper) (E : Env) (ms : List Mk) (C : Env → Prop) : Prop := ∃ ds E', TraceX P B ops rest E ms ds E' ∧ C E'
variable {E : Env} {C : Env → Prop} {o : Oper} {rest : List Oper} {t : Nat} {d : D} {ms : List Mk}
theorem RunX.nil (h : C E) : RunX P B ops [] E [] C := ⟨[], E, .nil, h⟩
theorem OpOk.x (h : OpOk P B o E d) : OpOkX false P B o E d := fun ρ w hB hv hρ => (h ρ w hB hv hρ).mono fun _ _ hx => ⟨hx.1, hx.2⟩
theorem RunX.step {st : Bool} {kl : Option Nat} (ht : o.dst = some t) (hg : o.guard = none) (h : OpOk P B o E d) (hs : st = true → Stays B d) (hr : RunX P B ops rest ((t, d) :: E) ms C) : RunX P B ops (o :: rest) E (⟨false, st, kl⟩ :: ms) C := by
  obtain ⟨ds, E', h1, h2⟩ := hr
  exact ⟨_, E', .cons ht (.inl ⟨by simp [GuardIs, hg], h.x⟩) hs h1, h2⟩
theorem RunX.eff {st : Bool} {kl : Option Nat} (ht : o.dst = some t) (hg : o.guard = none) (h : OpOkX true P B o E d) (hs : st = true → Stays B d) (hr : RunX P B ops rest ((t, d) :: E) ms C) : RunX P B ops (o :: rest) E (⟨true, st, kl⟩ :: ms) C := by
  obtain ⟨ds, E', h1, h2⟩ := hr
  exact ⟨_, E', .cons ht (.inl ⟨by simp [GuardIs, hg], h⟩) hs h1, h2⟩
theorem RunX.as (x : Value) {y : Value} (h : y = x) (hr : RunX P B ops rest ((t, .v x) :: E) ms C) : RunX P B ops rest ((t, .v y) :: E) ms C := h ▸ hr
theorem RunX.last {E'' : Env} {C : Env → Prop} {dead : List Nat} (hs : Sub E'' E) (hd : (E''.map (·.1)).all (fun k => !dead.contains k) = true) (h : C E'') : RunX P B ops [] E [] (fun E' => ∃ E'', Sub E'' E' ∧ (∀ p ∈ E'', p.1 ∉ dead) ∧ C E'') :=
  RunX.nil ⟨E'', hs, fun p hp hm => by
    have := List.all_eq_true.1 hd p.1 (List.mem_map_of_mem hp)
    simp [hm] at this, h⟩
def StaysL (B : Nat) (E : Env) : Prop := ∀ p ∈ E, Stays B p.2
theorem StaysL.nil : StaysL B [] := fun _ h => by cases h
theorem StaysL.cons {k : Nat} {d : D} {E : Env} (h : Stays B d) (hr : StaysL B E) : StaysL B ((k, d) :: E) := fun p hp => by
  rcases List.mem_cons.1 hp with rfl | hp
  · exact h
  · exact hr p hp
end
section
variable {P : Program} {B : Nat} {E : Env} {dst : Option Tmp} {ty : TypeId} {pos : String} {after : Array Edge} {guard : Option (Nat × Bool)}
end
end Go.Proofs.YtffiflfjlemggaaGreatDoor
namespace Go.Proofs.YtffiflfjlemggaaGreatDoor
open Go Go.RowKit
variable {κ : Cx}
theorem Wrote.new {B T : Nat} {w w' : World} (hB : B ≤ w.heap.size) (g : Grow w w') : Wrote B T w.heap.size w w' :=
  ⟨hB, g.os, g.tape, g.output, g.size, fun o h => (by rw [Array.getElem?_eq_none (Nat.le_refl _)] at h; cases h), fun k hk _ => g.block k hk⟩
/-- It survives a change of any row of the type from the base on. -/
def StayT (B T : Nat) (d : D) : Prop := ∀ g, B ≤ g → Surv B T g d
theorem StayT.v {B T : Nat} (x : Value) : StayT B T (.v x) := fun _ _ => Surv.v _
theorem StayT.old {B T B' : Nat} {d : D} (h : B' ≤ B) : StayT B T (old B' d) := fun _ hg => Surv.old (Nat.le_trans h hg)
theorem StayT.blk {B T b : Nat} {e : TypeId} {xs : List Value} (h : e ≠ T) : StayT B T (blk b e xs) := fun _ _ => Surv.blkT h
theorem StayT.own {B T base n : Nat} {e : TypeId} {xs : List Value} (h : e ≠ T) : StayT B T (own base e n xs) := fun _ _ => Surv.own h
/-- Changes of such rows, one after another. -/
inductive FlowT (B T : Nat) : World → World → Prop
  | refl {w : World} : FlowT B T w w
  | step {w w' w'' : World} {g : Nat} (h : FlowT B T w w') (k : Wrote B T g w' w'') : FlowT B T w w''
theorem FlowT.keep {B T : Nat} {w w' : World} (h : FlowT B T w w') {d : D} {x : Value} (hd : StayT B T d) (hx : d.Of w x) : d.Of w' x := by
  induction h with
  | refl => exact hx
  | step _ k ih => exact hd _ k.base _ _ _ k ih
theorem FlowT.under {B T : Nat} {w w' : World} (h : FlowT B T w w') (hB : B ≤ w.heap.size) : Below B w w' := by
  induction h with
  | refl => exact Below.refl _ _
  | step _ k ih => exact ih.trans (k.below (Nat.le_trans hB ih.size))
def RelZ (eff : Bool) (B : Nat) (T : TypeId) (w w' : World) : Prop := if eff then ∃ g, Wrote B T g w w' else Grow w w'
theorem RelZ.wrote {eff : Bool} {B : Nat} {T : TypeId} {w w' : World} (h : RelZ eff B T w w') (hB : B ≤ w.heap.size) : ∃ g, Wrote B T g w w' := by
  cases eff with
  | true => exact h
  | false => exact ⟨_, Wrote.new hB h⟩
def OpOkZ (eff : Bool) (P : Program) (B : Nat) (T : TypeId) (o : Oper) (E : Env) (d : D) : Prop :=
  ∀ (ρ : Operand → Value) (w : World), B ≤ w.heap.size → (∀ t e, vbase ≤ t → E.look t = some e → e.Of w undef) → (∀ x, x ∈ o.op.operands → ∀ e, E.at x = some e → e.Of w (ρ x)) → Out P o ρ w fun x w' => RelZ eff B T w w' ∧ d.Of w' x
def GoodZ (eff : Bool) (P : Program) (B : Nat) (T : TypeId) (ops : Array Oper) (o : Oper) (E : Env) (d : D) : Prop :=
  (GuardIs ops E o true ∧ OpOkZ eff P B T o E d) ∨ (GuardIs ops E o false ∧ d = .v undef)
section
variable {P : Program} {B : Nat} {T : TypeId} {ops : Array Oper} {Q : Exit → Act → World → Prop}
inductive TraceZ (P : Program) (B : Nat) (T : TypeId) (ops : Array Oper) : List Oper → Env → List Mk → List D → Env → Prop
  | nil {E : Env} : TraceZ P B T ops [] E [] [] E
  | cons {o : Oper} {rest : List Oper} {E E' : Env} {t : Nat} {d : D} {ds : List D} {m : Mk} {ms : List Mk} (ht : o.dst = some t) (hg : GoodZ m.eff P B T ops o E d) (hs : m.stab = true → StayT B T d) (hr : TraceZ P B T ops rest ((t, d) :: E) ms ds E') : TraceZ P B T ops (o :: rest) E (m :: ms) (d :: ds) E'
theorem TraceZ.nth {rest : List Oper} {E E' : Env} {ms : List Mk} {ds : List D} (h : TraceZ P B T ops rest E ms ds E') : ∀ {i : Nat} {o : Oper}, rest[i]? = some o →
    ∃ t d Ei m, o.dst = some t ∧ ds[i]? = some d ∧ ms[i]? = some m ∧ GoodZ m.eff P B T ops o Ei d ∧ (m.stab = true → StayT B T d) ∧ ∀ s e, Ei.look s = some e →
      (∃ j o', j < i ∧ rest[j]? = some o' ∧ o'.dst = some s ∧ ds[j]? = some e) ∨ ((∀ j o', j < i → rest[j]? = some o' → o'.dst ≠ some s) ∧ E.look s = some e) := by
  induction h with
  | nil => intro i o hi; simp at hi
  | @cons o0 rest E E' t0 d0 ds m0 ms ht hg hs hr ih =>
    intro i o hi
    cases i with
    | zero =>
      simp at hi; subst hi
      exact ⟨t0, d0, E, m0, ht, rfl, rfl, hg, hs, fun s e he => .inr ⟨fun j _ hj => by omega, he⟩⟩
    | succ i =>
      obtain ⟨t, d, Ei, m, h1, h2, h2', h3, h3', h4⟩ := ih (i := i) (by simpa using hi)
      refine ⟨t, d, Ei, m, h1, by simpa using h2, by simpa using h2', h3, h3', fun s e he => ?_⟩
      rcases h4 s e he with ⟨j, o', hj, ho', hd, hds⟩ | ⟨hno, hl⟩
      · exact .inl ⟨j + 1, o', by omega, by simpa using ho', hd, by simpa using hds⟩
      · by_cases hs : t0 = s
        · subst hs
          rw [look_here] at hl
          exact .inl ⟨0, o0, by omega, rfl, ht, by simpa using hl⟩
        · rw [look_past _ _ hs] at hl
          refine .inr ⟨fun j o' hj ho' => ?_, hl⟩
          cases j with
          | zero => simp at ho'; subst ho'; rw [ht]; intro h; injection h with h; exact hs h
          | succ j => exact hno j o' (by omega) (by simpa using ho')
theorem TraceZ.last {rest : List Oper} {E E' : Env} {ms : List Mk} {ds : List D} (h : TraceZ P B T ops rest E ms ds E') : ∀ s e, E'.look s = some e →
      (∃ (j : Nat) (o' : Oper), rest[j]? = some o' ∧ o'.dst = some s ∧ ds[j]? = some e) ∨ ((∀ (j : Nat) (o' : Oper), rest[j]? = some o' → o'.dst ≠ some s) ∧ E.look s = some e) := by
  induction h with
  | nil => intro s e he; exact .inr ⟨fun j _ hj => by simp at hj, he⟩
  | @cons o0 rest E E' t0 d0 ds m0 ms ht hg hs hr ih =>
    intro s e he
    rcases ih s e he with ⟨j, o', ho', hd, hds⟩ | ⟨hno, hl⟩
    · exact .inl ⟨j + 1, o', by simpa using ho', hd, by simpa using hds⟩
    · by_cases hs : t0 = s
      · subst hs
        rw [look_here] at hl
        exact .inl ⟨0, o0, rfl, ht, by simpa using hl⟩
      · rw [look_past _ _ hs] at hl
        refine .inr ⟨fun j o' ho' => ?_, hl⟩
        cases j with
        | zero => simp at ho'; subst ho'; rw [ht]; intro h; injection h with h; exact hs h
        | succ j => exact hno j o' (by simpa using ho')
/-- The region gone through in the order of the text. -/
def RunZ (P : Program) (B : Nat) (T : TypeId) (ops : Array Oper) (rest : List Oper) (E : Env) (ms : List Mk) (C : Env → Prop) : Prop := ∃ ds E', TraceZ P B T ops rest E ms ds E' ∧ C E'
variable {E : Env} {C : Env → Prop} {o : Oper} {rest : List Oper} {t : Nat} {d : D} {ms : List Mk}
theorem RunZ.nil (h : C E) : RunZ P B T ops [] E [] C := ⟨[], E, .nil, h⟩
theorem OpOk.z (h : OpOk P B o E d) : OpOkZ false P B T o E d := fun ρ w hB hv hρ => (h ρ w hB hv hρ).mono fun _ _ hx => ⟨hx.1, hx.2⟩
theorem RunZ.step {st : Bool} {kl : Option Nat} (ht : o.dst = some t) (hg : o.guard = none) (h : OpOk P B o E d) (hs : st = true → StayT B T d) (hr : RunZ P B T ops rest ((t, d) :: E) ms C) : RunZ P B T ops (o :: rest) E (⟨false, st, kl⟩ :: ms) C := by
  obtain ⟨ds, E', h1, h2⟩ := hr
  exact ⟨_, E', .cons ht (.inl ⟨by simp [GuardIs, hg], h.x⟩) hs h1, h2⟩
theorem RunZ.eff {st : Bool} {kl : Option Nat} (ht : o.dst = some t) (hg : o.guard = none) (h : OpOkZ true P B T o E d) (hs : st = true → StayT B T d) (hr : RunZ P B T ops rest ((t, d) :: E) ms C) : RunZ P B T ops (o :: rest) E (⟨true, st, kl⟩ :: ms) C := by
  obtain ⟨ds, E', h1, h2⟩ := hr
  exact ⟨_, E', .cons ht (.inl ⟨by simp [GuardIs, hg], h⟩) hs h1, h2⟩
theorem RunZ.as (x : Value) {y : Value} (h : y = x) (hr : RunZ P B T ops rest ((t, .v x) :: E) ms C) : RunZ P B T ops rest ((t, .v y) :: E) ms C := h ▸ hr

def StayL (B T : Nat) (ks : List (Nat × Nat)) (E : Env) : Prop := ∀ p ∈ E, StayT B T p.2 ∨ (p.1 < vbase ∧ ∃ k, (p.1, k) ∈ ks)
theorem StayL.nil {ks : List (Nat × Nat)} : StayL B T ks [] := fun _ h => by cases h
theorem StayL.cons {ks : List (Nat × Nat)} {k : Nat} {d : D} {E : Env} (h : StayT B T d) (hr : StayL B T ks E) : StayL B T ks ((k, d) :: E) := fun p hp => by
  rcases List.mem_cons.1 hp with rfl | hp
  · exact .inl h
  · exact hr p hp
/-- What stands behind the region: it survives, or the region has made it. -/
def MadeL (B T : Nat) (ops : Array Oper) (E : Env) : Prop := ∀ p ∈ E, StayT B T p.2 ∨ (∃ o ∈ ops, o.dst = some p.1)
theorem MadeL.nil : MadeL B T ops [] := fun _ h => by cases h
theorem MadeL.stays {k : Nat} {d : D} {E : Env} (h : StayT B T d) (hr : MadeL B T ops E) : MadeL B T ops ((k, d) :: E) := fun p hp => by
  rcases List.mem_cons.1 hp with rfl | hp
  · exact .inl h
  · exact hr p hp
theorem MadeL.made {k : Nat} {d : D} {E : Env} (i : Nat) (h : ((ops[i]?).bind (·.dst)) = some k) (hr : MadeL B T ops E) : MadeL B T ops ((k, d) :: E) := fun p hp => by
  rcases List.mem_cons.1 hp with rfl | hp
  · right
    cases ho : ops[i]? with
    | none => rw [ho] at h; cases h
    | some o => rw [ho] at h; exact ⟨o, Array.mem_of_getElem? ho, h⟩
  · exact hr p hp
end
section
variable {P : Program} {B : Nat} {E : Env} {dst : Option Tmp} {ty : TypeId} {pos : String} {after : Array Edge} {guard : Option (Nat × Bool)}
end
end Go.Proofs.YtffiflfjlemggaaGreatDoor
namespace Go.Proofs.YtffiflfjlemggaaGreatDoor
open Go Go.RowKit
set_option linter.unusedVariables false
set_option maxRecDepth 20000

theorem zero64 : ZeroIs Tryz.prog 64 ([.int .u8 0] ++ [.int .u32 0] ++ [.int .u64 0] ++ List.replicate 32 (.int .u8 0)) := by unfold ZeroIs; kernel_rfl
theorem size64 : SizeIs Tryz.prog 64 35 := by unfold SizeIs; kernel_rfl
theorem field64_0 : FieldIs Tryz.prog 64 0 0 1 := by unfold FieldIs; kernel_rfl
theorem field64_1 : FieldIs Tryz.prog 64 1 1 2 := by unfold FieldIs; kernel_rfl
theorem field64_2 : FieldIs Tryz.prog 64 2 3 32 := by unfold FieldIs; kernel_rfl
theorem zero75 : ZeroIs Tryz.prog 75 (List.replicate 32 (.int .u8 0) ++ [.int .u64 0] ++ [.int .u64 0]) := by unfold ZeroIs; kernel_rfl
theorem size75 : SizeIs Tryz.prog 75 34 := by unfold SizeIs; kernel_rfl
theorem field75_0 : FieldIs Tryz.prog 75 0 0 32 := by unfold FieldIs; kernel_rfl
theorem field75_1 : FieldIs Tryz.prog 75 1 32 1 := by unfold FieldIs; kernel_rfl
theorem field75_2 : FieldIs Tryz.prog 75 2 33 1 := by unfold FieldIs; kernel_rfl
theorem field173_0 : FieldIs Tryz.prog 173 0 0 1 := by unfold FieldIs; kernel_rfl
theorem flat64 : flat Tryz.prog 4 64 = some (.u8 :: .u32 :: .u64 :: List.replicate 32 .u8) := by kernel_rfl
theorem flat75 : flat Tryz.prog 4 75 = some (List.replicate 32 .u8 ++ [.u64, .u64]) := by kernel_rfl
/-- The nonce's bytes in a record's. -/
def pN (l : List UInt8) : List UInt8 := (l.drop 1).take 12
def pT (l : List UInt8) : List UInt8 := ((l.drop 1).drop 12).take 32
theorem pT_len {l : List UInt8} (h : l.length = 45) : (pT l).length = 32 := by simp [pT, h]
def cD (l : List UInt8) : List UInt8 := l.take 32
def cE (l : List UInt8) : Nat := (getV ((l.drop 32).take 8) 8).toNat
def cM (l : List UInt8) : Nat := (getV (((l.drop 32).drop 8).take 8) 8).toNat
theorem cD_len {l : List UInt8} (h : l.length = 48) : (cD l).length = 32 := by simp [cD, h]
theorem rec_front {x : UInt8} {s c : Nat} {t : List UInt8} (ht : t.length = 32) (hs : s < 4294967296) (hc : c < 18446744073709551616) : pX (recL x s c t) = x ∧ gS (pN (recL x s c t)) = s ∧ gC (pN (recL x s c t)) = c ∧ pT (recL x s c t) = t := by
 have h1 : pN (recL x s c t) = nonceL s c := by unfold pN recL; rw [List.drop_one, List.tail_cons, List.take_left' (nonceL_length s c)]
 refine ⟨rfl, by rw [h1, gS_nonce hs], by rw [h1, gC_nonce hc], ?_⟩
 unfold pT recL
 rw [List.drop_one, List.tail_cons, List.drop_left' (nonceL_length s c), List.take_of_length_le (by omega)]
theorem cel_front {t : List UInt8} {e m : Nat} (ht : t.length = 32) (he : e < 18446744073709551616) (hm : m < 18446744073709551616) : cD (celL t e m) = t ∧ cE (celL t e m) = e ∧ cM (celL t e m) = m := by
 have h2 : (celL t e m).drop 32 = be 8 e ++ be 8 m := by unfold celL; rw [List.drop_left' ht]
 refine ⟨by unfold cD celL; rw [List.take_left' ht], ?_, ?_⟩
 ·unfold cE; rw [h2, List.take_left' (be_length 8 e), getV, if_pos (be_length 8 e), num_be, Nat.mod_eq_of_lt (by omega), Int.toNat_natCast]
 ·unfold cM; rw [h2, List.drop_left' (be_length 8 e), List.take_of_length_le (by rw [be_length]; decide), getV, if_pos (be_length 8 m), num_be, Nat.mod_eq_of_lt (by omega), Int.toNat_natCast]

end Go.Proofs.YtffiflfjlemggaaGreatDoor
namespace Go.Proofs.YtffiflfjlemggaaGreatDoor
open Go Go.RowKit
set_option linter.unusedVariables false
set_option maxRecDepth 20000
theorem buildS_ (A : Option Addr) (n c : Nat) : Tryz.prog.built 173 [(0, .slice A n c)] = some ([.slice A n c] : List Value).toArray := by kernel_rfl

theorem cks_A (x : UInt8) (z : Bool) (h : 2 < x.toNat) : Fn Tryz.prog 107 [.v (byteV x), .v (.bool z)] (.v (.int .i64 1)) := by
 refine FV Tryz.func107 rfl Tryz.ntmps107 rfl fun w₀ => ?_
 refine GV rfl ?_
 refine QS ?_
 refine GT ?_
 refine RV 2 rfl ?_
 refine RZ (.bool true) (by simp; omega) ?_
 refine RV 4 rfl ?_
 refine RunK.skippedU rfl rfl rfl rfl ?_
 refine RunK.skippedU rfl rfl rfl rfl ?_
 refine RVN 2 rfl ?_
 refine A.yes rfl ?_
 refine GV rfl ?_
 refine A.ret ?_
 refine End.ret_then ?_
 exact ER rfl rfl
theorem cks_B (x : UInt8) (h : x.toNat = 0) : Fn Tryz.prog 107 [.v (byteV x), .v (.bool true)] (.v (.int .i64 0)) := by
 refine FV Tryz.func107 rfl Tryz.ntmps107 rfl fun w₀ => ?_
 refine GV rfl ?_
 refine QS ?_
 refine GT ?_
 refine RV 2 rfl ?_
 refine RZ (.bool false) (by simp; omega) ?_
 refine RV 3 rfl ?_
 refine RZ (.bool true) (by simp [h]) ?_
 refine RV 3 rfl ?_
 refine RZ (.bool false) (by rfl) ?_
 refine RVN 2 rfl ?_
 refine A.no rfl ?_
 refine QK ?_
 refine GV rfl ?_
 refine A.ret ?_
 exact ER rfl rfl
theorem cks_C (x : UInt8) (h : x.toNat = 0) : Fn Tryz.prog 107 [.v (byteV x), .v (.bool false)] (.v (.int .i64 1)) := by
 refine FV Tryz.func107 rfl Tryz.ntmps107 rfl fun w₀ => ?_
 refine GV rfl ?_
 refine QS ?_
 refine GT ?_
 refine RV 2 rfl ?_
 refine RZ (.bool false) (by simp; omega) ?_
 refine RV 3 rfl ?_
 refine RZ (.bool true) (by simp [h]) ?_
 refine RV 3 rfl ?_
 refine RZ (.bool true) (by rfl) ?_
 refine RVN 2 rfl ?_
 refine A.yes rfl ?_
 refine GV rfl ?_
 refine A.ret ?_
 refine End.ret_then ?_
 exact ER rfl rfl
theorem cks_D (x : UInt8) (z : Bool) (h : 1 ≤ x.toNat) (h2 : x.toNat ≤ 2) : Fn Tryz.prog 107 [.v (byteV x), .v (.bool z)] (.v (.int .i64 0)) := by
 refine FV Tryz.func107 rfl Tryz.ntmps107 rfl fun w₀ => ?_
 refine GV rfl ?_
 refine QS ?_
 refine GT ?_
 refine RV 2 rfl ?_
 refine RZ (.bool false) (by simp; omega) ?_
 refine RV 3 rfl ?_
 refine RZ (.bool false) (by simp; omega) ?_
 refine RVN 5 rfl ?_
 refine A.no rfl ?_
 refine QK ?_
 refine GV rfl ?_
 refine A.ret ?_
 exact ER rfl rfl
theorem checkState_fn (x : UInt8) (z : Bool) : Fn Tryz.prog 107 [.v (byteV x), .v (.bool z)] (.v (.int .i64 (ckS x.toNat z))) := by
 unfold ckS
 by_cases h : 2 < x.toNat
 ·rw [if_pos (.inl h)]; exact cks_A x z h
 by_cases h0 : x.toNat = 0
 ·cases z with
  | true => rw [if_neg (by simp; omega)]; exact cks_B x h0
  | false => rw [if_pos (.inr ⟨h0, rfl⟩)]; exact cks_C x h0
 ·rw [if_neg (by omega)]; exact cks_D x z (by omega) (by omega)
theorem CheckR_fn (x : UInt8) (s c : Nat) (t : List UInt8) (ht : t.length = 32)  : Fn Tryz.prog 65 [.v (aggV (recV x s c t))] (.v (.int .i64 (ckR x s c t))) := by
 refine FV Tryz.func65 rfl Tryz.ntmps65 rfl fun w₀ => ?_
 refine GS ?_
 refine TN 0 ?_
 refine RN ?_
 refine ZB 1000001 rfl fun b1 ⟨hBb1, hb1⟩ => ?_
 refine TL ?_
 refine RVN 1 rfl ?_
 refine GTD ?_
 refine RS (ok_field field64_0 (by decide) rfl) ?_
 refine RLV 1000001 Tryz.underlying5 rfl rfl rfl ?_
 refine RS (ok_loadA (s := 1000001) (by decide) Tryz.underlying64 rfl (size64.of (rec_len x s c ht)) rfl rfl) ?_
 refine RS (ok_lit [] ([.int .u8 0] ++ [.int .u32 0] ++ [.int .u64 0] ++ List.replicate 32 (.int .u8 0)) (fun _ _ => rfl) (by kernel_rfl)) ?_
 refine RS (ok_eqlT (n := 4) (decide (x.toNat = 0 ∧ s = 0 ∧ c = 0 ∧ t = zD)) flat64 (by decide) (by kernel_rfl) (by kernel_rfl) rfl rfl (kinRec x s c ht) (kinRec 0 0 0 (t := zD) rfl) (dec_rec x s c t)) ?_
 refine RS (ok_call (checkState_fn x _) (A2 rfl rfl)) ?_; refine RZ (.int .i64 (ckR x s c t)) (congrArg (Value.int .i64) (ckS_rec x s c t)) ?_
 refine RVN 1 rfl ?_
 refine A.ret ?_
 exact ER rfl rfl
set_option maxHeartbeats 1000000 in
theorem PutRecord_okB (x : UInt8) (s c : Nat) (t : List UInt8) (ht : t.length = 32) (hs : s < 4294967296) (hc : c < 18446744073709551616) (hb : ¬ BadR x s c t)  : FnB Tryz.prog 25 [.v (aggV (recV x s c t))] (fun B => newD B 5 (fun b => .tuple #[.slice (some ⟨b, 0, none⟩) 45 45, .int .i64 0]) ((recL x s c t).map byteV)) := by
 refine FnB.of Tryz.func25 rfl (by kernel_rfl) Tryz.ntmps25 (by simp) (fun w => [(0, .v (aggV (recV x s c t)))]) (fun w => (Start.v rfl Start.nil)) fun w₀ => ?_
 refine GS ?_
 refine TN 0 ?_
 refine RN ?_
 refine ZB 1000001 rfl fun b1 ⟨hBb1, hb1⟩ => ?_
 refine TL ?_
 refine RVN 2 rfl ?_
 refine QS ?_
 refine GT ?_
 refine RS (ok_loadA (s := 1000001) (by decide) Tryz.underlying64 rfl (size64.of (rec_len x s c ht)) rfl rfl) ?_
 refine RS (ok_call (CheckR_fn x s c t ht) (A1 rfl)) ?_; refine RZ (.int .i64 0) (congrArg (Value.int .i64) (ckR_ok hb)) ?_
 refine RVN 1 rfl ?_
 refine GT ?_
 refine RV 2 rfl ?_
 refine RZ (.bool false) (by rfl) ?_
 refine RN ?_
 refine A.no rfl ?_
 refine QK ?_
 refine GD ?_
 refine RunTK.new 9 (by decide) rfl (.inr (by kernel_rfl)) ?_
 refine RS (ok_field field64_0 (by decide) rfl) ?_
 refine RLV 1000001 Tryz.underlying5 rfl rfl rfl ?_
 refine RS (ok_build [.v (byteV x)] Tryz.underlying22 info5 rfl (by decide) (by decide) rfl ⟨rfl, rfl, trivial⟩ (fun d hd w x h => by simp only [List.mem_cons, List.not_mem_nil, or_false] at hd; rcases hd with rfl; exact v_one rfl h)) ?_
 refine RS (ok_field field64_1 (by decide) rfl) ?_
 refine RS (ok_loadP (s := 1000001) (by decide) Tryz.underlying41 rfl size41 rfl rfl (by simp [recV]) (rfl)) ?_
 refine RS (ok_call (Put_fn s c hs hc) (A1 rfl)) ?_
 refine RS (ok_field field64_2 (by decide) rfl) ?_
 refine RS (OpOk.fact (ok_sliceX (l := 0) (h := 32) (m := 32) Tryz.underlying31 info5 rfl (.inr ⟨rfl, rfl⟩) (.inr ⟨rfl, rfl, rfl⟩) (.inr ⟨rfl, rfl⟩) (by decide) (by decide) (by decide) (.inl (by decide))) (d := byt t) (s := 1000001) (by decide) rfl (slice_byt t ht.symm (by decide) (by decide) (rec_tag ht))) ?_
 refine RS (ok_build [bytes [x] 1, bytes (nonceL s c) 12, byt t] Tryz.underlying103 info22 rfl (by decide) (by decide) rfl ⟨rfl, rfl, rfl, rfl, rfl, rfl, trivial⟩ (fun d hd w x h => by simp only [List.mem_cons, List.not_mem_nil, or_false] at hd; rcases hd with rfl | rfl | rfl <;> first | exact list_one h | exact lst_one h)) ?_
 refine RN ?_
 refine ⟨_, _, eff_nameF (c := 45) (by simp [recL, nonceL_length, ht]) (n := 20) (d := 19) (k := 1000019) rfl rfl (fun B' => (ok_callB (Join_fnB [[x], nonceL s c, t] (by simp) (by simp [nonceL_length, ht])) (fun _ _ => fresh_mono _ _) (Args.cons rfl (list_lst3 (le_byt _ 1) (le_byt _ 12) (Le.refl _)) Args.nil)).le (d' := fresh _ 5 ((recL x s c t).map byteV) 45) (Le.eq (by simp [recL, nonceL_length, ht]))) (by decide) (by decide), fun b19 hb19 => ?_⟩
 have hBb19 := hb19.1
 have hlt_b1_b19 : b1 < b19 := hb19.2 1000001 _ _ _ rfl
 refine TL ?_
 refine RVN 2 rfl ?_
 refine A.ret ?_
 first | exact End.newTT (kg := 1000019) rfl rfl rfl rfl hBb19 rfl rfl | exact End.ret2V rfl rfl rfl
theorem PutCell_fnB (t : List UInt8) (ht : t.length = 32) (e m : Nat) (he : e < 18446744073709551616) (hm : m < 18446744073709551616)  : FnB Tryz.prog 32 [.v (aggV (celV t e m))] (fun B => fresh B 5 ((celL t e m).map byteV) 48) := by
 refine FnB.of Tryz.func32 rfl (by kernel_rfl) Tryz.ntmps32 (by simp) (fun w => [(0, .v (aggV (celV t e m)))]) (fun w => (Start.v rfl Start.nil)) fun w₀ => ?_
 refine GS ?_
 refine TN 0 ?_
 refine RN ?_
 refine ZB 1000001 rfl fun b1 ⟨hBb1, hb1⟩ => ?_
 refine TL ?_
 refine RVN 1 rfl ?_
 refine GTD ?_
 refine RS (ok_field field75_0 (by decide) rfl) ?_
 refine RS (OpOk.fact (ok_sliceX (l := 0) (h := 32) (m := 32) Tryz.underlying31 info5 rfl (.inr ⟨rfl, rfl⟩) (.inr ⟨rfl, rfl, rfl⟩) (.inr ⟨rfl, rfl⟩) (by decide) (by decide) (by decide) (.inl (by decide))) (d := byt t) (s := 1000001) (by decide) rfl (slice_byt t ht.symm (by decide) (by decide) (cel_root ht e m))) ?_
 refine RS (ok_field field75_1 (by decide) rfl) ?_
 refine RS (ok_loadV (s := 1000001) (by decide) Tryz.underlying39 rfl rfl rfl (cel_e ht e m)) ?_
 refine RS (ok_call ((Put64_fn ((e : Nat) : Int) (by omega) (by omega)).le (d' := bytes (be 8 e) 8) (Le.refl _)) (A1 rfl)) ?_
 refine RS (ok_field field75_2 (by decide) rfl) ?_
 refine RS (ok_loadV (s := 1000001) (by decide) Tryz.underlying39 rfl rfl rfl (cel_m ht e m)) ?_
 refine RS (ok_call ((Put64_fn ((m : Nat) : Int) (by omega) (by omega)).le (d' := bytes (be 8 m) 8) (Le.refl _)) (A1 rfl)) ?_
 refine RS (ok_build [byt t, bytes (be 8 e) 8, bytes (be 8 m) 8] Tryz.underlying103 info22 rfl (by decide) (by decide) rfl ⟨rfl, rfl, rfl, rfl, rfl, rfl, trivial⟩ (fun d hd w x h => by simp only [List.mem_cons, List.not_mem_nil, or_false] at hd; rcases hd with rfl | rfl | rfl <;> first | exact list_one h | exact lst_one h)) ?_
 refine RS ((ok_callB (Join_fnB [t, be 8 e, be 8 m] (by simp) (by simp [be_length, ht])) (fun _ _ => fresh_mono _ _) (Args.cons rfl (list_lst3 (Le.refl _) (le_byt _ 8) (le_byt _ 8)) Args.nil)).le (d' := fresh w₀.heap.size 5 ((celL t e m).map byteV) 48) (Le.eq (by simp [celL, be_length, ht]))) ?_
 refine RVN 1 rfl ?_
 refine A.ret ?_
 exact ER rfl rfl
theorem csz_lo (l : List UInt8) (n : Nat) (h : l.length < n) : Fn Tryz.prog 66 [byt l, .v (nI n)] (.v (.int .i64 6)) := by
 refine Fn.of Tryz.func66 rfl (by kernel_rfl) Tryz.ntmps66 (by simp) (fun w => [(0, old w.heap.size (byt l)), (1, .v (nI n))]) (fun w => (Start.old rfl (Start.v rfl Start.nil))) fun w₀ => ?_
 refine GV rfl ?_
 refine QSB ?_
 refine GT ?_
 refine RM rfl ?_
 refine RS (ok_lenB Tryz.underlying22 rfl LA) ?_
 refine RV 2 rfl ?_
 refine RZ (.bool true) (by simp; omega) ?_
 refine RVN 1 rfl ?_
 refine A.yes rfl ?_
 refine GV rfl ?_
 refine A.ret ?_
 refine End.ret_block ?_
 refine End.ret_then ?_
 exact ER rfl rfl
theorem csz_hi (l : List UInt8) (n : Nat) (h : n < l.length) : Fn Tryz.prog 66 [byt l, .v (nI n)] (.v (.int .i64 5)) := by
 refine Fn.of Tryz.func66 rfl (by kernel_rfl) Tryz.ntmps66 (by simp) (fun w => [(0, old w.heap.size (byt l)), (1, .v (nI n))]) (fun w => (Start.old rfl (Start.v rfl Start.nil))) fun w₀ => ?_
 refine GV rfl ?_
 refine QSB ?_
 refine GT ?_
 refine RM rfl ?_
 refine RS (ok_lenB Tryz.underlying22 rfl LA) ?_
 refine RV 2 rfl ?_
 refine RZ (.bool false) (by simp; omega) ?_
 refine RVN 1 rfl ?_
 refine A.no rfl ?_
 refine GT ?_
 refine RM rfl ?_
 refine RS (ok_lenB Tryz.underlying22 rfl LA) ?_
 refine RV 2 rfl ?_
 refine RZ (.bool true) (by simp; omega) ?_
 refine RVN 1 rfl ?_
 refine A.yes rfl ?_
 refine GV rfl ?_
 refine A.ret ?_
 refine End.ret_block ?_
 refine End.ret_then ?_
 exact ER rfl rfl
theorem csz_eq (l : List UInt8) (n : Nat) (h : l.length = n) : Fn Tryz.prog 66 [byt l, .v (nI n)] (.v (.int .i64 0)) := by
 refine Fn.of Tryz.func66 rfl (by kernel_rfl) Tryz.ntmps66 (by simp) (fun w => [(0, old w.heap.size (byt l)), (1, .v (nI n))]) (fun w => (Start.old rfl (Start.v rfl Start.nil))) fun w₀ => ?_
 refine GV rfl ?_
 refine QSB ?_
 refine GT ?_
 refine RM rfl ?_
 refine RS (ok_lenB Tryz.underlying22 rfl LA) ?_
 refine RV 2 rfl ?_
 refine RZ (.bool false) (by simp; omega) ?_
 refine RVN 1 rfl ?_
 refine A.no rfl ?_
 refine GT ?_
 refine RM rfl ?_
 refine RS (ok_lenB Tryz.underlying22 rfl LA) ?_
 refine RV 2 rfl ?_
 refine RZ (.bool false) (by simp; omega) ?_
 refine RVN 1 rfl ?_
 refine A.no rfl ?_
 refine A.skip ?_
 refine End.normal_block ?_
 refine EN ?_
 refine GV rfl ?_
 refine A.ret ?_
 exact ER rfl rfl
theorem checkSize_fn (l : List UInt8) (n : Nat) : Fn Tryz.prog 66 [byt l, .v (nI n)] (.v (.int .i64 (szE l.length n))) := by
 by_cases h : l.length < n
 ·rw [szE_lo h]; exact csz_lo l n h
 by_cases h2 : n < l.length
 ·rw [szE_hi h2]; exact csz_hi l n h2
 ·rw [szE_eq (by omega)]; exact csz_eq l n (by omega)
theorem front_fnB (A₀ : Option Addr) (n m : Nat) : FnB Tryz.prog 67 [.v (.slice A₀ n m)] (fun B => newD B 173 (fun b => ptr b) [.slice A₀ n m]) := by
 refine FnB.of Tryz.func67 rfl (by kernel_rfl) Tryz.ntmps67 (by simp) (fun w => [(0, .v (.slice A₀ n m))]) (fun w => (Start.v rfl Start.nil)) fun w₀ => ?_
 refine GV rfl ?_
 refine GS ?_
 refine TN 2 ?_
 refine RM rfl ?_
 refine RS (ok_litS [(0, .slice A₀ n m)] [.slice A₀ n m] ⟨rfl, rfl, trivial⟩ (buildS_ A₀ n m)) ?_
 refine RN ?_
 refine ZB 1000005 rfl fun b5 ⟨hBb5, hb5⟩ => ?_
 refine TL ?_
 refine RVN 1 rfl ?_
 refine A.ret ?_
 exact End.newF (kg := 1000005) rfl rfl rfl hBb5 rfl rfl
theorem cut_fnWR (g n m k : Nat) (A₀ : Option Addr) (hk : k ≤ n) (hn : n ≤ m) (h0 : 0 < m) : FnWR Tryz.prog 68 [] 173 g [.slice A₀ n m] [.slice (cutA m k A₀) (n - k) (m - k)] ([ptr g].map D.v ++ [.v (nI k)]) (.slice A₀ k m) := by
 refine FnWR.of (us := [ptr g, (nI k)]) (n := 22) (kb := 1000080) (kw := 1000081) Tryz.func68 rfl (by kernel_rfl) Tryz.ntmps68 (by simp) (by decide) (fun p hp => by cases hp) (by decide) (by decide) [(0, .v (ptr g)), (1, .v (nI k))]
  (fun p hp => by simp only [List.mem_cons, List.not_mem_nil, or_false] at hp; rcases hp with rfl | rfl <;> exact ⟨_, rfl, rfl⟩) fun w₀ w₁ hw => ?_
 have hBg : w₀.heap.size ≤ g := Nat.le_of_eq hw
 refine GV rfl ?_
 refine GT ?_
 refine RM rfl ?_
 refine RS (ok_nilCheck rfl) ?_
 refine RS (ok_field field173_0 (by decide) rfl) ?_
 refine RLV 1000080 Tryz.underlying22 rfl rfl rfl ?_
 refine RM rfl ?_
 refine RS (ok_sliceHi k Tryz.underlying22 info5 rfl rfl (by omega) h0) ?_
 refine RVN 1 rfl ?_
 refine GS ?_
 refine TF 9 ?_
 refine RV 2 rfl ?_
 refine RS (ok_nilCheck rfl) ?_
 refine RS (ok_field field173_0 (by decide) rfl) ?_
 refine RLV 1000080 Tryz.underlying22 rfl rfl rfl ?_
 refine RM rfl ?_
 refine RS (ok_sliceLo k Tryz.underlying22 info5 rfl rfl hk hn) ?_
 refine RS (ok_nilCheck rfl) ?_
 refine RS (ok_field field173_0 (by decide) rfl) ?_
 refine RN ?_
 refine ⟨_, eff_storeS (n := 22) (s := 1000080) info22 rfl rfl rfl hBg rfl (by simp) (LV 5 rfl (LeftS.cons (t := 1000081) rfl (Surv.wrote) LN)), ?_⟩
 refine TL ?_
 refine RN ?_
 refine GV rfl ?_
 refine A.ret ?_
 exact End.wroteR (kb := 1000080) (kw := 1000081) (.inl rfl) rfl rfl rfl rfl rfl
theorem Eff.upM {P : Program} {n B : Nat} {ops : Array Oper} {o : Oper} {E E' : Env} {t k B' : Nat} {v : Value} {d : D} (ht : E'.look t = some (.v v)) (hk : E'.look k = some (old B' (valM v d))) (h : Eff P n B ops o E E') : Eff P n B ops o E ((t, old B' d) :: E') :=
 fun κ a w K Q hs hK => h κ a w K Q hs fun a' w' hb hs' => hK a' w' hb (hs'.push (d := old B' d) (by
  have h1 := hs'.of t _ ht
  have h2 := hs'.of k _ hk
  rw [show a'.tmps.getD t undef = v from h1]
  exact h2))
set_option maxHeartbeats 1000000 in
theorem GetRecord_ok (l : List UInt8) (h : l.length = 45) (hb : ¬ BadR (pX l) (gS (pN l)) (gC (pN l)) (pT l)) : Fn Tryz.prog 26 [byt l] (.v (.tuple #[aggV (recV (pX l) (gS (pN l)) (gC (pN l)) (pT l)), .int .i64 0])) := by
 refine Fn.of Tryz.func26 rfl (by kernel_rfl) Tryz.ntmps26 (by simp) (fun w => [(0, old w.heap.size (byt l))]) (fun w => (Start.old rfl Start.nil)) fun w₀ => ?_
 refine A.nameC (t := 0) (k := 1000200) rfl fun A₀ m₀ hm1 hm2 => ?_
 refine A.cut (k₀ := 1000200) (k₁ := 1000211) (k₂ := 1000201) (i := 1) rfl (by omega) ?_
 refine A.cut (k₀ := 1000201) (k₁ := 1000212) (k₂ := 1000202) (i := 12) rfl (by omega) ?_
 refine A.cut (k₀ := 1000202) (k₁ := 1000213) (k₂ := 1000203) (i := 32) rfl (by omega) ?_
 refine GS ?_
 refine TN 0 ?_
 refine RN ?_
 refine ZN 1000002 zero64 fun b2 ⟨hBb2, hb2⟩ => ?_
 refine TL ?_
 refine RVN 1 rfl ?_
 refine QS ?_
 refine GT ?_
 refine RS (OpOk.valO (ok_move rfl) (k := 1000200) (by decide) rfl) ?_
 refine RS (ok_call (checkSize_fn l 45) (Args.cons rfl (Le.old _ _) (A1 rfl))) ?_; refine RZ (.int .i64 0) (congrArg (Value.int .i64) (szE_eq h)) ?_
 refine RVN 1 rfl ?_
 refine GT ?_
 refine RV 2 rfl ?_
 refine RZ (.bool false) (by rfl) ?_
 refine RN ?_
 refine A.no rfl ?_
 refine QK ?_
 refine GS ?_
 refine TN 1 ?_
 refine RVN 1 rfl ?_
 refine ZM 1000015 (fun B' => ok_callB (front_fnB A₀ l.length m₀) newD_mono (A1 rfl)) rfl fun b15 ⟨hBb15, hb15⟩ => ?_
 have hlt_b2_b15 := hb15 1000002 b2 _ _ rfl
 refine TL ?_
 refine RS (ok_makeFuncM rfl) ?_
 refine RVN 1 rfl ?_
 refine GS ?_
 refine TN 0 ?_
 refine RN ?_
 refine ZN 1000006 zero64 fun b6 ⟨hBb6, hb6⟩ => ?_
 have hlt_b2_b6 := hb6 1000002 b2 _ _ rfl
 refine TL ?_
 refine RN ?_
 refine GS ?_
 refine TF 1 ?_
 refine RVN 1 rfl ?_
 refine ⟨_, Eff.upM (t := 18) (k := 1000211) rfl rfl (eff_callBR (n := 41) (s := 1000015) (us := [ptr b15]) (ds := [.v (nI ((1 : Nat)))]) (cut_fnWR b15 (l.length) (m₀) 1 (A₀) (by omega) (by omega) (by omega)) (fun p hp => by cases hp) rfl (A1 rfl) hBb15 rfl (by decide) (by decide) (LV 2 rfl (LV 5 rfl (LV 6 rfl (LT 1000002 rfl (LT 1000006 rfl (LO 1000200 rfl (LO 1000201 rfl (LO 1000202 rfl (LO 1000203 rfl (LO 1000211 rfl (LO 1000212 rfl (LO 1000213 rfl LN))))))))))))), ?_⟩
 refine TF 5 ?_
 refine RS (ok_index (d := byteD (pX l)) Tryz.underlying22 info5 rfl LA rfl (by decide) (by cases l with | nil => simp at h | cons a l => rfl)) ?_
 refine RS (ok_load Tryz.underlying5 rfl rfl) ?_
 refine RS (ok_field field64_0 (by decide) rfl) ?_
 refine RN ?_
 refine ⟨_, eff_storeS (n := 41) (s := 1000006) info5 rfl rfl rfl hBb6 rfl (by simp) (LB 1000002 rfl (LT 1000015 rfl (LO 1000200 rfl (LO 1000201 rfl (LO 1000202 rfl (LO 1000203 rfl (LO 1000211 rfl (LO 1000212 rfl (LO 1000213 rfl (LW [2, 5, 6] rfl)))))))))), ?_⟩
 refine TL ?_
 refine RN ?_
 refine A.sub (KC 2 rfl (KC 5 rfl (KC 6 rfl (KC 1000002 rfl (KE 1000006 rfl (show _ = blk b6 64 (recV (pX l) 0 0 zD) from by rfl) (KC 1000015 rfl (KC 1000200 rfl (KC 1000201 rfl (KC 1000202 rfl (KC 1000203 rfl (KC 1000211 rfl (KC 1000212 rfl (KC 1000213 rfl KN))))))))))))) ?_
 refine GS ?_
 refine TF 1 ?_
 refine RVN 1 rfl ?_
 refine ⟨_, Eff.upM (t := 24) (k := 1000212) rfl rfl (eff_callBR (n := 41) (s := 1000015) (us := [ptr b15]) (ds := [.v (nI ((12 : Nat)))]) (cut_fnWR b15 (l.length - 1) (m₀ - 1) 12 (cutA (m₀) 1 (A₀)) (by omega) (by omega) (by omega)) (fun p hp => by cases hp) rfl (A1 rfl) hBb15 rfl (by decide) (by decide) (LV 2 rfl (LV 5 rfl (LV 6 rfl (LT 1000002 rfl (LT 1000006 rfl (LO 1000200 rfl (LO 1000201 rfl (LO 1000202 rfl (LO 1000203 rfl (LO 1000211 rfl (LO 1000212 rfl (LO 1000213 rfl LN))))))))))))), ?_⟩
 refine TF 7 ?_
 refine RS (ok_call (Get_fn (pN l)) (Args.cons rfl LA Args.nil)) ?_
 refine RM rfl ?_
 refine RS (ok_extract rfl rfl) ?_
 refine RS (ok_extract rfl rfl) ?_
 refine RS (ok_field field64_1 (by decide) rfl) ?_
 refine RN ?_
 refine ⟨_, eff_storeP (n := 41) (s := 1000006) (size41.of (rfl)) rfl rfl (rfl) hBb6 rfl (by rw [rec_len _ _ _ (t := zD) rfl]; exact Nat.le_of_ble_eq_true rfl) (LB 1000002 rfl (LT 1000015 rfl (LO 1000200 rfl (LO 1000201 rfl (LO 1000202 rfl (LO 1000203 rfl (LO 1000211 rfl (LO 1000212 rfl (LO 1000213 rfl (LW [2, 5, 6] rfl)))))))))), ?_⟩
 refine TL ?_
 refine RN ?_
 refine A.sub (KC 2 rfl (KC 5 rfl (KC 6 rfl (KC 1000002 rfl (KE 1000006 rfl (show _ = blk b6 64 (recV (pX l) (gS (pN l)) (gC (pN l)) zD) from by rfl) (KC 1000015 rfl (KC 1000200 rfl (KC 1000201 rfl (KC 1000202 rfl (KC 1000203 rfl (KC 1000211 rfl (KC 1000212 rfl (KC 1000213 rfl KN))))))))))))) ?_
 refine GS ?_
 refine TF 1 ?_
 refine RVN 1 rfl ?_
 refine ⟨_, Eff.upM (t := 30) (k := 1000213) rfl rfl (eff_callBR (n := 41) (s := 1000015) (us := [ptr b15]) (ds := [.v (nI ((32 : Nat)))]) (cut_fnWR b15 (l.length - 1 - 12) (m₀ - 1 - 12) 32 (cutA (m₀ - 1) 12 (cutA (m₀) 1 (A₀))) (by omega) (by omega) (by omega)) (fun p hp => by cases hp) rfl (A1 rfl) hBb15 rfl (by decide) (by decide) (LV 2 rfl (LV 6 rfl (LT 1000002 rfl (LT 1000006 rfl (LO 1000200 rfl (LO 1000201 rfl (LO 1000202 rfl (LO 1000203 rfl (LO 1000211 rfl (LO 1000212 rfl (LO 1000213 rfl LN)))))))))))), ?_⟩
 refine TF 5 ?_
 refine RS (ok_arrayB (pT l) (by rw [pT_len h]; exact Tryz.underlying31) rfl LA (by rw [pT_len h]; decide)) ?_
 refine RS (ok_loadB Tryz.underlying31 rfl (size31.of (pT_len h)) rfl) ?_
 refine RS (ok_field field64_2 (by decide) rfl) ?_
 refine RN ?_
 refine ⟨_, eff_storeP (n := 41) (s := 1000006) (size31.of (by rw [List.length_map, pT_len h])) rfl rfl (all_byte _) hBb6 rfl (by simp [recV, zD, pT_len h]) (LB 1000002 rfl (LT 1000015 rfl (LO 1000200 rfl (LO 1000201 rfl (LO 1000202 rfl (LO 1000203 rfl (LO 1000211 rfl (LO 1000212 rfl (LO 1000213 rfl (LW [2, 6] rfl)))))))))), ?_⟩
 refine TL ?_
 refine RN ?_
 refine A.sub (KC 2 rfl (KC 6 rfl (KC 1000002 rfl (KE 1000006 rfl (show _ = blk b6 64 (recV (pX l) (gS (pN l)) (gC (pN l)) (pT l)) from congrArg _ (rec_set3 _ _ _ (pT_len h) (t' := zD) rfl)) (KC 1000015 rfl (KC 1000200 rfl (KC 1000201 rfl (KC 1000202 rfl (KC 1000203 rfl (KC 1000211 rfl (KC 1000212 rfl (KC 1000213 rfl KN)))))))))))) ?_
 refine QS ?_
 refine GT ?_
 refine RS (ok_loadA (s := 1000006) (by decide) Tryz.underlying64 rfl (size64.of (rec_len _ _ _ (pT_len h))) rfl rfl) ?_
 refine RS (ok_call (CheckR_fn (pX l) (gS (pN l)) (gC (pN l)) (pT l) (pT_len h)) (A1 rfl)) ?_; refine RZ (.int .i64 0) (congrArg (Value.int .i64) (ckR_ok hb)) ?_
 refine RVN 1 rfl ?_
 refine GT ?_
 refine RV 2 rfl ?_
 refine RZ (.bool false) (by rfl) ?_
 refine RN ?_
 refine A.no rfl ?_
 refine QK ?_
 refine GS ?_
 refine TF 1 ?_
 refine RS (ok_loadA (s := 1000006) (by decide) Tryz.underlying64 rfl (size64.of (rec_len _ _ _ (pT_len h))) rfl rfl) ?_
 refine RN ?_
 refine ⟨_, eff_storeA (n := 41) (s := 1000002) (size64.of (rec_len _ _ _ (pT_len h))) rfl rfl (rec_one _ _ _ _) hBb2 rfl (by rw [rec_len _ _ _ (pT_len h)]; rfl) (LV 2 rfl (LB 1000006 rfl (LT 1000015 rfl (LO 1000200 rfl (LO 1000201 rfl (LO 1000202 rfl (LO 1000203 rfl (LO 1000211 rfl (LO 1000212 rfl (LO 1000213 rfl LN)))))))))), ?_⟩
 refine TL ?_
 refine RVN 1 rfl ?_
 refine A.ret ?_
 exact End.cellV (s := 1000002) rfl Tryz.underlying64 rfl (size64.of (rec_len _ _ _ (pT_len h))) rfl rfl rfl
theorem GetRecord_put (x : UInt8) (s c : Nat) (t : List UInt8) (ht : t.length = 32) (hs : s < 4294967296) (hc : c < 18446744073709551616) (hb : ¬ BadR x s c t) : Fn Tryz.prog 26 [byt (recL x s c t)] (.v (.tuple #[aggV (recV x s c t), .int .i64 0])) := by
 obtain ⟨h1, h2, h3, h4⟩ := rec_front (x := x) ht hs hc
 have h := GetRecord_ok (recL x s c t) (recL_len x s c ht) (by rw [h1, h2, h3, h4]; exact hb)
 rwa [h1, h2, h3, h4] at h
set_option maxHeartbeats 1000000 in
theorem GetCell_ok (l : List UInt8) (h : l.length = 48) : Fn Tryz.prog 33 [byt l] (.v (.tuple #[aggV (celV (cD l) (cE l) (cM l)), .int .i64 0])) := by
 refine Fn.of Tryz.func33 rfl (by kernel_rfl) Tryz.ntmps33 (by simp) (fun w => [(0, old w.heap.size (byt l))]) (fun w => (Start.old rfl Start.nil)) fun w₀ => ?_
 refine A.nameC (t := 0) (k := 1000200) rfl fun A₀ m₀ hm1 hm2 => ?_
 refine A.cut (k₀ := 1000200) (k₁ := 1000211) (k₂ := 1000201) (i := 32) rfl (by omega) ?_
 refine A.cut (k₀ := 1000201) (k₁ := 1000212) (k₂ := 1000202) (i := 8) rfl (by omega) ?_
 refine A.cut (k₀ := 1000202) (k₁ := 1000213) (k₂ := 1000203) (i := 8) rfl (by omega) ?_
 refine GS ?_
 refine TN 0 ?_
 refine RN ?_
 refine ZN 1000002 zero75 fun b2 ⟨hBb2, hb2⟩ => ?_
 refine TL ?_
 refine RVN 1 rfl ?_
 refine QS ?_
 refine GT ?_
 refine RS (OpOk.valO (ok_move rfl) (k := 1000200) (by decide) rfl) ?_
 refine RS (ok_call (checkSize_fn l 48) (Args.cons rfl (Le.old _ _) (A1 rfl))) ?_; refine RZ (.int .i64 0) (congrArg (Value.int .i64) (szE_eq h)) ?_
 refine RVN 1 rfl ?_
 refine GT ?_
 refine RV 2 rfl ?_
 refine RZ (.bool false) (by rfl) ?_
 refine RN ?_
 refine A.no rfl ?_
 refine QK ?_
 refine GS ?_
 refine TN 1 ?_
 refine RVN 1 rfl ?_
 refine ZM 1000014 (fun B' => ok_callB (front_fnB A₀ l.length m₀) newD_mono (A1 rfl)) rfl fun b14 ⟨hBb14, hb14⟩ => ?_
 have hlt_b2_b14 := hb14 1000002 b2 _ _ rfl
 refine TL ?_
 refine RS (ok_makeFuncM rfl) ?_
 refine RVN 1 rfl ?_
 refine GS ?_
 refine TN 0 ?_
 refine RN ?_
 refine ZN 1000006 zero75 fun b6 ⟨hBb6, hb6⟩ => ?_
 have hlt_b2_b6 := hb6 1000002 b2 _ _ rfl
 refine TL ?_
 refine RN ?_
 refine GS ?_
 refine TF 1 ?_
 refine RVN 1 rfl ?_
 refine ⟨_, Eff.upM (t := 17) (k := 1000211) rfl rfl (eff_callBR (n := 36) (s := 1000014) (us := [ptr b14]) (ds := [.v (nI ((32 : Nat)))]) (cut_fnWR b14 (l.length) (m₀) 32 (A₀) (by omega) (by omega) (by omega)) (fun p hp => by cases hp) rfl (A1 rfl) hBb14 rfl (by decide) (by decide) (LV 2 rfl (LV 5 rfl (LV 6 rfl (LT 1000002 rfl (LT 1000006 rfl (LO 1000200 rfl (LO 1000201 rfl (LO 1000202 rfl (LO 1000203 rfl (LO 1000211 rfl (LO 1000212 rfl (LO 1000213 rfl LN))))))))))))), ?_⟩
 refine TF 5 ?_
 refine RS (ok_arrayB (cD l) (by rw [cD_len h]; exact Tryz.underlying31) rfl LA (by rw [cD_len h]; decide)) ?_
 refine RS (ok_loadB Tryz.underlying31 rfl (size31.of (cD_len h)) rfl) ?_
 refine RS (ok_field field75_0 (by decide) rfl) ?_
 refine RN ?_
 refine ⟨_, eff_storeP (n := 36) (s := 1000006) (size31.of (by rw [List.length_map, cD_len h])) rfl rfl (all_byte _) hBb6 rfl (by simp [cD_len h]) (LB 1000002 rfl (LT 1000014 rfl (LO 1000200 rfl (LO 1000201 rfl (LO 1000202 rfl (LO 1000203 rfl (LO 1000211 rfl (LO 1000212 rfl (LO 1000213 rfl (LW [2, 5, 6] rfl)))))))))), ?_⟩
 refine TL ?_
 refine RN ?_
 refine A.sub (KC 2 rfl (KC 5 rfl (KC 6 rfl (KC 1000002 rfl (KE 1000006 rfl (show _ = blk b6 75 (celV (cD l) 0 0) from congrArg _ (cel_set0 (t' := zD) 0 0 (cD_len h) rfl)) (KC 1000014 rfl (KC 1000200 rfl (KC 1000201 rfl (KC 1000202 rfl (KC 1000203 rfl (KC 1000211 rfl (KC 1000212 rfl (KC 1000213 rfl KN))))))))))))) ?_
 refine GS ?_
 refine TF 1 ?_
 refine RVN 1 rfl ?_
 refine ⟨_, Eff.upM (t := 23) (k := 1000212) rfl rfl (eff_callBR (n := 36) (s := 1000014) (us := [ptr b14]) (ds := [.v (nI ((8 : Nat)))]) (cut_fnWR b14 (l.length - 32) (m₀ - 32) 8 (cutA (m₀) 32 (A₀)) (by omega) (by omega) (by omega)) (fun p hp => by cases hp) rfl (A1 rfl) hBb14 rfl (by decide) (by decide) (LV 2 rfl (LV 5 rfl (LV 6 rfl (LT 1000002 rfl (LT 1000006 rfl (LO 1000200 rfl (LO 1000201 rfl (LO 1000202 rfl (LO 1000203 rfl (LO 1000211 rfl (LO 1000212 rfl (LO 1000213 rfl LN))))))))))))), ?_⟩
 refine TF 7 ?_
 refine RS (ok_call (Get64_fn ((l.drop 32).take 8)) (Args.cons rfl LA Args.nil)) ?_
 refine RM rfl ?_
 refine RS (ok_extract rfl rfl) ?_; refine RZ (nQ (cE l)) (congrArg (Value.int .u64) (getV_nat _ 8).symm) ?_
 refine RS (ok_extract rfl rfl) ?_
 refine RS (ok_field field75_1 (by decide) rfl) ?_
 refine RN ?_
 refine ⟨_, eff_storeS (n := 36) (s := 1000006) info39 rfl rfl rfl hBb6 rfl (by rw [cel_len (cD_len h)]; decide) (LB 1000002 rfl (LT 1000014 rfl (LO 1000200 rfl (LO 1000201 rfl (LO 1000202 rfl (LO 1000203 rfl (LO 1000211 rfl (LO 1000212 rfl (LO 1000213 rfl (LW [2, 5, 6] rfl)))))))))), ?_⟩
 refine TL ?_
 refine RN ?_
 refine A.sub (KC 2 rfl (KC 5 rfl (KC 6 rfl (KC 1000002 rfl (KE 1000006 rfl (show _ = blk b6 75 (celV (cD l) (cE l) 0) from congrArg _ (cel_set32 _ _ _ (cD_len h))) (KC 1000014 rfl (KC 1000200 rfl (KC 1000201 rfl (KC 1000202 rfl (KC 1000203 rfl (KC 1000211 rfl (KC 1000212 rfl (KC 1000213 rfl KN))))))))))))) ?_
 refine GS ?_
 refine TF 1 ?_
 refine RVN 1 rfl ?_
 refine ⟨_, Eff.upM (t := 30) (k := 1000213) rfl rfl (eff_callBR (n := 36) (s := 1000014) (us := [ptr b14]) (ds := [.v (nI ((8 : Nat)))]) (cut_fnWR b14 (l.length - 32 - 8) (m₀ - 32 - 8) 8 (cutA (m₀ - 32) 8 (cutA (m₀) 32 (A₀))) (by omega) (by omega) (by omega)) (fun p hp => by cases hp) rfl (A1 rfl) hBb14 rfl (by decide) (by decide) (LV 2 rfl (LV 6 rfl (LT 1000002 rfl (LT 1000006 rfl (LO 1000200 rfl (LO 1000201 rfl (LO 1000202 rfl (LO 1000203 rfl (LO 1000211 rfl (LO 1000212 rfl (LO 1000213 rfl LN)))))))))))), ?_⟩
 refine TF 7 ?_
 refine RS (ok_call (Get64_fn (((l.drop 32).drop 8).take 8)) (Args.cons rfl LA Args.nil)) ?_
 refine RM rfl ?_
 refine RS (ok_extract rfl rfl) ?_; refine RZ (nQ (cM l)) (congrArg (Value.int .u64) (getV_nat _ 8).symm) ?_
 refine RS (ok_extract rfl rfl) ?_
 refine RS (ok_field field75_2 (by decide) rfl) ?_
 refine RN ?_
 refine ⟨_, eff_storeS (n := 36) (s := 1000006) info39 rfl rfl rfl hBb6 rfl (by rw [cel_len (cD_len h)]; decide) (LB 1000002 rfl (LT 1000014 rfl (LO 1000200 rfl (LO 1000201 rfl (LO 1000202 rfl (LO 1000203 rfl (LO 1000211 rfl (LO 1000212 rfl (LO 1000213 rfl (LW [2, 6] rfl)))))))))), ?_⟩
 refine TL ?_
 refine RN ?_
 refine A.sub (KC 2 rfl (KC 6 rfl (KC 1000002 rfl (KE 1000006 rfl (show _ = blk b6 75 (celV (cD l) (cE l) (cM l)) from congrArg _ (cel_set33 _ _ _ (cD_len h))) (KC 1000014 rfl (KC 1000200 rfl (KC 1000201 rfl (KC 1000202 rfl (KC 1000203 rfl (KC 1000211 rfl (KC 1000212 rfl (KC 1000213 rfl KN)))))))))))) ?_
 refine GS ?_
 refine TF 1 ?_
 refine RS (ok_loadA (s := 1000006) (by decide) Tryz.underlying75 rfl (size75.of (cel_len (cD_len h) _ _)) rfl rfl) ?_
 refine RN ?_
 refine ⟨_, eff_storeA (n := 36) (s := 1000002) (size75.of (cel_len (cD_len h) _ _)) rfl rfl (cel_one _ _ _) hBb2 rfl (by rw [cel_len (cD_len h)]; rfl) (LV 2 rfl (LB 1000006 rfl (LT 1000014 rfl (LO 1000200 rfl (LO 1000201 rfl (LO 1000202 rfl (LO 1000203 rfl (LO 1000211 rfl (LO 1000212 rfl (LO 1000213 rfl LN)))))))))), ?_⟩
 refine TL ?_
 refine RVN 1 rfl ?_
 refine A.ret ?_
 exact End.cellV (s := 1000002) rfl Tryz.underlying75 rfl (size75.of (cel_len (cD_len h) _ _)) rfl rfl rfl
theorem GetCell_put (t : List UInt8) (ht : t.length = 32) (e m : Nat) (he : e < 18446744073709551616) (hm : m < 18446744073709551616) : Fn Tryz.prog 33 [byt (celL t e m)] (.v (.tuple #[aggV (celV t e m), .int .i64 0])) := by
 obtain ⟨h1, h2, h3⟩ := cel_front ht he hm
 have h := GetCell_ok (celL t e m) (celL_len ht e m)
 rwa [h1, h2, h3] at h
end Go.Proofs.YtffiflfjlemggaaGreatDoor
namespace Go.Proofs
open Go.Shelf
def Tryz.sortInt_ren : Go.Shelf.Ren := ⟨fun | 6 => 114 | 15 => 123 | 14 => 122 | 28 => 134 | 29 => 135 | 20 => 126 | 21 => 127 | 22 => 128 | 23 => 129 | 24 => 130 | 25 => 131 | 26 => 132 | 27 => 133 | 46 => 137 | 47 => 138 | 48 => 139 | 49 => 140 | 50 => 141 | 57 => 143 | n => n, fun | 22 => 153 | 24 => 3 | 25 => 186 | 3 => 3 | 39 => 138 | 0 => 0 | 53 => 38 | 55 => 39 | 4 => 4 | 46 => 200 | 45 => 199 | 50 => 204 | 5 => 5 | 9 => 9 | 66 => 208 | 70 => 212 | 76 => 214 | 77 => 215 | n => n, fun | n => n⟩
theorem Tryz.sortInt : Go.Proofs.SlLaysF.n6 Tryz.prog Tryz.sortInt_ren := {
  mixed := by kernel_rfl
  f6 := ⟨Tryz.f114.name, by decide, Tryz.func114.trans (congrArg some (by kernel_rfl))⟩
  f14 := ⟨Tryz.f122.name, by decide, Tryz.func122.trans (congrArg some (by kernel_rfl))⟩
  f15 := Tryz.func123.trans (congrArg some (by kernel_rfl))
  f20 := ⟨Tryz.f126.name, by decide, Tryz.func126.trans (congrArg some (by kernel_rfl))⟩
  f21 := ⟨Tryz.f127.name, by decide, Tryz.func127.trans (congrArg some (by kernel_rfl))⟩
  f22 := ⟨Tryz.f128.name, by decide, Tryz.func128.trans (congrArg some (by kernel_rfl))⟩
  f23 := ⟨Tryz.f129.name, by decide, Tryz.func129.trans (congrArg some (by kernel_rfl))⟩
  f24 := ⟨Tryz.f130.name, by decide, Tryz.func130.trans (congrArg some (by kernel_rfl))⟩
  f25 := ⟨Tryz.f131.name, by decide, Tryz.func131.trans (congrArg some (by kernel_rfl))⟩
  f26 := ⟨Tryz.f132.name, by decide, Tryz.func132.trans (congrArg some (by kernel_rfl))⟩
  f27 := ⟨Tryz.f133.name, by decide, Tryz.func133.trans (congrArg some (by kernel_rfl))⟩
  f28 := Tryz.func134.trans (congrArg some (by kernel_rfl))
  f29 := Tryz.func135.trans (congrArg some (by kernel_rfl))
  f46 := ⟨Tryz.f137.name, by decide, Tryz.func137.trans (congrArg some (by kernel_rfl))⟩
  f47 := Tryz.func138.trans (congrArg some (by kernel_rfl))
  f48 := Tryz.func139.trans (congrArg some (by kernel_rfl))
  f49 := ⟨Tryz.f140.name, by decide, Tryz.func140.trans (congrArg some (by kernel_rfl))⟩
  f50 := ⟨Tryz.f141.name, by decide, Tryz.func141.trans (congrArg some (by kernel_rfl))⟩
  f57 := ⟨Tryz.f143.name, by decide, Tryz.func143.trans (congrArg some (by kernel_rfl))⟩
  t0 := Tryz.underlying0
  a0 := Tryz.isAgg0
  z0 := Tryz.sizeOf0
  v0 := Tryz.zeroValue0
  t3 := Tryz.underlying3
  a3 := Tryz.isAgg3
  z3 := Tryz.sizeOf3
  v3 := Tryz.zeroValue3
  t4 := Tryz.underlying4
  a4 := Tryz.isAgg4
  z4 := Tryz.sizeOf4
  v4 := Tryz.zeroValue4
  t5 := Tryz.underlying5
  a5 := Tryz.isAgg5
  z5 := Tryz.sizeOf5
  v5 := Tryz.zeroValue5
  t9 := Tryz.underlying9
  a9 := Tryz.isAgg9
  z9 := Tryz.sizeOf9
  v9 := Tryz.zeroValue9
  t22 := Tryz.underlying153
  a22 := Tryz.isAgg153
  z22 := Tryz.sizeOf153
  v22 := Tryz.zeroValue153
  a24 := Tryz.isAgg3
  z24 := Tryz.sizeOf3
  t25 := Tryz.underlying186
  a25 := Tryz.isAgg186
  z25 := Tryz.sizeOf186
  v25 := Tryz.zeroValue186
  t39 := Tryz.underlying138
  a39 := Tryz.isAgg138
  z39 := Tryz.sizeOf138
  v39 := Tryz.zeroValue138
  t45 := Tryz.underlying199
  a45 := Tryz.isAgg199
  z45 := Tryz.sizeOf199
  v45 := Tryz.zeroValue199
  t46 := Tryz.underlying200
  a46 := Tryz.isAgg200
  z46 := Tryz.sizeOf200
  v46 := Tryz.zeroValue200
  t50 := Tryz.underlying204
  a50 := Tryz.isAgg204
  z50 := Tryz.sizeOf204
  v50 := Tryz.zeroValue204
  t53 := Tryz.underlying38
  a53 := Tryz.isAgg38
  z53 := Tryz.sizeOf38
  v53 := Tryz.zeroValue38
  t55 := Tryz.underlying39
  a55 := Tryz.isAgg39
  z55 := Tryz.sizeOf39
  v55 := Tryz.zeroValue39
  t66 := Tryz.underlying208
  a66 := Tryz.isAgg208
  z66 := Tryz.sizeOf208
  v66 := Tryz.zeroValue208
  t70 := Tryz.underlying212
  a70 := Tryz.isAgg212
  z70 := Tryz.sizeOf212
  v70 := Tryz.zeroValue212
  t76 := Tryz.underlying214
  a76 := Tryz.isAgg214
  z76 := Tryz.sizeOf214
  v76 := Tryz.zeroValue214
  t77 := Tryz.underlying215
  a77 := Tryz.isAgg215
  z77 := Tryz.sizeOf215
  v77 := Tryz.zeroValue215 }
end Go.Proofs
namespace Go.Proofs.YtffiflfjlemggaaGreatDoor
open Go Go.RowKit
variable {κ : Cx}
section
variable {P : Program} {B : Nat} {E : Env} {o : Oper}
end
section
variable {P : Program} {n : Nat} {w₀ : World} {E : Env}
end
/-! ### A row with room behind it, named where it is made -/
/-! ### Variables -/
theorem Surv.hd {B T g : Nat} {f : D} {rest : List Value} (h : Surv B T g f) : Surv B T g (hdD f rest) := fun w w' _ k ⟨v, h1, h2, h3⟩ => ⟨v, h1, h2, h w w' v k h3⟩
theorem Surv.valM {B T g : Nat} {f : D} {v : Value} (h : Surv B T g f) : Surv B T g (Go.Proofs.YtffiflfjlemggaaGreatDoor.valM v f) := fun w w' _ k hx => h w w' v k hx
section
variable {P : Program} {n B : Nat} {ops : Array Oper} {E : Env} {ty : TypeId} {pos : String} {after : Array Edge}
end
/-- Some value. -/
def anyD : D := .p (fun _ _ _ => True) (fun _ _ _ _ _ _ => trivial) (fun _ _ _ _ _ _ => trivial)
theorem Surv.any {B T g : Nat} : Surv B T g anyD := fun _ _ _ _ _ => trivial
end Go.Proofs.YtffiflfjlemggaaGreatDoor
namespace Go.Proofs.YtffiflfjlemggaaGreatDoor
open Go Go.RowKit
variable {κ : Cx}
def InfoP (P : Program) (e : TypeId) (z : Value) (sz nb : Nat) : Prop := (P.info? e).map (fun i => (i.zero, i.size, i.bytes)) = some (some z, sz, nb)
theorem InfoP.get {P : Program} {e : TypeId} {z : Value} {sz nb : Nat} (h : InfoP P e z sz nb) : ∃ i, P.info? e = some i ∧ i.zero = some z ∧ i.size = sz ∧ i.bytes = nb := by
  unfold InfoP at h
  cases hi : P.info? e with
  | none => rw [hi] at h; cases h
  | some i =>
    rw [hi] at h
    simp only [Option.map_some, Option.some.injEq, Prod.mk.injEq] at h
    exact ⟨i, rfl, h.1, h.2.1, h.2.2⟩
/-- The cells at an address. -/
def elemP (us : List Value) : D :=
  .p (fun B w x => ∃ ad : Addr, x = .pointer (some ad) ∧ ad.block < B ∧ ∀ (j : Nat) (u : Value), us[j]? = some u → w.cell? (ad.add j) = some u)
    (fun _ _ _ _ g ⟨ad, h1, h2, h3⟩ => ⟨ad, h1, h2, fun j u hu => (g.cell (by rw [block_of_add]; exact h2)).trans (h3 j u hu)⟩) (fun _ _ _ _ g ⟨ad, h1, h2, h3⟩ => ⟨ad, h1, by omega, h3⟩)
/-- A slice of one struct. -/
def oneP (us : List Value) : D :=
  .p (fun B w x => ∃ ad : Addr, x = .slice (some ad) 1 1 ∧ ad.block < B ∧ ∀ (j : Nat) (u : Value), us[j]? = some u → w.cell? (ad.add j) = some u)
    (fun _ _ _ _ g ⟨ad, h1, h2, h3⟩ => ⟨ad, h1, h2, fun j u hu => (g.cell (by rw [block_of_add]; exact h2)).trans (h3 j u hu)⟩) (fun _ _ _ _ g ⟨ad, h1, h2, h3⟩ => ⟨ad, h1, by omega, h3⟩)
section
variable {P : Program} {B : Nat} {E : Env} {dst : Option Tmp} {ty : TypeId} {pos : String} {after : Array Edge} {guard : Option (Nat × Bool)}
theorem ok_loadElemP {T : TypeId} {td : TypeDesc} {x : Operand} {us : List Value} (ht : P.underlying T = some td) (hp : (match td with | .struct _ | .array _ _ => true | _ => false) = true) (hsz : SizeIs P T us.length) (hx : E.at x = some (elemP us)) :
    OpOk P B ⟨dst, .load T x, ty, pos, after, guard⟩ E (.v (aggV us)) := fun ρ w _ _ hρ => by
  obtain ⟨ad, h1, _, h3⟩ := hρ x (by simp [Op.operands]) _ hx
  have hagg : (isAgg T).run P w = .ok true w := by
    unfold isAgg
    simp only [Sem.run_bind, run_underlying ht, Result.andThen_ok]
    cases td <;> simp_all
  have hc := run_loadCells_list (P := P) w ad us h3
  obtain ⟨info, hinfo, hs⟩ := hsz.get
  exact out_val (x := aggV us) (w' := w) (by simp [execOp, h1, Instr.loadAt, Instr.sureAddr, loadVar, hagg, sizeOf, typeInfo, hinfo, hs, hc, aggV]) ⟨Grow.refl w, rfl⟩
end
section
variable {P : Program} {n B : Nat} {ops : Array Oper} {E : Env} {ty : TypeId} {pos : String} {after : Array Edge}
/-! ### New variables in drawn regions -/
end
end Go.Proofs.YtffiflfjlemggaaGreatDoor
namespace Go.Proofs.YtffiflfjlemggaaGreatDoor
open Go Go.RowKit
set_option linter.unusedVariables false
set_option linter.unusedSimpArgs false
variable {κ : Cx}
/-- The cells that stand from an address on. -/
def memR (A : Option Addr) (xs : List Value) : D :=
  .p (fun B w _ => RowIn B w A xs) (fun _ _ _ _ g h j u hu => by obtain ⟨ad, h1, h2, h3⟩ := h j u hu; exact ⟨ad, h1, h2, (g.cell (by rw [block_of_add]; exact h2)).trans h3⟩)
    (fun _ _ _ _ g h j u hu => by obtain ⟨ad, h1, h2, h3⟩ := h j u hu; exact ⟨ad, h1, Nat.lt_of_lt_of_le h2 g, h3⟩)
/-- A slice of n elements whose cells read as xs. -/
def rowD (n : Nat) (xs : List Value) : D :=
  .p (fun B w x => ∃ A c, x = .slice A n c ∧ RowIn B w A xs) (fun _ _ _ _ g ⟨A, c, h1, h2⟩ => ⟨A, c, h1, D.OfB.keep (d := memR A xs) (x := undef) h2 g⟩) (fun _ _ _ _ g ⟨A, c, h1, h2⟩ => ⟨A, c, h1, D.OfB.up (d := memR A xs) (x := undef) h2 g⟩)
theorem blk_rowIn {B b : Nat} {w : World} {e : TypeId} {xs : List Value} (hb : b < B) (hh : w.heap[b]? = some (.cells xs.toArray e (0, 0))) : RowIn B w (some ⟨b, 0, none⟩) xs := fun j u hu => ⟨_, rfl, hb, by
  rw [show (⟨b, 0, none⟩ : Addr).add j = ⟨b, j, none⟩ from by unfold Addr.add; split <;> simp_all]
  simp [World.cell?, hh]; simpa using hu⟩
section
variable {P : Program} {n : Nat} {E : Env} {w₀ : World} {c : Code} {Q : Exit → Act → World → Prop}
theorem A.nameR {t k B' m : Nat} {xs : List Value} (ht : E.look t = some (old B' (rowD m xs))) (h : ∀ (A₀ : Option Addr) (q : Nat), A κ P w₀ n c ((t, .v (.slice A₀ m q)) :: (k, old B' (memR A₀ xs)) :: E) Q) : A κ P w₀ n c E Q := fun a w g hs => by
  obtain ⟨hB, A₀, q, h1, h2⟩ := hs.of t _ ht
  exact h A₀ q a w g ((hs.push (t := k) (d := old B' (memR A₀ xs)) ⟨hB, h2⟩).push (d := .v (.slice A₀ m q)) h1)
theorem A.nameHdR {t k B' m : Nat} {xs rest : List Value} (ht : E.look t = some (old B' (hdD (rowD m xs) rest))) (h : ∀ (A₀ : Option Addr) (q : Nat), A κ P w₀ n c ((t, .v (aggV (.slice A₀ m q :: rest))) :: (k, old B' (memR A₀ xs)) :: E) Q) : A κ P w₀ n c E Q := fun a w g hs => by
  obtain ⟨hB, v, h1, h2, A₀, q, h3, h4⟩ := hs.of t _ ht
  subst h3
  exact h A₀ q a w g ((hs.push (t := k) (d := old B' (memR A₀ xs)) ⟨hB, h4⟩).push (d := .v (aggV (.slice A₀ m q :: rest))) h2)
end
section
variable {P : Program} {B : Nat} {E : Env} {dst : Option Tmp} {ty : TypeId} {pos : String} {after : Array Edge} {guard : Option (Nat × Bool)}
theorem ok_indexR {t e : TypeId} {z : Value} {sz nb : Nat} {x i : Operand} {A₀ : Option Addr} {q k s B' : Nat} {xs : List Value} {ki : IntKind} (m : Nat) (ht : P.underlying t = some (.slice e)) (hs : InfoP P e z sz nb) (hx : E.at x = some (.v (.slice A₀ k q)))
    (hr : E.look s = some (old B' (memR A₀ xs))) (hsv : vbase ≤ s) (hi : E.at i = some (.v (.int ki (m : Int)))) (hm : m < k) (hlt : m * sz < xs.length) :
    OpOk P B ⟨dst, .indexAddr t x i, ty, pos, after, guard⟩ E (elemP ((xs.drop (m * sz)).take sz)) := fun ρ w _ hv hρ => by
  have h1 : ρ x = .slice A₀ k q := hρ x (by simp [Op.operands]) _ hx
  have hi' : ρ i = .int ki m := hρ i (by simp [Op.operands]) _ hi
  obtain ⟨hB, hrow⟩ := hv s _ hsv hr
  obtain ⟨info, hinfo, _, hsize, _⟩ := hs.get
  obtain ⟨ad, hA, hab, _⟩ := hrow (m * sz) _ (List.getElem?_eq_getElem hlt)
  subst hA
  refine out_val (x := .pointer (some (ad.add (m * sz)))) (w' := w) ?_ ⟨Grow.refl w, _, rfl, by rw [block_of_add]; omega, fun j u hu => ?_⟩
  · simp [execOp, h1, hi', Instr.indexAt, asIntOf, run_underlying ht, sizeOf, typeInfo, hinfo, hsize, hm]
  · rw [List.getElem?_take] at hu
    split at hu
    · rw [List.getElem?_drop] at hu
      obtain ⟨ad', hA', _, h4⟩ := hrow (m * sz + j) u hu
      injection hA' with hA'; subst hA'
      rw [add_of_add]; exact h4
    · cases hu
theorem ok_loadP1 {T : TypeId} {td : TypeDesc} {x : Operand} {u : Value} {us : List Value} (ht : P.underlying T = some td) (hp : (match td with | .struct _ | .array _ _ => false | _ => true) = true) (hx : E.at x = some (elemP (u :: us))) :
    OpOk P B ⟨dst, .load T x, ty, pos, after, guard⟩ E (.v u) := fun ρ w _ _ hρ => by
  obtain ⟨ad, h1, _, h3⟩ := hρ x (by simp [Op.operands]) _ hx
  have hagg : (isAgg T).run P w = .ok false w := by
    unfold isAgg
    simp only [Sem.run_bind, run_underlying ht, Result.andThen_ok]
    cases td <;> simp_all
  have hc : w.cell? ad = some u := by have := h3 0 u rfl; rwa [show ad.add 0 = ad from by simp [Addr.add]] at this
  exact out_val (x := u) (w' := w) (by simp [execOp, h1, Instr.loadAt, Instr.sureAddr, loadVar, hagg, hc]) ⟨Grow.refl w, rfl⟩
theorem fill_go (us : List Value) : ∀ (ds pre : List Value), ds.length = us.length → ((us.zipIdx pre.length).foldl (fun cs (x : Value × Nat) => cs.setIfInBounds (0 + x.2) x.1) (pre ++ ds).toArray) = (pre ++ us).toArray := by
  induction us with
  | nil => intro ds pre h; cases ds with
    | nil => rfl
    | cons => cases h
  | cons u us ih =>
    intro ds pre h
    cases ds with
    | nil => cases h
    | cons d ds =>
      rw [List.zipIdx_cons, List.foldl_cons]
      have := ih ds (pre ++ [u]) (by simpa using h)
      rw [show ((pre ++ d :: ds).toArray.setIfInBounds (0 + pre.length) u) = ((pre ++ [u]) ++ ds).toArray from by
        rw [Nat.zero_add, List.setIfInBounds_toArray, List.set_append_right _ _ (Nat.le_refl _)]; simp]
      rw [show pre.length + 1 = (pre ++ [u]).length from by simp, this]; simp
theorem ok_build1K {t e : TypeId} {z : Value} {nb sz : Nat} {x : Operand} {us : List Value} (ht : P.underlying t = some (.slice e)) (hs : InfoP P e z sz nb) (hz : z.cells.size = sz) (h0 : sz ≤ 65536) (hsz : 0 < sz) (hx : E.at x = some (.v (aggV us))) (hu : us.length = sz) :
    OpOk P B ⟨dst, .buildSlice t 1 #[(0, x)], ty, pos, after, guard⟩ E (oneP us) := fun ρ w _ _ hρ => by
  obtain ⟨i, hi, hzv, hsize, _⟩ := hs.get
  have h1 : ρ x = aggV us := hρ x (by simp [Op.operands]) _ hx
  have hfill : Instr.fill (fun j => some (j * i.size, i.size)) ((Array.range (1 * i.size)).map (z.cells[· % z.cells.size]!)) [(0, ρ x)] = some us.toArray := by
    have hlen : ((Array.range (1 * i.size)).map (z.cells[· % z.cells.size]!)).size = us.length := by simp [hsize, hu]
    rw [h1]
    have hc : (aggV us).cells = us.toArray := rfl
    unfold Instr.fill
    simp only [Nat.zero_mul]
    rw [hc, if_neg (by simp [hsize, hu])]
    have hg := fill_go us ((Array.range (1 * i.size)).map (z.cells[· % z.cells.size]!)).toList [] (by rw [Array.length_toList, hlen])
    simp only [List.nil_append, List.length_nil, Array.toArray_toList] at hg
    rw [show us.toArray.zipIdx.foldl (fun cs (x : Value × Nat) => match x with | (c, j) => cs.setIfInBounds (0 + j) c) ((Array.range (1 * i.size)).map (z.cells[· % z.cells.size]!)) = us.toArray from by
      rw [← Array.foldl_toList, Array.toList_zipIdx]; exact hg]
    rfl
  have hr := run_buildSlice (P := P) w t e 1 #[(0, ρ x)] us.toArray i z ht hi hzv (by rw [hsize]; omega) (by rw [hsize]; omega) (by simpa using hfill)
  refine out_val (x := .slice (some ⟨w.heap.size, 0, none⟩) 1 1) (w' := w.alloc (.cells us.toArray e)) (by simp [execOp, hr]) ⟨Grow.alloc w _, _, rfl, by simp, fun j u hu => ?_⟩
  have hh : (w.alloc (.cells us.toArray e)).heap[w.heap.size]? = some (.cells us.toArray e (0, 0)) := heap_alloc_new w _
  rw [show (⟨w.heap.size, 0, none⟩ : Addr).add j = ⟨w.heap.size, j, none⟩ from by unfold Addr.add; split <;> simp_all]
  simp only [World.cell?, hh]
  simpa using hu
theorem oneP_rowD {us : List Value} : Le (oneP us) (rowD 1 us) := fun _ _ _ ⟨ad, h1, h2, h3⟩ => ⟨some ad, 1, h1, fun j u hu => ⟨ad, rfl, h2, h3 j u hu⟩⟩
theorem ok_makeK {t e : TypeId} {x y : Operand} {z : Value} {nb sz : Nat} {k k' : IntKind} (c : Nat) (ht : P.underlying t = some (.slice e)) (hinfo : InfoP P e z sz nb) (hnb : nb ≤ 64)
    (hx : E.at x = some (.v (.int k (c : Int)))) (hy : E.at y = some (.v (.int k' (c : Int)))) (hc : c ≤ 4398046511104) :
    OpOk P B ⟨dst, .makeSlice t x y, ty, pos, after, guard⟩ E (newD B e (fun b => .slice (some ⟨b, 0, none⟩) c c) (madeCells z.cells (c * sz)).toList) := fun ρ w hB _ hρ => by
  obtain ⟨i, hi, hz, hs, hb⟩ := hinfo.get
  have h1 : ρ x = _ := hρ x (by simp [Op.operands]) _ hx
  have h2 : ρ y = _ := hρ y (by simp [Op.operands]) _ hy
  have hbc : i.bytes * c ≤ 64 * c := Nat.mul_le_mul_right c (by omega)
  have hr := run_make (P := P) w t e i z ht hi hz k k' (c : Int) (c : Int) (by omega) (by omega) (by rw [← Int.natCast_mul]; omega) (by omega)
  refine out_val (x := .slice (some ⟨w.heap.size, 0, none⟩) c c) (w' := w.alloc (.cells (madeCells z.cells (c * i.size)) e)) ?_ ⟨Grow.alloc w _, w.heap.size, rfl, hB, by simp, ?_⟩
  · simp only [execOp, h1, h2, Sem.run_bind, hr, Result.andThen_ok, Sem.run_pure, Int.toNat_natCast]
  · rw [← hs]; exact heap_alloc_new w _
theorem ok_sliceLoK {t e : TypeId} {z : Value} {nb sz : Nat} {x o : Operand} {b len c : Nat} {kd : IntKind} (l : Nat) (ht : P.underlying t = some (.slice e)) (hs : InfoP P e z sz nb) (hx : E.at x = some (.v (.slice (some ⟨b, 0, none⟩) len c))) (ho : E.at o = some (.v (.int kd (l : Int)))) (hl : l ≤ len) :
    OpOk P B ⟨dst, .slice t x (some o) none none, ty, pos, after, guard⟩ E (.v (.slice (some ⟨b, if c = l then 0 else l * sz, none⟩) (len - l) (c - l))) := fun ρ w _ _ hρ => by
  have h1 : ρ x = _ := hρ x (by simp [Op.operands]) _ hx
  have h2 : ρ o = .int kd (l : Int) := hρ o (by simp [Op.operands]) _ ho
  obtain ⟨info, hinfo, _, hsize, _⟩ := hs.get
  refine out_val (w' := w) ?_ ⟨Grow.refl w, rfl⟩
  simp [execOp, h1, h2, Instr.sliceAt, Instr.slice, run_underlying ht, Instr.sliceBounds, Instr.sliceBound, asIntOf, sizeOf, typeInfo, hinfo, hsize, hl]
  split
  · rfl
  · unfold Addr.add
    split
    · rename_i h; rw [h]
    · simp
end
section
variable {P : Program} {n B : Nat} {ops : Array Oper} {E : Env} {ty : TypeId} {pos : String} {after : Array Edge}
theorem eff_copyK {t e : TypeId} {z : Value} {nb sz : Nat} {r x : Operand} {b o dn dc s k sn sc dst B' : Nat} {A₀ : Option Addr} {e' : TypeId} {xs ys : List Value} {E' : Env} (ht : P.underlying t = some (.slice e)) (hinfo : InfoP P e z sz nb)
    (hr : E.at r = some (.v (.slice (some ⟨b, o, none⟩) dn dc))) (hx : E.at x = some (.v (.slice A₀ sn sc))) (hk : E.look k = some (old B' (memR A₀ ys))) (h1 : ys.all (·.oneCell') = true) (hl : ys.length = sn * sz) (hsd : sn ≤ dn) (hsz : 0 < sz)
    (hb : B ≤ b) (hblk : E.look s = some (blk b e' xs)) (hfit : o + sn * sz ≤ xs.length) (hdst : dst < n) (hle : LeftS B e' b E' E) :
    Eff P n B ops ⟨some dst, .call { callee := .builtin .copy, args := #[r, x], argTypes := #[t, t] }, ty, pos, after, none⟩ E ((dst, .v (.int .i64 (sn : Int))) :: (s, blk b e' (xs.take o ++ ys ++ xs.drop (o + sn * sz))) :: E') := by
  obtain ⟨i, hi, _, hs, _⟩ := hinfo.get
  intro κ a w K Q h hK
  have hre : a.eval r = _ := h.at_ r _ hr
  have hxe : a.eval x = _ := h.at_ x _ hx
  obtain ⟨hB, hrow⟩ := h.of k _ hk
  obtain ⟨hlt, hh⟩ := h.of s _ hblk
  have hrun : ∃ w', (Builtin.copy_ #[t, t] ty #[a.eval r, a.eval x]).run P w = .ok (.int .i64 (sn : Int)) w' ∧ Wrote B e' b w w' ∧ w'.heap[b]? = some (.cells (xs.take o ++ ys ++ xs.drop (o + sn * sz)).toArray e' (0, 0)) ∧ b < w'.heap.size := by
    rw [hre, hxe]
    have hmin : Nat.min sn dn = sn := Nat.min_eq_left hsd
    cases A₀ with
    | none =>
      have hz : ys = [] := by
        cases ys with
        | nil => rfl
        | cons y ys => obtain ⟨_, h0, _⟩ := hrow 0 y rfl; cases h0
      subst hz
      have h0 : sn = 0 := by
        have : sn * sz = 0 := by simpa using hl.symm
        rcases Nat.mul_eq_zero.1 this with h | h
        · exact h
        · omega
      subst h0
      refine ⟨w, ?_, ⟨hb, rfl, rfl, rfl, Nat.le_refl _, fun o' ho => by rw [hh] at ho; injection ho with ho; exact ⟨_, _, ho.symm⟩, fun _ _ _ => rfl⟩, by simpa using hh, hlt⟩
      simp [Builtin.copy_, run_underlying ht, Builtin.lenOf, Builtin.firstCells, sizeOf, typeInfo, hi, storeCells, goInt]
    | some ad =>
      have hload := run_loadCells_list (P := P) w ad ys (fun j v hv => by obtain ⟨ad', h1, _, h3⟩ := hrow j v hv; injection h1 with h1; subst h1; exact h3)
      have hst := run_storeCells_at P b o e' ys 0 xs.toArray w hh (by simpa [hl] using hfit) (fun v hv => List.all_eq_true.1 h1 v hv)
      refine ⟨w.setRow b (xs.take o ++ ys ++ xs.drop (o + sn * sz)).toArray, ?_, Wrote.setRow hb hh _, by simp [World.setRow, Array.getElem?_modify, hh], by simpa [World.setRow] using hlt⟩
      simp only [hl] at hst
      simp [Builtin.copy_, run_underlying ht, Builtin.lenOf, Builtin.firstCells, sizeOf, typeInfo, hi, hs, hmin, ← hl, hload, goInt]
      simp [hl, hst]
  obtain ⟨w', hrun, hwr, hh', hlt'⟩ := hrun
  have hexec : (execOp a.eval ⟨some dst, .call { callee := .builtin .copy, args := #[r, x], argTypes := #[t, t] }, ty, pos, after, none⟩).run P w = .ok (.value (.int .i64 (sn : Int))) w' := by
    simp [execOp, resolve, invoke, builtin, hrun]
  rw [if_pos (by simp [Region.wanted])]
  refine opR (by nofun) ?_
  unfold Oper.wp
  rw [hexec, Oper.upon_value]
  exact hK _ _ (hwr.below h.base) (St.put ((hle.st h hwr).push (d := blk b e' (xs.take o ++ ys ++ xs.drop (o + sn * sz))) ⟨hlt', hh'⟩) hdst rfl)
end
end Go.Proofs.YtffiflfjlemggaaGreatDoor
namespace Go.Proofs.YtffiflfjlemggaaGreatDoor
open Go Go.RowKit
set_option linter.unusedSimpArgs false
set_option linter.unusedVariables false
theorem kinY {n : Nat} {l : List UInt8} (h : l.length = n) : Kin (fun _ _ => True) (List.replicate n .u8) (l.map byteV) := by
  refine ⟨by simp [h], fun i k hk => ?_⟩
  rw [List.getElem?_replicate] at hk
  split at hk
  · rename_i hi
    injection hk with hk; subst hk
    exact ⟨_, by rw [List.getElem?_map, List.getElem?_eq_getElem (by omega)]; rfl, trivial⟩
  · cases hk
theorem decY (a b : List UInt8) : decide (a = b) = true ↔ a.map byteV = b.map byteV := by
  rw [decide_eq_true_iff]
  exact ⟨fun h => by rw [h], fun h => bytes_inj h⟩
structure Us where
  key : List UInt8
  s : Nat
  c : Nat
  f : Nat
  l : Nat
deriving DecidableEq
instance : Inhabited Us := ⟨⟨[], 0, 0, 0, 0⟩⟩
def Us.Fit (u : Us) : Prop := u.key.length = 16 ∧ u.s < 4294967296 ∧ u.c < 18446744073709551616 ∧ u.f < 4294967296 ∧ u.l < 4294967296
def rV (s c f l : Nat) : List Value := [.int .u32 (s : Int), .int .u64 (c : Int), .int .u32 (f : Int), .int .u32 (l : Int)]
def usV (u : Us) : List Value := u.key.map byteV ++ rV u.s u.c u.f u.l
theorem usV_length {u : Us} (h : u.Fit) : (usV u).length = 20 := by simp [usV, rV, h.1]
def usR (us : List Us) : List Value := us.flatMap usV
def Fits (us : List Us) : Prop := ∀ u ∈ us, u.Fit
theorem Fits.cons {u : Us} {us : List Us} (h : Fits (u :: us)) : u.Fit ∧ Fits us := ⟨h u (by simp), fun v hv => h v (by simp [hv])⟩
theorem Fits.append {us vs : List Us} (h : Fits us) (k : Fits vs) : Fits (us ++ vs) := fun u hu => (List.mem_append.1 hu).elim (h u) (k u)
theorem usR_length : ∀ {us : List Us}, Fits us → (usR us).length = us.length * 20
  | [], _ => rfl
  | u :: us, h => by
    have := usR_length h.cons.2
    simp only [usR, List.flatMap_cons, List.length_append, List.length_cons] at this ⊢
    rw [usV_length h.cons.1, this]; omega
theorem usR_append (us vs : List Us) : usR (us ++ vs) = usR us ++ usR vs := by simp [usR]
theorem usR_one (u : Us) : usR [u] = usV u := by simp [usR]
theorem usR_at : ∀ {us : List Us} {i : Nat}, Fits us → (h : i < us.length) → ((usR us).drop (i * 20)).take 20 = usV us[i]
  | u :: us, 0, h, _ => by
    simp only [usR, List.flatMap_cons, Nat.zero_mul, List.drop_zero, List.getElem_cons_zero]
    rw [List.take_append_of_le_length (by rw [usV_length h.cons.1]; omega), List.take_of_length_le (by rw [usV_length h.cons.1]; omega)]
  | u :: us, i + 1, h, hi => by
    have := usR_at (i := i) h.cons.2 (by simpa using hi)
    simp only [usR, List.flatMap_cons, List.getElem_cons_succ] at this ⊢
    rw [← this, List.drop_append, usV_length h.cons.1, show (i + 1) * 20 - 20 = i * 20 from by omega, List.drop_of_length_le (by rw [usV_length h.cons.1]; omega)]; rfl
theorem usR_lt {us : List Us} {i : Nat} (h : Fits us) (hi : i < us.length) : i * 20 < (usR us).length := by rw [usR_length h]; omega
theorem Fits.get {us : List Us} {i : Nat} (h : Fits us) (hi : i < us.length) : us[i].Fit := h _ (List.getElem_mem hi)
theorem usV_key {u : Us} (h : u.Fit) : (usV u).take 16 = u.key.map byteV := by
  unfold usV
  rw [List.take_append_of_le_length (by simp [h.1]), List.take_of_length_le (by simp [h.1])]
theorem usV_range {u : Us} (h : u.Fit) : (usV u).drop 16 = rV u.s u.c u.f u.l := by
  unfold usV
  rw [List.drop_append, List.drop_of_length_le (by simp [h.1])]
  simp [h.1]
theorem usR_one' (us : List Us) : (usR us).all (·.oneCell') = true := by
  rw [List.all_eq_true]
  intro v hv
  simp only [usR, List.mem_flatMap, usV, rV, List.mem_append, List.mem_map, List.mem_cons, List.not_mem_nil, or_false] at hv
  obtain ⟨u, _, ⟨b, _, rfl⟩ | rfl | rfl | rfl | rfl⟩ := hv <;> simp [byteV, Value.oneCell']

theorem usV_one (u : Us) : (usV u).all (·.oneCell') = true := by have := usR_one' [u]; rwa [usR_one] at this

/-! ### Clashes -/
def ovB (s c f l s' c' f' l' : Nat) : Bool := decide (s = s' ∧ c = c') && decide (max f f' ≤ min l l')
def Us.ok (u : Us) : Bool := decide (u.f ≤ u.l)
def clB (a b : Us) : Bool := decide (a.key = b.key) && ovB a.s a.c a.f a.l b.s b.c b.f b.l
def stOf (u : Us) : List UInt8 × Nat × Nat := (u.key, u.s, u.c)
theorem clB_iff {a b : Us} : clB a b = true ↔ stOf a = stOf b ∧ max a.f b.f ≤ min a.l b.l := by
  simp only [clB, ovB, stOf, Bool.and_eq_true, decide_eq_true_eq, Prod.mk.injEq]
  constructor
  · rintro ⟨h1, ⟨h2, h3⟩, h4⟩; exact ⟨⟨h1, h2, h3⟩, h4⟩
  · rintro ⟨⟨h1, h2, h3⟩, h4⟩; exact ⟨h1, ⟨h2, h3⟩, h4⟩
/-- The least i below n with p i, or n. -/
def lst1 (p : Nat → Bool) : Nat → Nat
  | 0 => 0
  | n + 1 => if lst1 p n < n then lst1 p n else if p n then n else n + 1
theorem lst1_spec (p : Nat → Bool) : ∀ n, lst1 p n ≤ n ∧ (∀ i, i < lst1 p n → p i = false) ∧ (lst1 p n < n → p (lst1 p n) = true)
  | 0 => ⟨Nat.le_refl _, fun i hi => absurd hi (Nat.not_lt_zero _), fun h => absurd h (Nat.lt_irrefl _)⟩
  | n + 1 => by
    obtain ⟨h1, h2, h3⟩ := lst1_spec p n
    unfold lst1
    by_cases h : lst1 p n < n
    · rw [if_pos h]; exact ⟨by omega, h2, fun _ => h3 h⟩
    · rw [if_neg h]
      have he : lst1 p n = n := by omega
      rw [he] at h2
      cases hp : p n with
      | true => exact ⟨by simp, fun i hi => h2 i (by simpa using hi), fun _ => by simpa using hp⟩
      | false => exact ⟨by simp, fun i hi => by
          rcases Nat.lt_or_ge i n with h | h
          · exact h2 i h
          · have hi' : i < n + 1 := by simpa using hi
            rw [show i = n from by omega]; exact hp, fun hh => by simp at hh⟩
theorem lst1_eq {p : Nat → Bool} {n k : Nat} (h1 : k ≤ n) (h2 : ∀ i, i < k → p i = false) (h3 : k < n → p k = true) : lst1 p n = k := by
  obtain ⟨a, b, c⟩ := lst1_spec p n
  rcases Nat.lt_trichotomy (lst1 p n) k with h | h | h
  · have := h2 _ h; rw [c (by omega)] at this; cases this
  · exact h
  · have := b _ h; rw [h3 (by omega)] at this; cases this
/-- Use j clashes with one before it. -/
def cAt (us : List Us) (j : Nat) : Bool := (List.range j).any fun i => clB us[i]! us[j]!
theorem cAt_iff {us : List Us} {j : Nat} : cAt us j = true ↔ ∃ i, i < j ∧ clB us[i]! us[j]! = true := by simp [cAt]
/-- Among the uses up to j two clash. -/
def cUp (us : List Us) (j : Nat) : Bool := (List.range (j + 1)).any (cAt us)
theorem cUp_iff {us : List Us} {j : Nat} : cUp us j = true ↔ ∃ i k, i < k ∧ k ≤ j ∧ clB us[i]! us[k]! = true := by
  simp only [cUp, List.any_eq_true, List.mem_range, cAt_iff]
  constructor
  · rintro ⟨k, hk, i, hi, h⟩; exact ⟨i, k, hi, by omega, h⟩
  · rintro ⟨i, k, hi, hk, h⟩; exact ⟨k, by omega, i, hi, h⟩
theorem cUp_mono {us : List Us} {a b : Nat} (h : a ≤ b) (k : cUp us a = true) : cUp us b = true := by
  rw [cUp_iff] at k ⊢
  obtain ⟨i, j, h1, h2, h3⟩ := k
  exact ⟨i, j, h1, by omega, h3⟩
def repJ (us : List Us) : Nat := lst1 (cAt us) us.length
def repI (us : List Us) : Nat := lst1 (fun i => clB us[i]! us[repJ us]!) us.length
theorem lst1_cUp (us : List Us) : lst1 (cUp us) us.length = repJ us := by
  obtain ⟨a, b, c⟩ := lst1_spec (cAt us) us.length
  refine lst1_eq a (fun i hi => ?_) fun h => ?_
  · cases hc : cUp us i with
    | false => rfl
    | true =>
      simp only [cUp, List.any_eq_true, List.mem_range] at hc
      obtain ⟨k, hk, h⟩ := hc
      have := b k (by unfold repJ at hi; omega); rw [h] at this; cases this
  · simp only [cUp, List.any_eq_true, List.mem_range]
    exact ⟨repJ us, by omega, c h⟩
theorem repI_lt {us : List Us} (h : repJ us < us.length) : repI us < repJ us ∧ clB us[repI us]! us[repJ us]! = true := by
  have h1 := (lst1_spec (cAt us) us.length).2.2 h
  obtain ⟨i, hi, hc⟩ := cAt_iff.1 h1
  have hs := lst1_spec (fun i => clB us[i]! us[repJ us]!) us.length
  have hle : repI us ≤ i := by
    rcases Nat.lt_or_ge i (repI us) with hl | hl
    · have h4 : clB us[i]! us[repJ us]! = false := hs.2.1 i hl
      have h5 : clB us[i]! us[repJ us]! = true := hc
      rw [h4] at h5; cases h5
    · exact hl
  have hi' : i < repJ us := hi
  exact ⟨by omega, hs.2.2 (by unfold repI at hle; omega)⟩

/-! ### Lists of the uses of one key stream -/
/-- The walk through a list: those beyond j are passed over; does one clash with the last that was not? -/
def repG (us : List Us) (j : Nat) : Option Nat → List Nat → Bool
  | _, [] => false
  | b, i :: r => if j < i then repG us j b r else match b with
    | none => repG us j (some i) r
    | some k => if clB us[k]! us[i]! then true else repG us j (some i) r
def Sorted (us : List Us) (L : List Nat) : Prop := L.Pairwise fun a b => us[a]!.f ≤ us[b]!.f
theorem repG_sound (us : List Us) (j : Nat) : ∀ (L : List Nat) (b : Option Nat), repG us j b L = true → ∃ x y, (x ∈ L ∨ b = some x) ∧ y ∈ L ∧ y ≤ j ∧ clB us[x]! us[y]! = true ∧ (∀ k, b = some k → x = k ∨ (x ∈ L ∧ x ≤ j)) ∧ (b = none → x ≤ j) ∧ [x, y].Sublist (b.toList ++ L)
  | [], b, h => by simp [repG] at h
  | i :: r, b, h => by
    unfold repG at h
    split at h
    · obtain ⟨x, y, h1, h2, h3, h4, h5, h6, h7⟩ := repG_sound us j r b h
      refine ⟨x, y, h1.imp (fun h => List.mem_cons_of_mem _ h) id, List.mem_cons_of_mem _ h2, h3, h4, fun k hk => (h5 k hk).imp id fun h => ⟨List.mem_cons_of_mem _ h.1, h.2⟩, h6, ?_⟩
      exact h7.trans (List.Sublist.append (List.Sublist.refl _) (List.sublist_cons_self _ _))
    · rename_i hij
      cases b with
      | none =>
        obtain ⟨x, y, h1, h2, h3, h4, h5, h6, h7⟩ := repG_sound us j r (some i) h
        refine ⟨x, y, .inl ?_, List.mem_cons_of_mem _ h2, h3, h4, (fun k hk => by cases hk), fun _ => ?_, by simpa using h7⟩
        · rcases h5 i rfl with rfl | h; · simp
          · exact List.mem_cons_of_mem _ h.1
        · rcases h5 i rfl with rfl | h; · omega
          · exact h.2
      | some k =>
        simp only at h
        split at h
        · rename_i hc
          exact ⟨k, i, .inr rfl, by simp, by omega, hc, (fun k' hk => .inl (by injection hk)), (fun h => by cases h), by simp⟩
        · obtain ⟨x, y, h1, h2, h3, h4, h5, h6, h7⟩ := repG_sound us j r (some i) h
          refine ⟨x, y, .inl ?_, List.mem_cons_of_mem _ h2, h3, h4, fun k' _ => .inr ?_, fun h => (by cases h), ?_⟩
          · rcases h5 i rfl with rfl | h; · simp
            · exact List.mem_cons_of_mem _ h.1
          · rcases h5 i rfl with rfl | h
            · exact ⟨by simp, by omega⟩
            · exact ⟨List.mem_cons_of_mem _ h.1, h.2⟩
          · exact h7.trans (by simp)
theorem cl_step {a b c : Us} (h1 : clB a c = true) (h2 : stOf a = stOf b) (h3 : b.ok = true) (h4 : a.f ≤ b.f) (h5 : b.f ≤ c.f) : clB a b = true := by
  rw [clB_iff] at h1 ⊢
  have h3 : b.f ≤ b.l := by simpa [Us.ok] using h3
  exact ⟨h2, by omega⟩
theorem repG_full (us : List Us) (hv : ∀ u ∈ us, u.ok = true) (j : Nat) : ∀ (L : List Nat) (b : Option Nat), Sorted us (b.toList ++ L) → (∀ x ∈ b.toList ++ L, x < us.length) → (∀ x ∈ b.toList ++ L, ∀ y ∈ b.toList ++ L, stOf us[x]! = stOf us[y]!) →
    (∀ k, b = some k → k ≤ j) → ∀ x y, [x, y].Sublist (b.toList ++ L) → x ≤ j → y ≤ j → clB us[x]! us[y]! = true → repG us j b L = true
  | [], b, _, _, _, _, x, y, h, _, _, _ => by
    have := h.length_le
    cases b <;> simp at this
  | i :: r, b, hs, hl, hst, hb, x, y, h, hx, hy, hc => by
    unfold repG
    split
    · rename_i hij
      have drop : ∀ {z : Nat}, z ∈ b.toList ++ r → z ∈ b.toList ++ i :: r := fun hz => by
        rcases List.mem_append.1 hz with h | h
        · exact List.mem_append_left _ h
        · exact List.mem_append_right _ (List.mem_cons_of_mem _ h)
      refine repG_full us hv j r b (hs.sublist (List.Sublist.append (List.Sublist.refl _) (List.sublist_cons_self _ _))) (fun z hz => hl z (drop hz)) (fun z hz z' hz' => hst z (drop hz) z' (drop hz')) hb x y ?_ hx hy hc
      cases b with
      | none =>
        simp only [Option.toList_none, List.nil_append] at h ⊢
        cases h with
        | cons _ h => exact h
        | cons_cons _ h => omega
      | some k =>
        simp only [Option.toList_some, List.singleton_append] at h ⊢
        cases h with
        | cons _ h =>
          cases h with
          | cons _ h => exact h.cons _
          | cons_cons _ h => omega
        | cons_cons _ h =>
          cases h with
          | cons _ h => exact h.cons_cons _
          | cons_cons _ h => omega
    · rename_i hij
      cases b with
      | none => exact repG_full us hv j r (some i) (by simpa using hs) (by simpa using hl) (by simpa using hst) (fun k hk => by injection hk with hk; omega) x y (by simpa using h) hx hy hc
      | some k =>
        simp only
        split
        · rfl
        · rename_i hki
          simp only [Option.toList_some, List.singleton_append] at hs hl hst h
          refine repG_full us hv j r (some i) (List.pairwise_cons.1 hs).2 (fun z hz => hl z (List.mem_cons_of_mem _ hz)) (fun z hz z' hz' => hst z (List.mem_cons_of_mem _ hz) z' (List.mem_cons_of_mem _ hz')) (fun k hk => by injection hk with hk; omega) x y ?_ hx hy hc
          simp only [Option.toList_some, List.singleton_append]
          cases h with
          | cons _ h => exact h
          | cons_cons _ h =>
            exfalso
            have hyi : y = i ∨ y ∈ r := List.mem_cons.1 (List.singleton_sublist.1 h)
            rcases hyi with rfl | hyr
            · exact hki hc
            · apply hki
              have hs' := List.pairwise_cons.1 hs
              have hil : i < us.length := hl i (by simp)
              refine cl_step hc (hst x List.mem_cons_self i (List.mem_cons_of_mem _ List.mem_cons_self)) ?_ (hs'.1 i (by simp)) ((List.pairwise_cons.1 hs'.2).1 y hyr)
              rw [getElem!_pos us i hil]; exact hv _ (List.getElem_mem hil)
/-- Lists of indices, each of uses of one key stream by their first counters, in which any two uses of one stream stand together. -/
structure Lists (us : List Us) (Ls : List (List Nat)) : Prop where
  sorted : ∀ L ∈ Ls, Sorted us L
  lt : ∀ L ∈ Ls, ∀ x ∈ L, x < us.length
  nodup : ∀ L ∈ Ls, L.Nodup
  one : ∀ L ∈ Ls, ∀ x ∈ L, ∀ y ∈ L, stOf us[x]! = stOf us[y]!
  all : ∀ x y, x < y → y < us.length → stOf us[x]! = stOf us[y]! → ∃ L ∈ Ls, x ∈ L ∧ y ∈ L
theorem pair_sublist {α : Type} : ∀ {L : List α} {x y : α}, x ∈ L → y ∈ L → x ≠ y → [x, y].Sublist L ∨ [y, x].Sublist L
  | a :: L, x, y, hx, hy, h => by
    rcases List.mem_cons.1 hx with hxa | hx1
    · rcases List.mem_cons.1 hy with hya | hy1
      · exact absurd (hxa.trans hya.symm) h
      · rw [hxa]; exact .inl (List.cons_sublist_cons.2 (List.singleton_sublist.2 hy1))
    · rcases List.mem_cons.1 hy with hya | hy1
      · rw [hya]; exact .inr (List.cons_sublist_cons.2 (List.singleton_sublist.2 hx1))
      · exact (pair_sublist hx1 hy1 h).imp (·.cons _) (·.cons _)
theorem clB_comm (a b : Us) : clB a b = clB b a := by
  rw [Bool.eq_iff_iff, clB_iff, clB_iff]
  constructor <;> rintro ⟨h, k⟩ <;> exact ⟨h.symm, by omega⟩
theorem Lists.any {us : List Us} {Ls : List (List Nat)} (h : Lists us Ls) (hv : ∀ u ∈ us, u.ok = true) (j : Nat) (hj : j < us.length) : (Ls.any fun L => repG us j none L) = cUp us j := by
  rw [Bool.eq_iff_iff, List.any_eq_true, cUp_iff]
  constructor
  · rintro ⟨L, hL, hr⟩
    obtain ⟨x, y, h1, h2, h3, h4, h5, h6, h7⟩ := repG_sound us j L none hr
    have hxy : x ≠ y := fun he => by
      subst he
      have := (h.nodup L hL).sublist (by simpa using h7)
      simp at this
    rcases Nat.lt_or_gt_of_ne hxy with hl | hl
    · exact ⟨x, y, hl, h3, h4⟩
    · exact ⟨y, x, hl, h6 rfl, by rw [clB_comm]; exact h4⟩
  · rintro ⟨i, k, hik, hkj, hc⟩
    obtain ⟨L, hL, hi, hk⟩ := h.all i k hik (by omega) (clB_iff.1 hc).1
    refine ⟨L, hL, ?_⟩
    rcases pair_sublist hi hk (by omega) with hs | hs
    · exact repG_full us hv j L none (by simpa using h.sorted L hL) (by simpa using h.lt L hL) (by simpa using h.one L hL) (fun k hk => by cases hk) i k (by simpa using hs) (by omega) hkj hc
    · exact repG_full us hv j L none (by simpa using h.sorted L hL) (by simpa using h.lt L hL) (by simpa using h.one L hL) (fun k hk => by cases hk) k i (by simpa using hs) hkj (by omega) (by rw [clB_comm]; exact hc)
end Go.Proofs.YtffiflfjlemggaaGreatDoor
namespace Go.Proofs.YtffiflfjlemggaaGreatDoor
open Go Go.RowKit
set_option linter.unusedSimpArgs false
set_option linter.unusedVariables false
variable {κ : Cx}
def HasBody (P : Program) (g : FuncId) : Prop := ∃ fn, P.funcs[g]? = some fn ∧ (fn.name == "runtime.NumGoroutine") = false ∧ fn.body.isNone = false
/-- A function value that, called with the j-th of the values, says p j; memory at most grows. -/
def predD (P : Program) (args : List Value) (p : Nat → Bool) : D :=
  .p (fun B w x => ∃ (g : FuncId) (cb : List Value), x = .func (.func g) #[] cb.toArray ∧ HasBody P g ∧ ∀ w', Below B w w' → B ≤ w'.heap.size → ∀ (j : Nat) (v : Value), args[j]? = some v → Calls P g (v :: cb).toArray w' (PostOf w' (.v (.bool (p j)))))
    (fun _ _ _ _ g ⟨f, cb, h1, h2, h3⟩ => ⟨f, cb, h1, h2, fun w' k hB => h3 w' (g.trans k) hB⟩) (fun _ _ _ _ g ⟨f, cb, h1, h2, h3⟩ => ⟨f, cb, h1, h2, fun w' k hB => h3 w' (k.mono g) (Nat.le_trans g hB)⟩)
/-- The facts M on memory stand in the environment, each at some number. -/
def MHas (E : Env) (M : Env) : Prop := ∀ q ∈ M, ∃ k d, vbase ≤ k ∧ E.look k = some d ∧ Le d q.2
theorem MHas.nil {E : Env} : MHas E [] := fun _ h => by cases h
theorem MHas.cons {E M : Env} {t : Nat} {d' : D} (k : Nat) {d : D} (hk : vbase ≤ k) (hE : E.look k = some d) (hl : Le d d') (hr : MHas E M) : MHas E ((t, d') :: M) := fun q hq => by
  rcases List.mem_cons.1 hq with rfl | hq
  · exact ⟨k, d, hk, hE, hl⟩
  · exact hr q hq
section
variable {P : Program} {B : Nat} {E : Env} {dst : Option Tmp} {ty : TypeId} {pos : String} {after : Array Edge} {guard : Option (Nat × Bool)}
theorem ok_makePred {g : FuncId} {xs : Array Operand} {M : Env} {args : List Value} {p : Nat → Bool} (us : List Value) (hb : HasBody P g) (hf : ∀ (j : Nat) (v : Value), args[j]? = some v → FnM P g M (.v v :: us.map D.v) (.v (.bool (p j))))
    (hM : MHas E M) (hx : VArgs E us xs.toList) : OpOk P B ⟨dst, .makeFunc (.func g) #[] xs, ty, pos, after, guard⟩ E (predD P args p) := fun ρ w _ hv hρ => by
  have hmem : ∀ x ∈ xs.toList, x ∈ (Op.makeFunc (.func g) #[] xs).operands := fun x hx => by
    have hx' : x ∈ xs := by simpa using hx
    simp [Op.operands, hx']
  have h1 := hx.map (ρ := ρ) fun x hx v hv => hρ x (hmem x hx) _ hv
  have h2 : xs.map ρ = us.toArray := by
    apply Array.ext'
    rw [Array.toList_map]; exact h1
  refine out_val (x := .func (.func g) #[] us.toArray) (w' := w) (by simp [execOp, h2, Instr.makeFunc]) ⟨Grow.refl w, g, us, rfl, hb, fun w' k hB j v hj => ?_⟩
  refine (hf j v hj).calls (v :: us) w' (fun q hq => ?_) (by simp) (fun i e u he hu => ?_)
  · obtain ⟨k', d, hk, hE, hl⟩ := hM q hq
    exact hl.of (D.Of.grow (hv k' _ hk hE) k)
  · cases i with
    | zero => simp only [List.getElem?_cons_zero, Option.some.injEq] at he hu; subst he; subst hu; rfl
    | succ i =>
      simp only [List.getElem?_cons_succ, List.getElem?_map] at he hu
      rw [hu] at he
      simp only [Option.map_some, Option.some.injEq] at he
      subst he; rfl
theorem ok_callPred {x y : Operand} {f : D} {args : List Value} {p : Nat → Bool} {v : Value} {argTypes : Array TypeId} (j : Nat) (hx : E.at x = some f) (hf : Le f (predD P args p)) (hy : E.at y = some (.v v)) (hj : args[j]? = some v) :
    OpOk P B ⟨dst, .call { callee := .value x, args := #[y], argTypes := argTypes }, ty, pos, after, guard⟩ E (.v (.bool (p j))) := fun ρ w _ hv hρ => by
  obtain ⟨g, cb, hfun, ⟨fn, h1, h2, h3⟩, hc⟩ := hf.of (hρ x (by simp [Op.operands, Call.operands]) _ hx)
  have hyv : ρ y = v := hρ y (by simp [Op.operands, Call.operands]) _ hy
  have hrun : (execOp ρ ⟨dst, .call { callee := .value x, args := #[y], argTypes := argTypes }, ty, pos, after, guard⟩).run P w = .ok (.enter g (v :: cb).toArray) w := by
    have h2' : ¬ fn.name = "runtime.NumGoroutine" := by simpa using h2
    have h3' : ¬ fn.body = none := by intro h; rw [h] at h3; cases h3
    simp [execOp, resolve, Deferred.ofValue, hfun, invoke, callFunc, h1, h2', h3', hyv]
  unfold Out
  rw [hrun]
  exact (hc w (Below.refl _ _) (Nat.le_refl _) j v hj).mono fun e w' ⟨x, he, hg, hx⟩ => ⟨x, he, hg, hx⟩
/-- A slice whose value is known, told by what stands at its address. -/
theorem OpOk.rowO {o : Oper} {A₀ : Option Addr} {m q k B' : Nat} {xs : List Value} (h : OpOk P B o E (.v (.slice A₀ m q))) (hk : vbase ≤ k) (hl : E.look k = some (old B' (memR A₀ xs))) : OpOk P B o E (old B' (rowD m xs)) := fun ρ w hB hv hρ => by
  refine (h ρ w hB hv hρ).mono fun x w' hx => ⟨hx.1, ?_⟩
  have h2 : (old B' (memR A₀ xs)).Of w' undef := D.Of.grow (hv k _ hk hl) hx.1
  exact ⟨h2.1, A₀, q, hx.2, h2.2⟩
theorem OpOk.rowM {o : Oper} {A₀ : Option Addr} {m q k : Nat} {xs : List Value} (h : OpOk P B o E (.v (.slice A₀ m q))) (hk : vbase ≤ k) (hl : E.look k = some (memR A₀ xs)) : OpOk P B o E (rowD m xs) := fun ρ w hB hv hρ => by
  refine (h ρ w hB hv hρ).mono fun x w' hx => ⟨hx.1, ?_⟩
  have h2 : (memR A₀ xs).Of w' undef := D.Of.grow (hv k _ hk hl) hx.1
  exact ⟨A₀, q, hx.2, h2⟩
end
section
variable {P : Program} {B : Nat} {E : Env}
theorem OpOk.hdRow {o : Oper} {A₀ : Option Addr} {m q k B' : Nat} {xs : List Value} (h : OpOk P B o E (.v (aggV [.slice A₀ m q]))) (hk : vbase ≤ k) (hl : E.look k = some (old B' (memR A₀ xs))) : OpOk P B o E (old B' (hdD (rowD m xs) [])) := fun ρ w hB hv hρ => by
  refine (h ρ w hB hv hρ).mono fun x w' hx => ⟨hx.1, ?_⟩
  have h2 : (old B' (memR A₀ xs)).Of w' undef := D.Of.grow (hv k _ hk hl) hx.1
  exact ⟨h2.1, _, rfl, hx.2, A₀, q, rfl, h2.2⟩
theorem oneP_slice {us : List Value} {B : Nat} {w : World} {u : Value} (h : (oneP us).OfB B w u) : ∃ A m c, u = .slice A m c := by
  obtain ⟨ad, h1, _⟩ := h; exact ⟨_, _, _, h1⟩
theorem fresh_rowD {base m : Nat} {e : TypeId} {xs : List Value} : Le (fresh base e xs m) (rowD m xs) := fun B w x ⟨b, h1, _, h3, h4⟩ => ⟨some ⟨b, 0, none⟩, xs.length, h1, blk_rowIn h3 h4⟩
/-- A struct around a slice over a block that is known whole. -/
theorem OpOk.hdBlk {o : Oper} {b m q k : Nat} {e : TypeId} {xs : List Value} (h : OpOk P B o E (.v (aggV [.slice (some ⟨b, 0, none⟩) m q]))) (hk : vbase ≤ k) (hl : E.look k = some (blk b e xs)) : OpOk P B o E (hdD (rowD m xs) []) := fun ρ w hB hv hρ => by
  refine (h ρ w hB hv hρ).mono fun x w' hx => ⟨hx.1, ?_⟩
  have h2 : (blk b e xs).Of w' undef := D.Of.grow (hv k _ hk hl) hx.1
  exact ⟨_, rfl, hx.2, _, _, rfl, blk_rowIn h2.1 h2.2⟩
end
end Go.Proofs.YtffiflfjlemggaaGreatDoor
namespace Go.Proofs.YtffiflfjlemggaaGreatDoor
open Go Go.RowKit
set_option linter.unusedVariables false
set_option maxRecDepth 20000

theorem zero99 : ZeroIs Tryz.prog 99 (List.replicate 16 (.int .u8 0) ++ [.int .u32 0] ++ [.int .u64 0] ++ [.int .u32 0] ++ [.int .u32 0]) := by unfold ZeroIs; kernel_rfl
theorem size99 : SizeIs Tryz.prog 99 20 := by unfold SizeIs; kernel_rfl
theorem field99_0 : FieldIs Tryz.prog 99 0 0 16 := by unfold FieldIs; kernel_rfl
theorem field99_1 : FieldIs Tryz.prog 99 1 16 4 := by unfold FieldIs; kernel_rfl
theorem zero95 : ZeroIs Tryz.prog 95 ([.slice none 0 0]) := by unfold ZeroIs; kernel_rfl
theorem size95 : SizeIs Tryz.prog 95 1 := by unfold SizeIs; kernel_rfl
theorem field95_0 : FieldIs Tryz.prog 95 0 0 1 := by unfold FieldIs; kernel_rfl
theorem zero183 : ZeroIs Tryz.prog 183 (List.replicate 16 (.int .u8 0) ++ [.int .u32 0] ++ [.int .u64 0]) := by unfold ZeroIs; kernel_rfl
theorem size183 : SizeIs Tryz.prog 183 18 := by unfold SizeIs; kernel_rfl
theorem info149 : InfoIs Tryz.prog 149 (.slice none 0 0) 24 := by unfold InfoIs; kernel_rfl

theorem flatK : flat Tryz.prog 17 37 = some (List.replicate 16 .u8) := by kernel_rfl
theorem infoU : InfoP Tryz.prog 99 (aggV (List.replicate 16 (.int .u8 0) ++ rV 0 0 0 0)) 20 40 := by unfold InfoP; kernel_rfl
theorem us_key {u : Us} (h : u.Fit) : ((usV u).drop 0).take 16 = u.key.map byteV := usV_key h
theorem us_rng {u : Us} (h : u.Fit) : ((usV u).drop 16).take 4 = rV u.s u.c u.f u.l := by rw [usV_range h]; rfl
theorem us_non {u : Us} (h : u.Fit) : ((usV u).drop 16).take 2 = [.int .u32 (u.s : Int), .int .u64 (u.c : Int)] := by rw [usV_range h]; rfl
theorem us_fit {u : Us} (h : u.Fit) {k : Nat} (hk : k ≤ 20 := by decide) : k ≤ (usV u).length := by rw [usV_length h]; exact hk

theorem valid_fn (s c f l : Nat) : Fn Tryz.prog 113 [.v (aggV ([nW s, nQ c, nW f, nW l]))] (.v (.bool (decide (f ≤ l)))) := by
 refine FV Tryz.func113 rfl Tryz.ntmps113 rfl fun w₀ => ?_
 refine GS ?_
 refine TN 0 ?_
 refine RN ?_
 refine ZB 1000001 rfl fun b1 ⟨hBb1, hb1⟩ => ?_
 refine TL ?_
 refine RVN 1 rfl ?_
 refine GT ?_
 refine RS (ok_field field90_1 (by decide) rfl) ?_
 refine RLV 1000001 Tryz.underlying38 rfl rfl rfl ?_
 refine RS (ok_field field90_2 (by decide) rfl) ?_
 refine RLV 1000001 Tryz.underlying38 rfl rfl rfl ?_
 refine RB rfl rfl rfl ?_
 refine RZ (.bool (decide (f ≤ l))) (congrArg Value.bool (decide_eq_decide.2 (by omega))) ?_
 refine RVN 1 rfl ?_
 refine A.ret ?_
 exact ER rfl rfl
theorem clash_A (u v : Us) (hu : u.Fit) (hv : v.Fit) (h : u.key ≠ v.key) : Fn Tryz.prog 98 [.v (aggV (usV u)), .v (aggV (usV v))] (.v (.bool (clB u v))) := by
 refine FV Tryz.func98 rfl Tryz.ntmps98 rfl fun w₀ => ?_
 refine GS ?_
 refine TN 0 ?_
 refine RN ?_
 refine ZB 1000002 rfl fun b2 ⟨hBb2, hb2⟩ => ?_
 refine TN 1 ?_
 refine RN ?_
 refine ZB 1000003 rfl fun b3 ⟨hBb3, hb3⟩ => ?_
 have hlt_b2_b3 := hb3 1000002 b2 _ _ rfl
 refine TL ?_
 refine RVN 1 rfl ?_
 refine GT ?_
 refine RS (ok_field field99_0 (by decide) rfl) ?_
 refine RS (ok_loadP (s := 1000002) (by decide) Tryz.underlying37 rfl size37 rfl rfl (us_fit hu) (us_key hu)) ?_
 refine RS (ok_field field99_0 (by decide) rfl) ?_
 refine RS (ok_loadP (s := 1000003) (by decide) Tryz.underlying37 rfl size37 rfl rfl (us_fit hv) (us_key hv)) ?_
 refine RS (ok_eqlT (n := 17) (decide (u.key = v.key)) flatK (by decide) (by kernel_rfl) (by kernel_rfl) rfl rfl (kinY hu.1) (kinY hv.1) (decY _ _)) ?_; refine RZ (.bool false) (by simp [h]) ?_
 refine RV 7 rfl ?_
 refine RZ (.bool (clB u v)) (by first | (simp [clB, h]; done) | (simp [clB, h]; rfl)) ?_
 refine RVN 1 rfl ?_
 refine A.ret ?_
 exact ER rfl rfl
theorem clash_B (u v : Us) (hu : u.Fit) (hv : v.Fit) (h : u.key = v.key) : Fn Tryz.prog 98 [.v (aggV (usV u)), .v (aggV (usV v))] (.v (.bool (clB u v))) := by
 refine FV Tryz.func98 rfl Tryz.ntmps98 rfl fun w₀ => ?_
 refine GS ?_
 refine TN 0 ?_
 refine RN ?_
 refine ZB 1000002 rfl fun b2 ⟨hBb2, hb2⟩ => ?_
 refine TN 1 ?_
 refine RN ?_
 refine ZB 1000003 rfl fun b3 ⟨hBb3, hb3⟩ => ?_
 have hlt_b2_b3 := hb3 1000002 b2 _ _ rfl
 refine TL ?_
 refine RVN 1 rfl ?_
 refine GT ?_
 refine RS (ok_field field99_0 (by decide) rfl) ?_
 refine RS (ok_loadP (s := 1000002) (by decide) Tryz.underlying37 rfl size37 rfl rfl (us_fit hu) (us_key hu)) ?_
 refine RS (ok_field field99_0 (by decide) rfl) ?_
 refine RS (ok_loadP (s := 1000003) (by decide) Tryz.underlying37 rfl size37 rfl rfl (us_fit hv) (us_key hv)) ?_
 refine RS (ok_eqlT (n := 17) (decide (u.key = v.key)) flatK (by decide) (by kernel_rfl) (by kernel_rfl) rfl rfl (kinY hu.1) (kinY hv.1) (decY _ _)) ?_; refine RZ (.bool true) (by simp [h]) ?_
 refine RM rfl ?_
 refine RQ (ok_field field99_1 (by decide) rfl) ?_
 refine RQ (ok_loadP (s := 1000002) (by decide) Tryz.underlying90 rfl size90 rfl rfl (us_fit hu) (us_rng hu)) ?_
 refine RQ (ok_field field99_1 (by decide) rfl) ?_
 refine RQ (ok_loadP (s := 1000003) (by decide) Tryz.underlying90 rfl size90 rfl rfl (us_fit hv) (us_rng hv)) ?_
 refine RQ (ok_call (Overlap_fn u.s u.c u.f u.l v.s v.c v.f v.l) (A2 rfl rfl)) ?_
 refine RP rfl rfl ?_
 refine RZ (.bool (clB u v)) (by first | (simp [clB, h]; done) | (simp [clB, h]; rfl)) ?_
 refine RVN 1 rfl ?_
 refine A.ret ?_
 exact ER rfl rfl
theorem clash_fn (u v : Us) (hu : u.Fit) (hv : v.Fit) : Fn Tryz.prog 98 [.v (aggV (usV u)), .v (aggV (usV v))] (.v (.bool (clB u v))) := by
 by_cases h : u.key = v.key
 ·exact clash_B u v hu hv h
 ·exact clash_A u v hu hv h
end Go.Proofs.YtffiflfjlemggaaGreatDoor
namespace Go.Proofs.YtffiflfjlemggaaGreatDoor
open Go Go.RowKit
set_option linter.unusedVariables false
set_option maxRecDepth 20000
def chkU (us : List Us) : Int := if 65536 < us.length then 3 else if us.all Us.ok then 0 else 1
theorem infoE : InfoP Tryz.prog 26 (.int .i64 0) 1 8 := by unfold InfoP; kernel_rfl
theorem or_next {a b : Int} {i : Nat} (hi : i < 2) (h : i ≤ 2 ∧ (0 < i → a = 0) ∧ (1 < i → b = 0)) (hz : (if i = 0 then a else b) = 0) : i + 1 ≤ 2 ∧ (0 < i + 1 → a = 0) ∧ (1 < i + 1 → b = 0) := by
 rcases (show i = 0 ∨ i = 1 by omega) with rfl | rfl <;> simp_all
theorem or_ret {a b : Int} {i : Nat} (hi : i < 2) (h : i ≤ 2 ∧ (0 < i → a = 0) ∧ (1 < i → b = 0)) (hz : (if i = 0 then a else b) ≠ 0) : (if i = 0 then a else b) = if a ≠ 0 then a else b := by
 rcases (show i = 0 ∨ i = 1 by omega) with rfl | rfl <;> simp_all
theorem or_end {a b : Int} {i : Nat} (h : i ≤ 2 ∧ (0 < i → a = 0) ∧ (1 < i → b = 0)) (hi : i = 2) : 0 = if a ≠ 0 then a else b := by
 subst hi; simp_all
theorem chk_next {us : List Us} {i : Nat} (hi : i < us.length) (h : i ≤ us.length ∧ ∀ x ∈ us.take i, Us.ok x = true) (hz : us[i].ok = true) : i + 1 ≤ us.length ∧ ∀ x ∈ us.take (i + 1), Us.ok x = true := by
 refine ⟨by omega, fun x hx => ?_⟩
 rw [List.take_succ_eq_append_getElem hi] at hx
 rcases List.mem_append.1 hx with h1 | h1
 ·exact h.2 x h1
 ·rw [List.mem_singleton.1 h1]; exact hz
theorem mergeFit {us vs : List Us} (hf : Fits us) (hg : Fits vs) (z : Array Value) : (if us.length + vs.length = us.length then 0 else us.length * 20) + vs.length * 20 ≤ (List.take 0 (madeCells z ((us.length + vs.length) * 20)).toList ++ usR us ++ List.drop (0 + us.length * 20) (madeCells z ((us.length + vs.length) * 20)).toList).length := by
 simp only [List.length_append, List.length_drop, List.length_take, Array.length_toList, size_madeCells, usR_length hf]
 split <;> omega
theorem mergeRow {us vs : List Us} (hf : Fits us) (hg : Fits vs) (z : Array Value) {xs : List Value} (hx : xs = List.take 0 (madeCells z ((us.length + vs.length) * 20)).toList ++ usR us ++ List.drop (0 + us.length * 20) (madeCells z ((us.length + vs.length) * 20)).toList) :
  xs.take (if us.length + vs.length = us.length then 0 else us.length * 20) ++ usR vs ++ xs.drop ((if us.length + vs.length = us.length then 0 else us.length * 20) + vs.length * 20) = usR (us ++ vs) := by
 have hl : xs.length = (us.length + vs.length) * 20 := by
  rw [hx]; simp only [List.length_append, List.length_drop, List.length_take, Array.length_toList, size_madeCells, usR_length hf]; omega
 have hd : List.drop (0 + us.length * 20) (madeCells z ((us.length + vs.length) * 20)).toList = (madeCells z ((us.length + vs.length) * 20)).toList.drop (us.length * 20) := by rw [Nat.zero_add]
 rw [usR_append]
 by_cases h : vs.length = 0
 ·have hv : vs = [] := List.length_eq_zero_iff.1 h
  subst hv
  rw [if_pos (by simp)]
  have h0 : (madeCells z ((us.length + 0) * 20)).toList.drop (us.length * 20) = [] := List.drop_of_length_le (by simp [size_madeCells])
  simp only [List.length_nil] at hx
  rw [hx]
  simp [usR, size_madeCells]
 ·rw [if_neg (by omega), List.drop_of_length_le (by rw [hl]; omega), List.append_nil, hx]
  simp only [List.take_zero, List.nil_append]
  rw [List.take_append_of_le_length (by rw [usR_length hf]; omega), List.take_of_length_le (by rw [usR_length hf]; omega)]
theorem buildL (A₀ : Option Addr) (m c : Nat) : Tryz.prog.built 95 [(0, .slice A₀ m c)] = some ([.slice A₀ m c] : List Value).toArray := by kernel_rfl

theorem Or_fn (a b : Int) : Fn Tryz.prog 112 [rowD 2 [.int .i64 a, .int .i64 b]] (.v (.int .i64 (if a ≠ 0 then a else b))) := by
 refine Fn.of Tryz.func112 rfl (by kernel_rfl) Tryz.ntmps112 (by simp) (fun w => [(0, old w.heap.size (rowD 2 [.int .i64 a, .int .i64 b]))]) (fun w => (Start.old rfl Start.nil)) fun w₀ => ?_
 refine A.nameR (t := 0) (k := 1000200) rfl fun A₀ q₀ => ?_
 refine GV rfl ?_
 refine GV rfl ?_
 refine QS ?_
 refine GT ?_
 refine RM rfl ?_
 refine RS (ok_lenV Tryz.underlying193 rfl) ?_
 refine RVN 1 rfl ?_
 refine A.block ?_
 refine A.loop (ι := Nat) (fun i => i ≤ 2 ∧ (0 < i → a = 0) ∧ (1 < i → b = 0)) (fun i => [(3, .v (.int .i64 0)), (1000200, old w₀.heap.size (memR A₀ [.int .i64 a, .int .i64 b])), (6, .v (.slice A₀ 2 q₀)), (7, .v (.int .i64 2)), (8, .v (nI i))]) (fun i => 2 - i) 0 ?_ ?_ ?_
 ·exact ⟨Nat.zero_le _, fun h => absurd h (by omega), fun h => absurd h (by omega)⟩
 ·exact (KC 3 rfl (KC 1000200 rfl (KC 6 rfl (KE 7 rfl (by rfl) (KE 8 rfl (by rfl) KN)))))
 intro i hi'
 refine GV rfl ?_
 refine QS ?_
 refine A.cond rfl (fun hc9 => ?_) (fun hc9 => ?_)
 ·have hi : i < 2 := by have h := hc9; simp at h; omega
  refine QK ?_
  refine QSB ?_
  refine GT ?_
  refine RS (ok_indexR (s := 1000200) i Tryz.underlying193 infoE rfl rfl (by decide) rfl hi (by simp; omega)) ?_
  refine RS (ok_loadP1 (u := .int .i64 (if i = 0 then a else b)) (us := []) Tryz.underlying26 rfl (by rcases (show i = 0 ∨ i = 1 by omega) with rfl | rfl <;> rfl)) ?_
  refine RVN 1 rfl ?_
  refine GT ?_
  refine RV 3 rfl ?_
  refine RZ (.bool ((if i = 0 then a else b) != 0)) (rfl) ?_
  refine RN ?_
  refine A.cond rfl (fun hc14 => ?_) (fun hc14 => ?_)
  ·have hz : (if i = 0 then a else b) ≠ 0 := by simpa using hc14
   refine GV rfl ?_
   refine A.ret ?_
   refine End.ret_block ?_
   refine End.ret_then ?_
   refine End.ret_then ?_
   refine End.ret_block ?_
   refine End.ret_then ?_
   first | exact End.ret1 rfl rfl (Le.v (congrArg (Value.int .i64) (or_ret hi hi' hz))) | exact End.ret1 rfl rfl (Le.v (congrArg (Value.int .i64) (or_end hi' hi2)))
  ·have hz : (if i = 0 then a else b) = 0 := by simpa using hc14
   refine A.skip ?_
   refine End.normal_block ?_
   refine EN ?_
   refine GTE ?_
   refine RB rfl rfl rfl ?_
   refine RZ (nI (i + 1)) (by rw [wrap_i64 (by omega) (by omega)]; rfl) ?_
   refine RVN 1 rfl ?_
   refine End.normal_then ?_
   refine End.again (i + 1) ?_ ?_ ?_
   ·exact or_next hi hi' hz
   ·show _ - _ < _ - _; omega
   ·exact (SV [3, 1000200, 6, 7, 8] rfl)
 ·have hi2 : i = 2 := by have h := hi'.1; simp at hc9; omega
  refine A.exit ?_
  refine End.exit_then ?_
  refine End.exit_then ?_
  refine End.exit_here ?_
  refine EN ?_
  refine GV rfl ?_
  refine A.ret ?_
  first | exact End.ret1 rfl rfl (Le.v (congrArg (Value.int .i64) (or_ret hi hi' hz))) | exact End.ret1 rfl rfl (Le.v (congrArg (Value.int .i64) (or_end hi' hi2)))
theorem Check_big (us : List Us) (hf : Fits us) (hn : us.length ≤ 1099511627776) (h : 65536 < us.length) : Fn Tryz.prog 89 [hdD (rowD us.length (usR us)) []] (.v (.int .i64 3)) := by
 refine Fn.of Tryz.func89 rfl (by kernel_rfl) Tryz.ntmps89 (by simp) (fun w => [(0, old w.heap.size (hdD (rowD us.length (usR us)) []))]) (fun w => (Start.old rfl Start.nil)) fun w₀ => ?_
 refine A.nameHdR (t := 0) (k := 1000200) rfl fun A₀ q₀ => ?_
 refine GS ?_
 refine TN 0 ?_
 refine RN ?_
 refine ZB 1000001 rfl fun b1 ⟨hBb1, hb1⟩ => ?_
 refine TL ?_
 refine RVN 1 rfl ?_
 refine QS ?_
 refine GT ?_
 refine RS (ok_field field95_0 (by decide) rfl) ?_
 refine RLV 1000001 Tryz.underlying93 rfl rfl rfl ?_
 refine RS (ok_lenV Tryz.underlying93 rfl) ?_
 refine RB rfl rfl rfl ?_
 refine RZ (.bool true) (by simp; omega) ?_
 refine RN ?_
 refine A.yes rfl ?_
 refine GV rfl ?_
 refine A.ret ?_
 refine End.ret_then ?_
 exact ER rfl rfl
theorem Check_low (us : List Us) (hf : Fits us) (hn : us.length ≤ 1099511627776) (h : us.length ≤ 65536) : Fn Tryz.prog 89 [hdD (rowD us.length (usR us)) []] (.v (.int .i64 (if us.all Us.ok then 0 else 1))) := by
 refine Fn.of Tryz.func89 rfl (by kernel_rfl) Tryz.ntmps89 (by simp) (fun w => [(0, old w.heap.size (hdD (rowD us.length (usR us)) []))]) (fun w => (Start.old rfl Start.nil)) fun w₀ => ?_
 refine A.nameHdR (t := 0) (k := 1000200) rfl fun A₀ q₀ => ?_
 refine GS ?_
 refine TN 0 ?_
 refine RN ?_
 refine ZB 1000001 rfl fun b1 ⟨hBb1, hb1⟩ => ?_
 refine TL ?_
 refine RVN 1 rfl ?_
 refine QS ?_
 refine GT ?_
 refine RS (ok_field field95_0 (by decide) rfl) ?_
 refine RLV 1000001 Tryz.underlying93 rfl rfl rfl ?_
 refine RS (ok_lenV Tryz.underlying93 rfl) ?_
 refine RB rfl rfl rfl ?_
 refine RZ (.bool false) (by simp; omega) ?_
 refine RN ?_
 refine A.no rfl ?_
 refine QK ?_
 refine QS ?_
 refine GT ?_
 refine RS (ok_field field95_0 (by decide) rfl) ?_
 refine RLV 1000001 Tryz.underlying93 rfl rfl rfl ?_
 refine RS (ok_lenV Tryz.underlying93 rfl) ?_
 refine RVN 1 rfl ?_
 refine A.block ?_
 refine A.loop (ι := Nat) (fun i => i ≤ us.length ∧ ∀ x ∈ us.take i, Us.ok x = true) (fun i => [(1000200, old w₀.heap.size (memR A₀ (usR us))), (10, .v (.slice A₀ us.length q₀)), (11, .v (nI (us.length))), (12, .v (nI i))]) (fun i => us.length - i) 0 ?_ ?_ ?_
 ·exact ⟨Nat.zero_le _, fun x hx => by simp at hx⟩
 ·exact (KC 1000200 rfl (KC 10 rfl (KC 11 rfl (KE 12 rfl (by rfl) KN))))
 intro i hi'
 refine GV rfl ?_
 refine QS ?_
 refine A.cond rfl (fun hc13 => ?_) (fun hc13 => ?_)
 ·have hi : i < us.length := by simpa using hc13
  refine QK ?_
  refine QSB ?_
  refine GS ?_
  refine TN 2 ?_
  refine RS (ok_indexR (s := 1000200) i Tryz.underlying93 infoU rfl rfl (by decide) rfl hi (usR_lt hf hi)) ?_
  refine RS (ok_loadElemP Tryz.underlying99 rfl (size99.of (by rw [usR_at hf hi, usV_length (hf.get hi)])) rfl) ?_; refine RZ (aggV (usV us[i])) (congrArg aggV (usR_at hf hi)) ?_
  refine RN ?_
  refine ZN 1000004 zero99 fun b4 ⟨hBb4, hb4⟩ => ?_
  refine TF 3 ?_
  refine RN ?_
  refine ⟨_, eff_storeA (n := 21) (s := 1000004) (size99.of (usV_length (hf.get hi))) rfl rfl (usV_one _) hBb4 rfl (by rw [usV_length (hf.get hi)]; rfl) (LO 1000200 rfl (LW [4, 10, 11, 12] rfl)), ?_⟩
  refine TL ?_
  refine RN ?_
  refine GT ?_
  refine RS (ok_field field99_1 (by decide) rfl) ?_
  refine RS (ok_loadP (s := 1000004) (by decide) Tryz.underlying90 rfl size90 rfl rfl (us_fit (hf.get hi)) (us_rng (hf.get hi))) ?_
  refine RS (ok_call (valid_fn us[i].s us[i].c us[i].f us[i].l) (A1 rfl)) ?_; refine RZ (.bool us[i].ok) (rfl) ?_
  refine RS (ok_not rfl) ?_; refine RZ (.bool (!us[i].ok)) (rfl) ?_
  refine RN ?_
  refine A.cond rfl (fun hc19 => ?_) (fun hc19 => ?_)
  ·refine GV rfl ?_
   refine A.ret ?_
   refine End.ret_block ?_
   refine End.ret_then ?_
   refine End.ret_then ?_
   refine End.ret_block ?_
   refine End.ret_then ?_
   first | exact End.ret1 rfl rfl (Le.v (congrArg (Value.int .i64) (if_neg (fun h => by have := List.all_eq_true.1 h _ (List.getElem_mem hi); rw [this] at hc19; cases hc19)).symm)) | exact End.ret1 rfl rfl (Le.v (congrArg (Value.int .i64) (if_pos (List.all_eq_true.2 fun x hx => hi'.2 x (by rw [hi2, List.take_of_length_le (Nat.le_refl _)]; exact hx))).symm))
  ·refine A.skip ?_
   refine End.normal_block ?_
   refine EN ?_
   refine GTE ?_
   refine RB rfl rfl rfl ?_
   refine RZ (nI (i + 1)) (by rw [wrap_i64 (by omega) (by omega)]; rfl) ?_
   refine RVN 1 rfl ?_
   refine End.normal_then ?_
   refine End.again (i + 1) ?_ ?_ ?_
   ·exact chk_next hi hi' (by simpa using hc19)
   ·show _ - _ < _ - _; omega
   ·exact (SV [1000200, 10, 11, 12] rfl)
 ·have hi2 : i = us.length := by have h := hi'.1; simp at hc13; omega
  refine A.exit ?_
  refine End.exit_then ?_
  refine End.exit_then ?_
  refine End.exit_here ?_
  refine EN ?_
  refine GV rfl ?_
  refine A.ret ?_
  first | exact End.ret1 rfl rfl (Le.v (congrArg (Value.int .i64) (if_neg (fun h => by have := List.all_eq_true.1 h _ (List.getElem_mem hi); rw [this] at hc19; cases hc19)).symm)) | exact End.ret1 rfl rfl (Le.v (congrArg (Value.int .i64) (if_pos (List.all_eq_true.2 fun x hx => hi'.2 x (by rw [hi2, List.take_of_length_le (Nat.le_refl _)]; exact hx))).symm))
theorem Check_fn (us : List Us) (hf : Fits us) (hn : us.length ≤ 1099511627776) : Fn Tryz.prog 89 [hdD (rowD us.length (usR us)) []] (.v (.int .i64 (chkU us))) := by
 unfold chkU
 by_cases h : 65536 < us.length
 ·rw [if_pos h]; exact Check_big us hf hn h
 ·rw [if_neg h]; exact Check_low us hf hn (by omega)
set_option maxHeartbeats 1000000 in
theorem Merge_okB (us vs : List Us) (hf : Fits us) (hg : Fits vs) (hn : us.length ≤ 1099511627776) (hm : vs.length ≤ 1099511627776) (h : chkU us = 0) (h' : chkU vs = 0) (h2 : us.length + vs.length ≤ 65536) : FnB Tryz.prog 88 [hdD (rowD us.length (usR us)) [], hdD (rowD vs.length (usR vs)) []] (fun B => newD B 99 (fun b => .tuple #[aggV [.slice (some ⟨b, 0, none⟩) (us.length + vs.length) (us.length + vs.length)], .int .i64 0]) (usR (us ++ vs))) := by
 refine FnB.of Tryz.func88 rfl (by kernel_rfl) Tryz.ntmps88 (by simp) (fun w => [(0, old w.heap.size (hdD (rowD us.length (usR us)) [])), (1, old w.heap.size (hdD (rowD vs.length (usR vs)) []))]) (fun w => (Start.old rfl (Start.old rfl Start.nil))) fun w₀ => ?_
 refine A.nameHdR (t := 0) (k := 1000200) rfl fun A₀ q₀ => ?_
 refine A.nameHdR (t := 1) (k := 1000201) rfl fun A₁ q₁ => ?_
 refine GS ?_
 refine TN 0 ?_
 refine RN ?_
 refine ZB 1000002 rfl fun b2 ⟨hBb2, hb2⟩ => ?_
 refine TN 1 ?_
 refine RN ?_
 refine ZB 1000003 rfl fun b3 ⟨hBb3, hb3⟩ => ?_
 have hlt_b2_b3 := hb3 1000002 b2 _ _ rfl
 refine TN 2 ?_
 refine RN ?_
 refine ZN 1000004 zero95 fun b4 ⟨hBb4, hb4⟩ => ?_
 have hlt_b2_b4 := hb4 1000002 b2 _ _ rfl
 have hlt_b3_b4 := hb4 1000003 b3 _ _ rfl
 refine TL ?_
 refine RVN 1 rfl ?_
 refine QS ?_
 refine GTD ?_
 refine RS (OpOk.hdRow (ok_loadA (s := 1000002) (by decide) Tryz.underlying95 rfl (size95.of (rfl)) rfl rfl) (k := 1000200) (by decide) rfl) ?_
 refine RS (ok_call (Check_fn us hf hn) (Args.cons rfl (Le.old _ _) Args.nil)) ?_
 refine RS (OpOk.hdRow (ok_loadA (s := 1000003) (by decide) Tryz.underlying95 rfl (size95.of (rfl)) rfl rfl) (k := 1000201) (by decide) rfl) ?_
 refine RS (ok_call (Check_fn vs hg hm) (Args.cons rfl (Le.old _ _) Args.nil)) ?_
 refine RS (OpOk.le (ok_buildF (m := 2) [.int .i64 (chkU us), .int .i64 (chkU vs)] Tryz.underlying193 info26 rfl (by decide) (by decide) rfl ⟨rfl, rfl, rfl, rfl, trivial⟩ rfl) fresh_rowD) ?_
 refine RS (ok_call (Or_fn (chkU us) (chkU vs)) (A1 rfl)) ?_
 refine RVN 1 rfl ?_
 refine GT ?_
 refine RV 2 rfl ?_
 refine RZ (.bool false) (by simp [h, h']) ?_
 refine RN ?_
 refine A.no rfl ?_
 refine QK ?_
 refine GT ?_
 refine RS (ok_field field95_0 (by decide) rfl) ?_
 refine RLV 1000002 Tryz.underlying93 rfl rfl rfl ?_
 refine RS (ok_lenV Tryz.underlying93 rfl) ?_
 refine RS (ok_field field95_0 (by decide) rfl) ?_
 refine RLV 1000003 Tryz.underlying93 rfl rfl rfl ?_
 refine RS (ok_lenV Tryz.underlying93 rfl) ?_
 refine RB rfl rfl rfl ?_
 refine RZ (nI (us.length + vs.length)) (by rw [wrap_i64 (by omega) (by omega)]; rfl) ?_
 refine RVN 1 rfl ?_
 refine QS ?_
 refine GT ?_
 refine RV 2 rfl ?_
 refine RZ (.bool false) (by simp; omega) ?_
 refine RN ?_
 refine A.no rfl ?_
 refine QK ?_
 refine GS ?_
 refine TN 1 ?_
 refine RVN 1 rfl ?_
 refine ZM 1000031 (fun B' => ok_makeK (us.length + vs.length) Tryz.underlying93 infoU (by decide) rfl rfl (by omega)) rfl fun b31 ⟨hBb31, hb31⟩ => ?_
 have hlt_b2_b31 := hb31 1000002 b2 _ _ rfl
 have hlt_b3_b31 := hb31 1000003 b3 _ _ rfl
 have hlt_b4_b31 := hb31 1000004 b4 _ _ rfl
 refine TL ?_
 refine RVN 1 rfl ?_
 refine A.sub (SV [2, 3, 4, 8, 1000002, 1000003, 1000004, 1000031, 1000200, 1000201] rfl) ?_
 refine GS ?_
 refine TF 3 ?_
 refine RM rfl ?_
 refine RS (ok_field field95_0 (by decide) rfl) ?_
 refine RLV 1000002 Tryz.underlying93 rfl rfl rfl ?_
 refine RN ?_
 refine ⟨_, eff_copyK (s := 1000031) (k := 1000200) (sn := us.length) Tryz.underlying93 infoU rfl rfl rfl (usR_one' _) (usR_length hf) (by omega) (by decide) (by omega) rfl (by simp [madeCells]; omega) (by decide) (LT 1000002 rfl (LT 1000003 rfl (LT 1000004 rfl (LO 1000200 rfl (LO 1000201 rfl (LW [3, 4, 8] rfl)))))), ?_⟩
 refine TL ?_
 refine RVN 1 rfl ?_
 refine GD ?_
 refine TD 5 ?_
 refine RV 2 rfl ?_
 refine RS (ok_sliceLoK us.length Tryz.underlying93 infoU rfl rfl (by omega)) ?_
 refine RS (ok_field field95_0 (by decide) rfl) ?_
 refine RLV 1000003 Tryz.underlying93 rfl rfl rfl ?_
 refine RN ?_
 refine ⟨_, eff_copyK (s := 1000031) (k := 1000201) (sn := vs.length) Tryz.underlying93 infoU rfl rfl rfl (usR_one' _) (usR_length hg) (by omega) (by decide) (by omega) rfl (mergeFit hf hg _) (by decide) (LT 1000002 rfl (LT 1000003 rfl (LT 1000004 rfl (LO 1000200 rfl (LO 1000201 rfl (LW [4, 8] rfl)))))), ?_⟩
 refine TL ?_
 refine RN ?_
 refine GS ?_
 refine TF 2 ?_
 refine RM rfl ?_
 refine RS (ok_litS [(0, .slice (some ⟨b31, 0, none⟩) (us.length + vs.length) (us.length + vs.length))] [.slice (some ⟨b31, 0, none⟩) (us.length + vs.length) (us.length + vs.length)] ⟨rfl, rfl, trivial⟩ (buildL _ _ _)) ?_
 refine RN ?_
 refine ZA 1000004 (size95.of rfl) hBb4 rfl rfl rfl (LV 4 rfl (LB 1000002 rfl (LB 1000003 rfl (LT 1000031 rfl (LO 1000200 rfl (LO 1000201 rfl LN)))))) ?_
 refine TL ?_
 refine RVN 1 rfl ?_
 refine A.ret ?_
 exact End.newT (s := 1000004) (kg := 1000031) rfl Tryz.underlying95 rfl (size95.of rfl) rfl rfl rfl rfl hBb31 rfl (mergeRow hf hg _ rfl)
theorem Add_okB (us : List Us) (u : Us) (hf : Fits us) (hu : u.Fit) (hn : us.length ≤ 1099511627776) (h : chkU us = 0) (h' : chkU [u] = 0) (h2 : us.length + 1 ≤ 65536) : FnB Tryz.prog 39 [hdD (rowD us.length (usR us)) [], .v (aggV (usV u))] (fun B => newD B 99 (fun b => .tuple #[aggV [.slice (some ⟨b, 0, none⟩) (us.length + 1) (us.length + 1)], .int .i64 0]) (usR (us ++ [u]))) := by
 refine FnB.of Tryz.func39 rfl (by kernel_rfl) Tryz.ntmps39 (by simp) (fun w => [(0, old w.heap.size (hdD (rowD us.length (usR us)) [])), (1, .v (aggV (usV u)))]) (fun w => (Start.old rfl (Start.v rfl Start.nil))) fun w₀ => ?_
 refine A.nameHdR (t := 0) (k := 1000200) rfl fun A₀ q₀ => ?_
 refine GS ?_
 refine TN 0 ?_
 refine RN ?_
 refine ZB 1000002 rfl fun b2 ⟨hBb2, hb2⟩ => ?_
 refine TN 1 ?_
 refine RN ?_
 refine ZB 1000003 rfl fun b3 ⟨hBb3, hb3⟩ => ?_
 refine TN 2 ?_
 refine RN ?_
 refine ZN 1000004 zero95 fun b4 ⟨hBb4, hb4⟩ => ?_
 have hlt_b2_b4 := hb4 1000002 b2 _ _ rfl
 refine TL ?_
 refine RVN 1 rfl ?_
 refine GS ?_
 refine TN 4 ?_
 refine RS (OpOk.hdRow (ok_loadA (s := 1000002) (by decide) Tryz.underlying95 rfl (size95.of (rfl)) rfl rfl) (k := 1000200) (by decide) rfl) ?_
 refine RS (ok_loadA (s := 1000003) (by decide) Tryz.underlying99 rfl (size99.of (usV_length hu)) rfl rfl) ?_
 refine RS (ok_build1K Tryz.underlying93 infoU rfl (by decide) (by decide) rfl (usV_length hu)) ?_
 refine RS (ok_buildS [] rfl rfl (fun _ _ _ h => oneP_slice h) trivial (fun A m c => buildL A m c)) ?_
 refine RN ?_
 refine ZM 1000010 (fun B' => ok_callB (Merge_okB us [u] hf (fun v hv => by rw [List.mem_singleton.1 hv]; exact hu) hn (by simp) h h' (by simpa using h2)) newD_mono (Args.cons rfl (Le.old _ _) (Args.cons rfl (hd_le (oneP_rowD.trans (Le.eq (congrArg (rowD 1) (usR_one u).symm)))) Args.nil))) rfl fun b10 ⟨hBb10, hb10⟩ => ?_
 have hlt_b2_b10 := hb10 1000002 b2 _ _ rfl
 have hlt_b3_b10 := hb10 1000003 b3 _ _ rfl
 have hlt_b4_b10 := hb10 1000004 b4 _ _ rfl
 refine TF 7 ?_
 refine RVN 2 rfl ?_
 refine ZA 1000004 (size95.of rfl) hBb4 rfl rfl rfl (LB 1000002 rfl (LT 1000003 rfl (LT 1000010 rfl (LO 1000200 rfl (LW [4, 12] rfl))))) ?_
 refine TL ?_
 refine RVN 1 rfl ?_
 refine A.ret ?_
 exact End.newT (s := 1000004) (kg := 1000010) rfl Tryz.underlying95 rfl (size95.of rfl) rfl rfl rfl rfl hBb10 rfl rfl
end Go.Proofs.YtffiflfjlemggaaGreatDoor
namespace Go.Proofs.YtffiflfjlemggaaGreatDoor
open Go Go.RowKit
set_option linter.unusedVariables false
set_option linter.unusedSimpArgs false
variable {κ : Cx}
/-- The cells xs stand at A, in a block from lo on that holds cells of type e. -/
def RowX (lo : Nat) (e : TypeId) (B : Nat) (w : World) (A : Option Addr) (xs : List Value) : Prop :=
  ∀ (j : Nat) (u : Value), xs[j]? = some u → ∃ ad, A = some ad ∧ lo ≤ ad.block ∧ ad.block < B ∧ (∃ cur fr, w.heap[ad.block]? = some (.cells cur e fr)) ∧ w.cell? (ad.add j) = some u
theorem RowX.row {lo : Nat} {e : TypeId} {B : Nat} {w : World} {A : Option Addr} {xs : List Value} (h : RowX lo e B w A xs) : RowIn B w A xs := fun j u hu => by
  obtain ⟨ad, h1, _, h3, _, h5⟩ := h j u hu
  exact ⟨ad, h1, h3, h5⟩
theorem cell_block {w w' : World} {a : Addr} (h : w'.heap[a.block]? = w.heap[a.block]?) : w'.cell? a = w.cell? a := by unfold World.cell?; rw [h]
theorem RowX.other {lo : Nat} {e : TypeId} {B B' : Nat} {w w' : World} {A : Option Addr} {xs : List Value} (h : RowX lo e B w A xs) (hB : B ≤ B') (hk : ∀ b cur fr, lo ≤ b → b < B → w.heap[b]? = some (.cells cur e fr) → w'.heap[b]? = w.heap[b]?) : RowX lo e B' w' A xs := fun j u hu => by
  obtain ⟨ad, h1, h2, h3, ⟨cur, fr, h4⟩, h5⟩ := h j u hu
  have h6 := hk ad.block cur fr h2 h3 h4
  refine ⟨ad, h1, h2, by omega, ⟨cur, fr, by rw [h6]; exact h4⟩, ?_⟩
  have h7 : w'.cell? (ad.add j) = w.cell? (ad.add j) := cell_block (by rw [block_of_add]; exact h6)
  rw [h7]; exact h5
def natR (L : List Nat) : List Value := L.map fun x : Nat => Value.int .i64 (x : Int)
/-- The lists Ls stand in the slices vs, and these at A. -/
def ListsF (lo : Nat) (eL eI : TypeId) (A : Option Addr) (vs : List Value) (Ls : List (List Nat)) (B : Nat) (w : World) : Prop :=
  RowX lo eL B w A vs ∧ ∀ (k : Nat) (v : Value) (L : List Nat), vs[k]? = some v → Ls[k]? = some L → ∃ A' q, v = .slice A' L.length q ∧ RowX lo eI B w A' (natR L)
theorem ListsF.other {lo : Nat} {eL eI : TypeId} {A : Option Addr} {vs : List Value} {Ls : List (List Nat)} {B B' : Nat} {w w' : World} (h : ListsF lo eL eI A vs Ls B w) (hB : B ≤ B') (hk : ∀ b cur e fr, lo ≤ b → b < B → (e = eL ∨ e = eI) → w.heap[b]? = some (.cells cur e fr) → w'.heap[b]? = w.heap[b]?) : ListsF lo eL eI A vs Ls B' w' :=
  ⟨h.1.other hB fun b cur fr h1 h2 h3 => hk b cur _ fr h1 h2 (.inl rfl) h3, fun k v L hv hL => by
    obtain ⟨A', q, h1, h2⟩ := h.2 k v L hv hL
    exact ⟨A', q, h1, h2.other hB fun b cur fr h1 h2 h3 => hk b cur _ fr h1 h2 (.inr rfl) h3⟩⟩
def listsM (lo : Nat) (eL eI : TypeId) (A : Option Addr) (vs : List Value) (Ls : List (List Nat)) : D :=
  .p (fun B w _ => ListsF lo eL eI A vs Ls B w) (fun B w w' _ g h => h.other (Nat.le_refl _) fun b _ _ _ _ hb _ _ => g.block b hb) (fun B B' w _ g h => h.other g fun _ _ _ _ _ _ _ _ => rfl)
theorem Surv.lists {B T g lo : Nat} {eL eI : TypeId} {A : Option Addr} {vs : List Value} {Ls : List (List Nat)} (h : g < lo ∨ (eL ≠ T ∧ eI ≠ T)) : Surv B T g (listsM lo eL eI A vs Ls) := fun w w' x k hl =>
  ListsF.other hl k.size fun b cur e fr h1 h2 he hh => k.other b h2 fun hbg => by
    subst hbg
    rcases h with h | ⟨h3, h4⟩
    · omega
    · have := k.row _ _ _ hh
      rcases he with rfl | rfl
      · exact h3 this
      · exact h4 this
/-- A slice of lists as Lists says. -/
def partsD (us : List Us) (eL eI : TypeId) (lo : Nat) : D :=
  .p (fun B w x => ∃ (Ls : List (List Nat)) (vs : List Value) (A : Option Addr) (q : Nat), Lists us Ls ∧ vs.length = Ls.length ∧ vs.length ≤ us.length ∧ x = .slice A vs.length q ∧ ListsF lo eL eI A vs Ls B w)
    (fun B w w' _ g ⟨Ls, vs, A, q, h1, h2, h0, h3, h4⟩ => ⟨Ls, vs, A, q, h1, h2, h0, h3, h4.other (Nat.le_refl _) fun b _ _ _ _ hb _ _ => g.block b hb⟩) (fun B B' w _ g ⟨Ls, vs, A, q, h1, h2, h0, h3, h4⟩ => ⟨Ls, vs, A, q, h1, h2, h0, h3, h4.other g fun _ _ _ _ _ _ _ _ => rfl⟩)
theorem partsD_mono {us : List Us} {eL eI : TypeId} (B B' : Nat) (h : B ≤ B') : Le (partsD us eL eI B') (partsD us eL eI B) := fun B w x ⟨Ls, vs, A, q, h1, h2, h0, h3, h4, h5⟩ => ⟨Ls, vs, A, q, h1, h2, h0, h3, fun j u hu => by
    obtain ⟨ad, k1, k2, k3⟩ := h4 j u hu
    exact ⟨ad, k1, by omega, k3⟩, fun k v L hv hL => by
    obtain ⟨A', q', k1, k2⟩ := h5 k v L hv hL
    exact ⟨A', q', k1, fun j u hu => by
      obtain ⟨ad, l1, l2, l3⟩ := k2 j u hu
      exact ⟨ad, l1, by omega, l3⟩⟩⟩
section
variable {P : Program} {n : Nat} {E : Env} {w₀ : World} {c : Code} {Q : Exit → Act → World → Prop}
/-- One of the lists, by its value. -/
theorem A.openList {t k k' lo : Nat} {eL eI : TypeId} {A₀ : Option Addr} {vs : List Value} {Ls : List (List Nat)} {v : Value} {L : List Nat} {i : Nat} (ht : E.look t = some (.v v)) (hk : E.look k = some (listsM lo eL eI A₀ vs Ls)) (hv : vs[i]? = some v) (hL : Ls[i]? = some L)
    (h : ∀ (A' : Option Addr) (q : Nat), A κ P w₀ n c ((t, .v (.slice A' L.length q)) :: (k', memR A' (natR L)) :: E) Q) : A κ P w₀ n c E Q := fun a w g hs => by
  obtain ⟨A', q, h1, h2⟩ := (hs.of k _ hk).2 i v L hv hL
  exact h A' q a w g ((hs.push (t := k') (d := memR A' (natR L)) h2.row).push (d := .v (.slice A' L.length q)) (by rw [← h1]; exact hs.of t _ ht))
end
/-! ### Results whose parts get names -/
theorem St.pushes {n B : Nat} {E : Env} {a : Act} {w : World} (h : St κ n B E a w) (hnv : n ≤ vbase) : ∀ (F : Env), (∀ q ∈ F, vbase ≤ q.1 ∧ q.2.Of w undef) → St κ n B (F ++ E) a w
  | [], _ => h
  | (k, d) :: F, hF => by
    have h1 := hF (k, d) (by simp)
    exact (St.pushes h hnv F fun q hq => hF q (by simp [hq])).push (t := k) (d := d) (by rw [Array.getD_eq_getD_getElem?, Array.getElem?_eq_none (by rw [h.size]; omega)]; exact h1.2)
theorem eff_nameG {P : Program} {n B : Nat} {ops : Array Oper} {E : Env} {o : Oper} {dst : Nat} {ι : Type} {d : Nat → D} (val : ι → Value) (G : ι → Prop) (F : Nat → ι → Env) (ht : o.dst = some dst) (hg : o.guard = none) (hok : ∀ B', OpOk P B' o E (d B'))
    (hopen : ∀ lo w x, (d lo).Of w x → ∃ i, G i ∧ x = val i ∧ ∀ q ∈ F lo i, vbase ≤ q.1 ∧ q.2.Of w undef) (hdn : dst < n) (hnv : n ≤ vbase) :
    EffG P n B ops o E (fun q : Nat × ι => NewB B E q.1 ∧ G q.2) (fun q => (dst, .v (val q.2)) :: (F q.1 q.2 ++ E)) := by
  intro κ a w K Q h hK
  rw [if_pos (by simp [Region.wanted, hg])]
  refine wp_of_out ht ((hok w.heap.size a.eval w (Nat.le_refl _) (h.virt hnv) fun x _ u hu => h.at_ x _ hu).mono ?_)
  rintro x w' ⟨hgr, hd⟩
  obtain ⟨i, hG, hx, hF⟩ := hopen _ _ _ hd
  exact hK (w.heap.size, i) _ _ ⟨⟨h.base, fun s b' e ys hs => (h.of s _ hs).1⟩, hG⟩ (Below.mono hgr h.base) (St.put (St.pushes (h.grow hgr) hnv _ hF) hdn hx)
theorem RunTK.newG {P : Program} {n B : Nat} {ops : Array Oper} {draw : Bool} {C : Env → Prop} {o : Oper} {E : Env} {s : Nat} (p : Nat) (hsp : s ≤ p) (ho : ops[p]? = some o) (hb : draw = false ∨ barrier ops p = true)
    (h : RunK P B ops ((ops.toList.drop s).take (p - s)) E (fun E₁ => ∃ (ι : Type) (G : ι → Prop) (E₂ : ι → Env), EffG P n B ops o E₁ G E₂ ∧ ∀ i, G i → RunTK P n B ops draw C (p + 1) (E₂ i))) : RunTK P n B ops draw C s E := by
  obtain ⟨E₁, h1, ι, G, E₂, h2, h3⟩ := h
  exact .effG hsp ho hb h1 h2 h3
theorem lst1_any {Ls : List (List Nat)} {p : Nat → Bool} {f : List Nat → Bool} {m : Nat} (hm : m = Ls.length) (h : ∀ k, k < m → p k = f Ls[k]!) : decide (lst1 p m < m) = Ls.any f := by
  subst hm
  obtain ⟨h1, h2, h3⟩ := lst1_spec p Ls.length
  rw [Bool.eq_iff_iff, List.any_eq_true, decide_eq_true_iff]
  constructor
  · intro hl
    exact ⟨Ls[lst1 p Ls.length], List.getElem_mem hl, by rw [← getElem!_pos Ls _ hl, ← h _ hl]; exact h3 hl⟩
  · rintro ⟨L, hL, hf⟩
    obtain ⟨k, hk, rfl⟩ := List.getElem_of_mem hL
    rcases Nat.lt_or_ge (lst1 p Ls.length) Ls.length with hl | hl
    · exact hl
    · have := h2 k (by omega)
      rw [h k hk, getElem!_pos Ls k hk, hf] at this; cases this
section
variable {P : Program} {B : Nat} {E : Env}
theorem OpOk.rowL {o : Oper} {A₀ : Option Addr} {q k lo : Nat} {eL eI : TypeId} {vs : List Value} {Ls : List (List Nat)} (h : OpOk P B o E (.v (.slice A₀ vs.length q))) (hk : vbase ≤ k) (hl : E.look k = some (listsM lo eL eI A₀ vs Ls)) : OpOk P B o E (rowD vs.length vs) := fun ρ w hB hv hρ => by
  refine (h ρ w hB hv hρ).mono fun x w' hx => ⟨hx.1, ?_⟩
  have h2 : (listsM lo eL eI A₀ vs Ls).Of w' undef := D.Of.grow (hv k _ hk hl) hx.1
  exact ⟨A₀, q, hx.2, h2.1.row⟩
theorem parts_open {us : List Us} {eL eI : TypeId} {k : Nat} (hk : vbase ≤ k := by decide) (lo : Nat) (w : World) (x : Value) (h : (partsD us eL eI lo).Of w x) : ∃ i : List (List Nat) × List Value × Option Addr × Nat, (Lists us i.1 ∧ i.2.1.length = i.1.length ∧ i.2.1.length ≤ us.length) ∧ x = .slice i.2.2.1 i.2.1.length i.2.2.2 ∧ ∀ q ∈ [(k, listsM lo eL eI i.2.2.1 i.2.1 i.1)], vbase ≤ q.1 ∧ q.2.Of w undef := by
  obtain ⟨Ls, vs, A, q, h1, h2, h3, h4, h5⟩ := h
  exact ⟨(Ls, vs, A, q), ⟨h1, h2, h3⟩, h4, fun q hq => by rw [List.mem_singleton.1 hq]; exact ⟨hk, h5⟩⟩
end
section
variable {P : Program} {n : Nat} {w₀ : World} {E : Env}
/-- Three results: a value, a number's variable, a value. -/
theorem End.tct {fn : Func} {r r' s k b : Nat} {T e : TypeId} {td : TypeDesc} {u v v₀ : Value} (hr : fn.results = #[.tmp r, .cell s T, .tmp r']) (ht : P.underlying T = some td) (hp : (match td with | .struct _ | .array _ _ => true | _ => false) = false)
    (h1 : E.look r = some (.v u)) (h2 : E.look s = some (.v (.pointer (some ⟨b, 0, none⟩)))) (h3 : E.look k = some (blk b e [v₀])) (h4 : E.look r' = some (.v v)) :
    End Cx.top w₀ n E (BP P fn (PostOf w₀ (.v (.tuple #[u, v₀, v]))) .ret) := fun a w gr hs => by
  have k1 : a.tmps[r]?.getD undef = u := by rw [← Array.getD_eq_getD_getElem?]; exact hs.of r _ h1
  have k2 : a.tmps[s]?.getD undef = .pointer (some ⟨b, 0, none⟩) := by rw [← Array.getD_eq_getD_getElem?]; exact hs.of s _ h2
  have k4 : a.tmps[r']?.getD undef = v := by rw [← Array.getD_eq_getD_getElem?]; exact hs.of r' _ h4
  obtain ⟨_, hh⟩ := hs.of k _ h3
  have hl : (loadVar T ⟨b, 0, none⟩).run P w = .ok v₀ w := by
    have hagg : (isAgg T).run P w = .ok false w := by
      unfold isAgg
      rw [Sem.run_bind, run_underlying ht w]
      cases td <;> simp_all
    have hc : w.cell? ⟨b, 0, none⟩ = some v₀ := by simp [World.cell?, hh]
    simp [loadVar, Sem.run_bind, hagg, hc]
  exact BP.ret hs.defers ⟨.tuple #[u, v₀, v], by simp [results, hr, k1, k2, k4, asAddr, hl], _, rfl, gr, rfl⟩
end
end Go.Proofs.YtffiflfjlemggaaGreatDoor
namespace Go.Proofs.YtffiflfjlemggaaGreatDoor
open Go Go.RowKit
set_option linter.unusedVariables false
set_option maxRecDepth 20000
def ints (n : Nat) : List Value := (List.range n).map fun i : Nat => Value.int .i64 (i : Int)
theorem infoLL : InfoP Tryz.prog 153 (.slice none 0 0) 1 24 := by unfold InfoP; kernel_rfl
theorem infoI : InfoP Tryz.prog 3 (.int .i64 0) 1 8 := by unfold InfoP; kernel_rfl
theorem row1_at {vs : List Value} {i : Nat} (hi : i < vs.length) : (vs.drop (i * 1)).take 1 = [vs[i]] := by
 rw [Nat.mul_one, List.take_one, List.head?_drop, List.getElem?_eq_getElem hi]; rfl
theorem idx_end {p : Nat → Bool} {n i : Nat} (h : i ≤ n ∧ ∀ j, j < i → p j = false) (hi : i = n) : (-1 : Int) = if lst1 p n < n then ((lst1 p n : Nat) : Int) else -1 := by
 subst hi; rw [lst1_eq (Nat.le_refl _) h.2 (fun h => absurd h (Nat.lt_irrefl _)), if_neg (Nat.lt_irrefl _)]
theorem idx_ret {p : Nat → Bool} {n i : Nat} (h : i ≤ n ∧ ∀ j, j < i → p j = false) (hi : i < n) (hp : p i = true) : (i : Int) = if lst1 p n < n then ((lst1 p n : Nat) : Int) else -1 := by
 rw [lst1_eq (by omega) h.2 (fun _ => hp), if_pos hi]
theorem idx_next {p : Nat → Bool} {n i : Nat} (h : i ≤ n ∧ ∀ j, j < i → p j = false) (hi : i < n) (hp : p i = false) : i + 1 ≤ n ∧ ∀ j, j < i + 1 → p j = false := ⟨by omega, fun j hj => by
 rcases Nat.lt_or_ge j i with h1 | h1
 ·exact h.2 j h1
 ·rw [show j = i from by omega]; exact hp⟩

theorem IndexU_fn (us : List Us) (hf : Fits us) (hn : us.length ≤ 1099511627776) (p : Nat → Bool) : Fn Tryz.prog 96 [rowD us.length (usR us), predD Tryz.prog (us.map fun u => aggV (usV u)) p] (.v (.int .i64 (if lst1 p us.length < us.length then ((lst1 p us.length : Nat) : Int) else -1))) := by
 refine Fn.of Tryz.func96 rfl (by kernel_rfl) Tryz.ntmps96 (by simp) (fun w => [(0, old w.heap.size (rowD us.length (usR us))), (1, old w.heap.size (predD Tryz.prog (us.map fun u => aggV (usV u)) p))]) (fun w => (Start.old rfl (Start.old rfl Start.nil))) fun w₀ => ?_
 refine A.nameR (t := 0) (k := 1000200) rfl fun A₀ q₀ => ?_
 refine GV rfl ?_
 refine QS ?_
 refine GT ?_
 refine RM rfl ?_
 refine RS (ok_lenV Tryz.underlying93 rfl) ?_
 refine RVN 1 rfl ?_
 refine A.block ?_
 refine A.loop (ι := Nat) (fun i => i ≤ us.length ∧ ∀ j, j < i → p j = false) (fun i => [(1000200, old w₀.heap.size (memR A₀ (usR us))), (0, .v (.slice A₀ us.length q₀)), (1, old w₀.heap.size (predD Tryz.prog (us.map fun u => aggV (usV u)) p)), (7, .v (nI (us.length))), (8, .v (nI i))]) (fun i => us.length - i) 0 ?_ ?_ ?_
 ·exact ⟨Nat.zero_le _, fun j hj => absurd hj (Nat.not_lt_zero _)⟩
 ·exact (KC 1000200 rfl (KC 0 rfl (KC 1 rfl (KC 7 rfl (KE 8 rfl (by rfl) KN)))))
 intro i hi'
 refine GV rfl ?_
 refine QS ?_
 refine A.cond rfl (fun hc9 => ?_) (fun hc9 => ?_)
 ·have hi : i < us.length := by have h := hc9; simp at h; omega
  refine QK ?_
  refine QSB ?_
  refine GV rfl ?_
  refine GT ?_
  refine RV 3 rfl ?_
  refine RS (ok_indexR (s := 1000200) i Tryz.underlying93 infoU rfl rfl (by decide) rfl hi (usR_lt hf hi)) ?_
  refine RS (ok_loadElemP Tryz.underlying99 rfl (size99.of (by rw [usR_at hf hi, usV_length (hf.get hi)])) rfl) ?_; refine RZ (aggV (usV us[i])) (congrArg aggV (usR_at hf hi)) ?_
  refine RS (ok_callPred i rfl (Le.old _ _) rfl (by rw [List.getElem?_map, List.getElem?_eq_getElem hi]; rfl)) ?_
  refine RN ?_
  refine A.cond rfl (fun hc16 => ?_) (fun hc16 => ?_)
  ·refine GV rfl ?_
   refine A.ret ?_
   refine End.ret_block ?_
   refine End.ret_then ?_
   refine End.ret_then ?_
   refine End.ret_block ?_
   refine End.ret_then ?_
   first | exact End.ret1 rfl rfl (Le.v (congrArg (Value.int .i64) (idx_ret hi' hi (by simpa using hc16)))) | exact End.ret1 rfl rfl (Le.v (congrArg (Value.int .i64) (idx_end hi' hi2)))
  ·refine A.skip ?_
   refine End.normal_block ?_
   refine EN ?_
   refine GTE ?_
   refine RB rfl rfl rfl ?_
   refine RZ (nI (i + 1)) (by rw [wrap_i64 (by omega) (by omega)]; rfl) ?_
   refine RVN 1 rfl ?_
   refine End.normal_then ?_
   refine End.again (i + 1) ?_ ?_ ?_
   ·exact idx_next hi' hi (by simpa using hc16)
   ·show _ - _ < _ - _; omega
   ·exact (SV [1000200, 0, 1, 7, 8] rfl)
 ·have hi2 : i = us.length := by have h := hi'.1; simp at hc9; omega
  refine A.exit ?_
  refine End.exit_then ?_
  refine End.exit_then ?_
  refine End.exit_here ?_
  refine EN ?_
  refine GV rfl ?_
  refine A.ret ?_
  first | exact End.ret1 rfl rfl (Le.v (congrArg (Value.int .i64) (idx_ret hi' hi (by simpa using hc16)))) | exact End.ret1 rfl rfl (Le.v (congrArg (Value.int .i64) (idx_end hi' hi2)))
theorem IndexV_fn (vs : List Value) (hn : vs.length ≤ 1099511627776) (p : Nat → Bool) : Fn Tryz.prog 117 [rowD vs.length vs, predD Tryz.prog vs p] (.v (.int .i64 (if lst1 p vs.length < vs.length then ((lst1 p vs.length : Nat) : Int) else -1))) := by
 refine Fn.of Tryz.func117 rfl (by kernel_rfl) Tryz.ntmps117 (by simp) (fun w => [(0, old w.heap.size (rowD vs.length vs)), (1, old w.heap.size (predD Tryz.prog vs p))]) (fun w => (Start.old rfl (Start.old rfl Start.nil))) fun w₀ => ?_
 refine A.nameR (t := 0) (k := 1000200) rfl fun A₀ q₀ => ?_
 refine GV rfl ?_
 refine QS ?_
 refine GT ?_
 refine RM rfl ?_
 refine RS (ok_lenV Tryz.underlying149 rfl) ?_
 refine RVN 1 rfl ?_
 refine A.block ?_
 refine A.loop (ι := Nat) (fun i => i ≤ vs.length ∧ ∀ j, j < i → p j = false) (fun i => [(1000200, old w₀.heap.size (memR A₀ vs)), (0, .v (.slice A₀ vs.length q₀)), (1, old w₀.heap.size (predD Tryz.prog vs p)), (7, .v (nI (vs.length))), (8, .v (nI i))]) (fun i => vs.length - i) 0 ?_ ?_ ?_
 ·exact ⟨Nat.zero_le _, fun j hj => absurd hj (Nat.not_lt_zero _)⟩
 ·exact (KC 1000200 rfl (KC 0 rfl (KC 1 rfl (KC 7 rfl (KE 8 rfl (by rfl) KN)))))
 intro i hi'
 refine GV rfl ?_
 refine QS ?_
 refine A.cond rfl (fun hc9 => ?_) (fun hc9 => ?_)
 ·have hi : i < vs.length := by have h := hc9; simp at h; omega
  refine QK ?_
  refine QSB ?_
  refine GV rfl ?_
  refine GT ?_
  refine RV 3 rfl ?_
  refine RS (ok_indexR (s := 1000200) i Tryz.underlying149 infoLL rfl rfl (by decide) rfl hi (by omega)) ?_
  refine RS (ok_loadP1 (u := vs[i]) (us := []) Tryz.underlying153 rfl (congrArg (fun l => some (elemP l)) (row1_at hi))) ?_
  refine RS (ok_callPred i rfl (Le.old _ _) rfl (List.getElem?_eq_getElem hi)) ?_
  refine RN ?_
  refine A.cond rfl (fun hc16 => ?_) (fun hc16 => ?_)
  ·refine GV rfl ?_
   refine A.ret ?_
   refine End.ret_block ?_
   refine End.ret_then ?_
   refine End.ret_then ?_
   refine End.ret_block ?_
   refine End.ret_then ?_
   first | exact End.ret1 rfl rfl (Le.v (congrArg (Value.int .i64) (idx_ret hi' hi (by simpa using hc16)))) | exact End.ret1 rfl rfl (Le.v (congrArg (Value.int .i64) (idx_end hi' hi2)))
  ·refine A.skip ?_
   refine End.normal_block ?_
   refine EN ?_
   refine GTE ?_
   refine RB rfl rfl rfl ?_
   refine RZ (nI (i + 1)) (by rw [wrap_i64 (by omega) (by omega)]; rfl) ?_
   refine RVN 1 rfl ?_
   refine End.normal_then ?_
   refine End.again (i + 1) ?_ ?_ ?_
   ·exact idx_next hi' hi (by simpa using hc16)
   ·show _ - _ < _ - _; omega
   ·exact (SV [1000200, 0, 1, 7, 8] rfl)
 ·have hi2 : i = vs.length := by have h := hi'.1; simp at hc9; omega
  refine A.exit ?_
  refine End.exit_then ?_
  refine End.exit_then ?_
  refine End.exit_here ?_
  refine EN ?_
  refine GV rfl ?_
  refine A.ret ?_
  first | exact End.ret1 rfl rfl (Le.v (congrArg (Value.int .i64) (idx_ret hi' hi (by simpa using hc16)))) | exact End.ret1 rfl rfl (Le.v (congrArg (Value.int .i64) (idx_end hi' hi2)))
theorem Contains_fn (vs : List Value) (hn : vs.length ≤ 1099511627776) (p : Nat → Bool) : Fn Tryz.prog 93 [rowD vs.length vs, predD Tryz.prog vs p] (.v (.bool (decide (lst1 p vs.length < vs.length)))) := by
 refine Fn.of Tryz.func93 rfl (by kernel_rfl) Tryz.ntmps93 (by simp) (fun w => [(0, old w.heap.size (rowD vs.length vs)), (1, old w.heap.size (predD Tryz.prog vs p))]) (fun w => (Start.old rfl (Start.old rfl Start.nil))) fun w₀ => ?_
 refine GV rfl ?_
 refine GT ?_
 refine RV 2 rfl ?_
 refine RS (ok_call (IndexV_fn vs hn p) (Args.cons rfl (Le.old _ _) (Args.cons rfl (Le.old _ _) Args.nil))) ?_
 refine RB rfl rfl rfl ?_
 refine RZ (.bool (decide (lst1 p vs.length < vs.length))) (congrArg Value.bool (decide_eq_decide.2 (by split <;> omega))) ?_
 refine RVN 1 rfl ?_
 refine A.ret ?_
 exact ER rfl rfl
def SearchG (p : Nat → Bool) (n : Nat) (x : Nat × Nat) : Prop := x.1 ≤ x.2 ∧ x.2 ≤ n ∧ (∀ k, k < x.1 → p k = false) ∧ ∀ k, x.2 ≤ k → k < n → p k = true
def searchN (p : Nat → Bool) (x : Nat × Nat) : Nat × Nat := if p ((x.1 + x.2) / 2) then (x.1, (x.1 + x.2) / 2) else ((x.1 + x.2) / 2 + 1, x.2)
theorem search_next {p : Nat → Bool} {n : Nat} (hm : ∀ a b, a ≤ b → b < n → p a = true → p b = true) {x : Nat × Nat} (h : SearchG p n x) (hl : x.1 < x.2) : SearchG p n (searchN p x) := by
 obtain ⟨h1, h2, h3, h4⟩ := h
 unfold searchN
 split
 ·rename_i hp
  exact ⟨by simp only; omega, by simp only; omega, h3, fun k hk hkn => hm _ _ hk hkn hp⟩
 ·rename_i hp
  refine ⟨by simp only; omega, h2, fun k hk => ?_, h4⟩
  cases hpk : p k with
  | false => rfl
  | true => exact absurd (hm k _ (by simp only at hk; omega) (by omega) hpk) hp
theorem search_less {p : Nat → Bool} {x : Nat × Nat} (hl : x.1 < x.2) : (searchN p x).2 - (searchN p x).1 < x.2 - x.1 := by
 unfold searchN; split <;> simp only <;> omega
theorem search_end {p : Nat → Bool} {n : Nat} {x : Nat × Nat} (h : SearchG p n x) (hl : ¬ x.1 < x.2) : x.1 = lst1 p n := by
 obtain ⟨h1, h2, h3, h4⟩ := h
 exact (lst1_eq (by omega) h3 (fun h => h4 _ (by omega) h)).symm
theorem range_at {n i : Nat} (h : i < n) : (ints n)[i]? = some (Value.int .i64 (i : Int)) := by
 unfold ints
 rw [List.getElem?_map, List.getElem?_range h]; rfl
theorem search_shr {n : Nat} (h : n < 18446744073709551616) : Value.int .u64 (((n : Nat) : Int).fdiv (2 ^ min (1 : Int).toNat IntKind.u64.bits)) = nQ (n / 2) := by
 rw [show min (1 : Int).toNat IntKind.u64.bits = 1 from rfl, Int.fdiv_eq_ediv_of_nonneg _ (by decide)]; congr 1
theorem Search_fn (n : Nat) (hn : n ≤ 1099511627776) (p : Nat → Bool) (hm : ∀ a b, a ≤ b → b < n → p a = true → p b = true) : Fn Tryz.prog 91 [.v (nI n), predD Tryz.prog (ints n) p] (.v (nI (lst1 p n))) := by
 refine Fn.of Tryz.func91 rfl (by kernel_rfl) Tryz.ntmps91 (by simp) (fun w => [(0, .v (nI n)), (1, old w.heap.size (predD Tryz.prog (ints n) p))]) (fun w => (Start.v rfl (Start.old rfl Start.nil))) fun w₀ => ?_
 refine GV rfl ?_
 refine GV rfl ?_
 refine QSB ?_
 refine A.loop (ι := Nat × Nat) (fun x => SearchG p n x) (fun x => [(1, old w₀.heap.size (predD Tryz.prog (ints n) p)), (5, .v (nI (x.1))), (6, .v (nI (x.2)))]) (fun x => x.2 - x.1) (0, n) ?_ ?_ ?_
 ·exact ⟨Nat.zero_le _, Nat.le_refl _, fun k hk => absurd hk (Nat.not_lt_zero _), fun k h1 h2 => absurd h2 (Nat.not_lt.2 h1)⟩
 ·exact (KC 1 rfl (KE 5 rfl (by rfl) (KC 6 rfl KN)))
 intro x hx
 refine QS ?_
 refine GV rfl ?_
 refine A.cond rfl (fun hc11 => ?_) (fun hc11 => ?_)
 ·have hlt : x.1 < x.2 := by have h := hc11; simp at h; omega
  refine QK ?_
  refine A.block ?_
  refine GT ?_
  refine RV 3 rfl ?_
  refine RZ (nI (x.1 + x.2)) (by rw [wrap_i64 (by omega) (by have h1 := hx.1; have h2 := hx.2.1; omega)]; rfl) ?_
  refine RS (ok_conv Tryz.underlying3 Tryz.underlying138 rfl) ?_; refine RZ (nQ (x.1 + x.2)) (congrArg (Value.int .u64) (wrapN_u64 (by have h1 := hx.1; have h2 := hx.2.1; omega))) ?_
  refine RS (ok_shr rfl rfl (by decide)) ?_; refine RZ (nQ ((x.1 + x.2) / 2)) (search_shr (by have h1 := hx.1; have h2 := hx.2.1; omega)) ?_
  refine RS (ok_conv Tryz.underlying138 Tryz.underlying3 rfl) ?_; refine RZ (nI (((x.1 + x.2) / 2))) (congrArg (Value.int .i64) (wrapN_i64 (by have h1 := hx.1; have h2 := hx.2.1; omega))) ?_
  refine RVN 1 rfl ?_
  refine GT ?_
  refine RV 2 rfl ?_
  refine RS (ok_callPred ((x.1 + x.2) / 2) rfl (Le.old _ _) rfl (range_at (by have h1 := hx.1; have h2 := hx.2.1; omega))) ?_
  refine RVN 1 rfl ?_
  refine A.cond rfl (fun hc21 => ?_) (fun hc21 => ?_)
  ·have hp : p ((x.1 + x.2) / 2) = false := by simpa using hc21
   refine GTE ?_
   refine RV 2 rfl ?_
   refine RZ (nI (((x.1 + x.2) / 2) + 1)) (by rw [wrap_i64 (by omega) (by have h1 := hx.1; have h2 := hx.2.1; omega)]; rfl) ?_
   refine RVN 1 rfl ?_
   refine End.normal_block ?_
   refine End.normal_then ?_
   refine End.again (searchN p x) ?_ ?_ ?_
   ·exact search_next hm hx hlt
   ·exact search_less hlt
   ·exact (KC 1 rfl (KE 5 rfl (by simp [searchN, hp]) (KE 6 rfl (by simp [searchN, hp]) KN)))
  ·have hp : p ((x.1 + x.2) / 2) = true := by simpa using hc21
   refine GVE rfl ?_
   refine End.normal_block ?_
   refine End.normal_then ?_
   refine End.again (searchN p x) ?_ ?_ ?_
   ·exact search_next hm hx hlt
   ·exact search_less hlt
   ·exact (KC 1 rfl (KE 5 rfl (by simp [searchN, hp]) (KE 6 rfl (by simp [searchN, hp]) KN)))
 ·have hge : ¬ x.1 < x.2 := by have h := hc11; simp at h; omega
  refine A.exit ?_
  refine End.exit_then ?_
  refine End.exit_then ?_
  refine End.exit_here ?_
  refine EN ?_
  refine GV rfl ?_
  refine A.ret ?_
  exact End.ret1 rfl rfl (Le.v (congrArg (fun k : Nat => Value.int .i64 (k : Int)) (search_end hx hge)))
theorem natR_at {L : List Nat} {i : Nat} (hi : i < L.length) : ((natR L).drop (i * 1)).take 1 = [(nI (L[i]!) : Value)] := by
 rw [row1_at (by simpa [natR] using hi)]; simp [natR, hi]
def encB : Option Nat → Int
 | none => -1
 | some k => (k : Int)
def hitB (us : List Us) (b : Option Nat) (i : Nat) : Bool := match b with
 | none => false
 | some k => clB us[k]! us[i]!
def RepG (us : List Us) (j : Nat) (L : List Nat) (x : Nat × Option Nat) : Prop := x.1 ≤ L.length ∧ repG us j none L = repG us j x.2 (L.drop x.1) ∧ ∀ k, x.2 = some k → k < us.length
def repN (L : List Nat) (j : Nat) (x : Nat × Option Nat) : Nat × Option Nat := (x.1 + 1, if j < L[x.1]! then x.2 else some L[x.1]!)
theorem rep_drop {us : List Us} {L : List Nat} {j : Nat} {x : Nat × Option Nat} (hi : x.1 < L.length) : repG us j x.2 (L.drop x.1) = if j < L[x.1]! then repG us j x.2 (L.drop (x.1 + 1)) else if hitB us x.2 L[x.1]! then true else repG us j (some L[x.1]!) (L.drop (x.1 + 1)) := by
 rw [List.drop_eq_getElem_cons hi, ← getElem!_pos L x.1 hi]
 rcases x.2 with _ | k <;> simp only [repG, hitB] <;> split <;> simp
theorem enc_pass {L : List Nat} {j : Nat} {x : Nat × Option Nat} (hg : j < L[x.1]!) : encB x.2 = encB (repN L j x).2 := by unfold repN; rw [if_pos hg]
theorem enc_next {L : List Nat} {j : Nat} {x : Nat × Option Nat} (hg : ¬ j < L[x.1]!) : ((L[x.1]! : Nat) : Int) = encB (repN L j x).2 := by unfold repN; rw [if_neg hg]; rfl
theorem rep_pass {us : List Us} {L : List Nat} {j : Nat} {x : Nat × Option Nat} (hx : RepG us j L x) (hi : x.1 < L.length) (hg : j < L[x.1]!) : RepG us j L (repN L j x) := by
 obtain ⟨_, h2, h3⟩ := hx
 rw [rep_drop hi, if_pos hg] at h2
 unfold repN; rw [if_pos hg]
 exact ⟨hi, h2, h3⟩
theorem rep_next {us : List Us} {L : List Nat} {j : Nat} {x : Nat × Option Nat} (hx : RepG us j L x) (hi : x.1 < L.length) (hg : ¬ j < L[x.1]!) (hh : hitB us x.2 L[x.1]! = false) (hl : L[x.1]! < us.length) : RepG us j L (repN L j x) := by
 obtain ⟨_, h2, h3⟩ := hx
 rw [rep_drop hi, if_neg hg, hh] at h2
 unfold repN; rw [if_neg hg]
 exact ⟨hi, h2, fun k hk => by simp only [Option.some.injEq] at hk; omega⟩
theorem rep_hit {us : List Us} {L : List Nat} {j : Nat} {x : Nat × Option Nat} (hx : RepG us j L x) (hi : x.1 < L.length) (hg : ¬ j < L[x.1]!) (hh : hitB us x.2 L[x.1]! = true) : true = repG us j none L := by
 rw [hx.2.1, rep_drop hi, if_neg hg, hh]; rfl
theorem rep_end {us : List Us} {L : List Nat} {j : Nat} {x : Nat × Option Nat} (hx : RepG us j L x) (hi : x.1 = L.length) : false = repG us j none L := by
 rw [hx.2.1, hi, List.drop_length]; rfl
theorem encB_some {b : Option Nat} (h : b.isSome = true) : encB b = ((b.getD 0 : Nat) : Int) := by
 cases b with
 | none => cases h
 | some k => rfl
theorem encB_none {b : Option Nat} (h : b.isSome = false) : encB b = -1 := by
 cases b with
 | none => rfl
 | some k => cases h
theorem hitB_some {us : List Us} {b : Option Nat} {i : Nat} (h : b.isSome = true) (hk : b.getD 0 < us.length) (hl : i < us.length) : clB us[b.getD 0] us[i] = hitB us b i := by
 cases b with
 | none => cases h
 | some k => simp only [Option.getD_some] at hk; simp [hitB, hk, hl]
theorem hitB_none {us : List Us} {b : Option Nat} {i : Nat} (h : b.isSome = false) : false = hitB us b i := by
 cases b with
 | none => rfl
 | some k => cases h
set_option maxHeartbeats 1000000 in
theorem repeated_fn (us : List Us) (hf : Fits us) (hn : us.length ≤ 1099511627776) (L : List Nat) (hL : ∀ y ∈ L, y < us.length) (hLn : L.length ≤ 1099511627776) (j : Nat) : Fn Tryz.prog 95 [rowD us.length (usR us), rowD L.length (natR L), .v (nI j)] (.v (.bool (repG us j none L))) := by
 refine Fn.of Tryz.func95 rfl (by kernel_rfl) Tryz.ntmps95 (by simp) (fun w => [(0, old w.heap.size (rowD us.length (usR us))), (1, old w.heap.size (rowD L.length (natR L))), (2, .v (nI j))]) (fun w => (Start.old rfl (Start.old rfl (Start.v rfl Start.nil)))) fun w₀ => ?_
 refine A.nameR (t := 0) (k := 1000200) rfl fun A₀ q₀ => ?_
 refine A.nameR (t := 1) (k := 1000201) rfl fun A₁ q₁ => ?_
 refine GV rfl ?_
 refine A.scope ?_
 refine GV rfl ?_
 refine QS ?_
 refine A.label ?_
 refine EN ?_
 refine QS ?_
 refine GT ?_
 refine RM rfl ?_
 refine RS (ok_lenV Tryz.underlying153 rfl) ?_
 refine RVN 1 rfl ?_
 refine A.block ?_
 refine A.loop (ι := Nat × Option Nat) (fun x => RepG us j L x) (fun x => [(1000200, old w₀.heap.size (memR A₀ (usR us))), (1000201, old w₀.heap.size (memR A₁ (natR L))), (0, .v (.slice A₀ us.length q₀)), (2, .v (nI j)), (7, .v (.bool false)), (8, .v (.int .i64 (encB x.2))), (11, .v (.slice A₁ L.length q₁)), (12, .v (nI (L.length))), (13, .v (nI (x.1)))]) (fun x => L.length - x.1) (0, none) ?_ ?_ ?_
 ·exact ⟨Nat.zero_le _, rfl, fun k hk => by cases hk⟩
 ·exact (KC 1000200 rfl (KC 1000201 rfl (KC 0 rfl (KC 2 rfl (KC 7 rfl (KC 8 rfl (KC 11 rfl (KC 12 rfl (KE 13 rfl (by rfl) KN)))))))))
 intro x hx
 refine GV rfl ?_
 refine QS ?_
 refine A.cond rfl (fun hc14 => ?_) (fun hc14 => ?_)
 ·have hi : x.1 < L.length := by have h := hc14; simp at h; omega
  have hl : L[x.1]! < us.length := by rw [getElem!_pos L x.1 hi]; exact hL _ (List.getElem_mem hi)
  refine QK ?_
  refine QSB ?_
  refine GT ?_
  refine RS (ok_indexR (s := 1000201) x.1 Tryz.underlying153 infoI rfl rfl (by decide) rfl hi (by simpa [natR] using hi)) ?_
  refine RS (ok_loadP1 (u := nI (L[x.1]!)) (us := []) Tryz.underlying3 rfl (congrArg (fun l => some (elemP l)) (natR_at hi))) ?_
  refine RVN 1 rfl ?_
  refine QSB ?_
  refine GT ?_
  refine RV 3 rfl ?_
  refine RZ (.bool (decide (j < L[x.1]!))) (congrArg Value.bool (decide_eq_decide.2 (by omega))) ?_
  refine RVN 1 rfl ?_
  refine A.cond rfl (fun hc17 => ?_) (fun hc17 => ?_)
  ·have hgt : j < L[x.1]! := by simpa using hc17
   refine A.exit ?_
   refine End.exit_past (by decide) ?_
   refine End.exit_then ?_
   refine End.exit_here ?_
   refine EN ?_
   refine GTE ?_
   refine RB rfl rfl rfl ?_
   refine RZ (nI (x.1 + 1)) (by rw [wrap_i64 (by omega) (by omega)]; rfl) ?_
   refine RVN 1 rfl ?_
   refine End.normal_then ?_
   refine End.again (repN L j x) ?_ ?_ ?_
   ·first | exact rep_pass hx hi hgt | exact rep_next hx hi hgt hc21 hl
   ·show L.length - (x.1 + 1) < L.length - x.1; omega
   ·exact (KC 1000200 rfl (KC 1000201 rfl (KC 0 rfl (KC 2 rfl (KC 7 rfl (KE 8 rfl (congrArg (fun k : Int => D.v (Value.int .i64 k)) (by first | exact enc_pass hgt | exact enc_next hgt)) (KC 11 rfl (KC 12 rfl (KC 13 rfl KN)))))))))
  ·have hgt : ¬ j < L[x.1]! := by simpa using hc17
   have hk : x.2.isSome = true → x.2.getD 0 < us.length := fun h => by cases hb : x.2 with
    | none => rw [hb] at h; cases h
    | some k => exact hx.2.2 k hb
   rcases Bool.eq_false_or_eq_true (x.2.isSome) with hsp | hsp
   ·have hk := hk hsp
    refine GTD ?_
    refine RV 2 rfl ?_
    refine RZ (.bool true) (by rw [encB_some hsp]; simp) ?_
    refine RV 3 rfl ?_
    refine RZ (nI (x.2.getD 0)) (congrArg (Value.int .i64) (encB_some hsp)) ?_
    refine RQ (ok_indexR (s := 1000200) (x.2.getD 0) Tryz.underlying93 infoU rfl rfl (by decide) rfl hk (usR_lt hf hk)) ?_
    refine RQ (ok_loadElemP Tryz.underlying99 rfl (size99.of (by rw [usR_at hf hk, usV_length (hf.get hk)])) rfl) ?_; refine RZ (aggV (usV us[x.2.getD 0])) (congrArg aggV (usR_at hf hk)) ?_
    refine RV 2 rfl ?_
    refine RQ (ok_indexR (s := 1000200) (L[x.1]!) Tryz.underlying93 infoU rfl rfl (by decide) rfl hl (usR_lt hf hl)) ?_
    refine RQ (ok_loadElemP Tryz.underlying99 rfl (size99.of (by rw [usR_at hf hl, usV_length (hf.get hl)])) rfl) ?_; refine RZ (aggV (usV us[L[x.1]!])) (congrArg aggV (usR_at hf hl)) ?_
    refine RQ (ok_call (clash_fn us[x.2.getD 0] us[L[x.1]!] (hf.get hk) (hf.get hl)) (A2 rfl rfl)) ?_
    refine RP rfl rfl ?_
    refine RZ (.bool (hitB us x.2 L[x.1]!)) (congrArg Value.bool (hitB_some hsp hk hl)) ?_
    refine RVN 1 rfl ?_
    refine A.cond rfl (fun hc21 => ?_) (fun hc21 => ?_)
    ·refine GV rfl ?_
     refine A.exit ?_
     refine End.exit_past (by decide) ?_
     refine End.exit_then ?_
     refine End.exit_past (by decide) ?_
     refine End.exit_then ?_
     refine End.exit_then ?_
     refine End.exit_here ?_
     refine EN ?_
     refine GV rfl ?_
     refine A.sub (SV [6, 1000200, 1000201] rfl) ?_
     refine A.ret ?_
     refine End.ret_scope ?_
     first | exact End.ret1 rfl rfl (Le.v (congrArg Value.bool (rep_hit hx hi hgt hc21))) | exact End.ret1 rfl rfl (Le.v (congrArg Value.bool (rep_end hx hi2)))
    ·refine A.skip ?_
     refine End.normal_block ?_
     refine EN ?_
     refine GVE rfl ?_
     refine End.normal_block ?_
     refine EN ?_
     refine GTE ?_
     refine RB rfl rfl rfl ?_
     refine RZ (nI (x.1 + 1)) (by rw [wrap_i64 (by omega) (by omega)]; rfl) ?_
     refine RVN 1 rfl ?_
     refine End.sub (SV [0, 2, 7, 8, 11, 12, 13, 1000200, 1000201] rfl) ?_
     refine End.normal_then ?_
     refine End.again (repN L j x) ?_ ?_ ?_
     ·first | exact rep_pass hx hi hgt | exact rep_next hx hi hgt hc21 hl
     ·show L.length - (x.1 + 1) < L.length - x.1; omega
     ·exact (KC 1000200 rfl (KC 1000201 rfl (KC 0 rfl (KC 2 rfl (KC 7 rfl (KE 8 rfl (congrArg (fun k : Int => D.v (Value.int .i64 k)) (by first | exact enc_pass hgt | exact enc_next hgt)) (KC 11 rfl (KC 12 rfl (KC 13 rfl KN)))))))))
   ·refine GTD ?_
    refine RV 2 rfl ?_
    refine RZ (.bool false) (by rw [encB_none hsp]; rfl) ?_
    refine RV 11 rfl ?_
    refine RZ (.bool (hitB us x.2 L[x.1]!)) (congrArg Value.bool (hitB_none hsp)) ?_
    refine RVN 1 rfl ?_
    refine A.cond rfl (fun hc21 => ?_) (fun hc21 => ?_)
    ·refine GV rfl ?_
     refine A.exit ?_
     refine End.exit_past (by decide) ?_
     refine End.exit_then ?_
     refine End.exit_past (by decide) ?_
     refine End.exit_then ?_
     refine End.exit_then ?_
     refine End.exit_here ?_
     refine EN ?_
     refine GV rfl ?_
     refine A.sub (SV [6, 1000200, 1000201] rfl) ?_
     refine A.ret ?_
     refine End.ret_scope ?_
     first | exact End.ret1 rfl rfl (Le.v (congrArg Value.bool (rep_hit hx hi hgt hc21))) | exact End.ret1 rfl rfl (Le.v (congrArg Value.bool (rep_end hx hi2)))
    ·refine A.skip ?_
     refine End.normal_block ?_
     refine EN ?_
     refine GVE rfl ?_
     refine End.normal_block ?_
     refine EN ?_
     refine GTE ?_
     refine RB rfl rfl rfl ?_
     refine RZ (nI (x.1 + 1)) (by rw [wrap_i64 (by omega) (by omega)]; rfl) ?_
     refine RVN 1 rfl ?_
     refine End.sub (SV [0, 2, 7, 8, 11, 12, 13, 1000200, 1000201] rfl) ?_
     refine End.normal_then ?_
     refine End.again (repN L j x) ?_ ?_ ?_
     ·first | exact rep_pass hx hi hgt | exact rep_next hx hi hgt hc21 hl
     ·show L.length - (x.1 + 1) < L.length - x.1; omega
     ·exact (KC 1000200 rfl (KC 1000201 rfl (KC 0 rfl (KC 2 rfl (KC 7 rfl (KE 8 rfl (congrArg (fun k : Int => D.v (Value.int .i64 k)) (by first | exact enc_pass hgt | exact enc_next hgt)) (KC 11 rfl (KC 12 rfl (KC 13 rfl KN)))))))))
 ·have hi2 : x.1 = L.length := by have h := hx.1; simp at hc14; omega
  refine A.exit ?_
  refine End.exit_then ?_
  refine End.exit_then ?_
  refine End.exit_here ?_
  refine EN ?_
  refine GV rfl ?_
  refine A.ret ?_
  refine End.ret_scope ?_
  first | exact End.ret1 rfl rfl (Le.v (congrArg Value.bool (rep_hit hx hi hgt hc21))) | exact End.ret1 rfl rfl (Le.v (congrArg Value.bool (rep_end hx hi2)))
end Go.Proofs.YtffiflfjlemggaaGreatDoor
