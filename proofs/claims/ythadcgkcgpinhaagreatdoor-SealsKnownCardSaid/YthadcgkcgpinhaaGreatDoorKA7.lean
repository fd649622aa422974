/-
  OWN TEXTS of this seat, put together, part 7: C09d, C09g.
-/
import Derived.Test.YthadcgkcgpinhaaGreatDoorKA1
import Derived.Test.YthadcgkcgpinhaaGreatDoorKA6
import Derived.Test.YthadcgkcgpinhaaGreatDoorKA3
namespace Go.Proofs.YthadcgkcgpinhaaGreatDoor
open Go Go.RowKit
set_option linter.unusedVariables false
set_option maxRecDepth 20000
theorem Parse_msg (i s c : Nat) (hs : s < 4294967296) (hc : c < 18446744073709551616) (d : List UInt8) (hd : d.length = 32) (hi : i < 4096) : Fn Tryz.prog 16 [byt (msgL i s c d)] (.v (.tuple #[nI i, aggV [nW s, nQ c], aggV (d.map byteV), .int .i64 0])) := by
 have h1 : num ((msgL i s c d).take 4) = i := by rw [msgL_take, num_be, Nat.mod_eq_of_lt (by omega)]
 have h := Parse_ok (msgL i s c d) (msgL_length hd) (by rw [h1]; exact hi)
 rw [h1, msgL_mid, msgL_drop, gS_nonce hs, gC_nonce hc] at h
 exact h

theorem SealsMessage_long (f : Nat → Nat) (mk : List UInt8) (hf : By f) (hmk : mk.length = 32) (i : Int) (s c : Nat) (hs : s < 4294967296) (hc : c < 18446744073709551616) (d : List UInt8) (hd : d.length = 32) (b : List UInt8) (h60 : 60 < b.length) : FnM Tryz.prog 15 tabs [.v (aggV (rowV 16 f ++ mk.map byteV ++ [.int .i64 i, nW s, nQ c])), .v (aggV (d.map byteV)), byt b] (.v (.bool true)) := by
 refine FnM.of Tryz.func15 rfl (by kernel_rfl) Tryz.ntmps15 (by simp) (by decide) (fun w => [(0, .v (aggV (rowV 16 f ++ mk.map byteV ++ [.int .i64 i, nW s, nQ c]))), (1, .v (aggV (d.map byteV))), (2, old w.heap.size (byt b)), (1900000, tab 0 (H8.list.map u32V)), (1900001, tab 1 (K64.map u32V))]) (fun w => (StartM.v rfl (StartM.v rfl (StartM.old rfl (StartM.m (by simp [tabs]) (by decide) (StartM.m (by simp [tabs]) (by decide) StartM.nil)))))) fun w₀ hM => ?_
 have htab := tabs_hi hM
 refine GS ?_
 refine TN 0 ?_
 refine RN ?_
 refine ⟨_, _, eff_box (n := 150) (d := 3) (k := 1000003) rfl (by decide), fun b3 hb3 => ?_⟩
 have hBb3 := hb3.1
 refine TN 1 ?_
 refine RN ?_
 refine ⟨_, _, eff_box (n := 150) (d := 4) (k := 1000004) rfl (by decide), fun b4 hb4 => ?_⟩
 have hBb4 := hb4.1
 refine TL ?_
 refine RA rfl ?_
 refine RN ?_
 refine A.seq ?_
 refine GS ?_
 refine TL ?_
 refine RM rfl ?_
 refine RS (ok_lenB Tryz.underlying49 rfl LA) ?_
 refine RBS rfl rfl rfl (.bool true) (by simp; omega) ?_
 refine RN ?_
 refine A.yes rfl ?_
 refine GS ?_
 refine TL ?_
 refine RS (ok_callM lives9_fn (Sub.cons rfl (Sub.cons rfl KN)) tabs_v Args.nil) ?_
 refine RA rfl ?_
 refine RN ?_
 refine A.ret ?_
 refine End.ret_then ?_
 exact End.ret1 rfl rfl (by first | exact Le.refl _ | exact Le.old _ _)
set_option maxHeartbeats 4000000 in
theorem SealsMessage_bad_ok (f : Nat → Nat) (mk : List UInt8) (hf : By f) (hmk : mk.length = 32) (i : Int) (hi : i < 0 ∨ 4096 ≤ i) (s c : Nat) (hs : s < 4294967296) (hc : c < 18446744073709551616) (d : List UInt8) (hd : d.length = 32) (b : List UInt8) (h60 : b.length ≤ 60) (hb : b.length = 48) (hn : (num (b.take 4)) < 4096) : FnM Tryz.prog 15 tabs [.v (aggV (rowV 16 f ++ mk.map byteV ++ [.int .i64 i, nW s, nQ c])), .v (aggV (d.map byteV)), byt b] (.v (.bool true)) := by
 have hd16 : (b.drop 16).length = 32 := by simp [hb]
 refine FnM.of Tryz.func15 rfl (by kernel_rfl) Tryz.ntmps15 (by simp) (by decide) (fun w => [(0, .v (aggV (rowV 16 f ++ mk.map byteV ++ [.int .i64 i, nW s, nQ c]))), (1, .v (aggV (d.map byteV))), (2, old w.heap.size (byt b)), (1900000, tab 0 (H8.list.map u32V)), (1900001, tab 1 (K64.map u32V))]) (fun w => (StartM.v rfl (StartM.v rfl (StartM.old rfl (StartM.m (by simp [tabs]) (by decide) (StartM.m (by simp [tabs]) (by decide) StartM.nil)))))) fun w₀ hM => ?_
 have htab := tabs_hi hM
 refine GS ?_
 refine TN 0 ?_
 refine RN ?_
 refine ⟨_, _, eff_box (n := 150) (d := 3) (k := 1000003) rfl (by decide), fun b3 hb3 => ?_⟩
 have hBb3 := hb3.1
 refine TN 1 ?_
 refine RN ?_
 refine ⟨_, _, eff_box (n := 150) (d := 4) (k := 1000004) rfl (by decide), fun b4 hb4 => ?_⟩
 have hBb4 := hb4.1
 refine TL ?_
 refine RA rfl ?_
 refine RN ?_
 refine A.seq ?_
 refine GS ?_
 refine TL ?_
 refine RM rfl ?_
 refine RS (ok_lenB Tryz.underlying49 rfl LA) ?_
 refine RBS rfl rfl rfl (.bool false) (by simp; omega) ?_
 refine RN ?_
 refine A.no rfl ?_
 refine A.skip ?_
 refine EN ?_
 refine GS ?_
 refine TL ?_
 refine RS (ok_field field32_1 (by decide) rfl) ?_
 refine RS (ok_loadV (s := 1000003) (by decide) Tryz.underlying3 rfl rfl rfl (SC_ix f hmk _ _ _)) ?_
 refine RS (ok_field field32_2 (by decide) rfl) ?_
 refine RS (ok_loadP (s := 1000003) (by decide) Tryz.underlying30 rfl size30 rfl rfl (by simp [rowV_length, hmk]) (SC_non f hmk _ _ _)) ?_
 refine RS (ok_loadA (s := 1000004) (by decide) Tryz.underlying33 rfl (size33.of (by rw [List.length_map, hd])) rfl rfl) ?_
 refine RS (ok_call (Message_bad i hi s c hs hc d hd) (A3 rfl rfl rfl)) ?_
 refine RM rfl ?_
 refine RS (ok_extractV rfl rfl) ?_
 refine RS (ok_extractV rfl rfl) ?_
 refine RA rfl ?_
 refine RA rfl ?_
 refine RN ?_
 refine A.seq ?_
 refine GS ?_
 refine TL ?_
 refine RS (ok_field field32_1 (by decide) rfl) ?_
 refine RS (ok_loadV (s := 1000003) (by decide) Tryz.underlying3 rfl rfl rfl (SC_ix f hmk _ _ _)) ?_
 refine RS (ok_call (bad9_yes i hi) (A1 rfl)) ?_
 refine RN ?_
 refine A.yes rfl ?_
 refine GS ?_
 refine TL ?_
 refine RM rfl ?_
 refine RM rfl ?_
 refine RS (ok_call (same9_fn [] 1) (Args.cons rfl bytes_nil_le (Args.cons rfl (Le.refl _) (Args.cons rfl byt_nil_le (A1 rfl))))) ?_
 refine RS (ok_not rfl) ?_; refine RZ (.bool false) (by rfl) ?_
 refine RN ?_
 refine A.no rfl ?_
 refine A.skip ?_
 refine EN ?_
 refine GS ?_
 refine TN 7 ?_
 refine RM rfl ?_
 refine RS (ok_call (Parse_ok b hb hn) (Args.cons rfl (Le.old _ _) Args.nil)) ?_
 refine RM rfl ?_
 refine RS (ok_extractV rfl rfl) ?_
 refine RS (ok_extractV rfl rfl) ?_
 refine RS (ok_extractV rfl rfl) ?_
 refine RS (ok_extractV rfl rfl) ?_
 refine RN ?_
 refine ⟨_, _, eff_alloc (n := 150) (d := 14) (k := 1000014) zero30 (by decide), fun b14 hb14 => ?_⟩
 have hBb14 := hb14.1
 refine TN 8 ?_
 refine RN ?_
 refine ⟨_, _, eff_alloc (n := 150) (d := 15) (k := 1000015) zero33 (by decide), fun b15 hb15 => ?_⟩
 have hBb15 := hb15.1
 have hlt_b4_b15 : b4 < b15 := hb15.2 1000004 _ _ _ rfl
 refine TF 10 ?_
 refine RA rfl ?_
 refine RN ?_
 refine ⟨_, eff_storeA (n := 150) (s := 1000014) (size30.of (rfl)) rfl rfl (rfl) hBb14 rfl (rfl) (LO 2 rfl (LV 13 rfl (LV 14 rfl (LV 15 rfl (LV 83 rfl (LV 84 rfl (LT 1000003 rfl (LT 1000004 rfl (LT 1000015 rfl (LeftS.cons (t := 1900000) rfl (Surv.tab (by omega)) (LeftS.cons (t := 1900001) rfl (Surv.tab (by omega)) LN))))))))))), ?_⟩
 refine TF 11 ?_
 refine RN ?_
 refine ⟨_, eff_storeA (n := 150) (s := 1000015) (size33.of (by rw [List.length_map, hd16])) rfl rfl (all_bytes _) hBb15 rfl (by simp [hb]) (LO 2 rfl (LV 13 rfl (LV 14 rfl (LV 15 rfl (LV 84 rfl (LT 1000003 rfl (LB 1000004 rfl (LT 1000014 rfl (LeftS.cons (t := 1900000) rfl (Surv.tab (by omega)) (LeftS.cons (t := 1900001) rfl (Surv.tab (by omega)) LN)))))))))), ?_⟩
 refine TL ?_
 refine RA rfl ?_
 refine RN ?_
 refine A.sub (KC 2 rfl (KC 13 rfl (KC 14 rfl (KC 15 rfl (KC 16 rfl (KC 1000003 rfl (KC 1000004 rfl (KC 1000014 rfl (KC 1000015 rfl (KC 1900000 rfl (KC 1900001 rfl KN))))))))))) ?_
 refine A.seq ?_
 refine GS ?_
 refine TL ?_
 refine RM rfl ?_
 refine RBS rfl rfl rfl (.bool true) (by rfl) ?_
 refine RN ?_
 refine A.yes rfl ?_
 refine GS ?_
 refine TN 3 ?_
 refine RM rfl ?_
 refine RS (ok_loadA (s := 1000014) (by decide) Tryz.underlying30 rfl (size30.of (rfl)) rfl rfl) ?_
 refine RS (ok_loadA (s := 1000015) (by decide) Tryz.underlying33 rfl (size33.of (by rw [List.length_map, hd16])) rfl rfl) ?_
 refine RN ?_
 refine ⟨_, _, eff_name (n := 150) (d := 91) (k := 1000091) rfl rfl (fun B' => ok_callB (Message_ok (num (b.take 4)) (gS ((b.drop 4).take 12)) (gC ((b.drop 4).take 12)) (gS_lt _) (gC_lt _) (b.drop 16) hd16 hn) newD_mono (A3 rfl rfl rfl)) (by decide) (by decide), fun b91 hb91 => ?_⟩
 have hBb91 := hb91.1
 have hlt_b3_b91 : b3 < b91 := hb91.2 1000003 _ _ _ rfl
 have hlt_b4_b91 : b4 < b91 := hb91.2 1000004 _ _ _ rfl
 have hlt_b14_b91 : b14 < b91 := hb91.2 1000014 _ _ _ rfl
 have hlt_b15_b91 : b15 < b91 := hb91.2 1000015 _ _ _ rfl
 refine TL ?_
 refine RM rfl ?_
 refine RS (ok_extractV rfl rfl) ?_
 refine RS (ok_extractV rfl rfl) ?_
 refine RA rfl ?_
 refine RA rfl ?_
 refine RN ?_
 refine GS ?_
 refine TL ?_
 refine RS ((OpOk.fact (ok_move rfl) (d := bytes b 48) (s := 1000091) (by decide) rfl (slice_bytes b hb.symm (by decide) (by decide) (by rw [msgL_of hb (nonce_back (by simp [hb])), List.drop_zero, List.take_of_length_le (by rw [List.length_map, hb]; decide)]))).le (d' := bytes b b.length) (Le.eq (by rw [hb]))) ?_
 refine RM rfl ?_
 refine RM rfl ?_
 refine RS (ok_call (same9_fn b 0) (Args.cons rfl (Le.refl _) (Args.cons rfl (Le.refl _) (Args.cons rfl (Le.old _ _) (A1 rfl))))) ?_
 refine RM rfl ?_
 refine RQ (ok_callM lives9_fn (Sub.cons rfl (Sub.cons rfl KN)) tabs_v Args.nil) ?_
 refine RP rfl rfl ?_
 refine RA rfl ?_
 refine RN ?_
 refine A.ret ?_
 refine End.ret_then ?_
 exact End.ret1 rfl rfl (by first | exact Le.refl _ | exact Le.old _ _)
set_option maxHeartbeats 4000000 in
theorem SealsMessage_bad_short (f : Nat → Nat) (mk : List UInt8) (hf : By f) (hmk : mk.length = 32) (i : Int) (hi : i < 0 ∨ 4096 ≤ i) (s c : Nat) (hs : s < 4294967296) (hc : c < 18446744073709551616) (d : List UInt8) (hd : d.length = 32) (b : List UInt8) (h60 : b.length ≤ 60) (hb : b.length < 48) : FnM Tryz.prog 15 tabs [.v (aggV (rowV 16 f ++ mk.map byteV ++ [.int .i64 i, nW s, nQ c])), .v (aggV (d.map byteV)), byt b] (.v (.bool true)) := by
 refine FnM.of Tryz.func15 rfl (by kernel_rfl) Tryz.ntmps15 (by simp) (by decide) (fun w => [(0, .v (aggV (rowV 16 f ++ mk.map byteV ++ [.int .i64 i, nW s, nQ c]))), (1, .v (aggV (d.map byteV))), (2, old w.heap.size (byt b)), (1900000, tab 0 (H8.list.map u32V)), (1900001, tab 1 (K64.map u32V))]) (fun w => (StartM.v rfl (StartM.v rfl (StartM.old rfl (StartM.m (by simp [tabs]) (by decide) (StartM.m (by simp [tabs]) (by decide) StartM.nil)))))) fun w₀ hM => ?_
 have htab := tabs_hi hM
 refine GS ?_
 refine TN 0 ?_
 refine RN ?_
 refine ⟨_, _, eff_box (n := 150) (d := 3) (k := 1000003) rfl (by decide), fun b3 hb3 => ?_⟩
 have hBb3 := hb3.1
 refine TN 1 ?_
 refine RN ?_
 refine ⟨_, _, eff_box (n := 150) (d := 4) (k := 1000004) rfl (by decide), fun b4 hb4 => ?_⟩
 have hBb4 := hb4.1
 refine TL ?_
 refine RA rfl ?_
 refine RN ?_
 refine A.seq ?_
 refine GS ?_
 refine TL ?_
 refine RM rfl ?_
 refine RS (ok_lenB Tryz.underlying49 rfl LA) ?_
 refine RBS rfl rfl rfl (.bool false) (by simp; omega) ?_
 refine RN ?_
 refine A.no rfl ?_
 refine A.skip ?_
 refine EN ?_
 refine GS ?_
 refine TL ?_
 refine RS (ok_field field32_1 (by decide) rfl) ?_
 refine RS (ok_loadV (s := 1000003) (by decide) Tryz.underlying3 rfl rfl rfl (SC_ix f hmk _ _ _)) ?_
 refine RS (ok_field field32_2 (by decide) rfl) ?_
 refine RS (ok_loadP (s := 1000003) (by decide) Tryz.underlying30 rfl size30 rfl rfl (by simp [rowV_length, hmk]) (SC_non f hmk _ _ _)) ?_
 refine RS (ok_loadA (s := 1000004) (by decide) Tryz.underlying33 rfl (size33.of (by rw [List.length_map, hd])) rfl rfl) ?_
 refine RS (ok_call (Message_bad i hi s c hs hc d hd) (A3 rfl rfl rfl)) ?_
 refine RM rfl ?_
 refine RS (ok_extractV rfl rfl) ?_
 refine RS (ok_extractV rfl rfl) ?_
 refine RA rfl ?_
 refine RA rfl ?_
 refine RN ?_
 refine A.seq ?_
 refine GS ?_
 refine TL ?_
 refine RS (ok_field field32_1 (by decide) rfl) ?_
 refine RS (ok_loadV (s := 1000003) (by decide) Tryz.underlying3 rfl rfl rfl (SC_ix f hmk _ _ _)) ?_
 refine RS (ok_call (bad9_yes i hi) (A1 rfl)) ?_
 refine RN ?_
 refine A.yes rfl ?_
 refine GS ?_
 refine TL ?_
 refine RM rfl ?_
 refine RM rfl ?_
 refine RS (ok_call (same9_fn [] 1) (Args.cons rfl bytes_nil_le (Args.cons rfl (Le.refl _) (Args.cons rfl byt_nil_le (A1 rfl))))) ?_
 refine RS (ok_not rfl) ?_; refine RZ (.bool false) (by rfl) ?_
 refine RN ?_
 refine A.no rfl ?_
 refine A.skip ?_
 refine EN ?_
 refine GS ?_
 refine TN 7 ?_
 refine RM rfl ?_
 refine RS (ok_call (Parse_err b 6 (by decide) (checkMessage_short b hb)) (Args.cons rfl (Le.old _ _) Args.nil)) ?_
 refine RM rfl ?_
 refine RS (ok_extractV rfl rfl) ?_
 refine RS (ok_extractV rfl rfl) ?_
 refine RS (ok_extractV rfl rfl) ?_
 refine RS (ok_extractV rfl rfl) ?_
 refine RN ?_
 refine ⟨_, _, eff_alloc (n := 150) (d := 14) (k := 1000014) zero30 (by decide), fun b14 hb14 => ?_⟩
 have hBb14 := hb14.1
 refine TN 8 ?_
 refine RN ?_
 refine ⟨_, _, eff_alloc (n := 150) (d := 15) (k := 1000015) zero33 (by decide), fun b15 hb15 => ?_⟩
 have hBb15 := hb15.1
 have hlt_b4_b15 : b4 < b15 := hb15.2 1000004 _ _ _ rfl
 refine TF 10 ?_
 refine RA rfl ?_
 refine RN ?_
 refine ⟨_, eff_storeA (n := 150) (s := 1000014) (size30.of (rfl)) rfl rfl (rfl) hBb14 rfl (rfl) (LO 2 rfl (LV 13 rfl (LV 14 rfl (LV 15 rfl (LV 83 rfl (LV 84 rfl (LT 1000003 rfl (LT 1000004 rfl (LT 1000015 rfl (LeftS.cons (t := 1900000) rfl (Surv.tab (by omega)) (LeftS.cons (t := 1900001) rfl (Surv.tab (by omega)) LN))))))))))), ?_⟩
 refine TF 11 ?_
 refine RN ?_
 refine ⟨_, eff_storeA (n := 150) (s := 1000015) (size33.of (rfl)) rfl rfl (rfl) hBb15 rfl (rfl) (LO 2 rfl (LV 13 rfl (LV 14 rfl (LV 15 rfl (LV 84 rfl (LT 1000003 rfl (LB 1000004 rfl (LT 1000014 rfl (LeftS.cons (t := 1900000) rfl (Surv.tab (by omega)) (LeftS.cons (t := 1900001) rfl (Surv.tab (by omega)) LN)))))))))), ?_⟩
 refine TL ?_
 refine RA rfl ?_
 refine RN ?_
 refine A.sub (KC 2 rfl (KC 13 rfl (KC 14 rfl (KC 15 rfl (KC 16 rfl (KC 1000003 rfl (KC 1000004 rfl (KC 1000014 rfl (KC 1000015 rfl (KC 1900000 rfl (KC 1900001 rfl KN))))))))))) ?_
 refine A.seq ?_
 refine GS ?_
 refine TL ?_
 refine RM rfl ?_
 refine RBS rfl rfl rfl (.bool false) (by rfl) ?_
 refine RN ?_
 refine A.no rfl ?_
 refine A.skip ?_
 refine EN ?_
 refine GS ?_
 refine TL ?_
 refine RA rfl ?_
 refine RN ?_
 refine A.seq ?_
 refine GS ?_
 refine TL ?_
 refine RM rfl ?_
 refine RS (ok_lenB Tryz.underlying49 rfl LA) ?_
 refine RBS rfl rfl rfl (.bool true) (by simp; omega) ?_
 refine RN ?_
 refine A.yes rfl ?_
 refine GE ?_
 refine TL ?_
 refine RA rfl ?_
 refine RN ?_
 refine EN ?_
 refine A.seq ?_
 refine GS ?_
 refine TL ?_
 refine RM rfl ?_
 refine RS (ok_lenB Tryz.underlying49 rfl LA) ?_
 refine RBS rfl rfl rfl (.bool false) (by simp; omega) ?_
 refine RN ?_
 refine A.no rfl ?_
 refine A.skip ?_
 refine EN ?_
 refine GS ?_
 refine TL ?_
 refine RM rfl ?_
 refine RM rfl ?_
 refine RBS rfl rfl rfl (.bool true) (by rfl) ?_
 refine RM rfl ?_
 refine RQ (ok_move rfl) ?_
 refine RQ (ok_lenB Tryz.underlying49 rfl LA) ?_
 refine RQ (ok_bin rfl rfl rfl) ?_; refine RZ (.bool true) (by simp; omega) ?_
 refine RQ (ok_move rfl) ?_
 refine RK ?_
 refine RK ?_
 refine RK ?_
 refine RK ?_
 refine RQ (ok_pick rfl rfl) ?_
 refine RQ (ok_move rfl) ?_
 refine RK ?_
 refine RK ?_
 refine RK ?_
 refine RK ?_
 refine RQ (ok_pick rfl rfl) ?_
 refine RQ (ok_move rfl) ?_
 refine RK ?_
 refine RK ?_
 refine RK ?_
 refine RK ?_
 refine RQ (ok_pick rfl rfl) ?_
 refine RP rfl rfl ?_
 refine RM rfl ?_
 refine RQ (ok_move rfl) ?_
 refine RQ (ok_bin rfl rfl rfl) ?_; refine RZ (.bool true) (by rfl) ?_
 refine RP rfl rfl ?_
 refine RM rfl ?_
 refine RQ (ok_loadA (s := 1000014) (by decide) Tryz.underlying30 rfl (size30.of (rfl)) rfl rfl) ?_
 refine RQ (ok_lit [] ([.int .u32 0] ++ [.int .u64 0]) (fun _ _ => rfl) (by kernel_rfl)) ?_
 refine RQ (ok_eqlT (n := 3) true flatN (by decide) (by kernel_rfl) (by kernel_rfl) rfl rfl (kinN _ _) (kinN _ _) ⟨fun _ => rfl, fun _ => rfl⟩) ?_; refine RZ (.bool true) (by rfl) ?_
 refine RP rfl rfl ?_
 refine RM rfl ?_
 refine RQ (ok_loadA (s := 1000015) (by decide) Tryz.underlying33 rfl (size33.of (rfl)) rfl rfl) ?_
 refine RQ (ok_litP [] Tryz.underlying33 info5 zero33 (by decide) trivial rfl) ?_; refine RZ (aggV (List.replicate 32 (.int .u8 0))) (by rfl) ?_
 refine RQ (ok_eqlT (n := 3) true flat33 (by decide) (by kernel_rfl) (by kernel_rfl) rfl rfl (kinZ 32) (kinZ 32) ⟨fun _ => rfl, fun _ => rfl⟩) ?_; refine RZ (.bool true) (by rfl) ?_
 refine RP rfl rfl ?_
 refine RM rfl ?_
 refine RQ (ok_callM lives9_fn (Sub.cons rfl (Sub.cons rfl KN)) tabs_v Args.nil) ?_
 refine RP rfl rfl ?_
 refine RA rfl ?_
 refine RN ?_
 refine A.sub (KC 6 rfl (KC 1000003 rfl (KC 1000004 rfl (KC 1000014 rfl (KC 1000015 rfl (KC 1900000 rfl (KC 1900001 rfl KN))))))) ?_
 refine A.ret ?_
 exact End.ret1 rfl rfl (by first | exact Le.refl _ | exact Le.old _ _)
set_option maxHeartbeats 4000000 in
theorem SealsMessage_bad_far (f : Nat → Nat) (mk : List UInt8) (hf : By f) (hmk : mk.length = 32) (i : Int) (hi : i < 0 ∨ 4096 ≤ i) (s c : Nat) (hs : s < 4294967296) (hc : c < 18446744073709551616) (d : List UInt8) (hd : d.length = 32) (b : List UInt8) (h60 : b.length ≤ 60) (hb : 48 < b.length) : FnM Tryz.prog 15 tabs [.v (aggV (rowV 16 f ++ mk.map byteV ++ [.int .i64 i, nW s, nQ c])), .v (aggV (d.map byteV)), byt b] (.v (.bool true)) := by
 refine FnM.of Tryz.func15 rfl (by kernel_rfl) Tryz.ntmps15 (by simp) (by decide) (fun w => [(0, .v (aggV (rowV 16 f ++ mk.map byteV ++ [.int .i64 i, nW s, nQ c]))), (1, .v (aggV (d.map byteV))), (2, old w.heap.size (byt b)), (1900000, tab 0 (H8.list.map u32V)), (1900001, tab 1 (K64.map u32V))]) (fun w => (StartM.v rfl (StartM.v rfl (StartM.old rfl (StartM.m (by simp [tabs]) (by decide) (StartM.m (by simp [tabs]) (by decide) StartM.nil)))))) fun w₀ hM => ?_
 have htab := tabs_hi hM
 refine GS ?_
 refine TN 0 ?_
 refine RN ?_
 refine ⟨_, _, eff_box (n := 150) (d := 3) (k := 1000003) rfl (by decide), fun b3 hb3 => ?_⟩
 have hBb3 := hb3.1
 refine TN 1 ?_
 refine RN ?_
 refine ⟨_, _, eff_box (n := 150) (d := 4) (k := 1000004) rfl (by decide), fun b4 hb4 => ?_⟩
 have hBb4 := hb4.1
 refine TL ?_
 refine RA rfl ?_
 refine RN ?_
 refine A.seq ?_
 refine GS ?_
 refine TL ?_
 refine RM rfl ?_
 refine RS (ok_lenB Tryz.underlying49 rfl LA) ?_
 refine RBS rfl rfl rfl (.bool false) (by simp; omega) ?_
 refine RN ?_
 refine A.no rfl ?_
 refine A.skip ?_
 refine EN ?_
 refine GS ?_
 refine TL ?_
 refine RS (ok_field field32_1 (by decide) rfl) ?_
 refine RS (ok_loadV (s := 1000003) (by decide) Tryz.underlying3 rfl rfl rfl (SC_ix f hmk _ _ _)) ?_
 refine RS (ok_field field32_2 (by decide) rfl) ?_
 refine RS (ok_loadP (s := 1000003) (by decide) Tryz.underlying30 rfl size30 rfl rfl (by simp [rowV_length, hmk]) (SC_non f hmk _ _ _)) ?_
 refine RS (ok_loadA (s := 1000004) (by decide) Tryz.underlying33 rfl (size33.of (by rw [List.length_map, hd])) rfl rfl) ?_
 refine RS (ok_call (Message_bad i hi s c hs hc d hd) (A3 rfl rfl rfl)) ?_
 refine RM rfl ?_
 refine RS (ok_extractV rfl rfl) ?_
 refine RS (ok_extractV rfl rfl) ?_
 refine RA rfl ?_
 refine RA rfl ?_
 refine RN ?_
 refine A.seq ?_
 refine GS ?_
 refine TL ?_
 refine RS (ok_field field32_1 (by decide) rfl) ?_
 refine RS (ok_loadV (s := 1000003) (by decide) Tryz.underlying3 rfl rfl rfl (SC_ix f hmk _ _ _)) ?_
 refine RS (ok_call (bad9_yes i hi) (A1 rfl)) ?_
 refine RN ?_
 refine A.yes rfl ?_
 refine GS ?_
 refine TL ?_
 refine RM rfl ?_
 refine RM rfl ?_
 refine RS (ok_call (same9_fn [] 1) (Args.cons rfl bytes_nil_le (Args.cons rfl (Le.refl _) (Args.cons rfl byt_nil_le (A1 rfl))))) ?_
 refine RS (ok_not rfl) ?_; refine RZ (.bool false) (by rfl) ?_
 refine RN ?_
 refine A.no rfl ?_
 refine A.skip ?_
 refine EN ?_
 refine GS ?_
 refine TN 7 ?_
 refine RM rfl ?_
 refine RS (ok_call (Parse_err b 5 (by decide) (checkMessage_long b hb)) (Args.cons rfl (Le.old _ _) Args.nil)) ?_
 refine RM rfl ?_
 refine RS (ok_extractV rfl rfl) ?_
 refine RS (ok_extractV rfl rfl) ?_
 refine RS (ok_extractV rfl rfl) ?_
 refine RS (ok_extractV rfl rfl) ?_
 refine RN ?_
 refine ⟨_, _, eff_alloc (n := 150) (d := 14) (k := 1000014) zero30 (by decide), fun b14 hb14 => ?_⟩
 have hBb14 := hb14.1
 refine TN 8 ?_
 refine RN ?_
 refine ⟨_, _, eff_alloc (n := 150) (d := 15) (k := 1000015) zero33 (by decide), fun b15 hb15 => ?_⟩
 have hBb15 := hb15.1
 have hlt_b4_b15 : b4 < b15 := hb15.2 1000004 _ _ _ rfl
 refine TF 10 ?_
 refine RA rfl ?_
 refine RN ?_
 refine ⟨_, eff_storeA (n := 150) (s := 1000014) (size30.of (rfl)) rfl rfl (rfl) hBb14 rfl (rfl) (LO 2 rfl (LV 13 rfl (LV 14 rfl (LV 15 rfl (LV 83 rfl (LV 84 rfl (LT 1000003 rfl (LT 1000004 rfl (LT 1000015 rfl (LeftS.cons (t := 1900000) rfl (Surv.tab (by omega)) (LeftS.cons (t := 1900001) rfl (Surv.tab (by omega)) LN))))))))))), ?_⟩
 refine TF 11 ?_
 refine RN ?_
 refine ⟨_, eff_storeA (n := 150) (s := 1000015) (size33.of (rfl)) rfl rfl (rfl) hBb15 rfl (rfl) (LO 2 rfl (LV 13 rfl (LV 14 rfl (LV 15 rfl (LV 84 rfl (LT 1000003 rfl (LB 1000004 rfl (LT 1000014 rfl (LeftS.cons (t := 1900000) rfl (Surv.tab (by omega)) (LeftS.cons (t := 1900001) rfl (Surv.tab (by omega)) LN)))))))))), ?_⟩
 refine TL ?_
 refine RA rfl ?_
 refine RN ?_
 refine A.sub (KC 2 rfl (KC 13 rfl (KC 14 rfl (KC 15 rfl (KC 16 rfl (KC 1000003 rfl (KC 1000004 rfl (KC 1000014 rfl (KC 1000015 rfl (KC 1900000 rfl (KC 1900001 rfl KN))))))))))) ?_
 refine A.seq ?_
 refine GS ?_
 refine TL ?_
 refine RM rfl ?_
 refine RBS rfl rfl rfl (.bool false) (by rfl) ?_
 refine RN ?_
 refine A.no rfl ?_
 refine A.skip ?_
 refine EN ?_
 refine GS ?_
 refine TL ?_
 refine RA rfl ?_
 refine RN ?_
 refine A.seq ?_
 refine GS ?_
 refine TL ?_
 refine RM rfl ?_
 refine RS (ok_lenB Tryz.underlying49 rfl LA) ?_
 refine RBS rfl rfl rfl (.bool false) (by simp; omega) ?_
 refine RN ?_
 refine A.no rfl ?_
 refine A.skip ?_
 refine EN ?_
 refine A.seq ?_
 refine GS ?_
 refine TL ?_
 refine RM rfl ?_
 refine RS (ok_lenB Tryz.underlying49 rfl LA) ?_
 refine RBS rfl rfl rfl (.bool true) (by simp; omega) ?_
 refine RN ?_
 refine A.yes rfl ?_
 refine GE ?_
 refine TL ?_
 refine RA rfl ?_
 refine RN ?_
 refine EN ?_
 refine GS ?_
 refine TL ?_
 refine RM rfl ?_
 refine RM rfl ?_
 refine RBS rfl rfl rfl (.bool true) (by rfl) ?_
 refine RM rfl ?_
 refine RQ (ok_move rfl) ?_
 refine RQ (ok_lenB Tryz.underlying49 rfl LA) ?_
 refine RQ (ok_bin rfl rfl rfl) ?_; refine RZ (.bool true) (by simp; omega) ?_
 refine RQ (ok_move rfl) ?_
 refine RK ?_
 refine RK ?_
 refine RK ?_
 refine RK ?_
 refine RQ (ok_pick rfl rfl) ?_
 refine RQ (ok_move rfl) ?_
 refine RK ?_
 refine RK ?_
 refine RK ?_
 refine RK ?_
 refine RQ (ok_pick rfl rfl) ?_
 refine RQ (ok_move rfl) ?_
 refine RK ?_
 refine RK ?_
 refine RK ?_
 refine RK ?_
 refine RQ (ok_pick rfl rfl) ?_
 refine RP rfl rfl ?_
 refine RM rfl ?_
 refine RQ (ok_move rfl) ?_
 refine RQ (ok_bin rfl rfl rfl) ?_; refine RZ (.bool true) (by rfl) ?_
 refine RP rfl rfl ?_
 refine RM rfl ?_
 refine RQ (ok_loadA (s := 1000014) (by decide) Tryz.underlying30 rfl (size30.of (rfl)) rfl rfl) ?_
 refine RQ (ok_lit [] ([.int .u32 0] ++ [.int .u64 0]) (fun _ _ => rfl) (by kernel_rfl)) ?_
 refine RQ (ok_eqlT (n := 3) true flatN (by decide) (by kernel_rfl) (by kernel_rfl) rfl rfl (kinN _ _) (kinN _ _) ⟨fun _ => rfl, fun _ => rfl⟩) ?_; refine RZ (.bool true) (by rfl) ?_
 refine RP rfl rfl ?_
 refine RM rfl ?_
 refine RQ (ok_loadA (s := 1000015) (by decide) Tryz.underlying33 rfl (size33.of (rfl)) rfl rfl) ?_
 refine RQ (ok_litP [] Tryz.underlying33 info5 zero33 (by decide) trivial rfl) ?_; refine RZ (aggV (List.replicate 32 (.int .u8 0))) (by rfl) ?_
 refine RQ (ok_eqlT (n := 3) true flat33 (by decide) (by kernel_rfl) (by kernel_rfl) rfl rfl (kinZ 32) (kinZ 32) ⟨fun _ => rfl, fun _ => rfl⟩) ?_; refine RZ (.bool true) (by rfl) ?_
 refine RP rfl rfl ?_
 refine RM rfl ?_
 refine RQ (ok_callM lives9_fn (Sub.cons rfl (Sub.cons rfl KN)) tabs_v Args.nil) ?_
 refine RP rfl rfl ?_
 refine RA rfl ?_
 refine RN ?_
 refine A.sub (KC 6 rfl (KC 1000003 rfl (KC 1000004 rfl (KC 1000014 rfl (KC 1000015 rfl (KC 1900000 rfl (KC 1900001 rfl KN))))))) ?_
 refine A.ret ?_
 exact End.ret1 rfl rfl (by first | exact Le.refl _ | exact Le.old _ _)
set_option maxHeartbeats 4000000 in
theorem SealsMessage_bad_b1 (f : Nat → Nat) (mk : List UInt8) (hf : By f) (hmk : mk.length = 32) (i : Int) (hi : i < 0 ∨ 4096 ≤ i) (s c : Nat) (hs : s < 4294967296) (hc : c < 18446744073709551616) (d : List UInt8) (hd : d.length = 32) (b : List UInt8) (h60 : b.length ≤ 60) (hb : b.length = 48) (hn : 4096 ≤ (num (b.take 4))) (h0 : 0 < byL b 0) : FnM Tryz.prog 15 tabs [.v (aggV (rowV 16 f ++ mk.map byteV ++ [.int .i64 i, nW s, nQ c])), .v (aggV (d.map byteV)), byt b] (.v (.bool true)) := by
 refine FnM.of Tryz.func15 rfl (by kernel_rfl) Tryz.ntmps15 (by simp) (by decide) (fun w => [(0, .v (aggV (rowV 16 f ++ mk.map byteV ++ [.int .i64 i, nW s, nQ c]))), (1, .v (aggV (d.map byteV))), (2, old w.heap.size (byt b)), (1900000, tab 0 (H8.list.map u32V)), (1900001, tab 1 (K64.map u32V))]) (fun w => (StartM.v rfl (StartM.v rfl (StartM.old rfl (StartM.m (by simp [tabs]) (by decide) (StartM.m (by simp [tabs]) (by decide) StartM.nil)))))) fun w₀ hM => ?_
 have htab := tabs_hi hM
 refine GS ?_
 refine TN 0 ?_
 refine RN ?_
 refine ⟨_, _, eff_box (n := 150) (d := 3) (k := 1000003) rfl (by decide), fun b3 hb3 => ?_⟩
 have hBb3 := hb3.1
 refine TN 1 ?_
 refine RN ?_
 refine ⟨_, _, eff_box (n := 150) (d := 4) (k := 1000004) rfl (by decide), fun b4 hb4 => ?_⟩
 have hBb4 := hb4.1
 refine TL ?_
 refine RA rfl ?_
 refine RN ?_
 refine A.seq ?_
 refine GS ?_
 refine TL ?_
 refine RM rfl ?_
 refine RS (ok_lenB Tryz.underlying49 rfl LA) ?_
 refine RBS rfl rfl rfl (.bool false) (by simp; omega) ?_
 refine RN ?_
 refine A.no rfl ?_
 refine A.skip ?_
 refine EN ?_
 refine GS ?_
 refine TL ?_
 refine RS (ok_field field32_1 (by decide) rfl) ?_
 refine RS (ok_loadV (s := 1000003) (by decide) Tryz.underlying3 rfl rfl rfl (SC_ix f hmk _ _ _)) ?_
 refine RS (ok_field field32_2 (by decide) rfl) ?_
 refine RS (ok_loadP (s := 1000003) (by decide) Tryz.underlying30 rfl size30 rfl rfl (by simp [rowV_length, hmk]) (SC_non f hmk _ _ _)) ?_
 refine RS (ok_loadA (s := 1000004) (by decide) Tryz.underlying33 rfl (size33.of (by rw [List.length_map, hd])) rfl rfl) ?_
 refine RS (ok_call (Message_bad i hi s c hs hc d hd) (A3 rfl rfl rfl)) ?_
 refine RM rfl ?_
 refine RS (ok_extractV rfl rfl) ?_
 refine RS (ok_extractV rfl rfl) ?_
 refine RA rfl ?_
 refine RA rfl ?_
 refine RN ?_
 refine A.seq ?_
 refine GS ?_
 refine TL ?_
 refine RS (ok_field field32_1 (by decide) rfl) ?_
 refine RS (ok_loadV (s := 1000003) (by decide) Tryz.underlying3 rfl rfl rfl (SC_ix f hmk _ _ _)) ?_
 refine RS (ok_call (bad9_yes i hi) (A1 rfl)) ?_
 refine RN ?_
 refine A.yes rfl ?_
 refine GS ?_
 refine TL ?_
 refine RM rfl ?_
 refine RM rfl ?_
 refine RS (ok_call (same9_fn [] 1) (Args.cons rfl bytes_nil_le (Args.cons rfl (Le.refl _) (Args.cons rfl byt_nil_le (A1 rfl))))) ?_
 refine RS (ok_not rfl) ?_; refine RZ (.bool false) (by rfl) ?_
 refine RN ?_
 refine A.no rfl ?_
 refine A.skip ?_
 refine EN ?_
 refine GS ?_
 refine TN 7 ?_
 refine RM rfl ?_
 refine RS (ok_call (Parse_err b 1 (by decide) (checkMessage_bad b hb hn)) (Args.cons rfl (Le.old _ _) Args.nil)) ?_
 refine RM rfl ?_
 refine RS (ok_extractV rfl rfl) ?_
 refine RS (ok_extractV rfl rfl) ?_
 refine RS (ok_extractV rfl rfl) ?_
 refine RS (ok_extractV rfl rfl) ?_
 refine RN ?_
 refine ⟨_, _, eff_alloc (n := 150) (d := 14) (k := 1000014) zero30 (by decide), fun b14 hb14 => ?_⟩
 have hBb14 := hb14.1
 refine TN 8 ?_
 refine RN ?_
 refine ⟨_, _, eff_alloc (n := 150) (d := 15) (k := 1000015) zero33 (by decide), fun b15 hb15 => ?_⟩
 have hBb15 := hb15.1
 have hlt_b4_b15 : b4 < b15 := hb15.2 1000004 _ _ _ rfl
 refine TF 10 ?_
 refine RA rfl ?_
 refine RN ?_
 refine ⟨_, eff_storeA (n := 150) (s := 1000014) (size30.of (rfl)) rfl rfl (rfl) hBb14 rfl (rfl) (LO 2 rfl (LV 13 rfl (LV 14 rfl (LV 15 rfl (LV 83 rfl (LV 84 rfl (LT 1000003 rfl (LT 1000004 rfl (LT 1000015 rfl (LeftS.cons (t := 1900000) rfl (Surv.tab (by omega)) (LeftS.cons (t := 1900001) rfl (Surv.tab (by omega)) LN))))))))))), ?_⟩
 refine TF 11 ?_
 refine RN ?_
 refine ⟨_, eff_storeA (n := 150) (s := 1000015) (size33.of (rfl)) rfl rfl (rfl) hBb15 rfl (rfl) (LO 2 rfl (LV 13 rfl (LV 14 rfl (LV 15 rfl (LV 84 rfl (LT 1000003 rfl (LB 1000004 rfl (LT 1000014 rfl (LeftS.cons (t := 1900000) rfl (Surv.tab (by omega)) (LeftS.cons (t := 1900001) rfl (Surv.tab (by omega)) LN)))))))))), ?_⟩
 refine TL ?_
 refine RA rfl ?_
 refine RN ?_
 refine A.sub (KC 2 rfl (KC 13 rfl (KC 14 rfl (KC 15 rfl (KC 16 rfl (KC 1000003 rfl (KC 1000004 rfl (KC 1000014 rfl (KC 1000015 rfl (KC 1900000 rfl (KC 1900001 rfl KN))))))))))) ?_
 refine A.seq ?_
 refine GS ?_
 refine TL ?_
 refine RM rfl ?_
 refine RBS rfl rfl rfl (.bool false) (by rfl) ?_
 refine RN ?_
 refine A.no rfl ?_
 refine A.skip ?_
 refine EN ?_
 refine GS ?_
 refine TL ?_
 refine RA rfl ?_
 refine RN ?_
 refine A.seq ?_
 refine GS ?_
 refine TL ?_
 refine RM rfl ?_
 refine RS (ok_lenB Tryz.underlying49 rfl LA) ?_
 refine RBS rfl rfl rfl (.bool false) (by simp; omega) ?_
 refine RN ?_
 refine A.no rfl ?_
 refine A.skip ?_
 refine EN ?_
 refine A.seq ?_
 refine GS ?_
 refine TL ?_
 refine RM rfl ?_
 refine RS (ok_lenB Tryz.underlying49 rfl LA) ?_
 refine RBS rfl rfl rfl (.bool false) (by simp; omega) ?_
 refine RN ?_
 refine A.no rfl ?_
 refine A.skip ?_
 refine EN ?_
 refine GS ?_
 refine TL ?_
 refine RM rfl ?_
 refine RM rfl ?_
 refine RBS rfl rfl rfl (.bool true) (by rfl) ?_
 refine RM rfl ?_
 refine RQ (ok_move rfl) ?_
 refine RQ (ok_lenB Tryz.underlying49 rfl LA) ?_
 refine RQ (ok_bin rfl rfl rfl) ?_; refine RZ (.bool false) (by simp; omega) ?_
 refine RQ (ok_move rfl) ?_
 refine RQ (ok_move rfl) ?_
 refine RQ (ok_index (d := byteD (b.getD 0 0)) Tryz.underlying49 info5 rfl (Le.old _ _) rfl (by decide) (by exact byteD_getD (by omega))) ?_
 refine RQ (ok_load Tryz.underlying5 rfl rfl) ?_; refine RZ (nB (byL b 0)) (by rfl) ?_
 refine RQ (ok_bin rfl rfl rfl) ?_; refine RZ (.bool true) (by simp; omega) ?_
 refine RQ (ok_pick rfl rfl) ?_
 refine RQ (ok_move rfl) ?_
 refine RK ?_
 refine RK ?_
 refine RK ?_
 refine RK ?_
 refine RQ (ok_pick rfl rfl) ?_
 refine RQ (ok_move rfl) ?_
 refine RK ?_
 refine RK ?_
 refine RK ?_
 refine RK ?_
 refine RQ (ok_pick rfl rfl) ?_
 refine RP rfl rfl ?_
 refine RM rfl ?_
 refine RQ (ok_move rfl) ?_
 refine RQ (ok_bin rfl rfl rfl) ?_; refine RZ (.bool true) (by rfl) ?_
 refine RP rfl rfl ?_
 refine RM rfl ?_
 refine RQ (ok_loadA (s := 1000014) (by decide) Tryz.underlying30 rfl (size30.of (rfl)) rfl rfl) ?_
 refine RQ (ok_lit [] ([.int .u32 0] ++ [.int .u64 0]) (fun _ _ => rfl) (by kernel_rfl)) ?_
 refine RQ (ok_eqlT (n := 3) true flatN (by decide) (by kernel_rfl) (by kernel_rfl) rfl rfl (kinN _ _) (kinN _ _) ⟨fun _ => rfl, fun _ => rfl⟩) ?_; refine RZ (.bool true) (by rfl) ?_
 refine RP rfl rfl ?_
 refine RM rfl ?_
 refine RQ (ok_loadA (s := 1000015) (by decide) Tryz.underlying33 rfl (size33.of (rfl)) rfl rfl) ?_
 refine RQ (ok_litP [] Tryz.underlying33 info5 zero33 (by decide) trivial rfl) ?_; refine RZ (aggV (List.replicate 32 (.int .u8 0))) (by rfl) ?_
 refine RQ (ok_eqlT (n := 3) true flat33 (by decide) (by kernel_rfl) (by kernel_rfl) rfl rfl (kinZ 32) (kinZ 32) ⟨fun _ => rfl, fun _ => rfl⟩) ?_; refine RZ (.bool true) (by rfl) ?_
 refine RP rfl rfl ?_
 refine RM rfl ?_
 refine RQ (ok_callM lives9_fn (Sub.cons rfl (Sub.cons rfl KN)) tabs_v Args.nil) ?_
 refine RP rfl rfl ?_
 refine RA rfl ?_
 refine RN ?_
 refine A.sub (KC 6 rfl (KC 1000003 rfl (KC 1000004 rfl (KC 1000014 rfl (KC 1000015 rfl (KC 1900000 rfl (KC 1900001 rfl KN))))))) ?_
 refine A.ret ?_
 exact End.ret1 rfl rfl (by first | exact Le.refl _ | exact Le.old _ _)
set_option maxHeartbeats 4000000 in
theorem SealsMessage_bad_b2 (f : Nat → Nat) (mk : List UInt8) (hf : By f) (hmk : mk.length = 32) (i : Int) (hi : i < 0 ∨ 4096 ≤ i) (s c : Nat) (hs : s < 4294967296) (hc : c < 18446744073709551616) (d : List UInt8) (hd : d.length = 32) (b : List UInt8) (h60 : b.length ≤ 60) (hb : b.length = 48) (hn : 4096 ≤ (num (b.take 4))) (h0 : ¬ 0 < byL b 0) (h1 : 0 < byL b 1) : FnM Tryz.prog 15 tabs [.v (aggV (rowV 16 f ++ mk.map byteV ++ [.int .i64 i, nW s, nQ c])), .v (aggV (d.map byteV)), byt b] (.v (.bool true)) := by
 refine FnM.of Tryz.func15 rfl (by kernel_rfl) Tryz.ntmps15 (by simp) (by decide) (fun w => [(0, .v (aggV (rowV 16 f ++ mk.map byteV ++ [.int .i64 i, nW s, nQ c]))), (1, .v (aggV (d.map byteV))), (2, old w.heap.size (byt b)), (1900000, tab 0 (H8.list.map u32V)), (1900001, tab 1 (K64.map u32V))]) (fun w => (StartM.v rfl (StartM.v rfl (StartM.old rfl (StartM.m (by simp [tabs]) (by decide) (StartM.m (by simp [tabs]) (by decide) StartM.nil)))))) fun w₀ hM => ?_
 have htab := tabs_hi hM
 refine GS ?_
 refine TN 0 ?_
 refine RN ?_
 refine ⟨_, _, eff_box (n := 150) (d := 3) (k := 1000003) rfl (by decide), fun b3 hb3 => ?_⟩
 have hBb3 := hb3.1
 refine TN 1 ?_
 refine RN ?_
 refine ⟨_, _, eff_box (n := 150) (d := 4) (k := 1000004) rfl (by decide), fun b4 hb4 => ?_⟩
 have hBb4 := hb4.1
 refine TL ?_
 refine RA rfl ?_
 refine RN ?_
 refine A.seq ?_
 refine GS ?_
 refine TL ?_
 refine RM rfl ?_
 refine RS (ok_lenB Tryz.underlying49 rfl LA) ?_
 refine RBS rfl rfl rfl (.bool false) (by simp; omega) ?_
 refine RN ?_
 refine A.no rfl ?_
 refine A.skip ?_
 refine EN ?_
 refine GS ?_
 refine TL ?_
 refine RS (ok_field field32_1 (by decide) rfl) ?_
 refine RS (ok_loadV (s := 1000003) (by decide) Tryz.underlying3 rfl rfl rfl (SC_ix f hmk _ _ _)) ?_
 refine RS (ok_field field32_2 (by decide) rfl) ?_
 refine RS (ok_loadP (s := 1000003) (by decide) Tryz.underlying30 rfl size30 rfl rfl (by simp [rowV_length, hmk]) (SC_non f hmk _ _ _)) ?_
 refine RS (ok_loadA (s := 1000004) (by decide) Tryz.underlying33 rfl (size33.of (by rw [List.length_map, hd])) rfl rfl) ?_
 refine RS (ok_call (Message_bad i hi s c hs hc d hd) (A3 rfl rfl rfl)) ?_
 refine RM rfl ?_
 refine RS (ok_extractV rfl rfl) ?_
 refine RS (ok_extractV rfl rfl) ?_
 refine RA rfl ?_
 refine RA rfl ?_
 refine RN ?_
 refine A.seq ?_
 refine GS ?_
 refine TL ?_
 refine RS (ok_field field32_1 (by decide) rfl) ?_
 refine RS (ok_loadV (s := 1000003) (by decide) Tryz.underlying3 rfl rfl rfl (SC_ix f hmk _ _ _)) ?_
 refine RS (ok_call (bad9_yes i hi) (A1 rfl)) ?_
 refine RN ?_
 refine A.yes rfl ?_
 refine GS ?_
 refine TL ?_
 refine RM rfl ?_
 refine RM rfl ?_
 refine RS (ok_call (same9_fn [] 1) (Args.cons rfl bytes_nil_le (Args.cons rfl (Le.refl _) (Args.cons rfl byt_nil_le (A1 rfl))))) ?_
 refine RS (ok_not rfl) ?_; refine RZ (.bool false) (by rfl) ?_
 refine RN ?_
 refine A.no rfl ?_
 refine A.skip ?_
 refine EN ?_
 refine GS ?_
 refine TN 7 ?_
 refine RM rfl ?_
 refine RS (ok_call (Parse_err b 1 (by decide) (checkMessage_bad b hb hn)) (Args.cons rfl (Le.old _ _) Args.nil)) ?_
 refine RM rfl ?_
 refine RS (ok_extractV rfl rfl) ?_
 refine RS (ok_extractV rfl rfl) ?_
 refine RS (ok_extractV rfl rfl) ?_
 refine RS (ok_extractV rfl rfl) ?_
 refine RN ?_
 refine ⟨_, _, eff_alloc (n := 150) (d := 14) (k := 1000014) zero30 (by decide), fun b14 hb14 => ?_⟩
 have hBb14 := hb14.1
 refine TN 8 ?_
 refine RN ?_
 refine ⟨_, _, eff_alloc (n := 150) (d := 15) (k := 1000015) zero33 (by decide), fun b15 hb15 => ?_⟩
 have hBb15 := hb15.1
 have hlt_b4_b15 : b4 < b15 := hb15.2 1000004 _ _ _ rfl
 refine TF 10 ?_
 refine RA rfl ?_
 refine RN ?_
 refine ⟨_, eff_storeA (n := 150) (s := 1000014) (size30.of (rfl)) rfl rfl (rfl) hBb14 rfl (rfl) (LO 2 rfl (LV 13 rfl (LV 14 rfl (LV 15 rfl (LV 83 rfl (LV 84 rfl (LT 1000003 rfl (LT 1000004 rfl (LT 1000015 rfl (LeftS.cons (t := 1900000) rfl (Surv.tab (by omega)) (LeftS.cons (t := 1900001) rfl (Surv.tab (by omega)) LN))))))))))), ?_⟩
 refine TF 11 ?_
 refine RN ?_
 refine ⟨_, eff_storeA (n := 150) (s := 1000015) (size33.of (rfl)) rfl rfl (rfl) hBb15 rfl (rfl) (LO 2 rfl (LV 13 rfl (LV 14 rfl (LV 15 rfl (LV 84 rfl (LT 1000003 rfl (LB 1000004 rfl (LT 1000014 rfl (LeftS.cons (t := 1900000) rfl (Surv.tab (by omega)) (LeftS.cons (t := 1900001) rfl (Surv.tab (by omega)) LN)))))))))), ?_⟩
 refine TL ?_
 refine RA rfl ?_
 refine RN ?_
 refine A.sub (KC 2 rfl (KC 13 rfl (KC 14 rfl (KC 15 rfl (KC 16 rfl (KC 1000003 rfl (KC 1000004 rfl (KC 1000014 rfl (KC 1000015 rfl (KC 1900000 rfl (KC 1900001 rfl KN))))))))))) ?_
 refine A.seq ?_
 refine GS ?_
 refine TL ?_
 refine RM rfl ?_
 refine RBS rfl rfl rfl (.bool false) (by rfl) ?_
 refine RN ?_
 refine A.no rfl ?_
 refine A.skip ?_
 refine EN ?_
 refine GS ?_
 refine TL ?_
 refine RA rfl ?_
 refine RN ?_
 refine A.seq ?_
 refine GS ?_
 refine TL ?_
 refine RM rfl ?_
 refine RS (ok_lenB Tryz.underlying49 rfl LA) ?_
 refine RBS rfl rfl rfl (.bool false) (by simp; omega) ?_
 refine RN ?_
 refine A.no rfl ?_
 refine A.skip ?_
 refine EN ?_
 refine A.seq ?_
 refine GS ?_
 refine TL ?_
 refine RM rfl ?_
 refine RS (ok_lenB Tryz.underlying49 rfl LA) ?_
 refine RBS rfl rfl rfl (.bool false) (by simp; omega) ?_
 refine RN ?_
 refine A.no rfl ?_
 refine A.skip ?_
 refine EN ?_
 refine GS ?_
 refine TL ?_
 refine RM rfl ?_
 refine RM rfl ?_
 refine RBS rfl rfl rfl (.bool true) (by rfl) ?_
 refine RM rfl ?_
 refine RQ (ok_move rfl) ?_
 refine RQ (ok_lenB Tryz.underlying49 rfl LA) ?_
 refine RQ (ok_bin rfl rfl rfl) ?_; refine RZ (.bool false) (by simp; omega) ?_
 refine RQ (ok_move rfl) ?_
 refine RQ (ok_move rfl) ?_
 refine RQ (ok_index (d := byteD (b.getD 0 0)) Tryz.underlying49 info5 rfl (Le.old _ _) rfl (by decide) (by exact byteD_getD (by omega))) ?_
 refine RQ (ok_load Tryz.underlying5 rfl rfl) ?_; refine RZ (nB (byL b 0)) (by rfl) ?_
 refine RQ (ok_bin rfl rfl rfl) ?_; refine RZ (.bool false) (by simp; omega) ?_
 refine RQ (ok_pick rfl rfl) ?_
 refine RQ (ok_move rfl) ?_
 refine RQ (ok_move rfl) ?_
 refine RQ (ok_index (d := byteD (b.getD 1 0)) Tryz.underlying49 info5 rfl (Le.old _ _) rfl (by decide) (by exact byteD_getD (by omega))) ?_
 refine RQ (ok_load Tryz.underlying5 rfl rfl) ?_; refine RZ (nB (byL b 1)) (by rfl) ?_
 refine RQ (ok_bin rfl rfl rfl) ?_; refine RZ (.bool true) (by simp; omega) ?_
 refine RQ (ok_pick rfl rfl) ?_
 refine RQ (ok_move rfl) ?_
 refine RK ?_
 refine RK ?_
 refine RK ?_
 refine RK ?_
 refine RQ (ok_pick rfl rfl) ?_
 refine RP rfl rfl ?_
 refine RM rfl ?_
 refine RQ (ok_move rfl) ?_
 refine RQ (ok_bin rfl rfl rfl) ?_; refine RZ (.bool true) (by rfl) ?_
 refine RP rfl rfl ?_
 refine RM rfl ?_
 refine RQ (ok_loadA (s := 1000014) (by decide) Tryz.underlying30 rfl (size30.of (rfl)) rfl rfl) ?_
 refine RQ (ok_lit [] ([.int .u32 0] ++ [.int .u64 0]) (fun _ _ => rfl) (by kernel_rfl)) ?_
 refine RQ (ok_eqlT (n := 3) true flatN (by decide) (by kernel_rfl) (by kernel_rfl) rfl rfl (kinN _ _) (kinN _ _) ⟨fun _ => rfl, fun _ => rfl⟩) ?_; refine RZ (.bool true) (by rfl) ?_
 refine RP rfl rfl ?_
 refine RM rfl ?_
 refine RQ (ok_loadA (s := 1000015) (by decide) Tryz.underlying33 rfl (size33.of (rfl)) rfl rfl) ?_
 refine RQ (ok_litP [] Tryz.underlying33 info5 zero33 (by decide) trivial rfl) ?_; refine RZ (aggV (List.replicate 32 (.int .u8 0))) (by rfl) ?_
 refine RQ (ok_eqlT (n := 3) true flat33 (by decide) (by kernel_rfl) (by kernel_rfl) rfl rfl (kinZ 32) (kinZ 32) ⟨fun _ => rfl, fun _ => rfl⟩) ?_; refine RZ (.bool true) (by rfl) ?_
 refine RP rfl rfl ?_
 refine RM rfl ?_
 refine RQ (ok_callM lives9_fn (Sub.cons rfl (Sub.cons rfl KN)) tabs_v Args.nil) ?_
 refine RP rfl rfl ?_
 refine RA rfl ?_
 refine RN ?_
 refine A.sub (KC 6 rfl (KC 1000003 rfl (KC 1000004 rfl (KC 1000014 rfl (KC 1000015 rfl (KC 1900000 rfl (KC 1900001 rfl KN))))))) ?_
 refine A.ret ?_
 exact End.ret1 rfl rfl (by first | exact Le.refl _ | exact Le.old _ _)
set_option maxHeartbeats 4000000 in
theorem SealsMessage_bad_b3 (f : Nat → Nat) (mk : List UInt8) (hf : By f) (hmk : mk.length = 32) (i : Int) (hi : i < 0 ∨ 4096 ≤ i) (s c : Nat) (hs : s < 4294967296) (hc : c < 18446744073709551616) (d : List UInt8) (hd : d.length = 32) (b : List UInt8) (h60 : b.length ≤ 60) (hb : b.length = 48) (hn : 4096 ≤ (num (b.take 4))) (h0 : ¬ 0 < byL b 0) (h1 : ¬ 0 < byL b 1) (h2 : 15 < byL b 2) : FnM Tryz.prog 15 tabs [.v (aggV (rowV 16 f ++ mk.map byteV ++ [.int .i64 i, nW s, nQ c])), .v (aggV (d.map byteV)), byt b] (.v (.bool true)) := by
 refine FnM.of Tryz.func15 rfl (by kernel_rfl) Tryz.ntmps15 (by simp) (by decide) (fun w => [(0, .v (aggV (rowV 16 f ++ mk.map byteV ++ [.int .i64 i, nW s, nQ c]))), (1, .v (aggV (d.map byteV))), (2, old w.heap.size (byt b)), (1900000, tab 0 (H8.list.map u32V)), (1900001, tab 1 (K64.map u32V))]) (fun w => (StartM.v rfl (StartM.v rfl (StartM.old rfl (StartM.m (by simp [tabs]) (by decide) (StartM.m (by simp [tabs]) (by decide) StartM.nil)))))) fun w₀ hM => ?_
 have htab := tabs_hi hM
 refine GS ?_
 refine TN 0 ?_
 refine RN ?_
 refine ⟨_, _, eff_box (n := 150) (d := 3) (k := 1000003) rfl (by decide), fun b3 hb3 => ?_⟩
 have hBb3 := hb3.1
 refine TN 1 ?_
 refine RN ?_
 refine ⟨_, _, eff_box (n := 150) (d := 4) (k := 1000004) rfl (by decide), fun b4 hb4 => ?_⟩
 have hBb4 := hb4.1
 refine TL ?_
 refine RA rfl ?_
 refine RN ?_
 refine A.seq ?_
 refine GS ?_
 refine TL ?_
 refine RM rfl ?_
 refine RS (ok_lenB Tryz.underlying49 rfl LA) ?_
 refine RBS rfl rfl rfl (.bool false) (by simp; omega) ?_
 refine RN ?_
 refine A.no rfl ?_
 refine A.skip ?_
 refine EN ?_
 refine GS ?_
 refine TL ?_
 refine RS (ok_field field32_1 (by decide) rfl) ?_
 refine RS (ok_loadV (s := 1000003) (by decide) Tryz.underlying3 rfl rfl rfl (SC_ix f hmk _ _ _)) ?_
 refine RS (ok_field field32_2 (by decide) rfl) ?_
 refine RS (ok_loadP (s := 1000003) (by decide) Tryz.underlying30 rfl size30 rfl rfl (by simp [rowV_length, hmk]) (SC_non f hmk _ _ _)) ?_
 refine RS (ok_loadA (s := 1000004) (by decide) Tryz.underlying33 rfl (size33.of (by rw [List.length_map, hd])) rfl rfl) ?_
 refine RS (ok_call (Message_bad i hi s c hs hc d hd) (A3 rfl rfl rfl)) ?_
 refine RM rfl ?_
 refine RS (ok_extractV rfl rfl) ?_
 refine RS (ok_extractV rfl rfl) ?_
 refine RA rfl ?_
 refine RA rfl ?_
 refine RN ?_
 refine A.seq ?_
 refine GS ?_
 refine TL ?_
 refine RS (ok_field field32_1 (by decide) rfl) ?_
 refine RS (ok_loadV (s := 1000003) (by decide) Tryz.underlying3 rfl rfl rfl (SC_ix f hmk _ _ _)) ?_
 refine RS (ok_call (bad9_yes i hi) (A1 rfl)) ?_
 refine RN ?_
 refine A.yes rfl ?_
 refine GS ?_
 refine TL ?_
 refine RM rfl ?_
 refine RM rfl ?_
 refine RS (ok_call (same9_fn [] 1) (Args.cons rfl bytes_nil_le (Args.cons rfl (Le.refl _) (Args.cons rfl byt_nil_le (A1 rfl))))) ?_
 refine RS (ok_not rfl) ?_; refine RZ (.bool false) (by rfl) ?_
 refine RN ?_
 refine A.no rfl ?_
 refine A.skip ?_
 refine EN ?_
 refine GS ?_
 refine TN 7 ?_
 refine RM rfl ?_
 refine RS (ok_call (Parse_err b 1 (by decide) (checkMessage_bad b hb hn)) (Args.cons rfl (Le.old _ _) Args.nil)) ?_
 refine RM rfl ?_
 refine RS (ok_extractV rfl rfl) ?_
 refine RS (ok_extractV rfl rfl) ?_
 refine RS (ok_extractV rfl rfl) ?_
 refine RS (ok_extractV rfl rfl) ?_
 refine RN ?_
 refine ⟨_, _, eff_alloc (n := 150) (d := 14) (k := 1000014) zero30 (by decide), fun b14 hb14 => ?_⟩
 have hBb14 := hb14.1
 refine TN 8 ?_
 refine RN ?_
 refine ⟨_, _, eff_alloc (n := 150) (d := 15) (k := 1000015) zero33 (by decide), fun b15 hb15 => ?_⟩
 have hBb15 := hb15.1
 have hlt_b4_b15 : b4 < b15 := hb15.2 1000004 _ _ _ rfl
 refine TF 10 ?_
 refine RA rfl ?_
 refine RN ?_
 refine ⟨_, eff_storeA (n := 150) (s := 1000014) (size30.of (rfl)) rfl rfl (rfl) hBb14 rfl (rfl) (LO 2 rfl (LV 13 rfl (LV 14 rfl (LV 15 rfl (LV 83 rfl (LV 84 rfl (LT 1000003 rfl (LT 1000004 rfl (LT 1000015 rfl (LeftS.cons (t := 1900000) rfl (Surv.tab (by omega)) (LeftS.cons (t := 1900001) rfl (Surv.tab (by omega)) LN))))))))))), ?_⟩
 refine TF 11 ?_
 refine RN ?_
 refine ⟨_, eff_storeA (n := 150) (s := 1000015) (size33.of (rfl)) rfl rfl (rfl) hBb15 rfl (rfl) (LO 2 rfl (LV 13 rfl (LV 14 rfl (LV 15 rfl (LV 84 rfl (LT 1000003 rfl (LB 1000004 rfl (LT 1000014 rfl (LeftS.cons (t := 1900000) rfl (Surv.tab (by omega)) (LeftS.cons (t := 1900001) rfl (Surv.tab (by omega)) LN)))))))))), ?_⟩
 refine TL ?_
 refine RA rfl ?_
 refine RN ?_
 refine A.sub (KC 2 rfl (KC 13 rfl (KC 14 rfl (KC 15 rfl (KC 16 rfl (KC 1000003 rfl (KC 1000004 rfl (KC 1000014 rfl (KC 1000015 rfl (KC 1900000 rfl (KC 1900001 rfl KN))))))))))) ?_
 refine A.seq ?_
 refine GS ?_
 refine TL ?_
 refine RM rfl ?_
 refine RBS rfl rfl rfl (.bool false) (by rfl) ?_
 refine RN ?_
 refine A.no rfl ?_
 refine A.skip ?_
 refine EN ?_
 refine GS ?_
 refine TL ?_
 refine RA rfl ?_
 refine RN ?_
 refine A.seq ?_
 refine GS ?_
 refine TL ?_
 refine RM rfl ?_
 refine RS (ok_lenB Tryz.underlying49 rfl LA) ?_
 refine RBS rfl rfl rfl (.bool false) (by simp; omega) ?_
 refine RN ?_
 refine A.no rfl ?_
 refine A.skip ?_
 refine EN ?_
 refine A.seq ?_
 refine GS ?_
 refine TL ?_
 refine RM rfl ?_
 refine RS (ok_lenB Tryz.underlying49 rfl LA) ?_
 refine RBS rfl rfl rfl (.bool false) (by simp; omega) ?_
 refine RN ?_
 refine A.no rfl ?_
 refine A.skip ?_
 refine EN ?_
 refine GS ?_
 refine TL ?_
 refine RM rfl ?_
 refine RM rfl ?_
 refine RBS rfl rfl rfl (.bool true) (by rfl) ?_
 refine RM rfl ?_
 refine RQ (ok_move rfl) ?_
 refine RQ (ok_lenB Tryz.underlying49 rfl LA) ?_
 refine RQ (ok_bin rfl rfl rfl) ?_; refine RZ (.bool false) (by simp; omega) ?_
 refine RQ (ok_move rfl) ?_
 refine RQ (ok_move rfl) ?_
 refine RQ (ok_index (d := byteD (b.getD 0 0)) Tryz.underlying49 info5 rfl (Le.old _ _) rfl (by decide) (by exact byteD_getD (by omega))) ?_
 refine RQ (ok_load Tryz.underlying5 rfl rfl) ?_; refine RZ (nB (byL b 0)) (by rfl) ?_
 refine RQ (ok_bin rfl rfl rfl) ?_; refine RZ (.bool false) (by simp; omega) ?_
 refine RQ (ok_pick rfl rfl) ?_
 refine RQ (ok_move rfl) ?_
 refine RQ (ok_move rfl) ?_
 refine RQ (ok_index (d := byteD (b.getD 1 0)) Tryz.underlying49 info5 rfl (Le.old _ _) rfl (by decide) (by exact byteD_getD (by omega))) ?_
 refine RQ (ok_load Tryz.underlying5 rfl rfl) ?_; refine RZ (nB (byL b 1)) (by rfl) ?_
 refine RQ (ok_bin rfl rfl rfl) ?_; refine RZ (.bool false) (by simp; omega) ?_
 refine RQ (ok_pick rfl rfl) ?_
 refine RQ (ok_move rfl) ?_
 refine RQ (ok_move rfl) ?_
 refine RQ (ok_index (d := byteD (b.getD 2 0)) Tryz.underlying49 info5 rfl (Le.old _ _) rfl (by decide) (by exact byteD_getD (by omega))) ?_
 refine RQ (ok_load Tryz.underlying5 rfl rfl) ?_; refine RZ (nB (byL b 2)) (by rfl) ?_
 refine RQ (ok_bin rfl rfl rfl) ?_; refine RZ (.bool true) (by simp; omega) ?_
 refine RQ (ok_pick rfl rfl) ?_
 refine RP rfl rfl ?_
 refine RM rfl ?_
 refine RQ (ok_move rfl) ?_
 refine RQ (ok_bin rfl rfl rfl) ?_; refine RZ (.bool true) (by rfl) ?_
 refine RP rfl rfl ?_
 refine RM rfl ?_
 refine RQ (ok_loadA (s := 1000014) (by decide) Tryz.underlying30 rfl (size30.of (rfl)) rfl rfl) ?_
 refine RQ (ok_lit [] ([.int .u32 0] ++ [.int .u64 0]) (fun _ _ => rfl) (by kernel_rfl)) ?_
 refine RQ (ok_eqlT (n := 3) true flatN (by decide) (by kernel_rfl) (by kernel_rfl) rfl rfl (kinN _ _) (kinN _ _) ⟨fun _ => rfl, fun _ => rfl⟩) ?_; refine RZ (.bool true) (by rfl) ?_
 refine RP rfl rfl ?_
 refine RM rfl ?_
 refine RQ (ok_loadA (s := 1000015) (by decide) Tryz.underlying33 rfl (size33.of (rfl)) rfl rfl) ?_
 refine RQ (ok_litP [] Tryz.underlying33 info5 zero33 (by decide) trivial rfl) ?_; refine RZ (aggV (List.replicate 32 (.int .u8 0))) (by rfl) ?_
 refine RQ (ok_eqlT (n := 3) true flat33 (by decide) (by kernel_rfl) (by kernel_rfl) rfl rfl (kinZ 32) (kinZ 32) ⟨fun _ => rfl, fun _ => rfl⟩) ?_; refine RZ (.bool true) (by rfl) ?_
 refine RP rfl rfl ?_
 refine RM rfl ?_
 refine RQ (ok_callM lives9_fn (Sub.cons rfl (Sub.cons rfl KN)) tabs_v Args.nil) ?_
 refine RP rfl rfl ?_
 refine RA rfl ?_
 refine RN ?_
 refine A.sub (KC 6 rfl (KC 1000003 rfl (KC 1000004 rfl (KC 1000014 rfl (KC 1000015 rfl (KC 1900000 rfl (KC 1900001 rfl KN))))))) ?_
 refine A.ret ?_
 exact End.ret1 rfl rfl (by first | exact Le.refl _ | exact Le.old _ _)
set_option maxHeartbeats 4000000 in
theorem SealsMessage_good_ok (f : Nat → Nat) (mk : List UInt8) (hf : By f) (hmk : mk.length = 32) (i : Nat) (hi : i < 4096) (s c : Nat) (hs : s < 4294967296) (hc : c < 18446744073709551616) (d : List UInt8) (hd : d.length = 32) (b : List UInt8) (h60 : b.length ≤ 60) (hb : b.length = 48) (hn : (num (b.take 4)) < 4096) : FnM Tryz.prog 15 tabs [.v (aggV (rowV 16 f ++ mk.map byteV ++ [nI i, nW s, nQ c])), .v (aggV (d.map byteV)), byt b] (.v (.bool true)) := by
 have hd16 : (b.drop 16).length = 32 := by simp [hb]
 refine FnM.of Tryz.func15 rfl (by kernel_rfl) Tryz.ntmps15 (by simp) (by decide) (fun w => [(0, .v (aggV (rowV 16 f ++ mk.map byteV ++ [nI i, nW s, nQ c]))), (1, .v (aggV (d.map byteV))), (2, old w.heap.size (byt b)), (1900000, tab 0 (H8.list.map u32V)), (1900001, tab 1 (K64.map u32V))]) (fun w => (StartM.v rfl (StartM.v rfl (StartM.old rfl (StartM.m (by simp [tabs]) (by decide) (StartM.m (by simp [tabs]) (by decide) StartM.nil)))))) fun w₀ hM => ?_
 have htab := tabs_hi hM
 refine GS ?_
 refine TN 0 ?_
 refine RN ?_
 refine ⟨_, _, eff_box (n := 150) (d := 3) (k := 1000003) rfl (by decide), fun b3 hb3 => ?_⟩
 have hBb3 := hb3.1
 refine TN 1 ?_
 refine RN ?_
 refine ⟨_, _, eff_box (n := 150) (d := 4) (k := 1000004) rfl (by decide), fun b4 hb4 => ?_⟩
 have hBb4 := hb4.1
 refine TL ?_
 refine RA rfl ?_
 refine RN ?_
 refine A.seq ?_
 refine GS ?_
 refine TL ?_
 refine RM rfl ?_
 refine RS (ok_lenB Tryz.underlying49 rfl LA) ?_
 refine RBS rfl rfl rfl (.bool false) (by simp; omega) ?_
 refine RN ?_
 refine A.no rfl ?_
 refine A.skip ?_
 refine EN ?_
 refine GS ?_
 refine TN 5 ?_
 refine RS (ok_field field32_1 (by decide) rfl) ?_
 refine RS (ok_loadV (s := 1000003) (by decide) Tryz.underlying3 rfl rfl rfl (SC_ix f hmk _ _ _)) ?_
 refine RS (ok_field field32_2 (by decide) rfl) ?_
 refine RS (ok_loadP (s := 1000003) (by decide) Tryz.underlying30 rfl size30 rfl rfl (by simp [rowV_length, hmk]) (SC_non f hmk _ _ _)) ?_
 refine RS (ok_loadA (s := 1000004) (by decide) Tryz.underlying33 rfl (size33.of (by rw [List.length_map, hd])) rfl rfl) ?_
 refine RN ?_
 refine ⟨_, _, eff_name (n := 150) (d := 30) (k := 1000030) rfl rfl (fun B' => ok_callB (Message_ok i s c hs hc d hd hi) newD_mono (A3 rfl rfl rfl)) (by decide) (by decide), fun b30 hb30 => ?_⟩
 have hBb30 := hb30.1
 have hlt_b3_b30 : b3 < b30 := hb30.2 1000003 _ _ _ rfl
 have hlt_b4_b30 : b4 < b30 := hb30.2 1000004 _ _ _ rfl
 refine TL ?_
 refine RM rfl ?_
 refine RS (ok_extractV rfl rfl) ?_
 refine RS (ok_extractV rfl rfl) ?_
 refine RA rfl ?_
 refine RA rfl ?_
 refine RN ?_
 refine A.seq ?_
 refine GS ?_
 refine TL ?_
 refine RS (ok_field field32_1 (by decide) rfl) ?_
 refine RS (ok_loadV (s := 1000003) (by decide) Tryz.underlying3 rfl rfl rfl (SC_ix f hmk _ _ _)) ?_
 refine RS (ok_call (bad9_no (i : Int) (by omega) (by omega)) (A1 rfl)) ?_
 refine RN ?_
 refine A.no rfl ?_
 refine GS ?_
 refine TN 7 ?_
 refine RS (ok_moveB (s := 1000030) (msgL i s c d) (by decide) rfl rfl (msgL_length hd).symm (by decide) (by decide) (by rw [List.drop_zero, List.take_of_length_le (by rw [List.length_map, msgL_length hd]; decide)])) ?_
 refine RS (ok_call (Parse_msg i s c hs hc d hd hi) (A1 rfl)) ?_
 refine RM rfl ?_
 refine RS (ok_extractV rfl rfl) ?_
 refine RS (ok_extractV rfl rfl) ?_
 refine RS (ok_extractV rfl rfl) ?_
 refine RS (ok_extractV rfl rfl) ?_
 refine RN ?_
 refine ⟨_, _, eff_alloc (n := 150) (d := 10) (k := 1000010) zero30 (by decide), fun b10 hb10 => ?_⟩
 have hBb10 := hb10.1
 refine TN 8 ?_
 refine RN ?_
 refine ⟨_, _, eff_alloc (n := 150) (d := 11) (k := 1000011) zero33 (by decide), fun b11 hb11 => ?_⟩
 have hBb11 := hb11.1
 have hlt_b4_b11 : b4 < b11 := hb11.2 1000004 _ _ _ rfl
 refine TF 10 ?_
 refine RA rfl ?_
 refine RN ?_
 refine ⟨_, eff_storeA (n := 150) (s := 1000010) (size30.of (rfl)) rfl rfl (rfl) hBb10 rfl (rfl) (LO 2 rfl (LV 3 rfl (LV 4 rfl (LV 7 rfl (LV 8 rfl (LV 9 rfl (LV 10 rfl (LV 11 rfl (LV 45 rfl (LV 46 rfl (LT 1000003 rfl (LT 1000004 rfl (LT 1000011 rfl (LT 1000030 rfl (LeftS.cons (t := 1900000) rfl (Surv.tab (by omega)) (LeftS.cons (t := 1900001) rfl (Surv.tab (by omega)) LN)))))))))))))))), ?_⟩
 refine TF 11 ?_
 refine RN ?_
 refine ⟨_, eff_storeA (n := 150) (s := 1000011) (size33.of (by rw [List.length_map, hd])) rfl rfl (all_bytes _) hBb11 rfl (by simp [hd]) (LO 2 rfl (LV 3 rfl (LV 4 rfl (LV 7 rfl (LV 8 rfl (LV 9 rfl (LV 10 rfl (LV 11 rfl (LV 46 rfl (LT 1000003 rfl (LB 1000004 rfl (LT 1000010 rfl (LT 1000030 rfl (LeftS.cons (t := 1900000) rfl (Surv.tab (by omega)) (LeftS.cons (t := 1900001) rfl (Surv.tab (by omega)) LN))))))))))))))), ?_⟩
 refine TL ?_
 refine RA rfl ?_
 refine RN ?_
 refine A.sub (KC 2 rfl (KC 3 rfl (KC 4 rfl (KC 7 rfl (KC 8 rfl (KC 9 rfl (KC 10 rfl (KC 11 rfl (KC 12 rfl (KC 1000003 rfl (KC 1000004 rfl (KC 1000010 rfl (KC 1000011 rfl (KC 1000030 rfl (KC 1900000 rfl (KC 1900001 rfl KN)))))))))))))))) ?_
 refine GS ?_
 refine TL ?_
 refine RS ((OpOk.fact (ok_move rfl) (d := bytes (msgL i s c d) 48) (s := 1000030) (by decide) rfl (slice_bytes (msgL i s c d) (msgL_length hd).symm (by decide) (by decide) (by rw [List.drop_zero, List.take_of_length_le (by rw [List.length_map, msgL_length hd]; decide)]))).le (d' := bytes (msgL i s c d) (msgL i s c d).length) (Le.eq (by rw [msgL_length hd]))) ?_
 refine RM rfl ?_
 refine RS (ok_field field32_1 (by decide) rfl) ?_
 refine RS (ok_loadV (s := 1000003) (by decide) Tryz.underlying3 rfl rfl rfl (SC_ix f hmk _ _ _)) ?_
 refine RS (ok_field field32_2 (by decide) rfl) ?_
 refine RS (ok_loadP (s := 1000003) (by decide) Tryz.underlying30 rfl size30 rfl rfl (by simp [rowV_length, hmk]) (SC_non f hmk _ _ _)) ?_
 refine RS (ok_loadA (s := 1000004) (by decide) Tryz.underlying33 rfl (size33.of (by rw [List.length_map, hd])) rfl rfl) ?_
 refine RS (ok_call (ref9Message_fn i s c hs hc d hd hi) (A3 rfl rfl rfl)) ?_
 refine RS (ok_call (same9_fn (msgL i s c d) 0) (Args.cons rfl (Le.refl _) (A3 rfl rfl rfl))) ?_
 refine RS (ok_not rfl) ?_; refine RZ (.bool false) (by rfl) ?_
 refine RM rfl ?_
 refine RQ (ok_move rfl) ?_
 refine RQ (ok_field field32_1 (by decide) rfl) ?_
 refine RQ (ok_loadV (s := 1000003) (by decide) Tryz.underlying3 rfl rfl rfl (SC_ix f hmk _ _ _)) ?_
 refine RQ (ok_bin rfl rfl rfl) ?_; refine RZ (.bool false) (by simp) ?_
 refine RP rfl rfl ?_
 refine RM rfl ?_
 refine RQ (ok_loadA (s := 1000010) (by decide) Tryz.underlying30 rfl (size30.of (rfl)) rfl rfl) ?_
 refine RQ (ok_field field32_2 (by decide) rfl) ?_
 refine RQ (ok_loadP (s := 1000003) (by decide) Tryz.underlying30 rfl size30 rfl rfl (by simp [rowV_length, hmk]) (SC_non f hmk _ _ _)) ?_
 refine RQ (ok_neqT (n := 3) true flatN (by decide) (by kernel_rfl) (by kernel_rfl) rfl rfl (kinN _ _) (kinN _ _) ⟨fun _ => rfl, fun _ => rfl⟩) ?_; refine RZ (.bool false) (by rfl) ?_
 refine RP rfl rfl ?_
 refine RM rfl ?_
 refine RQ (ok_loadA (s := 1000011) (by decide) Tryz.underlying33 rfl (size33.of (by rw [List.length_map, hd])) rfl rfl) ?_
 refine RQ (ok_loadA (s := 1000004) (by decide) Tryz.underlying33 rfl (size33.of (by rw [List.length_map, hd])) rfl rfl) ?_
 refine RQ (ok_neqT (n := 3) true flat33 (by decide) (by kernel_rfl) (by kernel_rfl) rfl rfl (kinB hd) (kinB hd) ⟨fun _ => rfl, fun _ => rfl⟩) ?_; refine RZ (.bool false) (by rfl) ?_
 refine RP rfl rfl ?_
 refine RM rfl ?_
 refine RQ (ok_move rfl) ?_
 refine RQ (ok_bin rfl rfl rfl) ?_; refine RZ (.bool false) (by rfl) ?_
 refine RP rfl rfl ?_
 refine RN ?_
 refine A.sub (KC 2 rfl (KC 77 rfl (KC 1000003 rfl (KC 1000004 rfl (KC 1000010 rfl (KC 1000011 rfl (KC 1000030 rfl (KC 1900000 rfl (KC 1900001 rfl KN))))))))) ?_
 refine A.no rfl ?_
 refine A.skip ?_
 refine EN ?_
 refine GS ?_
 refine TN 7 ?_
 refine RM rfl ?_
 refine RS (ok_call (Parse_ok b hb hn) (Args.cons rfl (Le.old _ _) Args.nil)) ?_
 refine RM rfl ?_
 refine RS (ok_extractV rfl rfl) ?_
 refine RS (ok_extractV rfl rfl) ?_
 refine RS (ok_extractV rfl rfl) ?_
 refine RS (ok_extractV rfl rfl) ?_
 refine RN ?_
 refine ⟨_, _, eff_alloc (n := 150) (d := 14) (k := 1000014) zero30 (by decide), fun b14 hb14 => ?_⟩
 have hBb14 := hb14.1
 have hlt_b10_b14 : b10 < b14 := hb14.2 1000010 _ _ _ rfl
 refine TN 8 ?_
 refine RN ?_
 refine ⟨_, _, eff_alloc (n := 150) (d := 15) (k := 1000015) zero33 (by decide), fun b15 hb15 => ?_⟩
 have hBb15 := hb15.1
 have hlt_b4_b15 : b4 < b15 := hb15.2 1000004 _ _ _ rfl
 have hlt_b11_b15 : b11 < b15 := hb15.2 1000011 _ _ _ rfl
 refine TF 10 ?_
 refine RA rfl ?_
 refine RN ?_
 refine ⟨_, eff_storeA (n := 150) (s := 1000014) (size30.of (rfl)) rfl rfl (rfl) hBb14 rfl (rfl) (LO 2 rfl (LV 13 rfl (LV 14 rfl (LV 15 rfl (LV 83 rfl (LV 84 rfl (LT 1000003 rfl (LT 1000004 rfl (LB 1000010 rfl (LT 1000011 rfl (LT 1000015 rfl (LT 1000030 rfl (LeftS.cons (t := 1900000) rfl (Surv.tab (by omega)) (LeftS.cons (t := 1900001) rfl (Surv.tab (by omega)) LN)))))))))))))), ?_⟩
 refine TF 11 ?_
 refine RN ?_
 refine ⟨_, eff_storeA (n := 150) (s := 1000015) (size33.of (by rw [List.length_map, hd16])) rfl rfl (all_bytes _) hBb15 rfl (by simp [hb]) (LO 2 rfl (LV 13 rfl (LV 14 rfl (LV 15 rfl (LV 84 rfl (LT 1000003 rfl (LB 1000004 rfl (LT 1000010 rfl (LB 1000011 rfl (LT 1000014 rfl (LT 1000030 rfl (LeftS.cons (t := 1900000) rfl (Surv.tab (by omega)) (LeftS.cons (t := 1900001) rfl (Surv.tab (by omega)) LN))))))))))))), ?_⟩
 refine TL ?_
 refine RA rfl ?_
 refine RN ?_
 refine A.seq ?_
 refine GS ?_
 refine TL ?_
 refine RM rfl ?_
 refine RBS rfl rfl rfl (.bool true) (by rfl) ?_
 refine RN ?_
 refine A.yes rfl ?_
 refine GS ?_
 refine TN 3 ?_
 refine RM rfl ?_
 refine RS (ok_loadA (s := 1000014) (by decide) Tryz.underlying30 rfl (size30.of (rfl)) rfl rfl) ?_
 refine RS (ok_loadA (s := 1000015) (by decide) Tryz.underlying33 rfl (size33.of (by rw [List.length_map, hd16])) rfl rfl) ?_
 refine RN ?_
 refine ⟨_, _, eff_name (n := 150) (d := 91) (k := 1000091) rfl rfl (fun B' => ok_callB (Message_ok (num (b.take 4)) (gS ((b.drop 4).take 12)) (gC ((b.drop 4).take 12)) (gS_lt _) (gC_lt _) (b.drop 16) hd16 hn) newD_mono (A3 rfl rfl rfl)) (by decide) (by decide), fun b91 hb91 => ?_⟩
 have hBb91 := hb91.1
 have hlt_b3_b91 : b3 < b91 := hb91.2 1000003 _ _ _ rfl
 have hlt_b4_b91 : b4 < b91 := hb91.2 1000004 _ _ _ rfl
 have hlt_b10_b91 : b10 < b91 := hb91.2 1000010 _ _ _ rfl
 have hlt_b11_b91 : b11 < b91 := hb91.2 1000011 _ _ _ rfl
 have hlt_b14_b91 : b14 < b91 := hb91.2 1000014 _ _ _ rfl
 have hlt_b15_b91 : b15 < b91 := hb91.2 1000015 _ _ _ rfl
 have hlt_b30_b91 : b30 < b91 := hb91.2 1000030 _ _ _ rfl
 refine TL ?_
 refine RM rfl ?_
 refine RS (ok_extractV rfl rfl) ?_
 refine RS (ok_extractV rfl rfl) ?_
 refine RA rfl ?_
 refine RA rfl ?_
 refine RN ?_
 refine GS ?_
 refine TL ?_
 refine RS ((OpOk.fact (ok_move rfl) (d := bytes b 48) (s := 1000091) (by decide) rfl (slice_bytes b hb.symm (by decide) (by decide) (by rw [msgL_of hb (nonce_back (by simp [hb])), List.drop_zero, List.take_of_length_le (by rw [List.length_map, hb]; decide)]))).le (d' := bytes b b.length) (Le.eq (by rw [hb]))) ?_
 refine RM rfl ?_
 refine RM rfl ?_
 refine RS (ok_call (same9_fn b 0) (Args.cons rfl (Le.refl _) (Args.cons rfl (Le.refl _) (Args.cons rfl (Le.old _ _) (A1 rfl))))) ?_
 refine RM rfl ?_
 refine RQ (ok_callM lives9_fn (Sub.cons rfl (Sub.cons rfl KN)) tabs_v Args.nil) ?_
 refine RP rfl rfl ?_
 refine RA rfl ?_
 refine RN ?_
 refine A.sub (KC 6 rfl (KC 1000003 rfl (KC 1000004 rfl (KC 1000010 rfl (KC 1000011 rfl (KC 1000014 rfl (KC 1000015 rfl (KC 1000030 rfl (KC 1000091 rfl (KC 1900000 rfl (KC 1900001 rfl KN))))))))))) ?_
 refine A.ret ?_
 refine End.ret_then ?_
 exact End.ret1 rfl rfl (by first | exact Le.refl _ | exact Le.old _ _)
set_option maxHeartbeats 4000000 in
theorem SealsMessage_good_short (f : Nat → Nat) (mk : List UInt8) (hf : By f) (hmk : mk.length = 32) (i : Nat) (hi : i < 4096) (s c : Nat) (hs : s < 4294967296) (hc : c < 18446744073709551616) (d : List UInt8) (hd : d.length = 32) (b : List UInt8) (h60 : b.length ≤ 60) (hb : b.length < 48) : FnM Tryz.prog 15 tabs [.v (aggV (rowV 16 f ++ mk.map byteV ++ [nI i, nW s, nQ c])), .v (aggV (d.map byteV)), byt b] (.v (.bool true)) := by
 refine FnM.of Tryz.func15 rfl (by kernel_rfl) Tryz.ntmps15 (by simp) (by decide) (fun w => [(0, .v (aggV (rowV 16 f ++ mk.map byteV ++ [nI i, nW s, nQ c]))), (1, .v (aggV (d.map byteV))), (2, old w.heap.size (byt b)), (1900000, tab 0 (H8.list.map u32V)), (1900001, tab 1 (K64.map u32V))]) (fun w => (StartM.v rfl (StartM.v rfl (StartM.old rfl (StartM.m (by simp [tabs]) (by decide) (StartM.m (by simp [tabs]) (by decide) StartM.nil)))))) fun w₀ hM => ?_
 have htab := tabs_hi hM
 refine GS ?_
 refine TN 0 ?_
 refine RN ?_
 refine ⟨_, _, eff_box (n := 150) (d := 3) (k := 1000003) rfl (by decide), fun b3 hb3 => ?_⟩
 have hBb3 := hb3.1
 refine TN 1 ?_
 refine RN ?_
 refine ⟨_, _, eff_box (n := 150) (d := 4) (k := 1000004) rfl (by decide), fun b4 hb4 => ?_⟩
 have hBb4 := hb4.1
 refine TL ?_
 refine RA rfl ?_
 refine RN ?_
 refine A.seq ?_
 refine GS ?_
 refine TL ?_
 refine RM rfl ?_
 refine RS (ok_lenB Tryz.underlying49 rfl LA) ?_
 refine RBS rfl rfl rfl (.bool false) (by simp; omega) ?_
 refine RN ?_
 refine A.no rfl ?_
 refine A.skip ?_
 refine EN ?_
 refine GS ?_
 refine TN 5 ?_
 refine RS (ok_field field32_1 (by decide) rfl) ?_
 refine RS (ok_loadV (s := 1000003) (by decide) Tryz.underlying3 rfl rfl rfl (SC_ix f hmk _ _ _)) ?_
 refine RS (ok_field field32_2 (by decide) rfl) ?_
 refine RS (ok_loadP (s := 1000003) (by decide) Tryz.underlying30 rfl size30 rfl rfl (by simp [rowV_length, hmk]) (SC_non f hmk _ _ _)) ?_
 refine RS (ok_loadA (s := 1000004) (by decide) Tryz.underlying33 rfl (size33.of (by rw [List.length_map, hd])) rfl rfl) ?_
 refine RN ?_
 refine ⟨_, _, eff_name (n := 150) (d := 30) (k := 1000030) rfl rfl (fun B' => ok_callB (Message_ok i s c hs hc d hd hi) newD_mono (A3 rfl rfl rfl)) (by decide) (by decide), fun b30 hb30 => ?_⟩
 have hBb30 := hb30.1
 have hlt_b3_b30 : b3 < b30 := hb30.2 1000003 _ _ _ rfl
 have hlt_b4_b30 : b4 < b30 := hb30.2 1000004 _ _ _ rfl
 refine TL ?_
 refine RM rfl ?_
 refine RS (ok_extractV rfl rfl) ?_
 refine RS (ok_extractV rfl rfl) ?_
 refine RA rfl ?_
 refine RA rfl ?_
 refine RN ?_
 refine A.seq ?_
 refine GS ?_
 refine TL ?_
 refine RS (ok_field field32_1 (by decide) rfl) ?_
 refine RS (ok_loadV (s := 1000003) (by decide) Tryz.underlying3 rfl rfl rfl (SC_ix f hmk _ _ _)) ?_
 refine RS (ok_call (bad9_no (i : Int) (by omega) (by omega)) (A1 rfl)) ?_
 refine RN ?_
 refine A.no rfl ?_
 refine GS ?_
 refine TN 7 ?_
 refine RS (ok_moveB (s := 1000030) (msgL i s c d) (by decide) rfl rfl (msgL_length hd).symm (by decide) (by decide) (by rw [List.drop_zero, List.take_of_length_le (by rw [List.length_map, msgL_length hd]; decide)])) ?_
 refine RS (ok_call (Parse_msg i s c hs hc d hd hi) (A1 rfl)) ?_
 refine RM rfl ?_
 refine RS (ok_extractV rfl rfl) ?_
 refine RS (ok_extractV rfl rfl) ?_
 refine RS (ok_extractV rfl rfl) ?_
 refine RS (ok_extractV rfl rfl) ?_
 refine RN ?_
 refine ⟨_, _, eff_alloc (n := 150) (d := 10) (k := 1000010) zero30 (by decide), fun b10 hb10 => ?_⟩
 have hBb10 := hb10.1
 refine TN 8 ?_
 refine RN ?_
 refine ⟨_, _, eff_alloc (n := 150) (d := 11) (k := 1000011) zero33 (by decide), fun b11 hb11 => ?_⟩
 have hBb11 := hb11.1
 have hlt_b4_b11 : b4 < b11 := hb11.2 1000004 _ _ _ rfl
 refine TF 10 ?_
 refine RA rfl ?_
 refine RN ?_
 refine ⟨_, eff_storeA (n := 150) (s := 1000010) (size30.of (rfl)) rfl rfl (rfl) hBb10 rfl (rfl) (LO 2 rfl (LV 3 rfl (LV 4 rfl (LV 7 rfl (LV 8 rfl (LV 9 rfl (LV 10 rfl (LV 11 rfl (LV 45 rfl (LV 46 rfl (LT 1000003 rfl (LT 1000004 rfl (LT 1000011 rfl (LT 1000030 rfl (LeftS.cons (t := 1900000) rfl (Surv.tab (by omega)) (LeftS.cons (t := 1900001) rfl (Surv.tab (by omega)) LN)))))))))))))))), ?_⟩
 refine TF 11 ?_
 refine RN ?_
 refine ⟨_, eff_storeA (n := 150) (s := 1000011) (size33.of (by rw [List.length_map, hd])) rfl rfl (all_bytes _) hBb11 rfl (by simp [hd]) (LO 2 rfl (LV 3 rfl (LV 4 rfl (LV 7 rfl (LV 8 rfl (LV 9 rfl (LV 10 rfl (LV 11 rfl (LV 46 rfl (LT 1000003 rfl (LB 1000004 rfl (LT 1000010 rfl (LT 1000030 rfl (LeftS.cons (t := 1900000) rfl (Surv.tab (by omega)) (LeftS.cons (t := 1900001) rfl (Surv.tab (by omega)) LN))))))))))))))), ?_⟩
 refine TL ?_
 refine RA rfl ?_
 refine RN ?_
 refine A.sub (KC 2 rfl (KC 3 rfl (KC 4 rfl (KC 7 rfl (KC 8 rfl (KC 9 rfl (KC 10 rfl (KC 11 rfl (KC 12 rfl (KC 1000003 rfl (KC 1000004 rfl (KC 1000010 rfl (KC 1000011 rfl (KC 1000030 rfl (KC 1900000 rfl (KC 1900001 rfl KN)))))))))))))))) ?_
 refine GS ?_
 refine TL ?_
 refine RS ((OpOk.fact (ok_move rfl) (d := bytes (msgL i s c d) 48) (s := 1000030) (by decide) rfl (slice_bytes (msgL i s c d) (msgL_length hd).symm (by decide) (by decide) (by rw [List.drop_zero, List.take_of_length_le (by rw [List.length_map, msgL_length hd]; decide)]))).le (d' := bytes (msgL i s c d) (msgL i s c d).length) (Le.eq (by rw [msgL_length hd]))) ?_
 refine RM rfl ?_
 refine RS (ok_field field32_1 (by decide) rfl) ?_
 refine RS (ok_loadV (s := 1000003) (by decide) Tryz.underlying3 rfl rfl rfl (SC_ix f hmk _ _ _)) ?_
 refine RS (ok_field field32_2 (by decide) rfl) ?_
 refine RS (ok_loadP (s := 1000003) (by decide) Tryz.underlying30 rfl size30 rfl rfl (by simp [rowV_length, hmk]) (SC_non f hmk _ _ _)) ?_
 refine RS (ok_loadA (s := 1000004) (by decide) Tryz.underlying33 rfl (size33.of (by rw [List.length_map, hd])) rfl rfl) ?_
 refine RS (ok_call (ref9Message_fn i s c hs hc d hd hi) (A3 rfl rfl rfl)) ?_
 refine RS (ok_call (same9_fn (msgL i s c d) 0) (Args.cons rfl (Le.refl _) (A3 rfl rfl rfl))) ?_
 refine RS (ok_not rfl) ?_; refine RZ (.bool false) (by rfl) ?_
 refine RM rfl ?_
 refine RQ (ok_move rfl) ?_
 refine RQ (ok_field field32_1 (by decide) rfl) ?_
 refine RQ (ok_loadV (s := 1000003) (by decide) Tryz.underlying3 rfl rfl rfl (SC_ix f hmk _ _ _)) ?_
 refine RQ (ok_bin rfl rfl rfl) ?_; refine RZ (.bool false) (by simp) ?_
 refine RP rfl rfl ?_
 refine RM rfl ?_
 refine RQ (ok_loadA (s := 1000010) (by decide) Tryz.underlying30 rfl (size30.of (rfl)) rfl rfl) ?_
 refine RQ (ok_field field32_2 (by decide) rfl) ?_
 refine RQ (ok_loadP (s := 1000003) (by decide) Tryz.underlying30 rfl size30 rfl rfl (by simp [rowV_length, hmk]) (SC_non f hmk _ _ _)) ?_
 refine RQ (ok_neqT (n := 3) true flatN (by decide) (by kernel_rfl) (by kernel_rfl) rfl rfl (kinN _ _) (kinN _ _) ⟨fun _ => rfl, fun _ => rfl⟩) ?_; refine RZ (.bool false) (by rfl) ?_
 refine RP rfl rfl ?_
 refine RM rfl ?_
 refine RQ (ok_loadA (s := 1000011) (by decide) Tryz.underlying33 rfl (size33.of (by rw [List.length_map, hd])) rfl rfl) ?_
 refine RQ (ok_loadA (s := 1000004) (by decide) Tryz.underlying33 rfl (size33.of (by rw [List.length_map, hd])) rfl rfl) ?_
 refine RQ (ok_neqT (n := 3) true flat33 (by decide) (by kernel_rfl) (by kernel_rfl) rfl rfl (kinB hd) (kinB hd) ⟨fun _ => rfl, fun _ => rfl⟩) ?_; refine RZ (.bool false) (by rfl) ?_
 refine RP rfl rfl ?_
 refine RM rfl ?_
 refine RQ (ok_move rfl) ?_
 refine RQ (ok_bin rfl rfl rfl) ?_; refine RZ (.bool false) (by rfl) ?_
 refine RP rfl rfl ?_
 refine RN ?_
 refine A.sub (KC 2 rfl (KC 77 rfl (KC 1000003 rfl (KC 1000004 rfl (KC 1000010 rfl (KC 1000011 rfl (KC 1000030 rfl (KC 1900000 rfl (KC 1900001 rfl KN))))))))) ?_
 refine A.no rfl ?_
 refine A.skip ?_
 refine EN ?_
 refine GS ?_
 refine TN 7 ?_
 refine RM rfl ?_
 refine RS (ok_call (Parse_err b 6 (by decide) (checkMessage_short b hb)) (Args.cons rfl (Le.old _ _) Args.nil)) ?_
 refine RM rfl ?_
 refine RS (ok_extractV rfl rfl) ?_
 refine RS (ok_extractV rfl rfl) ?_
 refine RS (ok_extractV rfl rfl) ?_
 refine RS (ok_extractV rfl rfl) ?_
 refine RN ?_
 refine ⟨_, _, eff_alloc (n := 150) (d := 14) (k := 1000014) zero30 (by decide), fun b14 hb14 => ?_⟩
 have hBb14 := hb14.1
 have hlt_b10_b14 : b10 < b14 := hb14.2 1000010 _ _ _ rfl
 refine TN 8 ?_
 refine RN ?_
 refine ⟨_, _, eff_alloc (n := 150) (d := 15) (k := 1000015) zero33 (by decide), fun b15 hb15 => ?_⟩
 have hBb15 := hb15.1
 have hlt_b4_b15 : b4 < b15 := hb15.2 1000004 _ _ _ rfl
 have hlt_b11_b15 : b11 < b15 := hb15.2 1000011 _ _ _ rfl
 refine TF 10 ?_
 refine RA rfl ?_
 refine RN ?_
 refine ⟨_, eff_storeA (n := 150) (s := 1000014) (size30.of (rfl)) rfl rfl (rfl) hBb14 rfl (rfl) (LO 2 rfl (LV 13 rfl (LV 14 rfl (LV 15 rfl (LV 83 rfl (LV 84 rfl (LT 1000003 rfl (LT 1000004 rfl (LB 1000010 rfl (LT 1000011 rfl (LT 1000015 rfl (LT 1000030 rfl (LeftS.cons (t := 1900000) rfl (Surv.tab (by omega)) (LeftS.cons (t := 1900001) rfl (Surv.tab (by omega)) LN)))))))))))))), ?_⟩
 refine TF 11 ?_
 refine RN ?_
 refine ⟨_, eff_storeA (n := 150) (s := 1000015) (size33.of (rfl)) rfl rfl (rfl) hBb15 rfl (rfl) (LO 2 rfl (LV 13 rfl (LV 14 rfl (LV 15 rfl (LV 84 rfl (LT 1000003 rfl (LB 1000004 rfl (LT 1000010 rfl (LB 1000011 rfl (LT 1000014 rfl (LT 1000030 rfl (LeftS.cons (t := 1900000) rfl (Surv.tab (by omega)) (LeftS.cons (t := 1900001) rfl (Surv.tab (by omega)) LN))))))))))))), ?_⟩
 refine TL ?_
 refine RA rfl ?_
 refine RN ?_
 refine A.seq ?_
 refine GS ?_
 refine TL ?_
 refine RM rfl ?_
 refine RBS rfl rfl rfl (.bool false) (by rfl) ?_
 refine RN ?_
 refine A.no rfl ?_
 refine A.skip ?_
 refine EN ?_
 refine GS ?_
 refine TL ?_
 refine RA rfl ?_
 refine RN ?_
 refine A.seq ?_
 refine GS ?_
 refine TL ?_
 refine RM rfl ?_
 refine RS (ok_lenB Tryz.underlying49 rfl LA) ?_
 refine RBS rfl rfl rfl (.bool true) (by simp; omega) ?_
 refine RN ?_
 refine A.yes rfl ?_
 refine GE ?_
 refine TL ?_
 refine RA rfl ?_
 refine RN ?_
 refine EN ?_
 refine A.seq ?_
 refine GS ?_
 refine TL ?_
 refine RM rfl ?_
 refine RS (ok_lenB Tryz.underlying49 rfl LA) ?_
 refine RBS rfl rfl rfl (.bool false) (by simp; omega) ?_
 refine RN ?_
 refine A.no rfl ?_
 refine A.skip ?_
 refine EN ?_
 refine GS ?_
 refine TL ?_
 refine RM rfl ?_
 refine RM rfl ?_
 refine RBS rfl rfl rfl (.bool true) (by rfl) ?_
 refine RM rfl ?_
 refine RQ (ok_move rfl) ?_
 refine RQ (ok_lenB Tryz.underlying49 rfl LA) ?_
 refine RQ (ok_bin rfl rfl rfl) ?_; refine RZ (.bool true) (by simp; omega) ?_
 refine RQ (ok_move rfl) ?_
 refine RK ?_
 refine RK ?_
 refine RK ?_
 refine RK ?_
 refine RQ (ok_pick rfl rfl) ?_
 refine RQ (ok_move rfl) ?_
 refine RK ?_
 refine RK ?_
 refine RK ?_
 refine RK ?_
 refine RQ (ok_pick rfl rfl) ?_
 refine RQ (ok_move rfl) ?_
 refine RK ?_
 refine RK ?_
 refine RK ?_
 refine RK ?_
 refine RQ (ok_pick rfl rfl) ?_
 refine RP rfl rfl ?_
 refine RM rfl ?_
 refine RQ (ok_move rfl) ?_
 refine RQ (ok_bin rfl rfl rfl) ?_; refine RZ (.bool true) (by rfl) ?_
 refine RP rfl rfl ?_
 refine RM rfl ?_
 refine RQ (ok_loadA (s := 1000014) (by decide) Tryz.underlying30 rfl (size30.of (rfl)) rfl rfl) ?_
 refine RQ (ok_lit [] ([.int .u32 0] ++ [.int .u64 0]) (fun _ _ => rfl) (by kernel_rfl)) ?_
 refine RQ (ok_eqlT (n := 3) true flatN (by decide) (by kernel_rfl) (by kernel_rfl) rfl rfl (kinN _ _) (kinN _ _) ⟨fun _ => rfl, fun _ => rfl⟩) ?_; refine RZ (.bool true) (by rfl) ?_
 refine RP rfl rfl ?_
 refine RM rfl ?_
 refine RQ (ok_loadA (s := 1000015) (by decide) Tryz.underlying33 rfl (size33.of (rfl)) rfl rfl) ?_
 refine RQ (ok_litP [] Tryz.underlying33 info5 zero33 (by decide) trivial rfl) ?_; refine RZ (aggV (List.replicate 32 (.int .u8 0))) (by rfl) ?_
 refine RQ (ok_eqlT (n := 3) true flat33 (by decide) (by kernel_rfl) (by kernel_rfl) rfl rfl (kinZ 32) (kinZ 32) ⟨fun _ => rfl, fun _ => rfl⟩) ?_; refine RZ (.bool true) (by rfl) ?_
 refine RP rfl rfl ?_
 refine RM rfl ?_
 refine RQ (ok_callM lives9_fn (Sub.cons rfl (Sub.cons rfl KN)) tabs_v Args.nil) ?_
 refine RP rfl rfl ?_
 refine RA rfl ?_
 refine RN ?_
 refine A.sub (KC 6 rfl (KC 1000003 rfl (KC 1000004 rfl (KC 1000010 rfl (KC 1000011 rfl (KC 1000014 rfl (KC 1000015 rfl (KC 1000030 rfl (KC 1900000 rfl (KC 1900001 rfl KN)))))))))) ?_
 refine A.ret ?_
 exact End.ret1 rfl rfl (by first | exact Le.refl _ | exact Le.old _ _)
set_option maxHeartbeats 4000000 in
theorem SealsMessage_good_far (f : Nat → Nat) (mk : List UInt8) (hf : By f) (hmk : mk.length = 32) (i : Nat) (hi : i < 4096) (s c : Nat) (hs : s < 4294967296) (hc : c < 18446744073709551616) (d : List UInt8) (hd : d.length = 32) (b : List UInt8) (h60 : b.length ≤ 60) (hb : 48 < b.length) : FnM Tryz.prog 15 tabs [.v (aggV (rowV 16 f ++ mk.map byteV ++ [nI i, nW s, nQ c])), .v (aggV (d.map byteV)), byt b] (.v (.bool true)) := by
 refine FnM.of Tryz.func15 rfl (by kernel_rfl) Tryz.ntmps15 (by simp) (by decide) (fun w => [(0, .v (aggV (rowV 16 f ++ mk.map byteV ++ [nI i, nW s, nQ c]))), (1, .v (aggV (d.map byteV))), (2, old w.heap.size (byt b)), (1900000, tab 0 (H8.list.map u32V)), (1900001, tab 1 (K64.map u32V))]) (fun w => (StartM.v rfl (StartM.v rfl (StartM.old rfl (StartM.m (by simp [tabs]) (by decide) (StartM.m (by simp [tabs]) (by decide) StartM.nil)))))) fun w₀ hM => ?_
 have htab := tabs_hi hM
 refine GS ?_
 refine TN 0 ?_
 refine RN ?_
 refine ⟨_, _, eff_box (n := 150) (d := 3) (k := 1000003) rfl (by decide), fun b3 hb3 => ?_⟩
 have hBb3 := hb3.1
 refine TN 1 ?_
 refine RN ?_
 refine ⟨_, _, eff_box (n := 150) (d := 4) (k := 1000004) rfl (by decide), fun b4 hb4 => ?_⟩
 have hBb4 := hb4.1
 refine TL ?_
 refine RA rfl ?_
 refine RN ?_
 refine A.seq ?_
 refine GS ?_
 refine TL ?_
 refine RM rfl ?_
 refine RS (ok_lenB Tryz.underlying49 rfl LA) ?_
 refine RBS rfl rfl rfl (.bool false) (by simp; omega) ?_
 refine RN ?_
 refine A.no rfl ?_
 refine A.skip ?_
 refine EN ?_
 refine GS ?_
 refine TN 5 ?_
 refine RS (ok_field field32_1 (by decide) rfl) ?_
 refine RS (ok_loadV (s := 1000003) (by decide) Tryz.underlying3 rfl rfl rfl (SC_ix f hmk _ _ _)) ?_
 refine RS (ok_field field32_2 (by decide) rfl) ?_
 refine RS (ok_loadP (s := 1000003) (by decide) Tryz.underlying30 rfl size30 rfl rfl (by simp [rowV_length, hmk]) (SC_non f hmk _ _ _)) ?_
 refine RS (ok_loadA (s := 1000004) (by decide) Tryz.underlying33 rfl (size33.of (by rw [List.length_map, hd])) rfl rfl) ?_
 refine RN ?_
 refine ⟨_, _, eff_name (n := 150) (d := 30) (k := 1000030) rfl rfl (fun B' => ok_callB (Message_ok i s c hs hc d hd hi) newD_mono (A3 rfl rfl rfl)) (by decide) (by decide), fun b30 hb30 => ?_⟩
 have hBb30 := hb30.1
 have hlt_b3_b30 : b3 < b30 := hb30.2 1000003 _ _ _ rfl
 have hlt_b4_b30 : b4 < b30 := hb30.2 1000004 _ _ _ rfl
 refine TL ?_
 refine RM rfl ?_
 refine RS (ok_extractV rfl rfl) ?_
 refine RS (ok_extractV rfl rfl) ?_
 refine RA rfl ?_
 refine RA rfl ?_
 refine RN ?_
 refine A.seq ?_
 refine GS ?_
 refine TL ?_
 refine RS (ok_field field32_1 (by decide) rfl) ?_
 refine RS (ok_loadV (s := 1000003) (by decide) Tryz.underlying3 rfl rfl rfl (SC_ix f hmk _ _ _)) ?_
 refine RS (ok_call (bad9_no (i : Int) (by omega) (by omega)) (A1 rfl)) ?_
 refine RN ?_
 refine A.no rfl ?_
 refine GS ?_
 refine TN 7 ?_
 refine RS (ok_moveB (s := 1000030) (msgL i s c d) (by decide) rfl rfl (msgL_length hd).symm (by decide) (by decide) (by rw [List.drop_zero, List.take_of_length_le (by rw [List.length_map, msgL_length hd]; decide)])) ?_
 refine RS (ok_call (Parse_msg i s c hs hc d hd hi) (A1 rfl)) ?_
 refine RM rfl ?_
 refine RS (ok_extractV rfl rfl) ?_
 refine RS (ok_extractV rfl rfl) ?_
 refine RS (ok_extractV rfl rfl) ?_
 refine RS (ok_extractV rfl rfl) ?_
 refine RN ?_
 refine ⟨_, _, eff_alloc (n := 150) (d := 10) (k := 1000010) zero30 (by decide), fun b10 hb10 => ?_⟩
 have hBb10 := hb10.1
 refine TN 8 ?_
 refine RN ?_
 refine ⟨_, _, eff_alloc (n := 150) (d := 11) (k := 1000011) zero33 (by decide), fun b11 hb11 => ?_⟩
 have hBb11 := hb11.1
 have hlt_b4_b11 : b4 < b11 := hb11.2 1000004 _ _ _ rfl
 refine TF 10 ?_
 refine RA rfl ?_
 refine RN ?_
 refine ⟨_, eff_storeA (n := 150) (s := 1000010) (size30.of (rfl)) rfl rfl (rfl) hBb10 rfl (rfl) (LO 2 rfl (LV 3 rfl (LV 4 rfl (LV 7 rfl (LV 8 rfl (LV 9 rfl (LV 10 rfl (LV 11 rfl (LV 45 rfl (LV 46 rfl (LT 1000003 rfl (LT 1000004 rfl (LT 1000011 rfl (LT 1000030 rfl (LeftS.cons (t := 1900000) rfl (Surv.tab (by omega)) (LeftS.cons (t := 1900001) rfl (Surv.tab (by omega)) LN)))))))))))))))), ?_⟩
 refine TF 11 ?_
 refine RN ?_
 refine ⟨_, eff_storeA (n := 150) (s := 1000011) (size33.of (by rw [List.length_map, hd])) rfl rfl (all_bytes _) hBb11 rfl (by simp [hd]) (LO 2 rfl (LV 3 rfl (LV 4 rfl (LV 7 rfl (LV 8 rfl (LV 9 rfl (LV 10 rfl (LV 11 rfl (LV 46 rfl (LT 1000003 rfl (LB 1000004 rfl (LT 1000010 rfl (LT 1000030 rfl (LeftS.cons (t := 1900000) rfl (Surv.tab (by omega)) (LeftS.cons (t := 1900001) rfl (Surv.tab (by omega)) LN))))))))))))))), ?_⟩
 refine TL ?_
 refine RA rfl ?_
 refine RN ?_
 refine A.sub (KC 2 rfl (KC 3 rfl (KC 4 rfl (KC 7 rfl (KC 8 rfl (KC 9 rfl (KC 10 rfl (KC 11 rfl (KC 12 rfl (KC 1000003 rfl (KC 1000004 rfl (KC 1000010 rfl (KC 1000011 rfl (KC 1000030 rfl (KC 1900000 rfl (KC 1900001 rfl KN)))))))))))))))) ?_
 refine GS ?_
 refine TL ?_
 refine RS ((OpOk.fact (ok_move rfl) (d := bytes (msgL i s c d) 48) (s := 1000030) (by decide) rfl (slice_bytes (msgL i s c d) (msgL_length hd).symm (by decide) (by decide) (by rw [List.drop_zero, List.take_of_length_le (by rw [List.length_map, msgL_length hd]; decide)]))).le (d' := bytes (msgL i s c d) (msgL i s c d).length) (Le.eq (by rw [msgL_length hd]))) ?_
 refine RM rfl ?_
 refine RS (ok_field field32_1 (by decide) rfl) ?_
 refine RS (ok_loadV (s := 1000003) (by decide) Tryz.underlying3 rfl rfl rfl (SC_ix f hmk _ _ _)) ?_
 refine RS (ok_field field32_2 (by decide) rfl) ?_
 refine RS (ok_loadP (s := 1000003) (by decide) Tryz.underlying30 rfl size30 rfl rfl (by simp [rowV_length, hmk]) (SC_non f hmk _ _ _)) ?_
 refine RS (ok_loadA (s := 1000004) (by decide) Tryz.underlying33 rfl (size33.of (by rw [List.length_map, hd])) rfl rfl) ?_
 refine RS (ok_call (ref9Message_fn i s c hs hc d hd hi) (A3 rfl rfl rfl)) ?_
 refine RS (ok_call (same9_fn (msgL i s c d) 0) (Args.cons rfl (Le.refl _) (A3 rfl rfl rfl))) ?_
 refine RS (ok_not rfl) ?_; refine RZ (.bool false) (by rfl) ?_
 refine RM rfl ?_
 refine RQ (ok_move rfl) ?_
 refine RQ (ok_field field32_1 (by decide) rfl) ?_
 refine RQ (ok_loadV (s := 1000003) (by decide) Tryz.underlying3 rfl rfl rfl (SC_ix f hmk _ _ _)) ?_
 refine RQ (ok_bin rfl rfl rfl) ?_; refine RZ (.bool false) (by simp) ?_
 refine RP rfl rfl ?_
 refine RM rfl ?_
 refine RQ (ok_loadA (s := 1000010) (by decide) Tryz.underlying30 rfl (size30.of (rfl)) rfl rfl) ?_
 refine RQ (ok_field field32_2 (by decide) rfl) ?_
 refine RQ (ok_loadP (s := 1000003) (by decide) Tryz.underlying30 rfl size30 rfl rfl (by simp [rowV_length, hmk]) (SC_non f hmk _ _ _)) ?_
 refine RQ (ok_neqT (n := 3) true flatN (by decide) (by kernel_rfl) (by kernel_rfl) rfl rfl (kinN _ _) (kinN _ _) ⟨fun _ => rfl, fun _ => rfl⟩) ?_; refine RZ (.bool false) (by rfl) ?_
 refine RP rfl rfl ?_
 refine RM rfl ?_
 refine RQ (ok_loadA (s := 1000011) (by decide) Tryz.underlying33 rfl (size33.of (by rw [List.length_map, hd])) rfl rfl) ?_
 refine RQ (ok_loadA (s := 1000004) (by decide) Tryz.underlying33 rfl (size33.of (by rw [List.length_map, hd])) rfl rfl) ?_
 refine RQ (ok_neqT (n := 3) true flat33 (by decide) (by kernel_rfl) (by kernel_rfl) rfl rfl (kinB hd) (kinB hd) ⟨fun _ => rfl, fun _ => rfl⟩) ?_; refine RZ (.bool false) (by rfl) ?_
 refine RP rfl rfl ?_
 refine RM rfl ?_
 refine RQ (ok_move rfl) ?_
 refine RQ (ok_bin rfl rfl rfl) ?_; refine RZ (.bool false) (by rfl) ?_
 refine RP rfl rfl ?_
 refine RN ?_
 refine A.sub (KC 2 rfl (KC 77 rfl (KC 1000003 rfl (KC 1000004 rfl (KC 1000010 rfl (KC 1000011 rfl (KC 1000030 rfl (KC 1900000 rfl (KC 1900001 rfl KN))))))))) ?_
 refine A.no rfl ?_
 refine A.skip ?_
 refine EN ?_
 refine GS ?_
 refine TN 7 ?_
 refine RM rfl ?_
 refine RS (ok_call (Parse_err b 5 (by decide) (checkMessage_long b hb)) (Args.cons rfl (Le.old _ _) Args.nil)) ?_
 refine RM rfl ?_
 refine RS (ok_extractV rfl rfl) ?_
 refine RS (ok_extractV rfl rfl) ?_
 refine RS (ok_extractV rfl rfl) ?_
 refine RS (ok_extractV rfl rfl) ?_
 refine RN ?_
 refine ⟨_, _, eff_alloc (n := 150) (d := 14) (k := 1000014) zero30 (by decide), fun b14 hb14 => ?_⟩
 have hBb14 := hb14.1
 have hlt_b10_b14 : b10 < b14 := hb14.2 1000010 _ _ _ rfl
 refine TN 8 ?_
 refine RN ?_
 refine ⟨_, _, eff_alloc (n := 150) (d := 15) (k := 1000015) zero33 (by decide), fun b15 hb15 => ?_⟩
 have hBb15 := hb15.1
 have hlt_b4_b15 : b4 < b15 := hb15.2 1000004 _ _ _ rfl
 have hlt_b11_b15 : b11 < b15 := hb15.2 1000011 _ _ _ rfl
 refine TF 10 ?_
 refine RA rfl ?_
 refine RN ?_
 refine ⟨_, eff_storeA (n := 150) (s := 1000014) (size30.of (rfl)) rfl rfl (rfl) hBb14 rfl (rfl) (LO 2 rfl (LV 13 rfl (LV 14 rfl (LV 15 rfl (LV 83 rfl (LV 84 rfl (LT 1000003 rfl (LT 1000004 rfl (LB 1000010 rfl (LT 1000011 rfl (LT 1000015 rfl (LT 1000030 rfl (LeftS.cons (t := 1900000) rfl (Surv.tab (by omega)) (LeftS.cons (t := 1900001) rfl (Surv.tab (by omega)) LN)))))))))))))), ?_⟩
 refine TF 11 ?_
 refine RN ?_
 refine ⟨_, eff_storeA (n := 150) (s := 1000015) (size33.of (rfl)) rfl rfl (rfl) hBb15 rfl (rfl) (LO 2 rfl (LV 13 rfl (LV 14 rfl (LV 15 rfl (LV 84 rfl (LT 1000003 rfl (LB 1000004 rfl (LT 1000010 rfl (LB 1000011 rfl (LT 1000014 rfl (LT 1000030 rfl (LeftS.cons (t := 1900000) rfl (Surv.tab (by omega)) (LeftS.cons (t := 1900001) rfl (Surv.tab (by omega)) LN))))))))))))), ?_⟩
 refine TL ?_
 refine RA rfl ?_
 refine RN ?_
 refine A.seq ?_
 refine GS ?_
 refine TL ?_
 refine RM rfl ?_
 refine RBS rfl rfl rfl (.bool false) (by rfl) ?_
 refine RN ?_
 refine A.no rfl ?_
 refine A.skip ?_
 refine EN ?_
 refine GS ?_
 refine TL ?_
 refine RA rfl ?_
 refine RN ?_
 refine A.seq ?_
 refine GS ?_
 refine TL ?_
 refine RM rfl ?_
 refine RS (ok_lenB Tryz.underlying49 rfl LA) ?_
 refine RBS rfl rfl rfl (.bool false) (by simp; omega) ?_
 refine RN ?_
 refine A.no rfl ?_
 refine A.skip ?_
 refine EN ?_
 refine A.seq ?_
 refine GS ?_
 refine TL ?_
 refine RM rfl ?_
 refine RS (ok_lenB Tryz.underlying49 rfl LA) ?_
 refine RBS rfl rfl rfl (.bool true) (by simp; omega) ?_
 refine RN ?_
 refine A.yes rfl ?_
 refine GE ?_
 refine TL ?_
 refine RA rfl ?_
 refine RN ?_
 refine EN ?_
 refine GS ?_
 refine TL ?_
 refine RM rfl ?_
 refine RM rfl ?_
 refine RBS rfl rfl rfl (.bool true) (by rfl) ?_
 refine RM rfl ?_
 refine RQ (ok_move rfl) ?_
 refine RQ (ok_lenB Tryz.underlying49 rfl LA) ?_
 refine RQ (ok_bin rfl rfl rfl) ?_; refine RZ (.bool true) (by simp; omega) ?_
 refine RQ (ok_move rfl) ?_
 refine RK ?_
 refine RK ?_
 refine RK ?_
 refine RK ?_
 refine RQ (ok_pick rfl rfl) ?_
 refine RQ (ok_move rfl) ?_
 refine RK ?_
 refine RK ?_
 refine RK ?_
 refine RK ?_
 refine RQ (ok_pick rfl rfl) ?_
 refine RQ (ok_move rfl) ?_
 refine RK ?_
 refine RK ?_
 refine RK ?_
 refine RK ?_
 refine RQ (ok_pick rfl rfl) ?_
 refine RP rfl rfl ?_
 refine RM rfl ?_
 refine RQ (ok_move rfl) ?_
 refine RQ (ok_bin rfl rfl rfl) ?_; refine RZ (.bool true) (by rfl) ?_
 refine RP rfl rfl ?_
 refine RM rfl ?_
 refine RQ (ok_loadA (s := 1000014) (by decide) Tryz.underlying30 rfl (size30.of (rfl)) rfl rfl) ?_
 refine RQ (ok_lit [] ([.int .u32 0] ++ [.int .u64 0]) (fun _ _ => rfl) (by kernel_rfl)) ?_
 refine RQ (ok_eqlT (n := 3) true flatN (by decide) (by kernel_rfl) (by kernel_rfl) rfl rfl (kinN _ _) (kinN _ _) ⟨fun _ => rfl, fun _ => rfl⟩) ?_; refine RZ (.bool true) (by rfl) ?_
 refine RP rfl rfl ?_
 refine RM rfl ?_
 refine RQ (ok_loadA (s := 1000015) (by decide) Tryz.underlying33 rfl (size33.of (rfl)) rfl rfl) ?_
 refine RQ (ok_litP [] Tryz.underlying33 info5 zero33 (by decide) trivial rfl) ?_; refine RZ (aggV (List.replicate 32 (.int .u8 0))) (by rfl) ?_
 refine RQ (ok_eqlT (n := 3) true flat33 (by decide) (by kernel_rfl) (by kernel_rfl) rfl rfl (kinZ 32) (kinZ 32) ⟨fun _ => rfl, fun _ => rfl⟩) ?_; refine RZ (.bool true) (by rfl) ?_
 refine RP rfl rfl ?_
 refine RM rfl ?_
 refine RQ (ok_callM lives9_fn (Sub.cons rfl (Sub.cons rfl KN)) tabs_v Args.nil) ?_
 refine RP rfl rfl ?_
 refine RA rfl ?_
 refine RN ?_
 refine A.sub (KC 6 rfl (KC 1000003 rfl (KC 1000004 rfl (KC 1000010 rfl (KC 1000011 rfl (KC 1000014 rfl (KC 1000015 rfl (KC 1000030 rfl (KC 1900000 rfl (KC 1900001 rfl KN)))))))))) ?_
 refine A.ret ?_
 exact End.ret1 rfl rfl (by first | exact Le.refl _ | exact Le.old _ _)
set_option maxHeartbeats 4000000 in
theorem SealsMessage_good_b1 (f : Nat → Nat) (mk : List UInt8) (hf : By f) (hmk : mk.length = 32) (i : Nat) (hi : i < 4096) (s c : Nat) (hs : s < 4294967296) (hc : c < 18446744073709551616) (d : List UInt8) (hd : d.length = 32) (b : List UInt8) (h60 : b.length ≤ 60) (hb : b.length = 48) (hn : 4096 ≤ (num (b.take 4))) (h0 : 0 < byL b 0) : FnM Tryz.prog 15 tabs [.v (aggV (rowV 16 f ++ mk.map byteV ++ [nI i, nW s, nQ c])), .v (aggV (d.map byteV)), byt b] (.v (.bool true)) := by
 refine FnM.of Tryz.func15 rfl (by kernel_rfl) Tryz.ntmps15 (by simp) (by decide) (fun w => [(0, .v (aggV (rowV 16 f ++ mk.map byteV ++ [nI i, nW s, nQ c]))), (1, .v (aggV (d.map byteV))), (2, old w.heap.size (byt b)), (1900000, tab 0 (H8.list.map u32V)), (1900001, tab 1 (K64.map u32V))]) (fun w => (StartM.v rfl (StartM.v rfl (StartM.old rfl (StartM.m (by simp [tabs]) (by decide) (StartM.m (by simp [tabs]) (by decide) StartM.nil)))))) fun w₀ hM => ?_
 have htab := tabs_hi hM
 refine GS ?_
 refine TN 0 ?_
 refine RN ?_
 refine ⟨_, _, eff_box (n := 150) (d := 3) (k := 1000003) rfl (by decide), fun b3 hb3 => ?_⟩
 have hBb3 := hb3.1
 refine TN 1 ?_
 refine RN ?_
 refine ⟨_, _, eff_box (n := 150) (d := 4) (k := 1000004) rfl (by decide), fun b4 hb4 => ?_⟩
 have hBb4 := hb4.1
 refine TL ?_
 refine RA rfl ?_
 refine RN ?_
 refine A.seq ?_
 refine GS ?_
 refine TL ?_
 refine RM rfl ?_
 refine RS (ok_lenB Tryz.underlying49 rfl LA) ?_
 refine RBS rfl rfl rfl (.bool false) (by simp; omega) ?_
 refine RN ?_
 refine A.no rfl ?_
 refine A.skip ?_
 refine EN ?_
 refine GS ?_
 refine TN 5 ?_
 refine RS (ok_field field32_1 (by decide) rfl) ?_
 refine RS (ok_loadV (s := 1000003) (by decide) Tryz.underlying3 rfl rfl rfl (SC_ix f hmk _ _ _)) ?_
 refine RS (ok_field field32_2 (by decide) rfl) ?_
 refine RS (ok_loadP (s := 1000003) (by decide) Tryz.underlying30 rfl size30 rfl rfl (by simp [rowV_length, hmk]) (SC_non f hmk _ _ _)) ?_
 refine RS (ok_loadA (s := 1000004) (by decide) Tryz.underlying33 rfl (size33.of (by rw [List.length_map, hd])) rfl rfl) ?_
 refine RN ?_
 refine ⟨_, _, eff_name (n := 150) (d := 30) (k := 1000030) rfl rfl (fun B' => ok_callB (Message_ok i s c hs hc d hd hi) newD_mono (A3 rfl rfl rfl)) (by decide) (by decide), fun b30 hb30 => ?_⟩
 have hBb30 := hb30.1
 have hlt_b3_b30 : b3 < b30 := hb30.2 1000003 _ _ _ rfl
 have hlt_b4_b30 : b4 < b30 := hb30.2 1000004 _ _ _ rfl
 refine TL ?_
 refine RM rfl ?_
 refine RS (ok_extractV rfl rfl) ?_
 refine RS (ok_extractV rfl rfl) ?_
 refine RA rfl ?_
 refine RA rfl ?_
 refine RN ?_
 refine A.seq ?_
 refine GS ?_
 refine TL ?_
 refine RS (ok_field field32_1 (by decide) rfl) ?_
 refine RS (ok_loadV (s := 1000003) (by decide) Tryz.underlying3 rfl rfl rfl (SC_ix f hmk _ _ _)) ?_
 refine RS (ok_call (bad9_no (i : Int) (by omega) (by omega)) (A1 rfl)) ?_
 refine RN ?_
 refine A.no rfl ?_
 refine GS ?_
 refine TN 7 ?_
 refine RS (ok_moveB (s := 1000030) (msgL i s c d) (by decide) rfl rfl (msgL_length hd).symm (by decide) (by decide) (by rw [List.drop_zero, List.take_of_length_le (by rw [List.length_map, msgL_length hd]; decide)])) ?_
 refine RS (ok_call (Parse_msg i s c hs hc d hd hi) (A1 rfl)) ?_
 refine RM rfl ?_
 refine RS (ok_extractV rfl rfl) ?_
 refine RS (ok_extractV rfl rfl) ?_
 refine RS (ok_extractV rfl rfl) ?_
 refine RS (ok_extractV rfl rfl) ?_
 refine RN ?_
 refine ⟨_, _, eff_alloc (n := 150) (d := 10) (k := 1000010) zero30 (by decide), fun b10 hb10 => ?_⟩
 have hBb10 := hb10.1
 refine TN 8 ?_
 refine RN ?_
 refine ⟨_, _, eff_alloc (n := 150) (d := 11) (k := 1000011) zero33 (by decide), fun b11 hb11 => ?_⟩
 have hBb11 := hb11.1
 have hlt_b4_b11 : b4 < b11 := hb11.2 1000004 _ _ _ rfl
 refine TF 10 ?_
 refine RA rfl ?_
 refine RN ?_
 refine ⟨_, eff_storeA (n := 150) (s := 1000010) (size30.of (rfl)) rfl rfl (rfl) hBb10 rfl (rfl) (LO 2 rfl (LV 3 rfl (LV 4 rfl (LV 7 rfl (LV 8 rfl (LV 9 rfl (LV 10 rfl (LV 11 rfl (LV 45 rfl (LV 46 rfl (LT 1000003 rfl (LT 1000004 rfl (LT 1000011 rfl (LT 1000030 rfl (LeftS.cons (t := 1900000) rfl (Surv.tab (by omega)) (LeftS.cons (t := 1900001) rfl (Surv.tab (by omega)) LN)))))))))))))))), ?_⟩
 refine TF 11 ?_
 refine RN ?_
 refine ⟨_, eff_storeA (n := 150) (s := 1000011) (size33.of (by rw [List.length_map, hd])) rfl rfl (all_bytes _) hBb11 rfl (by simp [hd]) (LO 2 rfl (LV 3 rfl (LV 4 rfl (LV 7 rfl (LV 8 rfl (LV 9 rfl (LV 10 rfl (LV 11 rfl (LV 46 rfl (LT 1000003 rfl (LB 1000004 rfl (LT 1000010 rfl (LT 1000030 rfl (LeftS.cons (t := 1900000) rfl (Surv.tab (by omega)) (LeftS.cons (t := 1900001) rfl (Surv.tab (by omega)) LN))))))))))))))), ?_⟩
 refine TL ?_
 refine RA rfl ?_
 refine RN ?_
 refine A.sub (KC 2 rfl (KC 3 rfl (KC 4 rfl (KC 7 rfl (KC 8 rfl (KC 9 rfl (KC 10 rfl (KC 11 rfl (KC 12 rfl (KC 1000003 rfl (KC 1000004 rfl (KC 1000010 rfl (KC 1000011 rfl (KC 1000030 rfl (KC 1900000 rfl (KC 1900001 rfl KN)))))))))))))))) ?_
 refine GS ?_
 refine TL ?_
 refine RS ((OpOk.fact (ok_move rfl) (d := bytes (msgL i s c d) 48) (s := 1000030) (by decide) rfl (slice_bytes (msgL i s c d) (msgL_length hd).symm (by decide) (by decide) (by rw [List.drop_zero, List.take_of_length_le (by rw [List.length_map, msgL_length hd]; decide)]))).le (d' := bytes (msgL i s c d) (msgL i s c d).length) (Le.eq (by rw [msgL_length hd]))) ?_
 refine RM rfl ?_
 refine RS (ok_field field32_1 (by decide) rfl) ?_
 refine RS (ok_loadV (s := 1000003) (by decide) Tryz.underlying3 rfl rfl rfl (SC_ix f hmk _ _ _)) ?_
 refine RS (ok_field field32_2 (by decide) rfl) ?_
 refine RS (ok_loadP (s := 1000003) (by decide) Tryz.underlying30 rfl size30 rfl rfl (by simp [rowV_length, hmk]) (SC_non f hmk _ _ _)) ?_
 refine RS (ok_loadA (s := 1000004) (by decide) Tryz.underlying33 rfl (size33.of (by rw [List.length_map, hd])) rfl rfl) ?_
 refine RS (ok_call (ref9Message_fn i s c hs hc d hd hi) (A3 rfl rfl rfl)) ?_
 refine RS (ok_call (same9_fn (msgL i s c d) 0) (Args.cons rfl (Le.refl _) (A3 rfl rfl rfl))) ?_
 refine RS (ok_not rfl) ?_; refine RZ (.bool false) (by rfl) ?_
 refine RM rfl ?_
 refine RQ (ok_move rfl) ?_
 refine RQ (ok_field field32_1 (by decide) rfl) ?_
 refine RQ (ok_loadV (s := 1000003) (by decide) Tryz.underlying3 rfl rfl rfl (SC_ix f hmk _ _ _)) ?_
 refine RQ (ok_bin rfl rfl rfl) ?_; refine RZ (.bool false) (by simp) ?_
 refine RP rfl rfl ?_
 refine RM rfl ?_
 refine RQ (ok_loadA (s := 1000010) (by decide) Tryz.underlying30 rfl (size30.of (rfl)) rfl rfl) ?_
 refine RQ (ok_field field32_2 (by decide) rfl) ?_
 refine RQ (ok_loadP (s := 1000003) (by decide) Tryz.underlying30 rfl size30 rfl rfl (by simp [rowV_length, hmk]) (SC_non f hmk _ _ _)) ?_
 refine RQ (ok_neqT (n := 3) true flatN (by decide) (by kernel_rfl) (by kernel_rfl) rfl rfl (kinN _ _) (kinN _ _) ⟨fun _ => rfl, fun _ => rfl⟩) ?_; refine RZ (.bool false) (by rfl) ?_
 refine RP rfl rfl ?_
 refine RM rfl ?_
 refine RQ (ok_loadA (s := 1000011) (by decide) Tryz.underlying33 rfl (size33.of (by rw [List.length_map, hd])) rfl rfl) ?_
 refine RQ (ok_loadA (s := 1000004) (by decide) Tryz.underlying33 rfl (size33.of (by rw [List.length_map, hd])) rfl rfl) ?_
 refine RQ (ok_neqT (n := 3) true flat33 (by decide) (by kernel_rfl) (by kernel_rfl) rfl rfl (kinB hd) (kinB hd) ⟨fun _ => rfl, fun _ => rfl⟩) ?_; refine RZ (.bool false) (by rfl) ?_
 refine RP rfl rfl ?_
 refine RM rfl ?_
 refine RQ (ok_move rfl) ?_
 refine RQ (ok_bin rfl rfl rfl) ?_; refine RZ (.bool false) (by rfl) ?_
 refine RP rfl rfl ?_
 refine RN ?_
 refine A.sub (KC 2 rfl (KC 77 rfl (KC 1000003 rfl (KC 1000004 rfl (KC 1000010 rfl (KC 1000011 rfl (KC 1000030 rfl (KC 1900000 rfl (KC 1900001 rfl KN))))))))) ?_
 refine A.no rfl ?_
 refine A.skip ?_
 refine EN ?_
 refine GS ?_
 refine TN 7 ?_
 refine RM rfl ?_
 refine RS (ok_call (Parse_err b 1 (by decide) (checkMessage_bad b hb hn)) (Args.cons rfl (Le.old _ _) Args.nil)) ?_
 refine RM rfl ?_
 refine RS (ok_extractV rfl rfl) ?_
 refine RS (ok_extractV rfl rfl) ?_
 refine RS (ok_extractV rfl rfl) ?_
 refine RS (ok_extractV rfl rfl) ?_
 refine RN ?_
 refine ⟨_, _, eff_alloc (n := 150) (d := 14) (k := 1000014) zero30 (by decide), fun b14 hb14 => ?_⟩
 have hBb14 := hb14.1
 have hlt_b10_b14 : b10 < b14 := hb14.2 1000010 _ _ _ rfl
 refine TN 8 ?_
 refine RN ?_
 refine ⟨_, _, eff_alloc (n := 150) (d := 15) (k := 1000015) zero33 (by decide), fun b15 hb15 => ?_⟩
 have hBb15 := hb15.1
 have hlt_b4_b15 : b4 < b15 := hb15.2 1000004 _ _ _ rfl
 have hlt_b11_b15 : b11 < b15 := hb15.2 1000011 _ _ _ rfl
 refine TF 10 ?_
 refine RA rfl ?_
 refine RN ?_
 refine ⟨_, eff_storeA (n := 150) (s := 1000014) (size30.of (rfl)) rfl rfl (rfl) hBb14 rfl (rfl) (LO 2 rfl (LV 13 rfl (LV 14 rfl (LV 15 rfl (LV 83 rfl (LV 84 rfl (LT 1000003 rfl (LT 1000004 rfl (LB 1000010 rfl (LT 1000011 rfl (LT 1000015 rfl (LT 1000030 rfl (LeftS.cons (t := 1900000) rfl (Surv.tab (by omega)) (LeftS.cons (t := 1900001) rfl (Surv.tab (by omega)) LN)))))))))))))), ?_⟩
 refine TF 11 ?_
 refine RN ?_
 refine ⟨_, eff_storeA (n := 150) (s := 1000015) (size33.of (rfl)) rfl rfl (rfl) hBb15 rfl (rfl) (LO 2 rfl (LV 13 rfl (LV 14 rfl (LV 15 rfl (LV 84 rfl (LT 1000003 rfl (LB 1000004 rfl (LT 1000010 rfl (LB 1000011 rfl (LT 1000014 rfl (LT 1000030 rfl (LeftS.cons (t := 1900000) rfl (Surv.tab (by omega)) (LeftS.cons (t := 1900001) rfl (Surv.tab (by omega)) LN))))))))))))), ?_⟩
 refine TL ?_
 refine RA rfl ?_
 refine RN ?_
 refine A.seq ?_
 refine GS ?_
 refine TL ?_
 refine RM rfl ?_
 refine RBS rfl rfl rfl (.bool false) (by rfl) ?_
 refine RN ?_
 refine A.no rfl ?_
 refine A.skip ?_
 refine EN ?_
 refine GS ?_
 refine TL ?_
 refine RA rfl ?_
 refine RN ?_
 refine A.seq ?_
 refine GS ?_
 refine TL ?_
 refine RM rfl ?_
 refine RS (ok_lenB Tryz.underlying49 rfl LA) ?_
 refine RBS rfl rfl rfl (.bool false) (by simp; omega) ?_
 refine RN ?_
 refine A.no rfl ?_
 refine A.skip ?_
 refine EN ?_
 refine A.seq ?_
 refine GS ?_
 refine TL ?_
 refine RM rfl ?_
 refine RS (ok_lenB Tryz.underlying49 rfl LA) ?_
 refine RBS rfl rfl rfl (.bool false) (by simp; omega) ?_
 refine RN ?_
 refine A.no rfl ?_
 refine A.skip ?_
 refine EN ?_
 refine GS ?_
 refine TL ?_
 refine RM rfl ?_
 refine RM rfl ?_
 refine RBS rfl rfl rfl (.bool true) (by rfl) ?_
 refine RM rfl ?_
 refine RQ (ok_move rfl) ?_
 refine RQ (ok_lenB Tryz.underlying49 rfl LA) ?_
 refine RQ (ok_bin rfl rfl rfl) ?_; refine RZ (.bool false) (by simp; omega) ?_
 refine RQ (ok_move rfl) ?_
 refine RQ (ok_move rfl) ?_
 refine RQ (ok_index (d := byteD (b.getD 0 0)) Tryz.underlying49 info5 rfl (Le.old _ _) rfl (by decide) (by exact byteD_getD (by omega))) ?_
 refine RQ (ok_load Tryz.underlying5 rfl rfl) ?_; refine RZ (nB (byL b 0)) (by rfl) ?_
 refine RQ (ok_bin rfl rfl rfl) ?_; refine RZ (.bool true) (by simp; omega) ?_
 refine RQ (ok_pick rfl rfl) ?_
 refine RQ (ok_move rfl) ?_
 refine RK ?_
 refine RK ?_
 refine RK ?_
 refine RK ?_
 refine RQ (ok_pick rfl rfl) ?_
 refine RQ (ok_move rfl) ?_
 refine RK ?_
 refine RK ?_
 refine RK ?_
 refine RK ?_
 refine RQ (ok_pick rfl rfl) ?_
 refine RP rfl rfl ?_
 refine RM rfl ?_
 refine RQ (ok_move rfl) ?_
 refine RQ (ok_bin rfl rfl rfl) ?_; refine RZ (.bool true) (by rfl) ?_
 refine RP rfl rfl ?_
 refine RM rfl ?_
 refine RQ (ok_loadA (s := 1000014) (by decide) Tryz.underlying30 rfl (size30.of (rfl)) rfl rfl) ?_
 refine RQ (ok_lit [] ([.int .u32 0] ++ [.int .u64 0]) (fun _ _ => rfl) (by kernel_rfl)) ?_
 refine RQ (ok_eqlT (n := 3) true flatN (by decide) (by kernel_rfl) (by kernel_rfl) rfl rfl (kinN _ _) (kinN _ _) ⟨fun _ => rfl, fun _ => rfl⟩) ?_; refine RZ (.bool true) (by rfl) ?_
 refine RP rfl rfl ?_
 refine RM rfl ?_
 refine RQ (ok_loadA (s := 1000015) (by decide) Tryz.underlying33 rfl (size33.of (rfl)) rfl rfl) ?_
 refine RQ (ok_litP [] Tryz.underlying33 info5 zero33 (by decide) trivial rfl) ?_; refine RZ (aggV (List.replicate 32 (.int .u8 0))) (by rfl) ?_
 refine RQ (ok_eqlT (n := 3) true flat33 (by decide) (by kernel_rfl) (by kernel_rfl) rfl rfl (kinZ 32) (kinZ 32) ⟨fun _ => rfl, fun _ => rfl⟩) ?_; refine RZ (.bool true) (by rfl) ?_
 refine RP rfl rfl ?_
 refine RM rfl ?_
 refine RQ (ok_callM lives9_fn (Sub.cons rfl (Sub.cons rfl KN)) tabs_v Args.nil) ?_
 refine RP rfl rfl ?_
 refine RA rfl ?_
 refine RN ?_
 refine A.sub (KC 6 rfl (KC 1000003 rfl (KC 1000004 rfl (KC 1000010 rfl (KC 1000011 rfl (KC 1000014 rfl (KC 1000015 rfl (KC 1000030 rfl (KC 1900000 rfl (KC 1900001 rfl KN)))))))))) ?_
 refine A.ret ?_
 exact End.ret1 rfl rfl (by first | exact Le.refl _ | exact Le.old _ _)
set_option maxHeartbeats 4000000 in
theorem SealsMessage_good_b2 (f : Nat → Nat) (mk : List UInt8) (hf : By f) (hmk : mk.length = 32) (i : Nat) (hi : i < 4096) (s c : Nat) (hs : s < 4294967296) (hc : c < 18446744073709551616) (d : List UInt8) (hd : d.length = 32) (b : List UInt8) (h60 : b.length ≤ 60) (hb : b.length = 48) (hn : 4096 ≤ (num (b.take 4))) (h0 : ¬ 0 < byL b 0) (h1 : 0 < byL b 1) : FnM Tryz.prog 15 tabs [.v (aggV (rowV 16 f ++ mk.map byteV ++ [nI i, nW s, nQ c])), .v (aggV (d.map byteV)), byt b] (.v (.bool true)) := by
 refine FnM.of Tryz.func15 rfl (by kernel_rfl) Tryz.ntmps15 (by simp) (by decide) (fun w => [(0, .v (aggV (rowV 16 f ++ mk.map byteV ++ [nI i, nW s, nQ c]))), (1, .v (aggV (d.map byteV))), (2, old w.heap.size (byt b)), (1900000, tab 0 (H8.list.map u32V)), (1900001, tab 1 (K64.map u32V))]) (fun w => (StartM.v rfl (StartM.v rfl (StartM.old rfl (StartM.m (by simp [tabs]) (by decide) (StartM.m (by simp [tabs]) (by decide) StartM.nil)))))) fun w₀ hM => ?_
 have htab := tabs_hi hM
 refine GS ?_
 refine TN 0 ?_
 refine RN ?_
 refine ⟨_, _, eff_box (n := 150) (d := 3) (k := 1000003) rfl (by decide), fun b3 hb3 => ?_⟩
 have hBb3 := hb3.1
 refine TN 1 ?_
 refine RN ?_
 refine ⟨_, _, eff_box (n := 150) (d := 4) (k := 1000004) rfl (by decide), fun b4 hb4 => ?_⟩
 have hBb4 := hb4.1
 refine TL ?_
 refine RA rfl ?_
 refine RN ?_
 refine A.seq ?_
 refine GS ?_
 refine TL ?_
 refine RM rfl ?_
 refine RS (ok_lenB Tryz.underlying49 rfl LA) ?_
 refine RBS rfl rfl rfl (.bool false) (by simp; omega) ?_
 refine RN ?_
 refine A.no rfl ?_
 refine A.skip ?_
 refine EN ?_
 refine GS ?_
 refine TN 5 ?_
 refine RS (ok_field field32_1 (by decide) rfl) ?_
 refine RS (ok_loadV (s := 1000003) (by decide) Tryz.underlying3 rfl rfl rfl (SC_ix f hmk _ _ _)) ?_
 refine RS (ok_field field32_2 (by decide) rfl) ?_
 refine RS (ok_loadP (s := 1000003) (by decide) Tryz.underlying30 rfl size30 rfl rfl (by simp [rowV_length, hmk]) (SC_non f hmk _ _ _)) ?_
 refine RS (ok_loadA (s := 1000004) (by decide) Tryz.underlying33 rfl (size33.of (by rw [List.length_map, hd])) rfl rfl) ?_
 refine RN ?_
 refine ⟨_, _, eff_name (n := 150) (d := 30) (k := 1000030) rfl rfl (fun B' => ok_callB (Message_ok i s c hs hc d hd hi) newD_mono (A3 rfl rfl rfl)) (by decide) (by decide), fun b30 hb30 => ?_⟩
 have hBb30 := hb30.1
 have hlt_b3_b30 : b3 < b30 := hb30.2 1000003 _ _ _ rfl
 have hlt_b4_b30 : b4 < b30 := hb30.2 1000004 _ _ _ rfl
 refine TL ?_
 refine RM rfl ?_
 refine RS (ok_extractV rfl rfl) ?_
 refine RS (ok_extractV rfl rfl) ?_
 refine RA rfl ?_
 refine RA rfl ?_
 refine RN ?_
 refine A.seq ?_
 refine GS ?_
 refine TL ?_
 refine RS (ok_field field32_1 (by decide) rfl) ?_
 refine RS (ok_loadV (s := 1000003) (by decide) Tryz.underlying3 rfl rfl rfl (SC_ix f hmk _ _ _)) ?_
 refine RS (ok_call (bad9_no (i : Int) (by omega) (by omega)) (A1 rfl)) ?_
 refine RN ?_
 refine A.no rfl ?_
 refine GS ?_
 refine TN 7 ?_
 refine RS (ok_moveB (s := 1000030) (msgL i s c d) (by decide) rfl rfl (msgL_length hd).symm (by decide) (by decide) (by rw [List.drop_zero, List.take_of_length_le (by rw [List.length_map, msgL_length hd]; decide)])) ?_
 refine RS (ok_call (Parse_msg i s c hs hc d hd hi) (A1 rfl)) ?_
 refine RM rfl ?_
 refine RS (ok_extractV rfl rfl) ?_
 refine RS (ok_extractV rfl rfl) ?_
 refine RS (ok_extractV rfl rfl) ?_
 refine RS (ok_extractV rfl rfl) ?_
 refine RN ?_
 refine ⟨_, _, eff_alloc (n := 150) (d := 10) (k := 1000010) zero30 (by decide), fun b10 hb10 => ?_⟩
 have hBb10 := hb10.1
 refine TN 8 ?_
 refine RN ?_
 refine ⟨_, _, eff_alloc (n := 150) (d := 11) (k := 1000011) zero33 (by decide), fun b11 hb11 => ?_⟩
 have hBb11 := hb11.1
 have hlt_b4_b11 : b4 < b11 := hb11.2 1000004 _ _ _ rfl
 refine TF 10 ?_
 refine RA rfl ?_
 refine RN ?_
 refine ⟨_, eff_storeA (n := 150) (s := 1000010) (size30.of (rfl)) rfl rfl (rfl) hBb10 rfl (rfl) (LO 2 rfl (LV 3 rfl (LV 4 rfl (LV 7 rfl (LV 8 rfl (LV 9 rfl (LV 10 rfl (LV 11 rfl (LV 45 rfl (LV 46 rfl (LT 1000003 rfl (LT 1000004 rfl (LT 1000011 rfl (LT 1000030 rfl (LeftS.cons (t := 1900000) rfl (Surv.tab (by omega)) (LeftS.cons (t := 1900001) rfl (Surv.tab (by omega)) LN)))))))))))))))), ?_⟩
 refine TF 11 ?_
 refine RN ?_
 refine ⟨_, eff_storeA (n := 150) (s := 1000011) (size33.of (by rw [List.length_map, hd])) rfl rfl (all_bytes _) hBb11 rfl (by simp [hd]) (LO 2 rfl (LV 3 rfl (LV 4 rfl (LV 7 rfl (LV 8 rfl (LV 9 rfl (LV 10 rfl (LV 11 rfl (LV 46 rfl (LT 1000003 rfl (LB 1000004 rfl (LT 1000010 rfl (LT 1000030 rfl (LeftS.cons (t := 1900000) rfl (Surv.tab (by omega)) (LeftS.cons (t := 1900001) rfl (Surv.tab (by omega)) LN))))))))))))))), ?_⟩
 refine TL ?_
 refine RA rfl ?_
 refine RN ?_
 refine A.sub (KC 2 rfl (KC 3 rfl (KC 4 rfl (KC 7 rfl (KC 8 rfl (KC 9 rfl (KC 10 rfl (KC 11 rfl (KC 12 rfl (KC 1000003 rfl (KC 1000004 rfl (KC 1000010 rfl (KC 1000011 rfl (KC 1000030 rfl (KC 1900000 rfl (KC 1900001 rfl KN)))))))))))))))) ?_
 refine GS ?_
 refine TL ?_
 refine RS ((OpOk.fact (ok_move rfl) (d := bytes (msgL i s c d) 48) (s := 1000030) (by decide) rfl (slice_bytes (msgL i s c d) (msgL_length hd).symm (by decide) (by decide) (by rw [List.drop_zero, List.take_of_length_le (by rw [List.length_map, msgL_length hd]; decide)]))).le (d' := bytes (msgL i s c d) (msgL i s c d).length) (Le.eq (by rw [msgL_length hd]))) ?_
 refine RM rfl ?_
 refine RS (ok_field field32_1 (by decide) rfl) ?_
 refine RS (ok_loadV (s := 1000003) (by decide) Tryz.underlying3 rfl rfl rfl (SC_ix f hmk _ _ _)) ?_
 refine RS (ok_field field32_2 (by decide) rfl) ?_
 refine RS (ok_loadP (s := 1000003) (by decide) Tryz.underlying30 rfl size30 rfl rfl (by simp [rowV_length, hmk]) (SC_non f hmk _ _ _)) ?_
 refine RS (ok_loadA (s := 1000004) (by decide) Tryz.underlying33 rfl (size33.of (by rw [List.length_map, hd])) rfl rfl) ?_
 refine RS (ok_call (ref9Message_fn i s c hs hc d hd hi) (A3 rfl rfl rfl)) ?_
 refine RS (ok_call (same9_fn (msgL i s c d) 0) (Args.cons rfl (Le.refl _) (A3 rfl rfl rfl))) ?_
 refine RS (ok_not rfl) ?_; refine RZ (.bool false) (by rfl) ?_
 refine RM rfl ?_
 refine RQ (ok_move rfl) ?_
 refine RQ (ok_field field32_1 (by decide) rfl) ?_
 refine RQ (ok_loadV (s := 1000003) (by decide) Tryz.underlying3 rfl rfl rfl (SC_ix f hmk _ _ _)) ?_
 refine RQ (ok_bin rfl rfl rfl) ?_; refine RZ (.bool false) (by simp) ?_
 refine RP rfl rfl ?_
 refine RM rfl ?_
 refine RQ (ok_loadA (s := 1000010) (by decide) Tryz.underlying30 rfl (size30.of (rfl)) rfl rfl) ?_
 refine RQ (ok_field field32_2 (by decide) rfl) ?_
 refine RQ (ok_loadP (s := 1000003) (by decide) Tryz.underlying30 rfl size30 rfl rfl (by simp [rowV_length, hmk]) (SC_non f hmk _ _ _)) ?_
 refine RQ (ok_neqT (n := 3) true flatN (by decide) (by kernel_rfl) (by kernel_rfl) rfl rfl (kinN _ _) (kinN _ _) ⟨fun _ => rfl, fun _ => rfl⟩) ?_; refine RZ (.bool false) (by rfl) ?_
 refine RP rfl rfl ?_
 refine RM rfl ?_
 refine RQ (ok_loadA (s := 1000011) (by decide) Tryz.underlying33 rfl (size33.of (by rw [List.length_map, hd])) rfl rfl) ?_
 refine RQ (ok_loadA (s := 1000004) (by decide) Tryz.underlying33 rfl (size33.of (by rw [List.length_map, hd])) rfl rfl) ?_
 refine RQ (ok_neqT (n := 3) true flat33 (by decide) (by kernel_rfl) (by kernel_rfl) rfl rfl (kinB hd) (kinB hd) ⟨fun _ => rfl, fun _ => rfl⟩) ?_; refine RZ (.bool false) (by rfl) ?_
 refine RP rfl rfl ?_
 refine RM rfl ?_
 refine RQ (ok_move rfl) ?_
 refine RQ (ok_bin rfl rfl rfl) ?_; refine RZ (.bool false) (by rfl) ?_
 refine RP rfl rfl ?_
 refine RN ?_
 refine A.sub (KC 2 rfl (KC 77 rfl (KC 1000003 rfl (KC 1000004 rfl (KC 1000010 rfl (KC 1000011 rfl (KC 1000030 rfl (KC 1900000 rfl (KC 1900001 rfl KN))))))))) ?_
 refine A.no rfl ?_
 refine A.skip ?_
 refine EN ?_
 refine GS ?_
 refine TN 7 ?_
 refine RM rfl ?_
 refine RS (ok_call (Parse_err b 1 (by decide) (checkMessage_bad b hb hn)) (Args.cons rfl (Le.old _ _) Args.nil)) ?_
 refine RM rfl ?_
 refine RS (ok_extractV rfl rfl) ?_
 refine RS (ok_extractV rfl rfl) ?_
 refine RS (ok_extractV rfl rfl) ?_
 refine RS (ok_extractV rfl rfl) ?_
 refine RN ?_
 refine ⟨_, _, eff_alloc (n := 150) (d := 14) (k := 1000014) zero30 (by decide), fun b14 hb14 => ?_⟩
 have hBb14 := hb14.1
 have hlt_b10_b14 : b10 < b14 := hb14.2 1000010 _ _ _ rfl
 refine TN 8 ?_
 refine RN ?_
 refine ⟨_, _, eff_alloc (n := 150) (d := 15) (k := 1000015) zero33 (by decide), fun b15 hb15 => ?_⟩
 have hBb15 := hb15.1
 have hlt_b4_b15 : b4 < b15 := hb15.2 1000004 _ _ _ rfl
 have hlt_b11_b15 : b11 < b15 := hb15.2 1000011 _ _ _ rfl
 refine TF 10 ?_
 refine RA rfl ?_
 refine RN ?_
 refine ⟨_, eff_storeA (n := 150) (s := 1000014) (size30.of (rfl)) rfl rfl (rfl) hBb14 rfl (rfl) (LO 2 rfl (LV 13 rfl (LV 14 rfl (LV 15 rfl (LV 83 rfl (LV 84 rfl (LT 1000003 rfl (LT 1000004 rfl (LB 1000010 rfl (LT 1000011 rfl (LT 1000015 rfl (LT 1000030 rfl (LeftS.cons (t := 1900000) rfl (Surv.tab (by omega)) (LeftS.cons (t := 1900001) rfl (Surv.tab (by omega)) LN)))))))))))))), ?_⟩
 refine TF 11 ?_
 refine RN ?_
 refine ⟨_, eff_storeA (n := 150) (s := 1000015) (size33.of (rfl)) rfl rfl (rfl) hBb15 rfl (rfl) (LO 2 rfl (LV 13 rfl (LV 14 rfl (LV 15 rfl (LV 84 rfl (LT 1000003 rfl (LB 1000004 rfl (LT 1000010 rfl (LB 1000011 rfl (LT 1000014 rfl (LT 1000030 rfl (LeftS.cons (t := 1900000) rfl (Surv.tab (by omega)) (LeftS.cons (t := 1900001) rfl (Surv.tab (by omega)) LN))))))))))))), ?_⟩
 refine TL ?_
 refine RA rfl ?_
 refine RN ?_
 refine A.seq ?_
 refine GS ?_
 refine TL ?_
 refine RM rfl ?_
 refine RBS rfl rfl rfl (.bool false) (by rfl) ?_
 refine RN ?_
 refine A.no rfl ?_
 refine A.skip ?_
 refine EN ?_
 refine GS ?_
 refine TL ?_
 refine RA rfl ?_
 refine RN ?_
 refine A.seq ?_
 refine GS ?_
 refine TL ?_
 refine RM rfl ?_
 refine RS (ok_lenB Tryz.underlying49 rfl LA) ?_
 refine RBS rfl rfl rfl (.bool false) (by simp; omega) ?_
 refine RN ?_
 refine A.no rfl ?_
 refine A.skip ?_
 refine EN ?_
 refine A.seq ?_
 refine GS ?_
 refine TL ?_
 refine RM rfl ?_
 refine RS (ok_lenB Tryz.underlying49 rfl LA) ?_
 refine RBS rfl rfl rfl (.bool false) (by simp; omega) ?_
 refine RN ?_
 refine A.no rfl ?_
 refine A.skip ?_
 refine EN ?_
 refine GS ?_
 refine TL ?_
 refine RM rfl ?_
 refine RM rfl ?_
 refine RBS rfl rfl rfl (.bool true) (by rfl) ?_
 refine RM rfl ?_
 refine RQ (ok_move rfl) ?_
 refine RQ (ok_lenB Tryz.underlying49 rfl LA) ?_
 refine RQ (ok_bin rfl rfl rfl) ?_; refine RZ (.bool false) (by simp; omega) ?_
 refine RQ (ok_move rfl) ?_
 refine RQ (ok_move rfl) ?_
 refine RQ (ok_index (d := byteD (b.getD 0 0)) Tryz.underlying49 info5 rfl (Le.old _ _) rfl (by decide) (by exact byteD_getD (by omega))) ?_
 refine RQ (ok_load Tryz.underlying5 rfl rfl) ?_; refine RZ (nB (byL b 0)) (by rfl) ?_
 refine RQ (ok_bin rfl rfl rfl) ?_; refine RZ (.bool false) (by simp; omega) ?_
 refine RQ (ok_pick rfl rfl) ?_
 refine RQ (ok_move rfl) ?_
 refine RQ (ok_move rfl) ?_
 refine RQ (ok_index (d := byteD (b.getD 1 0)) Tryz.underlying49 info5 rfl (Le.old _ _) rfl (by decide) (by exact byteD_getD (by omega))) ?_
 refine RQ (ok_load Tryz.underlying5 rfl rfl) ?_; refine RZ (nB (byL b 1)) (by rfl) ?_
 refine RQ (ok_bin rfl rfl rfl) ?_; refine RZ (.bool true) (by simp; omega) ?_
 refine RQ (ok_pick rfl rfl) ?_
 refine RQ (ok_move rfl) ?_
 refine RK ?_
 refine RK ?_
 refine RK ?_
 refine RK ?_
 refine RQ (ok_pick rfl rfl) ?_
 refine RP rfl rfl ?_
 refine RM rfl ?_
 refine RQ (ok_move rfl) ?_
 refine RQ (ok_bin rfl rfl rfl) ?_; refine RZ (.bool true) (by rfl) ?_
 refine RP rfl rfl ?_
 refine RM rfl ?_
 refine RQ (ok_loadA (s := 1000014) (by decide) Tryz.underlying30 rfl (size30.of (rfl)) rfl rfl) ?_
 refine RQ (ok_lit [] ([.int .u32 0] ++ [.int .u64 0]) (fun _ _ => rfl) (by kernel_rfl)) ?_
 refine RQ (ok_eqlT (n := 3) true flatN (by decide) (by kernel_rfl) (by kernel_rfl) rfl rfl (kinN _ _) (kinN _ _) ⟨fun _ => rfl, fun _ => rfl⟩) ?_; refine RZ (.bool true) (by rfl) ?_
 refine RP rfl rfl ?_
 refine RM rfl ?_
 refine RQ (ok_loadA (s := 1000015) (by decide) Tryz.underlying33 rfl (size33.of (rfl)) rfl rfl) ?_
 refine RQ (ok_litP [] Tryz.underlying33 info5 zero33 (by decide) trivial rfl) ?_; refine RZ (aggV (List.replicate 32 (.int .u8 0))) (by rfl) ?_
 refine RQ (ok_eqlT (n := 3) true flat33 (by decide) (by kernel_rfl) (by kernel_rfl) rfl rfl (kinZ 32) (kinZ 32) ⟨fun _ => rfl, fun _ => rfl⟩) ?_; refine RZ (.bool true) (by rfl) ?_
 refine RP rfl rfl ?_
 refine RM rfl ?_
 refine RQ (ok_callM lives9_fn (Sub.cons rfl (Sub.cons rfl KN)) tabs_v Args.nil) ?_
 refine RP rfl rfl ?_
 refine RA rfl ?_
 refine RN ?_
 refine A.sub (KC 6 rfl (KC 1000003 rfl (KC 1000004 rfl (KC 1000010 rfl (KC 1000011 rfl (KC 1000014 rfl (KC 1000015 rfl (KC 1000030 rfl (KC 1900000 rfl (KC 1900001 rfl KN)))))))))) ?_
 refine A.ret ?_
 exact End.ret1 rfl rfl (by first | exact Le.refl _ | exact Le.old _ _)
set_option maxHeartbeats 4000000 in
theorem SealsMessage_good_b3 (f : Nat → Nat) (mk : List UInt8) (hf : By f) (hmk : mk.length = 32) (i : Nat) (hi : i < 4096) (s c : Nat) (hs : s < 4294967296) (hc : c < 18446744073709551616) (d : List UInt8) (hd : d.length = 32) (b : List UInt8) (h60 : b.length ≤ 60) (hb : b.length = 48) (hn : 4096 ≤ (num (b.take 4))) (h0 : ¬ 0 < byL b 0) (h1 : ¬ 0 < byL b 1) (h2 : 15 < byL b 2) : FnM Tryz.prog 15 tabs [.v (aggV (rowV 16 f ++ mk.map byteV ++ [nI i, nW s, nQ c])), .v (aggV (d.map byteV)), byt b] (.v (.bool true)) := by
 refine FnM.of Tryz.func15 rfl (by kernel_rfl) Tryz.ntmps15 (by simp) (by decide) (fun w => [(0, .v (aggV (rowV 16 f ++ mk.map byteV ++ [nI i, nW s, nQ c]))), (1, .v (aggV (d.map byteV))), (2, old w.heap.size (byt b)), (1900000, tab 0 (H8.list.map u32V)), (1900001, tab 1 (K64.map u32V))]) (fun w => (StartM.v rfl (StartM.v rfl (StartM.old rfl (StartM.m (by simp [tabs]) (by decide) (StartM.m (by simp [tabs]) (by decide) StartM.nil)))))) fun w₀ hM => ?_
 have htab := tabs_hi hM
 refine GS ?_
 refine TN 0 ?_
 refine RN ?_
 refine ⟨_, _, eff_box (n := 150) (d := 3) (k := 1000003) rfl (by decide), fun b3 hb3 => ?_⟩
 have hBb3 := hb3.1
 refine TN 1 ?_
 refine RN ?_
 refine ⟨_, _, eff_box (n := 150) (d := 4) (k := 1000004) rfl (by decide), fun b4 hb4 => ?_⟩
 have hBb4 := hb4.1
 refine TL ?_
 refine RA rfl ?_
 refine RN ?_
 refine A.seq ?_
 refine GS ?_
 refine TL ?_
 refine RM rfl ?_
 refine RS (ok_lenB Tryz.underlying49 rfl LA) ?_
 refine RBS rfl rfl rfl (.bool false) (by simp; omega) ?_
 refine RN ?_
 refine A.no rfl ?_
 refine A.skip ?_
 refine EN ?_
 refine GS ?_
 refine TN 5 ?_
 refine RS (ok_field field32_1 (by decide) rfl) ?_
 refine RS (ok_loadV (s := 1000003) (by decide) Tryz.underlying3 rfl rfl rfl (SC_ix f hmk _ _ _)) ?_
 refine RS (ok_field field32_2 (by decide) rfl) ?_
 refine RS (ok_loadP (s := 1000003) (by decide) Tryz.underlying30 rfl size30 rfl rfl (by simp [rowV_length, hmk]) (SC_non f hmk _ _ _)) ?_
 refine RS (ok_loadA (s := 1000004) (by decide) Tryz.underlying33 rfl (size33.of (by rw [List.length_map, hd])) rfl rfl) ?_
 refine RN ?_
 refine ⟨_, _, eff_name (n := 150) (d := 30) (k := 1000030) rfl rfl (fun B' => ok_callB (Message_ok i s c hs hc d hd hi) newD_mono (A3 rfl rfl rfl)) (by decide) (by decide), fun b30 hb30 => ?_⟩
 have hBb30 := hb30.1
 have hlt_b3_b30 : b3 < b30 := hb30.2 1000003 _ _ _ rfl
 have hlt_b4_b30 : b4 < b30 := hb30.2 1000004 _ _ _ rfl
 refine TL ?_
 refine RM rfl ?_
 refine RS (ok_extractV rfl rfl) ?_
 refine RS (ok_extractV rfl rfl) ?_
 refine RA rfl ?_
 refine RA rfl ?_
 refine RN ?_
 refine A.seq ?_
 refine GS ?_
 refine TL ?_
 refine RS (ok_field field32_1 (by decide) rfl) ?_
 refine RS (ok_loadV (s := 1000003) (by decide) Tryz.underlying3 rfl rfl rfl (SC_ix f hmk _ _ _)) ?_
 refine RS (ok_call (bad9_no (i : Int) (by omega) (by omega)) (A1 rfl)) ?_
 refine RN ?_
 refine A.no rfl ?_
 refine GS ?_
 refine TN 7 ?_
 refine RS (ok_moveB (s := 1000030) (msgL i s c d) (by decide) rfl rfl (msgL_length hd).symm (by decide) (by decide) (by rw [List.drop_zero, List.take_of_length_le (by rw [List.length_map, msgL_length hd]; decide)])) ?_
 refine RS (ok_call (Parse_msg i s c hs hc d hd hi) (A1 rfl)) ?_
 refine RM rfl ?_
 refine RS (ok_extractV rfl rfl) ?_
 refine RS (ok_extractV rfl rfl) ?_
 refine RS (ok_extractV rfl rfl) ?_
 refine RS (ok_extractV rfl rfl) ?_
 refine RN ?_
 refine ⟨_, _, eff_alloc (n := 150) (d := 10) (k := 1000010) zero30 (by decide), fun b10 hb10 => ?_⟩
 have hBb10 := hb10.1
 refine TN 8 ?_
 refine RN ?_
 refine ⟨_, _, eff_alloc (n := 150) (d := 11) (k := 1000011) zero33 (by decide), fun b11 hb11 => ?_⟩
 have hBb11 := hb11.1
 have hlt_b4_b11 : b4 < b11 := hb11.2 1000004 _ _ _ rfl
 refine TF 10 ?_
 refine RA rfl ?_
 refine RN ?_
 refine ⟨_, eff_storeA (n := 150) (s := 1000010) (size30.of (rfl)) rfl rfl (rfl) hBb10 rfl (rfl) (LO 2 rfl (LV 3 rfl (LV 4 rfl (LV 7 rfl (LV 8 rfl (LV 9 rfl (LV 10 rfl (LV 11 rfl (LV 45 rfl (LV 46 rfl (LT 1000003 rfl (LT 1000004 rfl (LT 1000011 rfl (LT 1000030 rfl (LeftS.cons (t := 1900000) rfl (Surv.tab (by omega)) (LeftS.cons (t := 1900001) rfl (Surv.tab (by omega)) LN)))))))))))))))), ?_⟩
 refine TF 11 ?_
 refine RN ?_
 refine ⟨_, eff_storeA (n := 150) (s := 1000011) (size33.of (by rw [List.length_map, hd])) rfl rfl (all_bytes _) hBb11 rfl (by simp [hd]) (LO 2 rfl (LV 3 rfl (LV 4 rfl (LV 7 rfl (LV 8 rfl (LV 9 rfl (LV 10 rfl (LV 11 rfl (LV 46 rfl (LT 1000003 rfl (LB 1000004 rfl (LT 1000010 rfl (LT 1000030 rfl (LeftS.cons (t := 1900000) rfl (Surv.tab (by omega)) (LeftS.cons (t := 1900001) rfl (Surv.tab (by omega)) LN))))))))))))))), ?_⟩
 refine TL ?_
 refine RA rfl ?_
 refine RN ?_
 refine A.sub (KC 2 rfl (KC 3 rfl (KC 4 rfl (KC 7 rfl (KC 8 rfl (KC 9 rfl (KC 10 rfl (KC 11 rfl (KC 12 rfl (KC 1000003 rfl (KC 1000004 rfl (KC 1000010 rfl (KC 1000011 rfl (KC 1000030 rfl (KC 1900000 rfl (KC 1900001 rfl KN)))))))))))))))) ?_
 refine GS ?_
 refine TL ?_
 refine RS ((OpOk.fact (ok_move rfl) (d := bytes (msgL i s c d) 48) (s := 1000030) (by decide) rfl (slice_bytes (msgL i s c d) (msgL_length hd).symm (by decide) (by decide) (by rw [List.drop_zero, List.take_of_length_le (by rw [List.length_map, msgL_length hd]; decide)]))).le (d' := bytes (msgL i s c d) (msgL i s c d).length) (Le.eq (by rw [msgL_length hd]))) ?_
 refine RM rfl ?_
 refine RS (ok_field field32_1 (by decide) rfl) ?_
 refine RS (ok_loadV (s := 1000003) (by decide) Tryz.underlying3 rfl rfl rfl (SC_ix f hmk _ _ _)) ?_
 refine RS (ok_field field32_2 (by decide) rfl) ?_
 refine RS (ok_loadP (s := 1000003) (by decide) Tryz.underlying30 rfl size30 rfl rfl (by simp [rowV_length, hmk]) (SC_non f hmk _ _ _)) ?_
 refine RS (ok_loadA (s := 1000004) (by decide) Tryz.underlying33 rfl (size33.of (by rw [List.length_map, hd])) rfl rfl) ?_
 refine RS (ok_call (ref9Message_fn i s c hs hc d hd hi) (A3 rfl rfl rfl)) ?_
 refine RS (ok_call (same9_fn (msgL i s c d) 0) (Args.cons rfl (Le.refl _) (A3 rfl rfl rfl))) ?_
 refine RS (ok_not rfl) ?_; refine RZ (.bool false) (by rfl) ?_
 refine RM rfl ?_
 refine RQ (ok_move rfl) ?_
 refine RQ (ok_field field32_1 (by decide) rfl) ?_
 refine RQ (ok_loadV (s := 1000003) (by decide) Tryz.underlying3 rfl rfl rfl (SC_ix f hmk _ _ _)) ?_
 refine RQ (ok_bin rfl rfl rfl) ?_; refine RZ (.bool false) (by simp) ?_
 refine RP rfl rfl ?_
 refine RM rfl ?_
 refine RQ (ok_loadA (s := 1000010) (by decide) Tryz.underlying30 rfl (size30.of (rfl)) rfl rfl) ?_
 refine RQ (ok_field field32_2 (by decide) rfl) ?_
 refine RQ (ok_loadP (s := 1000003) (by decide) Tryz.underlying30 rfl size30 rfl rfl (by simp [rowV_length, hmk]) (SC_non f hmk _ _ _)) ?_
 refine RQ (ok_neqT (n := 3) true flatN (by decide) (by kernel_rfl) (by kernel_rfl) rfl rfl (kinN _ _) (kinN _ _) ⟨fun _ => rfl, fun _ => rfl⟩) ?_; refine RZ (.bool false) (by rfl) ?_
 refine RP rfl rfl ?_
 refine RM rfl ?_
 refine RQ (ok_loadA (s := 1000011) (by decide) Tryz.underlying33 rfl (size33.of (by rw [List.length_map, hd])) rfl rfl) ?_
 refine RQ (ok_loadA (s := 1000004) (by decide) Tryz.underlying33 rfl (size33.of (by rw [List.length_map, hd])) rfl rfl) ?_
 refine RQ (ok_neqT (n := 3) true flat33 (by decide) (by kernel_rfl) (by kernel_rfl) rfl rfl (kinB hd) (kinB hd) ⟨fun _ => rfl, fun _ => rfl⟩) ?_; refine RZ (.bool false) (by rfl) ?_
 refine RP rfl rfl ?_
 refine RM rfl ?_
 refine RQ (ok_move rfl) ?_
 refine RQ (ok_bin rfl rfl rfl) ?_; refine RZ (.bool false) (by rfl) ?_
 refine RP rfl rfl ?_
 refine RN ?_
 refine A.sub (KC 2 rfl (KC 77 rfl (KC 1000003 rfl (KC 1000004 rfl (KC 1000010 rfl (KC 1000011 rfl (KC 1000030 rfl (KC 1900000 rfl (KC 1900001 rfl KN))))))))) ?_
 refine A.no rfl ?_
 refine A.skip ?_
 refine EN ?_
 refine GS ?_
 refine TN 7 ?_
 refine RM rfl ?_
 refine RS (ok_call (Parse_err b 1 (by decide) (checkMessage_bad b hb hn)) (Args.cons rfl (Le.old _ _) Args.nil)) ?_
 refine RM rfl ?_
 refine RS (ok_extractV rfl rfl) ?_
 refine RS (ok_extractV rfl rfl) ?_
 refine RS (ok_extractV rfl rfl) ?_
 refine RS (ok_extractV rfl rfl) ?_
 refine RN ?_
 refine ⟨_, _, eff_alloc (n := 150) (d := 14) (k := 1000014) zero30 (by decide), fun b14 hb14 => ?_⟩
 have hBb14 := hb14.1
 have hlt_b10_b14 : b10 < b14 := hb14.2 1000010 _ _ _ rfl
 refine TN 8 ?_
 refine RN ?_
 refine ⟨_, _, eff_alloc (n := 150) (d := 15) (k := 1000015) zero33 (by decide), fun b15 hb15 => ?_⟩
 have hBb15 := hb15.1
 have hlt_b4_b15 : b4 < b15 := hb15.2 1000004 _ _ _ rfl
 have hlt_b11_b15 : b11 < b15 := hb15.2 1000011 _ _ _ rfl
 refine TF 10 ?_
 refine RA rfl ?_
 refine RN ?_
 refine ⟨_, eff_storeA (n := 150) (s := 1000014) (size30.of (rfl)) rfl rfl (rfl) hBb14 rfl (rfl) (LO 2 rfl (LV 13 rfl (LV 14 rfl (LV 15 rfl (LV 83 rfl (LV 84 rfl (LT 1000003 rfl (LT 1000004 rfl (LB 1000010 rfl (LT 1000011 rfl (LT 1000015 rfl (LT 1000030 rfl (LeftS.cons (t := 1900000) rfl (Surv.tab (by omega)) (LeftS.cons (t := 1900001) rfl (Surv.tab (by omega)) LN)))))))))))))), ?_⟩
 refine TF 11 ?_
 refine RN ?_
 refine ⟨_, eff_storeA (n := 150) (s := 1000015) (size33.of (rfl)) rfl rfl (rfl) hBb15 rfl (rfl) (LO 2 rfl (LV 13 rfl (LV 14 rfl (LV 15 rfl (LV 84 rfl (LT 1000003 rfl (LB 1000004 rfl (LT 1000010 rfl (LB 1000011 rfl (LT 1000014 rfl (LT 1000030 rfl (LeftS.cons (t := 1900000) rfl (Surv.tab (by omega)) (LeftS.cons (t := 1900001) rfl (Surv.tab (by omega)) LN))))))))))))), ?_⟩
 refine TL ?_
 refine RA rfl ?_
 refine RN ?_
 refine A.seq ?_
 refine GS ?_
 refine TL ?_
 refine RM rfl ?_
 refine RBS rfl rfl rfl (.bool false) (by rfl) ?_
 refine RN ?_
 refine A.no rfl ?_
 refine A.skip ?_
 refine EN ?_
 refine GS ?_
 refine TL ?_
 refine RA rfl ?_
 refine RN ?_
 refine A.seq ?_
 refine GS ?_
 refine TL ?_
 refine RM rfl ?_
 refine RS (ok_lenB Tryz.underlying49 rfl LA) ?_
 refine RBS rfl rfl rfl (.bool false) (by simp; omega) ?_
 refine RN ?_
 refine A.no rfl ?_
 refine A.skip ?_
 refine EN ?_
 refine A.seq ?_
 refine GS ?_
 refine TL ?_
 refine RM rfl ?_
 refine RS (ok_lenB Tryz.underlying49 rfl LA) ?_
 refine RBS rfl rfl rfl (.bool false) (by simp; omega) ?_
 refine RN ?_
 refine A.no rfl ?_
 refine A.skip ?_
 refine EN ?_
 refine GS ?_
 refine TL ?_
 refine RM rfl ?_
 refine RM rfl ?_
 refine RBS rfl rfl rfl (.bool true) (by rfl) ?_
 refine RM rfl ?_
 refine RQ (ok_move rfl) ?_
 refine RQ (ok_lenB Tryz.underlying49 rfl LA) ?_
 refine RQ (ok_bin rfl rfl rfl) ?_; refine RZ (.bool false) (by simp; omega) ?_
 refine RQ (ok_move rfl) ?_
 refine RQ (ok_move rfl) ?_
 refine RQ (ok_index (d := byteD (b.getD 0 0)) Tryz.underlying49 info5 rfl (Le.old _ _) rfl (by decide) (by exact byteD_getD (by omega))) ?_
 refine RQ (ok_load Tryz.underlying5 rfl rfl) ?_; refine RZ (nB (byL b 0)) (by rfl) ?_
 refine RQ (ok_bin rfl rfl rfl) ?_; refine RZ (.bool false) (by simp; omega) ?_
 refine RQ (ok_pick rfl rfl) ?_
 refine RQ (ok_move rfl) ?_
 refine RQ (ok_move rfl) ?_
 refine RQ (ok_index (d := byteD (b.getD 1 0)) Tryz.underlying49 info5 rfl (Le.old _ _) rfl (by decide) (by exact byteD_getD (by omega))) ?_
 refine RQ (ok_load Tryz.underlying5 rfl rfl) ?_; refine RZ (nB (byL b 1)) (by rfl) ?_
 refine RQ (ok_bin rfl rfl rfl) ?_; refine RZ (.bool false) (by simp; omega) ?_
 refine RQ (ok_pick rfl rfl) ?_
 refine RQ (ok_move rfl) ?_
 refine RQ (ok_move rfl) ?_
 refine RQ (ok_index (d := byteD (b.getD 2 0)) Tryz.underlying49 info5 rfl (Le.old _ _) rfl (by decide) (by exact byteD_getD (by omega))) ?_
 refine RQ (ok_load Tryz.underlying5 rfl rfl) ?_; refine RZ (nB (byL b 2)) (by rfl) ?_
 refine RQ (ok_bin rfl rfl rfl) ?_; refine RZ (.bool true) (by simp; omega) ?_
 refine RQ (ok_pick rfl rfl) ?_
 refine RP rfl rfl ?_
 refine RM rfl ?_
 refine RQ (ok_move rfl) ?_
 refine RQ (ok_bin rfl rfl rfl) ?_; refine RZ (.bool true) (by rfl) ?_
 refine RP rfl rfl ?_
 refine RM rfl ?_
 refine RQ (ok_loadA (s := 1000014) (by decide) Tryz.underlying30 rfl (size30.of (rfl)) rfl rfl) ?_
 refine RQ (ok_lit [] ([.int .u32 0] ++ [.int .u64 0]) (fun _ _ => rfl) (by kernel_rfl)) ?_
 refine RQ (ok_eqlT (n := 3) true flatN (by decide) (by kernel_rfl) (by kernel_rfl) rfl rfl (kinN _ _) (kinN _ _) ⟨fun _ => rfl, fun _ => rfl⟩) ?_; refine RZ (.bool true) (by rfl) ?_
 refine RP rfl rfl ?_
 refine RM rfl ?_
 refine RQ (ok_loadA (s := 1000015) (by decide) Tryz.underlying33 rfl (size33.of (rfl)) rfl rfl) ?_
 refine RQ (ok_litP [] Tryz.underlying33 info5 zero33 (by decide) trivial rfl) ?_; refine RZ (aggV (List.replicate 32 (.int .u8 0))) (by rfl) ?_
 refine RQ (ok_eqlT (n := 3) true flat33 (by decide) (by kernel_rfl) (by kernel_rfl) rfl rfl (kinZ 32) (kinZ 32) ⟨fun _ => rfl, fun _ => rfl⟩) ?_; refine RZ (.bool true) (by rfl) ?_
 refine RP rfl rfl ?_
 refine RM rfl ?_
 refine RQ (ok_callM lives9_fn (Sub.cons rfl (Sub.cons rfl KN)) tabs_v Args.nil) ?_
 refine RP rfl rfl ?_
 refine RA rfl ?_
 refine RN ?_
 refine A.sub (KC 6 rfl (KC 1000003 rfl (KC 1000004 rfl (KC 1000010 rfl (KC 1000011 rfl (KC 1000014 rfl (KC 1000015 rfl (KC 1000030 rfl (KC 1900000 rfl (KC 1900001 rfl KN)))))))))) ?_
 refine A.ret ?_
 exact End.ret1 rfl rfl (by first | exact Le.refl _ | exact Le.old _ _)
theorem SealsMessage_fn (f : Nat → Nat) (mk : List UInt8) (hf : By f) (hmk : mk.length = 32) (i : Int) (s c : Nat) (hs : s < 4294967296) (hc : c < 18446744073709551616) (d : List UInt8) (hd : d.length = 32) (b : List UInt8) : FnM Tryz.prog 15 tabs [.v (aggV (rowV 16 f ++ mk.map byteV ++ [.int .i64 i, nW s, nQ c])), .v (aggV (d.map byteV)), byt b] (.v (.bool true)) := by
 rcases Nat.lt_or_ge 60 b.length with h60 | h60
 ·exact SealsMessage_long f mk hf hmk i s c hs hc d hd b h60
 ·by_cases hi : i < 0 ∨ 4096 ≤ i
  ·rcases Nat.lt_trichotomy b.length 48 with hb | hb | hb
   ·exact SealsMessage_bad_short f mk hf hmk i hi s c hs hc d hd b h60 hb
   ·by_cases hn : (num (b.take 4)) < 4096
    ·exact SealsMessage_bad_ok f mk hf hmk i hi s c hs hc d hd b h60 hb hn
    ·have hn := Nat.le_of_not_lt hn
     by_cases h0 : 0 < byL b 0
     ·exact SealsMessage_bad_b1 f mk hf hmk i hi s c hs hc d hd b h60 hb hn h0
     ·by_cases h1 : 0 < byL b 1
      ·exact SealsMessage_bad_b2 f mk hf hmk i hi s c hs hc d hd b h60 hb hn h0 h1
      ·exact SealsMessage_bad_b3 f mk hf hmk i hi s c hs hc d hd b h60 hb hn h0 h1 (by have := num4_big hb hn; omega)
   ·exact SealsMessage_bad_far f mk hf hmk i hi s c hs hc d hd b h60 hb
  ·obtain ⟨k, rfl⟩ := Int.eq_ofNat_of_zero_le (show 0 ≤ i by omega)
   exact (fun (i : Nat) (hi : i < 4096) => (by
    rcases Nat.lt_trichotomy b.length 48 with hb | hb | hb
    ·exact SealsMessage_good_short f mk hf hmk i hi s c hs hc d hd b h60 hb
    ·by_cases hn : (num (b.take 4)) < 4096
     ·exact SealsMessage_good_ok f mk hf hmk i hi s c hs hc d hd b h60 hb hn
     ·have hn := Nat.le_of_not_lt hn
      by_cases h0 : 0 < byL b 0
      ·exact SealsMessage_good_b1 f mk hf hmk i hi s c hs hc d hd b h60 hb hn h0
      ·by_cases h1 : 0 < byL b 1
       ·exact SealsMessage_good_b2 f mk hf hmk i hi s c hs hc d hd b h60 hb hn h0 h1
       ·exact SealsMessage_good_b3 f mk hf hmk i hi s c hs hc d hd b h60 hb hn h0 h1 (by have := num4_big hb hn; omega)
    ·exact SealsMessage_good_far f mk hf hmk i hi s c hs hc d hd b h60 hb : FnM Tryz.prog 15 tabs [.v (aggV (rowV 16 f ++ mk.map byteV ++ [nI i, nW s, nQ c])), .v (aggV (d.map byteV)), byt b] (.v (.bool true)))) k (by omega)
end Go.Proofs.YthadcgkcgpinhaaGreatDoor
namespace Go.Proofs.YthadcgkcgpinhaaGreatDoor
open Go Go.RowKit
set_option linter.unusedVariables false
set_option maxRecDepth 20000
def ixL : List Int := [0, 1, 255, 256, 4095, 4096, (-1), 4294967296, (-9223372036854775808), 9223372036854775807]
theorem ix_get {j : Nat} (h : j < 10) : ([.int .i64 0, .int .i64 1, .int .i64 255, .int .i64 256, .int .i64 4095, .int .i64 4096, .int .i64 (-1), .int .i64 4294967296, .int .i64 (-9223372036854775808), .int .i64 9223372036854775807] : List Value)[j]? = some (.int .i64 (ixL.getD j 0)) := by
 match j, h with
 | 0, _ => rfl
 | 1, _ => rfl
 | 2, _ => rfl
 | 3, _ => rfl
 | 4, _ => rfl
 | 5, _ => rfl
 | 6, _ => rfl
 | 7, _ => rfl
 | 8, _ => rfl
 | 9, _ => rfl
/-- The index that the loop has set last. -/
def pvI (j : Nat) : Int := if j = 0 then 0 else ixL.getD (j - 1) 0
theorem pvI_succ (j : Nat) : pvI (j + 1) = ixL.getD j 0 := by rw [pvI, if_neg (Nat.succ_ne_zero j), Nat.add_sub_cancel]
theorem buildKS (f : Nat → Nat) {mk : List UInt8} (h : mk.length = 32) : Tryz.prog.built 26 [(0, aggV (rowV 16 f)), (1, aggV (mk.map byteV))] = some (rowV 16 f ++ mk.map byteV : List Value).toArray := by
 rw [rowV_byL h]; kernel_rfl
theorem buildS (f : Nat → Nat) {mk : List UInt8} (h : mk.length = 32) (s c : Nat) : Tryz.prog.built 32 [(0, aggV (rowV 16 f ++ mk.map byteV)), (2, aggV [nW s, nQ c])] = some (rowV 16 f ++ mk.map byteV ++ [.int .i64 0, nW s, nQ c] : List Value).toArray := by
 rw [rowV_byL h]; kernel_rfl

set_option maxHeartbeats 4000000 in
theorem SealsKnown_fn  : FnM Tryz.prog 6 tabs [] (.v (.bool true)) := by
 obtain ⟨e5, he5, hle⟩ : ∃ l : List UInt8, hkdf (hmac [99, 97, 105, 115, 115, 111, 110] (5 :: List.replicate 31 0 : List UInt8)) [101, 110, 99, 114, 121, 112, 116] 16 = l ∧ l.length = 16 := ⟨_, rfl, hkdf_length _⟩
 obtain ⟨m5, hm5, hlm⟩ : ∃ l : List UInt8, hkdf (hmac [99, 97, 105, 115, 115, 111, 110] (5 :: List.replicate 31 0 : List UInt8)) [109, 97, 99] 32 = l ∧ l.length = 32 := ⟨_, rfl, hkdf_length _⟩
 refine FnM.of Tryz.func6 rfl (by kernel_rfl) Tryz.ntmps6 (by simp) (by decide) (fun w => [(1900000, tab 0 (H8.list.map u32V)), (1900001, tab 1 (K64.map u32V))]) (fun w => (StartM.m (by simp [tabs]) (by decide) (StartM.m (by simp [tabs]) (by decide) StartM.nil))) fun w₀ hM => ?_
 have htab := tabs_hi hM
 refine GS ?_
 refine TL ?_
 refine RA rfl ?_
 refine RN ?_
 refine GS ?_
 refine TN 5 ?_
 refine RS (ok_litP [_] Tryz.underlying24 info5 zero24 (by decide) ⟨rfl, rfl, trivial⟩ rfl) ?_; refine RZ (aggV ((5 :: List.replicate 31 0 : List UInt8).map byteV)) (by rfl) ?_
 refine RS (ok_call (ref4Keys_fn (5 :: List.replicate 31 0 : List UInt8) (by rfl)) (A1 rfl)) ?_
 refine RM rfl ?_
 refine RS (ok_extract rfl rfl) ?_; refine RZ (aggV (rowV 16 (byL e5))) (by rw [he5, rowV_byL hle]) ?_
 refine RS (ok_extract rfl rfl) ?_; refine RZ (aggV (m5.map byteV)) (by rw [hm5]) ?_
 refine RN ?_
 refine ⟨_, _, eff_alloc (n := 80) (d := 1) (k := 1000001) zero22 (by decide), fun b1 hb1 => ?_⟩
 have hBb1 := hb1.1
 refine TN 6 ?_
 refine RN ?_
 refine ⟨_, _, eff_alloc (n := 80) (d := 2) (k := 1000002) zero24 (by decide), fun b2 hb2 => ?_⟩
 have hBb2 := hb2.1
 refine TF 7 ?_
 refine RN ?_
 refine ⟨_, eff_storeA (n := 80) (s := 1000001) (size22.of (rowV_length _ _)) rfl rfl (rowV_one _ _) hBb1 rfl (by simp [rowV_length]) (LV 1 rfl (LV 2 rfl (LV 19 rfl (LT 1000002 rfl (LeftS.cons (t := 1900000) rfl (Surv.tab (by omega)) (LeftS.cons (t := 1900001) rfl (Surv.tab (by omega)) LN)))))), ?_⟩
 refine TF 8 ?_
 refine RN ?_
 refine ⟨_, eff_storeA (n := 80) (s := 1000002) (size24.of (by rw [List.length_map, hlm])) rfl rfl (all_bytes _) hBb2 rfl (by simp [hlm]) (LV 1 rfl (LV 2 rfl (LT 1000001 rfl (LeftS.cons (t := 1900000) rfl (Surv.tab (by omega)) (LeftS.cons (t := 1900001) rfl (Surv.tab (by omega)) LN))))), ?_⟩
 refine TL ?_
 refine RN ?_
 refine GS ?_
 refine TN 5 ?_
 refine RS (ok_loadA (s := 1000001) (by decide) Tryz.underlying22 rfl (size22.of (rowV_length _ _)) rfl rfl) ?_
 refine RS (ok_loadA (s := 1000002) (by decide) Tryz.underlying24 rfl (size24.of (by rw [List.length_map, hlm])) rfl rfl) ?_
 refine RS (ok_litS [(0, aggV (rowV 16 (byL e5))), (1, aggV (m5.map byteV))] (rowV 16 (byL e5) ++ m5.map byteV) ⟨rfl, rfl, rfl, rfl, trivial⟩ (buildKS _ hlm)) ?_
 refine RS (ok_litS [(0, nW 4294967295), (1, nQ 18446744073709551615)] [nW 4294967295, nQ 18446744073709551615] ⟨rfl, rfl, rfl, rfl, trivial⟩ (buildN 4294967295 18446744073709551615)) ?_
 refine RS (ok_litS [(0, aggV (rowV 16 (byL e5) ++ m5.map byteV)), (2, aggV [nW 4294967295, nQ 18446744073709551615])] (rowV 16 (byL e5) ++ m5.map byteV ++ [.int .i64 0, nW 4294967295, nQ 18446744073709551615]) ⟨rfl, rfl, rfl, rfl, trivial⟩ (buildS _ hlm 4294967295 18446744073709551615)) ?_
 refine RN ?_
 refine ⟨_, _, eff_alloc (n := 80) (d := 3) (k := 1000003) zero32 (by decide), fun b3 hb3 => ?_⟩
 have hBb3 := hb3.1
 refine TF 6 ?_
 refine RN ?_
 refine ⟨_, eff_storeA (n := 80) (s := 1000003) (size32.of (SC_len _ hlm _ _ _)) rfl rfl (SC_one _ _ rfl rfl rfl) hBb3 rfl (by simp [rowV_length, hlm]) (LV 3 rfl (LT 1000001 rfl (LT 1000002 rfl (LeftS.cons (t := 1900000) rfl (Surv.tab (by omega)) (LeftS.cons (t := 1900001) rfl (Surv.tab (by omega)) LN))))), ?_⟩
 refine TL ?_
 refine RN ?_
 refine A.seq ?_
 refine GS ?_
 refine TL ?_
 refine RS (ok_buildF [.int .i64 0, .int .i64 1, .int .i64 255, .int .i64 256, .int .i64 4095, .int .i64 4096, .int .i64 (-1), .int .i64 4294967296, .int .i64 (-9223372036854775808), .int .i64 9223372036854775807] Tryz.underlying54 info3 rfl (by decide) (by decide) rfl ⟨rfl, rfl, rfl, rfl, rfl, rfl, rfl, rfl, rfl, rfl, rfl, rfl, rfl, rfl, rfl, rfl, rfl, rfl, rfl, rfl, trivial⟩ rfl) ?_
 refine RS (ok_lenU 10 Tryz.underlying54 rfl ((fresh_vlist (xs := [.int .i64 0, .int .i64 1, .int .i64 255, .int .i64 256, .int .i64 4095, .int .i64 4096, .int .i64 (-1), .int .i64 4294967296, .int .i64 (-9223372036854775808), .int .i64 9223372036854775807]) rfl (by decide)).trans (le_vlst _ _)) rfl) ?_
 refine RM rfl ?_
 refine RN ?_
 refine A.block ?_
 refine A.loop (ι := Nat) (fun j => j ≤ 10) (fun j => [(3, .v (.pointer (some ⟨b3, 0, none⟩))), (25, fresh w₀.heap.size 3 [.int .i64 0, .int .i64 1, .int .i64 255, .int .i64 256, .int .i64 4095, .int .i64 4096, .int .i64 (-1), .int .i64 4294967296, .int .i64 (-9223372036854775808), .int .i64 9223372036854775807] 10), (26, .v (.int .i64 10)), (27, .v (nI j)), (1000003, blk b3 32 (rowV 16 (byL e5) ++ m5.map byteV ++ [.int .i64 (pvI j), nW 4294967295, nQ 18446744073709551615])), (1900000, tab 0 (H8.list.map u32V)), (1900001, tab 1 (K64.map u32V))]) (fun j => 10 - j) 0 ?_ ?_ ?_
 ·exact Nat.zero_le _
 ·exact (KC 3 rfl (KC 25 rfl (KC 26 rfl (KE 27 rfl (by rfl) (KE 1000003 rfl (by rfl) (KC 1900000 rfl (KC 1900001 rfl KN)))))))
 intro j hj
 refine GS ?_
 refine TL ?_
 refine RB rfl rfl rfl ?_
 refine RN ?_
 refine A.seq ?_
 refine A.cond rfl (fun hc28 => ?_) (fun hc28 => ?_)
 ·have hlt : j < 10 := by simp at hc28; omega
  refine A.skip ?_
  refine EN ?_
  refine A.seq ?_
  refine A.block ?_
  refine GS ?_
  refine TL ?_
  refine RS (ok_indexU j Tryz.underlying54 info3 rfl ((fresh_vlist (xs := [.int .i64 0, .int .i64 1, .int .i64 255, .int .i64 256, .int .i64 4095, .int .i64 4096, .int .i64 (-1), .int .i64 4294967296, .int .i64 (-9223372036854775808), .int .i64 9223372036854775807]) rfl (by decide)).trans (le_vlst _ _)) rfl (ix_get hlt)) ?_
  refine RS (ok_load Tryz.underlying3 rfl rfl) ?_; refine RZ (.int .i64 (ixL.getD j 0)) (by rfl) ?_
  refine RA rfl ?_
  refine RN ?_
  refine GS ?_
  refine TF 2 ?_
  refine RM rfl ?_
  refine RS (ok_field field32_1 (by decide) rfl) ?_
  refine RN ?_
  refine ⟨_, eff_storeS (n := 80) (s := 1000003) info3 rfl rfl rfl hBb3 rfl (by rw [SC_len _ hlm]; decide) (LV 3 rfl (LeftS.cons (t := 25) rfl (Surv.fresh (by decide)) (LV 26 rfl (LV 27 rfl (LeftS.cons (t := 1900000) rfl (Surv.tab (by omega)) (LeftS.cons (t := 1900001) rfl (Surv.tab (by omega)) LN)))))), ?_⟩
  refine TL ?_
  refine RN ?_
  refine A.sub (KC 3 rfl (KC 25 rfl (KC 26 rfl (KC 27 rfl (KE 1000003 rfl (show _ = blk b3 32 (rowV 16 (byL e5) ++ m5.map byteV ++ [.int .i64 (pvI (j + 1)), nW 4294967295, nQ 18446744073709551615]) from congrArg _ (by rw [pvI_succ]; exact SC_set _ hlm _ _ _ _ 0)) (KC 1900000 rfl (KC 1900001 rfl KN))))))) ?_
  refine GD ?_
  refine TL ?_
  refine RS (ok_loadA (s := 1000003) (by decide) Tryz.underlying32 rfl (size32.of (SC_len _ hlm _ _ _)) rfl rfl) ?_
  refine RS (ok_litP [_, _] Tryz.underlying33 info5 zero33 (by decide) ⟨rfl, rfl, rfl, rfl, trivial⟩ rfl) ?_; refine RZ (aggV ((1 :: 2 :: List.replicate 30 0 : List UInt8).map byteV)) (by rfl) ?_
  refine RS (ok_callM (SealsBack_fn (byL e5) m5 (byL_lt e5) hlm (ixL.getD j 0) 4294967295 18446744073709551615 (by decide) (by decide) (1 :: 2 :: List.replicate 30 0 : List UInt8) (by rfl)) (Sub.cons rfl (Sub.cons rfl KN)) tabs_v (A2 rfl rfl)) ?_
  refine RS (ok_not rfl) ?_; refine RZ (.bool false) (by rfl) ?_
  refine RM rfl ?_
  refine RQ (ok_loadA (s := 1000003) (by decide) Tryz.underlying32 rfl (size32.of (SC_len _ hlm _ _ _)) rfl rfl) ?_
  refine RQ (ok_litP [_] Tryz.underlying33 info5 zero33 (by decide) ⟨rfl, rfl, trivial⟩ rfl) ?_; refine RZ (aggV ((3 :: List.replicate 31 0 : List UInt8).map byteV)) (by rfl) ?_
  refine RQ (ok_make 48 Tryz.underlying49 info5 (by decide) rfl rfl rfl rfl rfl (by decide)) ?_
  refine RQ (ok_callM (SealsMessage_fn (byL e5) m5 (byL_lt e5) hlm (ixL.getD j 0) 4294967295 18446744073709551615 (by decide) (by decide) (3 :: List.replicate 31 0 : List UInt8) (by rfl) (List.replicate 48 0)) (Sub.cons rfl (Sub.cons rfl KN)) tabs_v (Args.cons rfl (Le.refl _) (Args.cons rfl (Le.refl _) (Args.cons rfl ((Le.eq (by rfl)).trans ((fresh_bytes (l := List.replicate 48 0) rfl (by decide)).trans (le_byt _ _))) Args.nil)))) ?_
  refine RQ (ok_not rfl) ?_; refine RZ (.bool false) (by rfl) ?_
  refine RP rfl rfl ?_
  refine RM rfl ?_
  refine RQ (ok_loadA (s := 1000003) (by decide) Tryz.underlying32 rfl (size32.of (SC_len _ hlm _ _ _)) rfl rfl) ?_
  refine RQ (ok_litP [] Tryz.underlying33 info5 zero33 (by decide) trivial rfl) ?_; refine RZ (aggV ((List.replicate 32 0 : List UInt8).map byteV)) (by rfl) ?_
  refine RQ (ok_litP [] Tryz.underlying34 info5 zero34 (by decide) trivial rfl) ?_; refine RZ (aggV ((List.replicate 32 0 : List UInt8).map byteV)) (by rfl) ?_
  refine RQ (ok_callM (SealsOpen_fn (byL e5) m5 (byL_lt e5) hlm (ixL.getD j 0) 4294967295 18446744073709551615 (by decide) (by decide) (List.replicate 32 0 : List UInt8) (by rfl) (List.replicate 32 0 : List UInt8) (by rfl)) (Sub.cons rfl (Sub.cons rfl KN)) tabs_v (A3 rfl rfl rfl)) ?_
  refine RQ (ok_not rfl) ?_; refine RZ (.bool false) (by rfl) ?_
  refine RP rfl rfl ?_
  refine RN ?_
  refine A.no rfl ?_
  refine A.skip ?_
  refine End.normal_block ?_
  refine EN ?_
  refine GE ?_
  refine TL ?_
  refine RBS rfl rfl rfl (nI (j + 1)) (by rw [wrap_i64 (by omega) (by omega)]; exact congrArg (Value.int .i64) (by omega)) ?_
  refine RM rfl ?_
  refine RN ?_
  refine End.normal_then ?_
  refine End.again (j + 1) ?_ ?_ ?_
  ·show _ ≤ _; omega
  ·show _ - _ < _ - _; omega
  ·exact (KC 3 rfl (KC 25 rfl (KC 26 rfl (KC 27 rfl (KC 1000003 rfl (KC 1900000 rfl (KC 1900001 rfl KN)))))))
 ·refine A.exit ?_
  refine End.exit_then ?_
  refine End.exit_then ?_
  refine End.exit_here ?_
  refine EN ?_
  refine GS ?_
  refine TN 0 ?_
  refine RN ?_
  refine ⟨_, _, eff_nameF (c := 48) rfl (n := 80) (d := 52) (k := 1000052) rfl rfl (fun B' => ok_make 48 Tryz.underlying49 info5 (by decide) rfl rfl rfl rfl rfl (by decide)) (by decide) (by decide), fun b52 hb52 => ?_⟩
  have hBb52 := hb52.1
  have hlt_b3_b52 : b3 < b52 := hb52.2 1000003 _ _ _ rfl
  refine TL ?_
  refine RA rfl ?_
  refine RN ?_
  refine GS ?_
  refine TF 2 ?_
  refine RM rfl ?_
  refine RS (ok_indexV 2 Tryz.underlying49 info5 rfl rfl rfl (by decide)) ?_
  refine RN ?_
  refine ⟨_, eff_storeS (n := 80) (s := 1000052) info5 rfl rfl rfl hBb52 rfl (by decide) (LV 6 rfl (LT 1000003 rfl (LeftS.cons (t := 1900000) rfl (Surv.tab (by omega)) (LeftS.cons (t := 1900001) rfl (Surv.tab (by omega)) LN)))), ?_⟩
  refine TL ?_
  refine RN ?_
  refine A.sub (KC 6 rfl (KC 1000003 rfl (KE 1000052 rfl (show _ = blk b52 5 ((0 :: 0 :: 16 :: List.replicate 45 0 : List UInt8).map byteV) from by rfl) (KC 1900000 rfl (KC 1900001 rfl KN))))) ?_
  refine GS ?_
  refine TN 7 ?_
  refine RS (OpOk.fact (ok_move rfl) (d := bytes (0 :: 0 :: 16 :: List.replicate 45 0 : List UInt8) 48) (s := 1000052) (by decide) rfl (slice_bytes (0 :: 0 :: 16 :: List.replicate 45 0 : List UInt8) (by rfl) (by decide) (by decide) (by rfl))) ?_
  refine RS (ok_call (Parse_err (0 :: 0 :: 16 :: List.replicate 45 0 : List UInt8) 1 (by decide) (checkMessage_bad (0 :: 0 :: 16 :: List.replicate 45 0 : List UInt8) (by rfl) (by decide))) (Args.cons rfl (le_byt _ 48) Args.nil)) ?_
  refine RM rfl ?_
  refine RS (ok_extractV rfl rfl) ?_
  refine RS (ok_extractV rfl rfl) ?_
  refine RS (ok_extractV rfl rfl) ?_
  refine RS (ok_extractV rfl rfl) ?_
  refine RN ?_
  refine ⟨_, _, eff_alloc (n := 80) (d := 8) (k := 1000008) zero30 (by decide), fun b8 hb8 => ?_⟩
  have hBb8 := hb8.1
  refine TN 8 ?_
  refine RN ?_
  refine ⟨_, _, eff_alloc (n := 80) (d := 9) (k := 1000009) zero33 (by decide), fun b9 hb9 => ?_⟩
  have hBb9 := hb9.1
  refine TF 10 ?_
  refine RA rfl ?_
  refine RN ?_
  refine ⟨_, eff_storeA (n := 80) (s := 1000008) (size30.of (rfl)) rfl rfl (rfl) hBb8 rfl (rfl) (LV 6 rfl (LV 9 rfl (LV 60 rfl (LV 61 rfl (LT 1000003 rfl (LT 1000009 rfl (LT 1000052 rfl (LeftS.cons (t := 1900000) rfl (Surv.tab (by omega)) (LeftS.cons (t := 1900001) rfl (Surv.tab (by omega)) LN))))))))), ?_⟩
  refine TF 11 ?_
  refine RN ?_
  refine ⟨_, eff_storeA (n := 80) (s := 1000009) (size33.of (rfl)) rfl rfl (rfl) hBb9 rfl (rfl) (LV 6 rfl (LV 61 rfl (LT 1000003 rfl (LT 1000008 rfl (LT 1000052 rfl (LeftS.cons (t := 1900000) rfl (Surv.tab (by omega)) (LeftS.cons (t := 1900001) rfl (Surv.tab (by omega)) LN))))))), ?_⟩
  refine TL ?_
  refine RA rfl ?_
  refine RN ?_
  refine GS ?_
  refine TN 9 ?_
  refine RS (OpOk.fact (ok_move rfl) (d := bytes (0 :: 0 :: 16 :: List.replicate 45 0 : List UInt8) 48) (s := 1000052) (by decide) rfl (slice_bytes (0 :: 0 :: 16 :: List.replicate 45 0 : List UInt8) (by rfl) (by decide) (by decide) (by rfl))) ?_
  refine RS (ok_build [byteD 0] Tryz.underlying49 info5 rfl (by decide) (by decide) rfl ⟨rfl, rfl, trivial⟩ (fun d' hd' w x h => by simp only [List.mem_cons, List.not_mem_nil, or_false] at hd'; subst hd'; exact v_one rfl h)) ?_
  refine RS (ok_appendFull (l := (0 :: 0 :: 16 :: List.replicate 45 0 : List UInt8)) (m := [0]) Tryz.underlying49 info5 (by decide) rfl rfl (Le.eq (by rfl)) rfl (le_byt [0] 1) (by decide) (by decide) (by decide)) ?_
  refine RS (ok_call (Parse_err ((0 :: 0 :: 16 :: List.replicate 45 0 : List UInt8) ++ [0]) 5 (by decide) (checkMessage_long ((0 :: 0 :: 16 :: List.replicate 45 0 : List UInt8) ++ [0]) (by decide))) (Args.cons rfl (own_cat rfl rfl) Args.nil)) ?_
  refine RM rfl ?_
  refine RS (ok_extractV rfl rfl) ?_
  refine RS (ok_extractV rfl rfl) ?_
  refine RS (ok_extractV rfl rfl) ?_
  refine RS (ok_extractV rfl rfl) ?_
  refine RN ?_
  refine ⟨_, _, eff_alloc (n := 80) (d := 12) (k := 1000012) zero30 (by decide), fun b12 hb12 => ?_⟩
  have hBb12 := hb12.1
  have hlt_b8_b12 : b8 < b12 := hb12.2 1000008 _ _ _ rfl
  refine TN 10 ?_
  refine RN ?_
  refine ⟨_, _, eff_alloc (n := 80) (d := 13) (k := 1000013) zero33 (by decide), fun b13 hb13 => ?_⟩
  have hBb13 := hb13.1
  have hlt_b9_b13 : b9 < b13 := hb13.2 1000009 _ _ _ rfl
  refine TF 12 ?_
  refine RA rfl ?_
  refine RN ?_
  refine ⟨_, eff_storeA (n := 80) (s := 1000012) (size30.of (rfl)) rfl rfl (rfl) hBb12 rfl (rfl) (LV 10 rfl (LV 13 rfl (LV 69 rfl (LV 70 rfl (LT 1000003 rfl (LB 1000008 rfl (LT 1000009 rfl (LT 1000013 rfl (LT 1000052 rfl (LeftS.cons (t := 1900000) rfl (Surv.tab (by omega)) (LeftS.cons (t := 1900001) rfl (Surv.tab (by omega)) LN))))))))))), ?_⟩
  refine TF 13 ?_
  refine RN ?_
  refine ⟨_, eff_storeA (n := 80) (s := 1000013) (size33.of (rfl)) rfl rfl (rfl) hBb13 rfl (rfl) (LV 10 rfl (LV 70 rfl (LT 1000003 rfl (LT 1000008 rfl (LB 1000009 rfl (LT 1000012 rfl (LT 1000052 rfl (LeftS.cons (t := 1900000) rfl (Surv.tab (by omega)) (LeftS.cons (t := 1900001) rfl (Surv.tab (by omega)) LN))))))))), ?_⟩
  refine TL ?_
  refine RA rfl ?_
  refine RN ?_
  refine A.sub (KC 10 rfl (KC 14 rfl (KC 1000003 rfl (KC 1000008 rfl (KC 1000009 rfl (KC 1000012 rfl (KC 1000013 rfl (KC 1000052 rfl (KC 1900000 rfl (KC 1900001 rfl KN)))))))))) ?_
  refine GS ?_
  refine TL ?_
  refine RM rfl ?_
  refine RBS rfl rfl rfl (.bool true) (by rfl) ?_
  refine RM rfl ?_
  refine RQ (ok_move rfl) ?_
  refine RQ (ok_bin rfl rfl rfl) ?_; refine RZ (.bool true) (by rfl) ?_
  refine RP rfl rfl ?_
  refine RM rfl ?_
  refine RQ (ok_callM lives9_fn (Sub.cons rfl (Sub.cons rfl KN)) tabs_v Args.nil) ?_
  refine RP rfl rfl ?_
  refine RA rfl ?_
  refine RN ?_
  refine A.ret ?_
  exact End.ret1 rfl rfl (by first | exact Le.refl _ | exact Le.old _ _)
end Go.Proofs.YthadcgkcgpinhaaGreatDoor
