/-
  OWN TEXTS of this seat, put together, part 6: C09d, Law4, Law6.
-/
import Derived.Test.YthadcgkcgpinhaaDoorKA1
import Derived.Test.YthadcgkcgpinhaaDoorKA5
import Derived.Test.YthadcgkcgpinhaaDoorKA4
import Derived.Test.YthadcgkcgpinhaaDoorKA3
import Derived.Test.YthadcgkcgpinhaaDoorKA2
namespace Go.Proofs.YthadcgkcgpinhaaDoor
open Go Go.RowKit
set_option linter.unusedVariables false
set_option maxRecDepth 20000
theorem field32_1 : FieldIs Tryd.prog 32 1 48 1 := by unfold FieldIs; kernel_rfl
theorem field32_2 : FieldIs Tryd.prog 32 2 49 2 := by unfold FieldIs; kernel_rfl
theorem Parse_msg (i s c : Nat) (hs : s < 4294967296) (hc : c < 18446744073709551616) (d : List UInt8) (hd : d.length = 32) (hi : i < 4096) : Fn Tryd.prog 8 [byt (msgL i s c d)] (.v (.tuple #[nI i, aggV [nW s, nQ c], aggV (d.map byteV), .int .i64 0])) := by
 have h1 : num ((msgL i s c d).take 4) = i := by rw [msgL_take, num_be, Nat.mod_eq_of_lt (by omega)]
 have h := Parse_ok (msgL i s c d) (msgL_length hd) (by rw [h1]; exact hi)
 rw [h1, msgL_mid, msgL_drop, gS_nonce hs, gC_nonce hc] at h
 exact h

theorem SealsMessage_long (f : Nat → Nat) (mk : List UInt8) (hf : By f) (hmk : mk.length = 32) (i : Int) (s c : Nat) (hs : s < 4294967296) (hc : c < 18446744073709551616) (d : List UInt8) (hd : d.length = 32) (b : List UInt8) (h60 : 60 < b.length) : FnM Tryd.prog 3 tabs [.v (aggV (rowV 16 f ++ mk.map byteV ++ [.int .i64 i, nW s, nQ c])), .v (aggV (d.map byteV)), byt b] (.v (.bool true)) := by
 refine FnM.of Tryd.func3 rfl (by kernel_rfl) Tryd.ntmps3 (by simp) (by decide) (fun w => [(0, .v (aggV (rowV 16 f ++ mk.map byteV ++ [.int .i64 i, nW s, nQ c]))), (1, .v (aggV (d.map byteV))), (2, old w.heap.size (byt b)), (1900000, tab 0 (H8.list.map u32V)), (1900001, tab 1 (K64.map u32V))]) (fun w => (StartM.v rfl (StartM.v rfl (StartM.old rfl (StartM.m (by simp [tabs]) (by decide) (StartM.m (by simp [tabs]) (by decide) StartM.nil)))))) fun w₀ hM => ?_
 have htab := tabs_hi hM
 refine GS ?_
 refine TN 0 ?_
 refine RN ?_
 refine ⟨_, _, eff_box (n := 150) (d := 3) (k := 1000003) rfl (by decide), fun b3 hb3 => ?_⟩
 have hBb3 := hb3.1
 refine TN 1 ?_
 refine RN ?_
 refine ⟨_, _, eff_box (n := 150) (d := 4) (k := 1000004) rfl (by decide), fun b4 hb4 => ?_⟩
 have hBb4 := hb4.1
 refine TL ?_
 refine RA rfl ?_
 refine RN ?_
 refine A.seq ?_
 refine GS ?_
 refine TL ?_
 refine RM rfl ?_
 refine RS (ok_lenB Tryd.underlying34 rfl LA) ?_
 refine RBS rfl rfl rfl (.bool true) (by simp; omega) ?_
 refine RN ?_
 refine A.yes rfl ?_
 refine GS ?_
 refine TL ?_
 refine RS (ok_callM lives9_fn (Sub.cons rfl (Sub.cons rfl KN)) tabs_v Args.nil) ?_
 refine RA rfl ?_
 refine RN ?_
 refine A.ret ?_
 refine End.ret_then ?_
 exact End.ret1 rfl rfl (by first | exact Le.refl _ | exact Le.old _ _)
set_option maxHeartbeats 4000000 in
theorem SealsMessage_bad_ok (f : Nat → Nat) (mk : List UInt8) (hf : By f) (hmk : mk.length = 32) (i : Int) (hi : i < 0 ∨ 4096 ≤ i) (s c : Nat) (hs : s < 4294967296) (hc : c < 18446744073709551616) (d : List UInt8) (hd : d.length = 32) (b : List UInt8) (h60 : b.length ≤ 60) (hb : b.length = 48) (hn : (num (b.take 4)) < 4096) : FnM Tryd.prog 3 tabs [.v (aggV (rowV 16 f ++ mk.map byteV ++ [.int .i64 i, nW s, nQ c])), .v (aggV (d.map byteV)), byt b] (.v (.bool true)) := by
 have hd16 : (b.drop 16).length = 32 := by simp [hb]
 refine FnM.of Tryd.func3 rfl (by kernel_rfl) Tryd.ntmps3 (by simp) (by decide) (fun w => [(0, .v (aggV (rowV 16 f ++ mk.map byteV ++ [.int .i64 i, nW s, nQ c]))), (1, .v (aggV (d.map byteV))), (2, old w.heap.size (byt b)), (1900000, tab 0 (H8.list.map u32V)), (1900001, tab 1 (K64.map u32V))]) (fun w => (StartM.v rfl (StartM.v rfl (StartM.old rfl (StartM.m (by simp [tabs]) (by decide) (StartM.m (by simp [tabs]) (by decide) StartM.nil)))))) fun w₀ hM => ?_
 have htab := tabs_hi hM
 refine GS ?_
 refine TN 0 ?_
 refine RN ?_
 refine ⟨_, _, eff_box (n := 150) (d := 3) (k := 1000003) rfl (by decide), fun b3 hb3 => ?_⟩
 have hBb3 := hb3.1
 refine TN 1 ?_
 refine RN ?_
 refine ⟨_, _, eff_box (n := 150) (d := 4) (k := 1000004) rfl (by decide), fun b4 hb4 => ?_⟩
 have hBb4 := hb4.1
 refine TL ?_
 refine RA rfl ?_
 refine RN ?_
 refine A.seq ?_
 refine GS ?_
 refine TL ?_
 refine RM rfl ?_
 refine RS (ok_lenB Tryd.underlying34 rfl LA) ?_
 refine RBS rfl rfl rfl (.bool false) (by simp; omega) ?_
 refine RN ?_
 refine A.no rfl ?_
 refine A.skip ?_
 refine EN ?_
 refine GS ?_
 refine TL ?_
 refine RS (ok_field field32_1 (by decide) rfl) ?_
 refine RS (ok_loadV (s := 1000003) (by decide) Tryd.underlying3 rfl rfl rfl (SC_ix f hmk _ _ _)) ?_
 refine RS (ok_field field32_2 (by decide) rfl) ?_
 refine RS (ok_loadP (s := 1000003) (by decide) Tryd.underlying30 rfl size30 rfl rfl (by simp [rowV_length, hmk]) (SC_non f hmk _ _ _)) ?_
 refine RS (ok_loadA (s := 1000004) (by decide) Tryd.underlying33 rfl (size33.of (by rw [List.length_map, hd])) rfl rfl) ?_
 refine RS (ok_call (Message_bad i hi s c hs hc d hd) (A3 rfl rfl rfl)) ?_
 refine RM rfl ?_
 refine RS (ok_extractV rfl rfl) ?_
 refine RS (ok_extractV rfl rfl) ?_
 refine RA rfl ?_
 refine RA rfl ?_
 refine RN ?_
 refine A.seq ?_
 refine GS ?_
 refine TL ?_
 refine RS (ok_field field32_1 (by decide) rfl) ?_
 refine RS (ok_loadV (s := 1000003) (by decide) Tryd.underlying3 rfl rfl rfl (SC_ix f hmk _ _ _)) ?_
 refine RS (ok_call (bad9_yes i hi) (A1 rfl)) ?_
 refine RN ?_
 refine A.yes rfl ?_
 refine GS ?_
 refine TL ?_
 refine RM rfl ?_
 refine RM rfl ?_
 refine RS (ok_call (same9_fn [] 1) (Args.cons rfl bytes_nil_le (Args.cons rfl (Le.refl _) (Args.cons rfl byt_nil_le (A1 rfl))))) ?_
 refine RS (ok_not rfl) ?_; refine RZ (.bool false) (by rfl) ?_
 refine RN ?_
 refine A.no rfl ?_
 refine A.skip ?_
 refine EN ?_
 refine GS ?_
 refine TN 7 ?_
 refine RM rfl ?_
 refine RS (ok_call (Parse_ok b hb hn) (Args.cons rfl (Le.old _ _) Args.nil)) ?_
 refine RM rfl ?_
 refine RS (ok_extractV rfl rfl) ?_
 refine RS (ok_extractV rfl rfl) ?_
 refine RS (ok_extractV rfl rfl) ?_
 refine RS (ok_extractV rfl rfl) ?_
 refine RN ?_
 refine ⟨_, _, eff_alloc (n := 150) (d := 14) (k := 1000014) zero30 (by decide), fun b14 hb14 => ?_⟩
 have hBb14 := hb14.1
 refine TN 8 ?_
 refine RN ?_
 refine ⟨_, _, eff_alloc (n := 150) (d := 15) (k := 1000015) zero33 (by decide), fun b15 hb15 => ?_⟩
 have hBb15 := hb15.1
 have hlt_b4_b15 : b4 < b15 := hb15.2 1000004 _ _ _ rfl
 refine TF 10 ?_
 refine RA rfl ?_
 refine RN ?_
 refine ⟨_, eff_storeA (n := 150) (s := 1000014) (size30.of (rfl)) rfl rfl (rfl) hBb14 rfl (rfl) (LO 2 rfl (LV 13 rfl (LV 14 rfl (LV 15 rfl (LV 83 rfl (LV 84 rfl (LT 1000003 rfl (LT 1000004 rfl (LT 1000015 rfl (LeftS.cons (t := 1900000) rfl (Surv.tab (by omega)) (LeftS.cons (t := 1900001) rfl (Surv.tab (by omega)) LN))))))))))), ?_⟩
 refine TF 11 ?_
 refine RN ?_
 refine ⟨_, eff_storeA (n := 150) (s := 1000015) (size33.of (by rw [List.length_map, hd16])) rfl rfl (all_bytes _) hBb15 rfl (by simp [hb]) (LO 2 rfl (LV 13 rfl (LV 14 rfl (LV 15 rfl (LV 84 rfl (LT 1000003 rfl (LB 1000004 rfl (LT 1000014 rfl (LeftS.cons (t := 1900000) rfl (Surv.tab (by omega)) (LeftS.cons (t := 1900001) rfl (Surv.tab (by omega)) LN)))))))))), ?_⟩
 refine TL ?_
 refine RA rfl ?_
 refine RN ?_
 refine A.sub (KC 2 rfl (KC 13 rfl (KC 14 rfl (KC 15 rfl (KC 16 rfl (KC 1000003 rfl (KC 1000004 rfl (KC 1000014 rfl (KC 1000015 rfl (KC 1900000 rfl (KC 1900001 rfl KN))))))))))) ?_
 refine A.seq ?_
 refine GS ?_
 refine TL ?_
 refine RM rfl ?_
 refine RBS rfl rfl rfl (.bool true) (by rfl) ?_
 refine RN ?_
 refine A.yes rfl ?_
 refine GS ?_
 refine TN 3 ?_
 refine RM rfl ?_
 refine RS (ok_loadA (s := 1000014) (by decide) Tryd.underlying30 rfl (size30.of (rfl)) rfl rfl) ?_
 refine RS (ok_loadA (s := 1000015) (by decide) Tryd.underlying33 rfl (size33.of (by rw [List.length_map, hd16])) rfl rfl) ?_
 refine RN ?_
 refine ⟨_, _, eff_name (n := 150) (d := 91) (k := 1000091) rfl rfl (fun B' => ok_callB (Message_ok (num (b.take 4)) (gS ((b.drop 4).take 12)) (gC ((b.drop 4).take 12)) (gS_lt _) (gC_lt _) (b.drop 16) hd16 hn) newD_mono (A3 rfl rfl rfl)) (by decide) (by decide), fun b91 hb91 => ?_⟩
 have hBb91 := hb91.1
 have hlt_b3_b91 : b3 < b91 := hb91.2 1000003 _ _ _ rfl
 have hlt_b4_b91 : b4 < b91 := hb91.2 1000004 _ _ _ rfl
 have hlt_b14_b91 : b14 < b91 := hb91.2 1000014 _ _ _ rfl
 have hlt_b15_b91 : b15 < b91 := hb91.2 1000015 _ _ _ rfl
 refine TL ?_
 refine RM rfl ?_
 refine RS (ok_extractV rfl rfl) ?_
 refine RS (ok_extractV rfl rfl) ?_
 refine RA rfl ?_
 refine RA rfl ?_
 refine RN ?_
 refine GS ?_
 refine TL ?_
 refine RS ((OpOk.fact (ok_move rfl) (d := bytes b 48) (s := 1000091) (by decide) rfl (slice_bytes b hb.symm (by decide) (by decide) (by rw [msgL_of hb (nonce_back (by simp [hb])), List.drop_zero, List.take_of_length_le (by rw [List.length_map, hb]; decide)]))).le (d' := bytes b b.length) (Le.eq (by rw [hb]))) ?_
 refine RM rfl ?_
 refine RM rfl ?_
 refine RS (ok_call (same9_fn b 0) (Args.cons rfl (Le.refl _) (Args.cons rfl (Le.refl _) (Args.cons rfl (Le.old _ _) (A1 rfl))))) ?_
 refine RM rfl ?_
 refine RQ (ok_callM lives9_fn (Sub.cons rfl (Sub.cons rfl KN)) tabs_v Args.nil) ?_
 refine RP rfl rfl ?_
 refine RA rfl ?_
 refine RN ?_
 refine A.ret ?_
 refine End.ret_then ?_
 exact End.ret1 rfl rfl (by first | exact Le.refl _ | exact Le.old _ _)
set_option maxHeartbeats 4000000 in
theorem SealsMessage_bad_short (f : Nat → Nat) (mk : List UInt8) (hf : By f) (hmk : mk.length = 32) (i : Int) (hi : i < 0 ∨ 4096 ≤ i) (s c : Nat) (hs : s < 4294967296) (hc : c < 18446744073709551616) (d : List UInt8) (hd : d.length = 32) (b : List UInt8) (h60 : b.length ≤ 60) (hb : b.length < 48) : FnM Tryd.prog 3 tabs [.v (aggV (rowV 16 f ++ mk.map byteV ++ [.int .i64 i, nW s, nQ c])), .v (aggV (d.map byteV)), byt b] (.v (.bool true)) := by
 refine FnM.of Tryd.func3 rfl (by kernel_rfl) Tryd.ntmps3 (by simp) (by decide) (fun w => [(0, .v (aggV (rowV 16 f ++ mk.map byteV ++ [.int .i64 i, nW s, nQ c]))), (1, .v (aggV (d.map byteV))), (2, old w.heap.size (byt b)), (1900000, tab 0 (H8.list.map u32V)), (1900001, tab 1 (K64.map u32V))]) (fun w => (StartM.v rfl (StartM.v rfl (StartM.old rfl (StartM.m (by simp [tabs]) (by decide) (StartM.m (by simp [tabs]) (by decide) StartM.nil)))))) fun w₀ hM => ?_
 have htab := tabs_hi hM
 refine GS ?_
 refine TN 0 ?_
 refine RN ?_
 refine ⟨_, _, eff_box (n := 150) (d := 3) (k := 1000003) rfl (by decide), fun b3 hb3 => ?_⟩
 have hBb3 := hb3.1
 refine TN 1 ?_
 refine RN ?_
 refine ⟨_, _, eff_box (n := 150) (d := 4) (k := 1000004) rfl (by decide), fun b4 hb4 => ?_⟩
 have hBb4 := hb4.1
 refine TL ?_
 refine RA rfl ?_
 refine RN ?_
 refine A.seq ?_
 refine GS ?_
 refine TL ?_
 refine RM rfl ?_
 refine RS (ok_lenB Tryd.underlying34 rfl LA) ?_
 refine RBS rfl rfl rfl (.bool false) (by simp; omega) ?_
 refine RN ?_
 refine A.no rfl ?_
 refine A.skip ?_
 refine EN ?_
 refine GS ?_
 refine TL ?_
 refine RS (ok_field field32_1 (by decide) rfl) ?_
 refine RS (ok_loadV (s := 1000003) (by decide) Tryd.underlying3 rfl rfl rfl (SC_ix f hmk _ _ _)) ?_
 refine RS (ok_field field32_2 (by decide) rfl) ?_
 refine RS (ok_loadP (s := 1000003) (by decide) Tryd.underlying30 rfl size30 rfl rfl (by simp [rowV_length, hmk]) (SC_non f hmk _ _ _)) ?_
 refine RS (ok_loadA (s := 1000004) (by decide) Tryd.underlying33 rfl (size33.of (by rw [List.length_map, hd])) rfl rfl) ?_
 refine RS (ok_call (Message_bad i hi s c hs hc d hd) (A3 rfl rfl rfl)) ?_
 refine RM rfl ?_
 refine RS (ok_extractV rfl rfl) ?_
 refine RS (ok_extractV rfl rfl) ?_
 refine RA rfl ?_
 refine RA rfl ?_
 refine RN ?_
 refine A.seq ?_
 refine GS ?_
 refine TL ?_
 refine RS (ok_field field32_1 (by decide) rfl) ?_
 refine RS (ok_loadV (s := 1000003) (by decide) Tryd.underlying3 rfl rfl rfl (SC_ix f hmk _ _ _)) ?_
 refine RS (ok_call (bad9_yes i hi) (A1 rfl)) ?_
 refine RN ?_
 refine A.yes rfl ?_
 refine GS ?_
 refine TL ?_
 refine RM rfl ?_
 refine RM rfl ?_
 refine RS (ok_call (same9_fn [] 1) (Args.cons rfl bytes_nil_le (Args.cons rfl (Le.refl _) (Args.cons rfl byt_nil_le (A1 rfl))))) ?_
 refine RS (ok_not rfl) ?_; refine RZ (.bool false) (by rfl) ?_
 refine RN ?_
 refine A.no rfl ?_
 refine A.skip ?_
 refine EN ?_
 refine GS ?_
 refine TN 7 ?_
 refine RM rfl ?_
 refine RS (ok_call (Parse_err b 6 (by decide) (checkMessage_short b hb)) (Args.cons rfl (Le.old _ _) Args.nil)) ?_
 refine RM rfl ?_
 refine RS (ok_extractV rfl rfl) ?_
 refine RS (ok_extractV rfl rfl) ?_
 refine RS (ok_extractV rfl rfl) ?_
 refine RS (ok_extractV rfl rfl) ?_
 refine RN ?_
 refine ⟨_, _, eff_alloc (n := 150) (d := 14) (k := 1000014) zero30 (by decide), fun b14 hb14 => ?_⟩
 have hBb14 := hb14.1
 refine TN 8 ?_
 refine RN ?_
 refine ⟨_, _, eff_alloc (n := 150) (d := 15) (k := 1000015) zero33 (by decide), fun b15 hb15 => ?_⟩
 have hBb15 := hb15.1
 have hlt_b4_b15 : b4 < b15 := hb15.2 1000004 _ _ _ rfl
 refine TF 10 ?_
 refine RA rfl ?_
 refine RN ?_
 refine ⟨_, eff_storeA (n := 150) (s := 1000014) (size30.of (rfl)) rfl rfl (rfl) hBb14 rfl (rfl) (LO 2 rfl (LV 13 rfl (LV 14 rfl (LV 15 rfl (LV 83 rfl (LV 84 rfl (LT 1000003 rfl (LT 1000004 rfl (LT 1000015 rfl (LeftS.cons (t := 1900000) rfl (Surv.tab (by omega)) (LeftS.cons (t := 1900001) rfl (Surv.tab (by omega)) LN))))))))))), ?_⟩
 refine TF 11 ?_
 refine RN ?_
 refine ⟨_, eff_storeA (n := 150) (s := 1000015) (size33.of (rfl)) rfl rfl (rfl) hBb15 rfl (rfl) (LO 2 rfl (LV 13 rfl (LV 14 rfl (LV 15 rfl (LV 84 rfl (LT 1000003 rfl (LB 1000004 rfl (LT 1000014 rfl (LeftS.cons (t := 1900000) rfl (Surv.tab (by omega)) (LeftS.cons (t := 1900001) rfl (Surv.tab (by omega)) LN)))))))))), ?_⟩
 refine TL ?_
 refine RA rfl ?_
 refine RN ?_
 refine A.sub (KC 2 rfl (KC 13 rfl (KC 14 rfl (KC 15 rfl (KC 16 rfl (KC 1000003 rfl (KC 1000004 rfl (KC 1000014 rfl (KC 1000015 rfl (KC 1900000 rfl (KC 1900001 rfl KN))))))))))) ?_
 refine A.seq ?_
 refine GS ?_
 refine TL ?_
 refine RM rfl ?_
 refine RBS rfl rfl rfl (.bool false) (by rfl) ?_
 refine RN ?_
 refine A.no rfl ?_
 refine A.skip ?_
 refine EN ?_
 refine GS ?_
 refine TL ?_
 refine RA rfl ?_
 refine RN ?_
 refine A.seq ?_
 refine GS ?_
 refine TL ?_
 refine RM rfl ?_
 refine RS (ok_lenB Tryd.underlying34 rfl LA) ?_
 refine RBS rfl rfl rfl (.bool true) (by simp; omega) ?_
 refine RN ?_
 refine A.yes rfl ?_
 refine GE ?_
 refine TL ?_
 refine RA rfl ?_
 refine RN ?_
 refine EN ?_
 refine A.seq ?_
 refine GS ?_
 refine TL ?_
 refine RM rfl ?_
 refine RS (ok_lenB Tryd.underlying34 rfl LA) ?_
 refine RBS rfl rfl rfl (.bool false) (by simp; omega) ?_
 refine RN ?_
 refine A.no rfl ?_
 refine A.skip ?_
 refine EN ?_
 refine GS ?_
 refine TL ?_
 refine RM rfl ?_
 refine RM rfl ?_
 refine RBS rfl rfl rfl (.bool true) (by rfl) ?_
 refine RM rfl ?_
 refine RQ (ok_move rfl) ?_
 refine RQ (ok_lenB Tryd.underlying34 rfl LA) ?_
 refine RQ (ok_bin rfl rfl rfl) ?_; refine RZ (.bool true) (by simp; omega) ?_
 refine RQ (ok_move rfl) ?_
 refine RK ?_
 refine RK ?_
 refine RK ?_
 refine RK ?_
 refine RQ (ok_pick rfl rfl) ?_
 refine RQ (ok_move rfl) ?_
 refine RK ?_
 refine RK ?_
 refine RK ?_
 refine RK ?_
 refine RQ (ok_pick rfl rfl) ?_
 refine RQ (ok_move rfl) ?_
 refine RK ?_
 refine RK ?_
 refine RK ?_
 refine RK ?_
 refine RQ (ok_pick rfl rfl) ?_
 refine RP rfl rfl ?_
 refine RM rfl ?_
 refine RQ (ok_move rfl) ?_
 refine RQ (ok_bin rfl rfl rfl) ?_; refine RZ (.bool true) (by rfl) ?_
 refine RP rfl rfl ?_
 refine RM rfl ?_
 refine RQ (ok_loadA (s := 1000014) (by decide) Tryd.underlying30 rfl (size30.of (rfl)) rfl rfl) ?_
 refine RQ (ok_lit [] ([.int .u32 0] ++ [.int .u64 0]) (fun _ _ => rfl) (by kernel_rfl)) ?_
 refine RQ (ok_eqlT (n := 3) true flatN (by decide) (by kernel_rfl) (by kernel_rfl) rfl rfl (kinN _ _) (kinN _ _) ⟨fun _ => rfl, fun _ => rfl⟩) ?_; refine RZ (.bool true) (by rfl) ?_
 refine RP rfl rfl ?_
 refine RM rfl ?_
 refine RQ (ok_loadA (s := 1000015) (by decide) Tryd.underlying33 rfl (size33.of (rfl)) rfl rfl) ?_
 refine RQ (ok_litP [] Tryd.underlying33 info5 zero33 (by decide) trivial rfl) ?_; refine RZ (aggV (List.replicate 32 (.int .u8 0))) (by rfl) ?_
 refine RQ (ok_eqlT (n := 3) true flat33 (by decide) (by kernel_rfl) (by kernel_rfl) rfl rfl (kinZ 32) (kinZ 32) ⟨fun _ => rfl, fun _ => rfl⟩) ?_; refine RZ (.bool true) (by rfl) ?_
 refine RP rfl rfl ?_
 refine RM rfl ?_
 refine RQ (ok_callM lives9_fn (Sub.cons rfl (Sub.cons rfl KN)) tabs_v Args.nil) ?_
 refine RP rfl rfl ?_
 refine RA rfl ?_
 refine RN ?_
 refine A.sub (KC 6 rfl (KC 1000003 rfl (KC 1000004 rfl (KC 1000014 rfl (KC 1000015 rfl (KC 1900000 rfl (KC 1900001 rfl KN))))))) ?_
 refine A.ret ?_
 exact End.ret1 rfl rfl (by first | exact Le.refl _ | exact Le.old _ _)
set_option maxHeartbeats 4000000 in
theorem SealsMessage_bad_far (f : Nat → Nat) (mk : List UInt8) (hf : By f) (hmk : mk.length = 32) (i : Int) (hi : i < 0 ∨ 4096 ≤ i) (s c : Nat) (hs : s < 4294967296) (hc : c < 18446744073709551616) (d : List UInt8) (hd : d.length = 32) (b : List UInt8) (h60 : b.length ≤ 60) (hb : 48 < b.length) : FnM Tryd.prog 3 tabs [.v (aggV (rowV 16 f ++ mk.map byteV ++ [.int .i64 i, nW s, nQ c])), .v (aggV (d.map byteV)), byt b] (.v (.bool true)) := by
 refine FnM.of Tryd.func3 rfl (by kernel_rfl) Tryd.ntmps3 (by simp) (by decide) (fun w => [(0, .v (aggV (rowV 16 f ++ mk.map byteV ++ [.int .i64 i, nW s, nQ c]))), (1, .v (aggV (d.map byteV))), (2, old w.heap.size (byt b)), (1900000, tab 0 (H8.list.map u32V)), (1900001, tab 1 (K64.map u32V))]) (fun w => (StartM.v rfl (StartM.v rfl (StartM.old rfl (StartM.m (by simp [tabs]) (by decide) (StartM.m (by simp [tabs]) (by decide) StartM.nil)))))) fun w₀ hM => ?_
 have htab := tabs_hi hM
 refine GS ?_
 refine TN 0 ?_
 refine RN ?_
 refine ⟨_, _, eff_box (n := 150) (d := 3) (k := 1000003) rfl (by decide), fun b3 hb3 => ?_⟩
 have hBb3 := hb3.1
 refine TN 1 ?_
 refine RN ?_
 refine ⟨_, _, eff_box (n := 150) (d := 4) (k := 1000004) rfl (by decide), fun b4 hb4 => ?_⟩
 have hBb4 := hb4.1
 refine TL ?_
 refine RA rfl ?_
 refine RN ?_
 refine A.seq ?_
 refine GS ?_
 refine TL ?_
 refine RM rfl ?_
 refine RS (ok_lenB Tryd.underlying34 rfl LA) ?_
 refine RBS rfl rfl rfl (.bool false) (by simp; omega) ?_
 refine RN ?_
 refine A.no rfl ?_
 refine A.skip ?_
 refine EN ?_
 refine GS ?_
 refine TL ?_
 refine RS (ok_field field32_1 (by decide) rfl) ?_
 refine RS (ok_loadV (s := 1000003) (by decide) Tryd.underlying3 rfl rfl rfl (SC_ix f hmk _ _ _)) ?_
 refine RS (ok_field field32_2 (by decide) rfl) ?_
 refine RS (ok_loadP (s := 1000003) (by decide) Tryd.underlying30 rfl size30 rfl rfl (by simp [rowV_length, hmk]) (SC_non f hmk _ _ _)) ?_
 refine RS (ok_loadA (s := 1000004) (by decide) Tryd.underlying33 rfl (size33.of (by rw [List.length_map, hd])) rfl rfl) ?_
 refine RS (ok_call (Message_bad i hi s c hs hc d hd) (A3 rfl rfl rfl)) ?_
 refine RM rfl ?_
 refine RS (ok_extractV rfl rfl) ?_
 refine RS (ok_extractV rfl rfl) ?_
 refine RA rfl ?_
 refine RA rfl ?_
 refine RN ?_
 refine A.seq ?_
 refine GS ?_
 refine TL ?_
 refine RS (ok_field field32_1 (by decide) rfl) ?_
 refine RS (ok_loadV (s := 1000003) (by decide) Tryd.underlying3 rfl rfl rfl (SC_ix f hmk _ _ _)) ?_
 refine RS (ok_call (bad9_yes i hi) (A1 rfl)) ?_
 refine RN ?_
 refine A.yes rfl ?_
 refine GS ?_
 refine TL ?_
 refine RM rfl ?_
 refine RM rfl ?_
 refine RS (ok_call (same9_fn [] 1) (Args.cons rfl bytes_nil_le (Args.cons rfl (Le.refl _) (Args.cons rfl byt_nil_le (A1 rfl))))) ?_
 refine RS (ok_not rfl) ?_; refine RZ (.bool false) (by rfl) ?_
 refine RN ?_
 refine A.no rfl ?_
 refine A.skip ?_
 refine EN ?_
 refine GS ?_
 refine TN 7 ?_
 refine RM rfl ?_
 refine RS (ok_call (Parse_err b 5 (by decide) (checkMessage_long b hb)) (Args.cons rfl (Le.old _ _) Args.nil)) ?_
 refine RM rfl ?_
 refine RS (ok_extractV rfl rfl) ?_
 refine RS (ok_extractV rfl rfl) ?_
 refine RS (ok_extractV rfl rfl) ?_
 refine RS (ok_extractV rfl rfl) ?_
 refine RN ?_
 refine ⟨_, _, eff_alloc (n := 150) (d := 14) (k := 1000014) zero30 (by decide), fun b14 hb14 => ?_⟩
 have hBb14 := hb14.1
 refine TN 8 ?_
 refine RN ?_
 refine ⟨_, _, eff_alloc (n := 150) (d := 15) (k := 1000015) zero33 (by decide), fun b15 hb15 => ?_⟩
 have hBb15 := hb15.1
 have hlt_b4_b15 : b4 < b15 := hb15.2 1000004 _ _ _ rfl
 refine TF 10 ?_
 refine RA rfl ?_
 refine RN ?_
 refine ⟨_, eff_storeA (n := 150) (s := 1000014) (size30.of (rfl)) rfl rfl (rfl) hBb14 rfl (rfl) (LO 2 rfl (LV 13 rfl (LV 14 rfl (LV 15 rfl (LV 83 rfl (LV 84 rfl (LT 1000003 rfl (LT 1000004 rfl (LT 1000015 rfl (LeftS.cons (t := 1900000) rfl (Surv.tab (by omega)) (LeftS.cons (t := 1900001) rfl (Surv.tab (by omega)) LN))))))))))), ?_⟩
 refine TF 11 ?_
 refine RN ?_
 refine ⟨_, eff_storeA (n := 150) (s := 1000015) (size33.of (rfl)) rfl rfl (rfl) hBb15 rfl (rfl) (LO 2 rfl (LV 13 rfl (LV 14 rfl (LV 15 rfl (LV 84 rfl (LT 1000003 rfl (LB 1000004 rfl (LT 1000014 rfl (LeftS.cons (t := 1900000) rfl (Surv.tab (by omega)) (LeftS.cons (t := 1900001) rfl (Surv.tab (by omega)) LN)))))))))), ?_⟩
 refine TL ?_
 refine RA rfl ?_
 refine RN ?_
 refine A.sub (KC 2 rfl (KC 13 rfl (KC 14 rfl (KC 15 rfl (KC 16 rfl (KC 1000003 rfl (KC 1000004 rfl (KC 1000014 rfl (KC 1000015 rfl (KC 1900000 rfl (KC 1900001 rfl KN))))))))))) ?_
 refine A.seq ?_
 refine GS ?_
 refine TL ?_
 refine RM rfl ?_
 refine RBS rfl rfl rfl (.bool false) (by rfl) ?_
 refine RN ?_
 refine A.no rfl ?_
 refine A.skip ?_
 refine EN ?_
 refine GS ?_
 refine TL ?_
 refine RA rfl ?_
 refine RN ?_
 refine A.seq ?_
 refine GS ?_
 refine TL ?_
 refine RM rfl ?_
 refine RS (ok_lenB Tryd.underlying34 rfl LA) ?_
 refine RBS rfl rfl rfl (.bool false) (by simp; omega) ?_
 refine RN ?_
 refine A.no rfl ?_
 refine A.skip ?_
 refine EN ?_
 refine A.seq ?_
 refine GS ?_
 refine TL ?_
 refine RM rfl ?_
 refine RS (ok_lenB Tryd.underlying34 rfl LA) ?_
 refine RBS rfl rfl rfl (.bool true) (by simp; omega) ?_
 refine RN ?_
 refine A.yes rfl ?_
 refine GE ?_
 refine TL ?_
 refine RA rfl ?_
 refine RN ?_
 refine EN ?_
 refine GS ?_
 refine TL ?_
 refine RM rfl ?_
 refine RM rfl ?_
 refine RBS rfl rfl rfl (.bool true) (by rfl) ?_
 refine RM rfl ?_
 refine RQ (ok_move rfl) ?_
 refine RQ (ok_lenB Tryd.underlying34 rfl LA) ?_
 refine RQ (ok_bin rfl rfl rfl) ?_; refine RZ (.bool true) (by simp; omega) ?_
 refine RQ (ok_move rfl) ?_
 refine RK ?_
 refine RK ?_
 refine RK ?_
 refine RK ?_
 refine RQ (ok_pick rfl rfl) ?_
 refine RQ (ok_move rfl) ?_
 refine RK ?_
 refine RK ?_
 refine RK ?_
 refine RK ?_
 refine RQ (ok_pick rfl rfl) ?_
 refine RQ (ok_move rfl) ?_
 refine RK ?_
 refine RK ?_
 refine RK ?_
 refine RK ?_
 refine RQ (ok_pick rfl rfl) ?_
 refine RP rfl rfl ?_
 refine RM rfl ?_
 refine RQ (ok_move rfl) ?_
 refine RQ (ok_bin rfl rfl rfl) ?_; refine RZ (.bool true) (by rfl) ?_
 refine RP rfl rfl ?_
 refine RM rfl ?_
 refine RQ (ok_loadA (s := 1000014) (by decide) Tryd.underlying30 rfl (size30.of (rfl)) rfl rfl) ?_
 refine RQ (ok_lit [] ([.int .u32 0] ++ [.int .u64 0]) (fun _ _ => rfl) (by kernel_rfl)) ?_
 refine RQ (ok_eqlT (n := 3) true flatN (by decide) (by kernel_rfl) (by kernel_rfl) rfl rfl (kinN _ _) (kinN _ _) ⟨fun _ => rfl, fun _ => rfl⟩) ?_; refine RZ (.bool true) (by rfl) ?_
 refine RP rfl rfl ?_
 refine RM rfl ?_
 refine RQ (ok_loadA (s := 1000015) (by decide) Tryd.underlying33 rfl (size33.of (rfl)) rfl rfl) ?_
 refine RQ (ok_litP [] Tryd.underlying33 info5 zero33 (by decide) trivial rfl) ?_; refine RZ (aggV (List.replicate 32 (.int .u8 0))) (by rfl) ?_
 refine RQ (ok_eqlT (n := 3) true flat33 (by decide) (by kernel_rfl) (by kernel_rfl) rfl rfl (kinZ 32) (kinZ 32) ⟨fun _ => rfl, fun _ => rfl⟩) ?_; refine RZ (.bool true) (by rfl) ?_
 refine RP rfl rfl ?_
 refine RM rfl ?_
 refine RQ (ok_callM lives9_fn (Sub.cons rfl (Sub.cons rfl KN)) tabs_v Args.nil) ?_
 refine RP rfl rfl ?_
 refine RA rfl ?_
 refine RN ?_
 refine A.sub (KC 6 rfl (KC 1000003 rfl (KC 1000004 rfl (KC 1000014 rfl (KC 1000015 rfl (KC 1900000 rfl (KC 1900001 rfl KN))))))) ?_
 refine A.ret ?_
 exact End.ret1 rfl rfl (by first | exact Le.refl _ | exact Le.old _ _)
set_option maxHeartbeats 4000000 in
theorem SealsMessage_bad_b1 (f : Nat → Nat) (mk : List UInt8) (hf : By f) (hmk : mk.length = 32) (i : Int) (hi : i < 0 ∨ 4096 ≤ i) (s c : Nat) (hs : s < 4294967296) (hc : c < 18446744073709551616) (d : List UInt8) (hd : d.length = 32) (b : List UInt8) (h60 : b.length ≤ 60) (hb : b.length = 48) (hn : 4096 ≤ (num (b.take 4))) (h0 : 0 < byL b 0) : FnM Tryd.prog 3 tabs [.v (aggV (rowV 16 f ++ mk.map byteV ++ [.int .i64 i, nW s, nQ c])), .v (aggV (d.map byteV)), byt b] (.v (.bool true)) := by
 refine FnM.of Tryd.func3 rfl (by kernel_rfl) Tryd.ntmps3 (by simp) (by decide) (fun w => [(0, .v (aggV (rowV 16 f ++ mk.map byteV ++ [.int .i64 i, nW s, nQ c]))), (1, .v (aggV (d.map byteV))), (2, old w.heap.size (byt b)), (1900000, tab 0 (H8.list.map u32V)), (1900001, tab 1 (K64.map u32V))]) (fun w => (StartM.v rfl (StartM.v rfl (StartM.old rfl (StartM.m (by simp [tabs]) (by decide) (StartM.m (by simp [tabs]) (by decide) StartM.nil)))))) fun w₀ hM => ?_
 have htab := tabs_hi hM
 refine GS ?_
 refine TN 0 ?_
 refine RN ?_
 refine ⟨_, _, eff_box (n := 150) (d := 3) (k := 1000003) rfl (by decide), fun b3 hb3 => ?_⟩
 have hBb3 := hb3.1
 refine TN 1 ?_
 refine RN ?_
 refine ⟨_, _, eff_box (n := 150) (d := 4) (k := 1000004) rfl (by decide), fun b4 hb4 => ?_⟩
 have hBb4 := hb4.1
 refine TL ?_
 refine RA rfl ?_
 refine RN ?_
 refine A.seq ?_
 refine GS ?_
 refine TL ?_
 refine RM rfl ?_
 refine RS (ok_lenB Tryd.underlying34 rfl LA) ?_
 refine RBS rfl rfl rfl (.bool false) (by simp; omega) ?_
 refine RN ?_
 refine A.no rfl ?_
 refine A.skip ?_
 refine EN ?_
 refine GS ?_
 refine TL ?_
 refine RS (ok_field field32_1 (by decide) rfl) ?_
 refine RS (ok_loadV (s := 1000003) (by decide) Tryd.underlying3 rfl rfl rfl (SC_ix f hmk _ _ _)) ?_
 refine RS (ok_field field32_2 (by decide) rfl) ?_
 refine RS (ok_loadP (s := 1000003) (by decide) Tryd.underlying30 rfl size30 rfl rfl (by simp [rowV_length, hmk]) (SC_non f hmk _ _ _)) ?_
 refine RS (ok_loadA (s := 1000004) (by decide) Tryd.underlying33 rfl (size33.of (by rw [List.length_map, hd])) rfl rfl) ?_
 refine RS (ok_call (Message_bad i hi s c hs hc d hd) (A3 rfl rfl rfl)) ?_
 refine RM rfl ?_
 refine RS (ok_extractV rfl rfl) ?_
 refine RS (ok_extractV rfl rfl) ?_
 refine RA rfl ?_
 refine RA rfl ?_
 refine RN ?_
 refine A.seq ?_
 refine GS ?_
 refine TL ?_
 refine RS (ok_field field32_1 (by decide) rfl) ?_
 refine RS (ok_loadV (s := 1000003) (by decide) Tryd.underlying3 rfl rfl rfl (SC_ix f hmk _ _ _)) ?_
 refine RS (ok_call (bad9_yes i hi) (A1 rfl)) ?_
 refine RN ?_
 refine A.yes rfl ?_
 refine GS ?_
 refine TL ?_
 refine RM rfl ?_
 refine RM rfl ?_
 refine RS (ok_call (same9_fn [] 1) (Args.cons rfl bytes_nil_le (Args.cons rfl (Le.refl _) (Args.cons rfl byt_nil_le (A1 rfl))))) ?_
 refine RS (ok_not rfl) ?_; refine RZ (.bool false) (by rfl) ?_
 refine RN ?_
 refine A.no rfl ?_
 refine A.skip ?_
 refine EN ?_
 refine GS ?_
 refine TN 7 ?_
 refine RM rfl ?_
 refine RS (ok_call (Parse_err b 1 (by decide) (checkMessage_bad b hb hn)) (Args.cons rfl (Le.old _ _) Args.nil)) ?_
 refine RM rfl ?_
 refine RS (ok_extractV rfl rfl) ?_
 refine RS (ok_extractV rfl rfl) ?_
 refine RS (ok_extractV rfl rfl) ?_
 refine RS (ok_extractV rfl rfl) ?_
 refine RN ?_
 refine ⟨_, _, eff_alloc (n := 150) (d := 14) (k := 1000014) zero30 (by decide), fun b14 hb14 => ?_⟩
 have hBb14 := hb14.1
 refine TN 8 ?_
 refine RN ?_
 refine ⟨_, _, eff_alloc (n := 150) (d := 15) (k := 1000015) zero33 (by decide), fun b15 hb15 => ?_⟩
 have hBb15 := hb15.1
 have hlt_b4_b15 : b4 < b15 := hb15.2 1000004 _ _ _ rfl
 refine TF 10 ?_
 refine RA rfl ?_
 refine RN ?_
 refine ⟨_, eff_storeA (n := 150) (s := 1000014) (size30.of (rfl)) rfl rfl (rfl) hBb14 rfl (rfl) (LO 2 rfl (LV 13 rfl (LV 14 rfl (LV 15 rfl (LV 83 rfl (LV 84 rfl (LT 1000003 rfl (LT 1000004 rfl (LT 1000015 rfl (LeftS.cons (t := 1900000) rfl (Surv.tab (by omega)) (LeftS.cons (t := 1900001) rfl (Surv.tab (by omega)) LN))))))))))), ?_⟩
 refine TF 11 ?_
 refine RN ?_
 refine ⟨_, eff_storeA (n := 150) (s := 1000015) (size33.of (rfl)) rfl rfl (rfl) hBb15 rfl (rfl) (LO 2 rfl (LV 13 rfl (LV 14 rfl (LV 15 rfl (LV 84 rfl (LT 1000003 rfl (LB 1000004 rfl (LT 1000014 rfl (LeftS.cons (t := 1900000) rfl (Surv.tab (by omega)) (LeftS.cons (t := 1900001) rfl (Surv.tab (by omega)) LN)))))))))), ?_⟩
 refine TL ?_
 refine RA rfl ?_
 refine RN ?_
 refine A.sub (KC 2 rfl (KC 13 rfl (KC 14 rfl (KC 15 rfl (KC 16 rfl (KC 1000003 rfl (KC 1000004 rfl (KC 1000014 rfl (KC 1000015 rfl (KC 1900000 rfl (KC 1900001 rfl KN))))))))))) ?_
 refine A.seq ?_
 refine GS ?_
 refine TL ?_
 refine RM rfl ?_
 refine RBS rfl rfl rfl (.bool false) (by rfl) ?_
 refine RN ?_
 refine A.no rfl ?_
 refine A.skip ?_
 refine EN ?_
 refine GS ?_
 refine TL ?_
 refine RA rfl ?_
 refine RN ?_
 refine A.seq ?_
 refine GS ?_
 refine TL ?_
 refine RM rfl ?_
 refine RS (ok_lenB Tryd.underlying34 rfl LA) ?_
 refine RBS rfl rfl rfl (.bool false) (by simp; omega) ?_
 refine RN ?_
 refine A.no rfl ?_
 refine A.skip ?_
 refine EN ?_
 refine A.seq ?_
 refine GS ?_
 refine TL ?_
 refine RM rfl ?_
 refine RS (ok_lenB Tryd.underlying34 rfl LA) ?_
 refine RBS rfl rfl rfl (.bool false) (by simp; omega) ?_
 refine RN ?_
 refine A.no rfl ?_
 refine A.skip ?_
 refine EN ?_
 refine GS ?_
 refine TL ?_
 refine RM rfl ?_
 refine RM rfl ?_
 refine RBS rfl rfl rfl (.bool true) (by rfl) ?_
 refine RM rfl ?_
 refine RQ (ok_move rfl) ?_
 refine RQ (ok_lenB Tryd.underlying34 rfl LA) ?_
 refine RQ (ok_bin rfl rfl rfl) ?_; refine RZ (.bool false) (by simp; omega) ?_
 refine RQ (ok_move rfl) ?_
 refine RQ (ok_move rfl) ?_
 refine RQ (ok_index (d := byteD (b.getD 0 0)) Tryd.underlying34 info5 rfl (Le.old _ _) rfl (by decide) (by exact byteD_getD (by omega))) ?_
 refine RQ (ok_load Tryd.underlying5 rfl rfl) ?_; refine RZ (nB (byL b 0)) (by rfl) ?_
 refine RQ (ok_bin rfl rfl rfl) ?_; refine RZ (.bool true) (by simp; omega) ?_
 refine RQ (ok_pick rfl rfl) ?_
 refine RQ (ok_move rfl) ?_
 refine RK ?_
 refine RK ?_
 refine RK ?_
 refine RK ?_
 refine RQ (ok_pick rfl rfl) ?_
 refine RQ (ok_move rfl) ?_
 refine RK ?_
 refine RK ?_
 refine RK ?_
 refine RK ?_
 refine RQ (ok_pick rfl rfl) ?_
 refine RP rfl rfl ?_
 refine RM rfl ?_
 refine RQ (ok_move rfl) ?_
 refine RQ (ok_bin rfl rfl rfl) ?_; refine RZ (.bool true) (by rfl) ?_
 refine RP rfl rfl ?_
 refine RM rfl ?_
 refine RQ (ok_loadA (s := 1000014) (by decide) Tryd.underlying30 rfl (size30.of (rfl)) rfl rfl) ?_
 refine RQ (ok_lit [] ([.int .u32 0] ++ [.int .u64 0]) (fun _ _ => rfl) (by kernel_rfl)) ?_
 refine RQ (ok_eqlT (n := 3) true flatN (by decide) (by kernel_rfl) (by kernel_rfl) rfl rfl (kinN _ _) (kinN _ _) ⟨fun _ => rfl, fun _ => rfl⟩) ?_; refine RZ (.bool true) (by rfl) ?_
 refine RP rfl rfl ?_
 refine RM rfl ?_
 refine RQ (ok_loadA (s := 1000015) (by decide) Tryd.underlying33 rfl (size33.of (rfl)) rfl rfl) ?_
 refine RQ (ok_litP [] Tryd.underlying33 info5 zero33 (by decide) trivial rfl) ?_; refine RZ (aggV (List.replicate 32 (.int .u8 0))) (by rfl) ?_
 refine RQ (ok_eqlT (n := 3) true flat33 (by decide) (by kernel_rfl) (by kernel_rfl) rfl rfl (kinZ 32) (kinZ 32) ⟨fun _ => rfl, fun _ => rfl⟩) ?_; refine RZ (.bool true) (by rfl) ?_
 refine RP rfl rfl ?_
 refine RM rfl ?_
 refine RQ (ok_callM lives9_fn (Sub.cons rfl (Sub.cons rfl KN)) tabs_v Args.nil) ?_
 refine RP rfl rfl ?_
 refine RA rfl ?_
 refine RN ?_
 refine A.sub (KC 6 rfl (KC 1000003 rfl (KC 1000004 rfl (KC 1000014 rfl (KC 1000015 rfl (KC 1900000 rfl (KC 1900001 rfl KN))))))) ?_
 refine A.ret ?_
 exact End.ret1 rfl rfl (by first | exact Le.refl _ | exact Le.old _ _)
set_option maxHeartbeats 4000000 in
theorem SealsMessage_bad_b2 (f : Nat → Nat) (mk : List UInt8) (hf : By f) (hmk : mk.length = 32) (i : Int) (hi : i < 0 ∨ 4096 ≤ i) (s c : Nat) (hs : s < 4294967296) (hc : c < 18446744073709551616) (d : List UInt8) (hd : d.length = 32) (b : List UInt8) (h60 : b.length ≤ 60) (hb : b.length = 48) (hn : 4096 ≤ (num (b.take 4))) (h0 : ¬ 0 < byL b 0) (h1 : 0 < byL b 1) : FnM Tryd.prog 3 tabs [.v (aggV (rowV 16 f ++ mk.map byteV ++ [.int .i64 i, nW s, nQ c])), .v (aggV (d.map byteV)), byt b] (.v (.bool true)) := by
 refine FnM.of Tryd.func3 rfl (by kernel_rfl) Tryd.ntmps3 (by simp) (by decide) (fun w => [(0, .v (aggV (rowV 16 f ++ mk.map byteV ++ [.int .i64 i, nW s, nQ c]))), (1, .v (aggV (d.map byteV))), (2, old w.heap.size (byt b)), (1900000, tab 0 (H8.list.map u32V)), (1900001, tab 1 (K64.map u32V))]) (fun w => (StartM.v rfl (StartM.v rfl (StartM.old rfl (StartM.m (by simp [tabs]) (by decide) (StartM.m (by simp [tabs]) (by decide) StartM.nil)))))) fun w₀ hM => ?_
 have htab := tabs_hi hM
 refine GS ?_
 refine TN 0 ?_
 refine RN ?_
 refine ⟨_, _, eff_box (n := 150) (d := 3) (k := 1000003) rfl (by decide), fun b3 hb3 => ?_⟩
 have hBb3 := hb3.1
 refine TN 1 ?_
 refine RN ?_
 refine ⟨_, _, eff_box (n := 150) (d := 4) (k := 1000004) rfl (by decide), fun b4 hb4 => ?_⟩
 have hBb4 := hb4.1
 refine TL ?_
 refine RA rfl ?_
 refine RN ?_
 refine A.seq ?_
 refine GS ?_
 refine TL ?_
 refine RM rfl ?_
 refine RS (ok_lenB Tryd.underlying34 rfl LA) ?_
 refine RBS rfl rfl rfl (.bool false) (by simp; omega) ?_
 refine RN ?_
 refine A.no rfl ?_
 refine A.skip ?_
 refine EN ?_
 refine GS ?_
 refine TL ?_
 refine RS (ok_field field32_1 (by decide) rfl) ?_
 refine RS (ok_loadV (s := 1000003) (by decide) Tryd.underlying3 rfl rfl rfl (SC_ix f hmk _ _ _)) ?_
 refine RS (ok_field field32_2 (by decide) rfl) ?_
 refine RS (ok_loadP (s := 1000003) (by decide) Tryd.underlying30 rfl size30 rfl rfl (by simp [rowV_length, hmk]) (SC_non f hmk _ _ _)) ?_
 refine RS (ok_loadA (s := 1000004) (by decide) Tryd.underlying33 rfl (size33.of (by rw [List.length_map, hd])) rfl rfl) ?_
 refine RS (ok_call (Message_bad i hi s c hs hc d hd) (A3 rfl rfl rfl)) ?_
 refine RM rfl ?_
 refine RS (ok_extractV rfl rfl) ?_
 refine RS (ok_extractV rfl rfl) ?_
 refine RA rfl ?_
 refine RA rfl ?_
 refine RN ?_
 refine A.seq ?_
 refine GS ?_
 refine TL ?_
 refine RS (ok_field field32_1 (by decide) rfl) ?_
 refine RS (ok_loadV (s := 1000003) (by decide) Tryd.underlying3 rfl rfl rfl (SC_ix f hmk _ _ _)) ?_
 refine RS (ok_call (bad9_yes i hi) (A1 rfl)) ?_
 refine RN ?_
 refine A.yes rfl ?_
 refine GS ?_
 refine TL ?_
 refine RM rfl ?_
 refine RM rfl ?_
 refine RS (ok_call (same9_fn [] 1) (Args.cons rfl bytes_nil_le (Args.cons rfl (Le.refl _) (Args.cons rfl byt_nil_le (A1 rfl))))) ?_
 refine RS (ok_not rfl) ?_; refine RZ (.bool false) (by rfl) ?_
 refine RN ?_
 refine A.no rfl ?_
 refine A.skip ?_
 refine EN ?_
 refine GS ?_
 refine TN 7 ?_
 refine RM rfl ?_
 refine RS (ok_call (Parse_err b 1 (by decide) (checkMessage_bad b hb hn)) (Args.cons rfl (Le.old _ _) Args.nil)) ?_
 refine RM rfl ?_
 refine RS (ok_extractV rfl rfl) ?_
 refine RS (ok_extractV rfl rfl) ?_
 refine RS (ok_extractV rfl rfl) ?_
 refine RS (ok_extractV rfl rfl) ?_
 refine RN ?_
 refine ⟨_, _, eff_alloc (n := 150) (d := 14) (k := 1000014) zero30 (by decide), fun b14 hb14 => ?_⟩
 have hBb14 := hb14.1
 refine TN 8 ?_
 refine RN ?_
 refine ⟨_, _, eff_alloc (n := 150) (d := 15) (k := 1000015) zero33 (by decide), fun b15 hb15 => ?_⟩
 have hBb15 := hb15.1
 have hlt_b4_b15 : b4 < b15 := hb15.2 1000004 _ _ _ rfl
 refine TF 10 ?_
 refine RA rfl ?_
 refine RN ?_
 refine ⟨_, eff_storeA (n := 150) (s := 1000014) (size30.of (rfl)) rfl rfl (rfl) hBb14 rfl (rfl) (LO 2 rfl (LV 13 rfl (LV 14 rfl (LV 15 rfl (LV 83 rfl (LV 84 rfl (LT 1000003 rfl (LT 1000004 rfl (LT 1000015 rfl (LeftS.cons (t := 1900000) rfl (Surv.tab (by omega)) (LeftS.cons (t := 1900001) rfl (Surv.tab (by omega)) LN))))))))))), ?_⟩
 refine TF 11 ?_
 refine RN ?_
 refine ⟨_, eff_storeA (n := 150) (s := 1000015) (size33.of (rfl)) rfl rfl (rfl) hBb15 rfl (rfl) (LO 2 rfl (LV 13 rfl (LV 14 rfl (LV 15 rfl (LV 84 rfl (LT 1000003 rfl (LB 1000004 rfl (LT 1000014 rfl (LeftS.cons (t := 1900000) rfl (Surv.tab (by omega)) (LeftS.cons (t := 1900001) rfl (Surv.tab (by omega)) LN)))))))))), ?_⟩
 refine TL ?_
 refine RA rfl ?_
 refine RN ?_
 refine A.sub (KC 2 rfl (KC 13 rfl (KC 14 rfl (KC 15 rfl (KC 16 rfl (KC 1000003 rfl (KC 1000004 rfl (KC 1000014 rfl (KC 1000015 rfl (KC 1900000 rfl (KC 1900001 rfl KN))))))))))) ?_
 refine A.seq ?_
 refine GS ?_
 refine TL ?_
 refine RM rfl ?_
 refine RBS rfl rfl rfl (.bool false) (by rfl) ?_
 refine RN ?_
 refine A.no rfl ?_
 refine A.skip ?_
 refine EN ?_
 refine GS ?_
 refine TL ?_
 refine RA rfl ?_
 refine RN ?_
 refine A.seq ?_
 refine GS ?_
 refine TL ?_
 refine RM rfl ?_
 refine RS (ok_lenB Tryd.underlying34 rfl LA) ?_
 refine RBS rfl rfl rfl (.bool false) (by simp; omega) ?_
 refine RN ?_
 refine A.no rfl ?_
 refine A.skip ?_
 refine EN ?_
 refine A.seq ?_
 refine GS ?_
 refine TL ?_
 refine RM rfl ?_
 refine RS (ok_lenB Tryd.underlying34 rfl LA) ?_
 refine RBS rfl rfl rfl (.bool false) (by simp; omega) ?_
 refine RN ?_
 refine A.no rfl ?_
 refine A.skip ?_
 refine EN ?_
 refine GS ?_
 refine TL ?_
 refine RM rfl ?_
 refine RM rfl ?_
 refine RBS rfl rfl rfl (.bool true) (by rfl) ?_
 refine RM rfl ?_
 refine RQ (ok_move rfl) ?_
 refine RQ (ok_lenB Tryd.underlying34 rfl LA) ?_
 refine RQ (ok_bin rfl rfl rfl) ?_; refine RZ (.bool false) (by simp; omega) ?_
 refine RQ (ok_move rfl) ?_
 refine RQ (ok_move rfl) ?_
 refine RQ (ok_index (d := byteD (b.getD 0 0)) Tryd.underlying34 info5 rfl (Le.old _ _) rfl (by decide) (by exact byteD_getD (by omega))) ?_
 refine RQ (ok_load Tryd.underlying5 rfl rfl) ?_; refine RZ (nB (byL b 0)) (by rfl) ?_
 refine RQ (ok_bin rfl rfl rfl) ?_; refine RZ (.bool false) (by simp; omega) ?_
 refine RQ (ok_pick rfl rfl) ?_
 refine RQ (ok_move rfl) ?_
 refine RQ (ok_move rfl) ?_
 refine RQ (ok_index (d := byteD (b.getD 1 0)) Tryd.underlying34 info5 rfl (Le.old _ _) rfl (by decide) (by exact byteD_getD (by omega))) ?_
 refine RQ (ok_load Tryd.underlying5 rfl rfl) ?_; refine RZ (nB (byL b 1)) (by rfl) ?_
 refine RQ (ok_bin rfl rfl rfl) ?_; refine RZ (.bool true) (by simp; omega) ?_
 refine RQ (ok_pick rfl rfl) ?_
 refine RQ (ok_move rfl) ?_
 refine RK ?_
 refine RK ?_
 refine RK ?_
 refine RK ?_
 refine RQ (ok_pick rfl rfl) ?_
 refine RP rfl rfl ?_
 refine RM rfl ?_
 refine RQ (ok_move rfl) ?_
 refine RQ (ok_bin rfl rfl rfl) ?_; refine RZ (.bool true) (by rfl) ?_
 refine RP rfl rfl ?_
 refine RM rfl ?_
 refine RQ (ok_loadA (s := 1000014) (by decide) Tryd.underlying30 rfl (size30.of (rfl)) rfl rfl) ?_
 refine RQ (ok_lit [] ([.int .u32 0] ++ [.int .u64 0]) (fun _ _ => rfl) (by kernel_rfl)) ?_
 refine RQ (ok_eqlT (n := 3) true flatN (by decide) (by kernel_rfl) (by kernel_rfl) rfl rfl (kinN _ _) (kinN _ _) ⟨fun _ => rfl, fun _ => rfl⟩) ?_; refine RZ (.bool true) (by rfl) ?_
 refine RP rfl rfl ?_
 refine RM rfl ?_
 refine RQ (ok_loadA (s := 1000015) (by decide) Tryd.underlying33 rfl (size33.of (rfl)) rfl rfl) ?_
 refine RQ (ok_litP [] Tryd.underlying33 info5 zero33 (by decide) trivial rfl) ?_; refine RZ (aggV (List.replicate 32 (.int .u8 0))) (by rfl) ?_
 refine RQ (ok_eqlT (n := 3) true flat33 (by decide) (by kernel_rfl) (by kernel_rfl) rfl rfl (kinZ 32) (kinZ 32) ⟨fun _ => rfl, fun _ => rfl⟩) ?_; refine RZ (.bool true) (by rfl) ?_
 refine RP rfl rfl ?_
 refine RM rfl ?_
 refine RQ (ok_callM lives9_fn (Sub.cons rfl (Sub.cons rfl KN)) tabs_v Args.nil) ?_
 refine RP rfl rfl ?_
 refine RA rfl ?_
 refine RN ?_
 refine A.sub (KC 6 rfl (KC 1000003 rfl (KC 1000004 rfl (KC 1000014 rfl (KC 1000015 rfl (KC 1900000 rfl (KC 1900001 rfl KN))))))) ?_
 refine A.ret ?_
 exact End.ret1 rfl rfl (by first | exact Le.refl _ | exact Le.old _ _)
set_option maxHeartbeats 4000000 in
theorem SealsMessage_bad_b3 (f : Nat → Nat) (mk : List UInt8) (hf : By f) (hmk : mk.length = 32) (i : Int) (hi : i < 0 ∨ 4096 ≤ i) (s c : Nat) (hs : s < 4294967296) (hc : c < 18446744073709551616) (d : List UInt8) (hd : d.length = 32) (b : List UInt8) (h60 : b.length ≤ 60) (hb : b.length = 48) (hn : 4096 ≤ (num (b.take 4))) (h0 : ¬ 0 < byL b 0) (h1 : ¬ 0 < byL b 1) (h2 : 15 < byL b 2) : FnM Tryd.prog 3 tabs [.v (aggV (rowV 16 f ++ mk.map byteV ++ [.int .i64 i, nW s, nQ c])), .v (aggV (d.map byteV)), byt b] (.v (.bool true)) := by
 refine FnM.of Tryd.func3 rfl (by kernel_rfl) Tryd.ntmps3 (by simp) (by decide) (fun w => [(0, .v (aggV (rowV 16 f ++ mk.map byteV ++ [.int .i64 i, nW s, nQ c]))), (1, .v (aggV (d.map byteV))), (2, old w.heap.size (byt b)), (1900000, tab 0 (H8.list.map u32V)), (1900001, tab 1 (K64.map u32V))]) (fun w => (StartM.v rfl (StartM.v rfl (StartM.old rfl (StartM.m (by simp [tabs]) (by decide) (StartM.m (by simp [tabs]) (by decide) StartM.nil)))))) fun w₀ hM => ?_
 have htab := tabs_hi hM
 refine GS ?_
 refine TN 0 ?_
 refine RN ?_
 refine ⟨_, _, eff_box (n := 150) (d := 3) (k := 1000003) rfl (by decide), fun b3 hb3 => ?_⟩
 have hBb3 := hb3.1
 refine TN 1 ?_
 refine RN ?_
 refine ⟨_, _, eff_box (n := 150) (d := 4) (k := 1000004) rfl (by decide), fun b4 hb4 => ?_⟩
 have hBb4 := hb4.1
 refine TL ?_
 refine RA rfl ?_
 refine RN ?_
 refine A.seq ?_
 refine GS ?_
 refine TL ?_
 refine RM rfl ?_
 refine RS (ok_lenB Tryd.underlying34 rfl LA) ?_
 refine RBS rfl rfl rfl (.bool false) (by simp; omega) ?_
 refine RN ?_
 refine A.no rfl ?_
 refine A.skip ?_
 refine EN ?_
 refine GS ?_
 refine TL ?_
 refine RS (ok_field field32_1 (by decide) rfl) ?_
 refine RS (ok_loadV (s := 1000003) (by decide) Tryd.underlying3 rfl rfl rfl (SC_ix f hmk _ _ _)) ?_
 refine RS (ok_field field32_2 (by decide) rfl) ?_
 refine RS (ok_loadP (s := 1000003) (by decide) Tryd.underlying30 rfl size30 rfl rfl (by simp [rowV_length, hmk]) (SC_non f hmk _ _ _)) ?_
 refine RS (ok_loadA (s := 1000004) (by decide) Tryd.underlying33 rfl (size33.of (by rw [List.length_map, hd])) rfl rfl) ?_
 refine RS (ok_call (Message_bad i hi s c hs hc d hd) (A3 rfl rfl rfl)) ?_
 refine RM rfl ?_
 refine RS (ok_extractV rfl rfl) ?_
 refine RS (ok_extractV rfl rfl) ?_
 refine RA rfl ?_
 refine RA rfl ?_
 refine RN ?_
 refine A.seq ?_
 refine GS ?_
 refine TL ?_
 refine RS (ok_field field32_1 (by decide) rfl) ?_
 refine RS (ok_loadV (s := 1000003) (by decide) Tryd.underlying3 rfl rfl rfl (SC_ix f hmk _ _ _)) ?_
 refine RS (ok_call (bad9_yes i hi) (A1 rfl)) ?_
 refine RN ?_
 refine A.yes rfl ?_
 refine GS ?_
 refine TL ?_
 refine RM rfl ?_
 refine RM rfl ?_
 refine RS (ok_call (same9_fn [] 1) (Args.cons rfl bytes_nil_le (Args.cons rfl (Le.refl _) (Args.cons rfl byt_nil_le (A1 rfl))))) ?_
 refine RS (ok_not rfl) ?_; refine RZ (.bool false) (by rfl) ?_
 refine RN ?_
 refine A.no rfl ?_
 refine A.skip ?_
 refine EN ?_
 refine GS ?_
 refine TN 7 ?_
 refine RM rfl ?_
 refine RS (ok_call (Parse_err b 1 (by decide) (checkMessage_bad b hb hn)) (Args.cons rfl (Le.old _ _) Args.nil)) ?_
 refine RM rfl ?_
 refine RS (ok_extractV rfl rfl) ?_
 refine RS (ok_extractV rfl rfl) ?_
 refine RS (ok_extractV rfl rfl) ?_
 refine RS (ok_extractV rfl rfl) ?_
 refine RN ?_
 refine ⟨_, _, eff_alloc (n := 150) (d := 14) (k := 1000014) zero30 (by decide), fun b14 hb14 => ?_⟩
 have hBb14 := hb14.1
 refine TN 8 ?_
 refine RN ?_
 refine ⟨_, _, eff_alloc (n := 150) (d := 15) (k := 1000015) zero33 (by decide), fun b15 hb15 => ?_⟩
 have hBb15 := hb15.1
 have hlt_b4_b15 : b4 < b15 := hb15.2 1000004 _ _ _ rfl
 refine TF 10 ?_
 refine RA rfl ?_
 refine RN ?_
 refine ⟨_, eff_storeA (n := 150) (s := 1000014) (size30.of (rfl)) rfl rfl (rfl) hBb14 rfl (rfl) (LO 2 rfl (LV 13 rfl (LV 14 rfl (LV 15 rfl (LV 83 rfl (LV 84 rfl (LT 1000003 rfl (LT 1000004 rfl (LT 1000015 rfl (LeftS.cons (t := 1900000) rfl (Surv.tab (by omega)) (LeftS.cons (t := 1900001) rfl (Surv.tab (by omega)) LN))))))))))), ?_⟩
 refine TF 11 ?_
 refine RN ?_
 refine ⟨_, eff_storeA (n := 150) (s := 1000015) (size33.of (rfl)) rfl rfl (rfl) hBb15 rfl (rfl) (LO 2 rfl (LV 13 rfl (LV 14 rfl (LV 15 rfl (LV 84 rfl (LT 1000003 rfl (LB 1000004 rfl (LT 1000014 rfl (LeftS.cons (t := 1900000) rfl (Surv.tab (by omega)) (LeftS.cons (t := 1900001) rfl (Surv.tab (by omega)) LN)))))))))), ?_⟩
 refine TL ?_
 refine RA rfl ?_
 refine RN ?_
 refine A.sub (KC 2 rfl (KC 13 rfl (KC 14 rfl (KC 15 rfl (KC 16 rfl (KC 1000003 rfl (KC 1000004 rfl (KC 1000014 rfl (KC 1000015 rfl (KC 1900000 rfl (KC 1900001 rfl KN))))))))))) ?_
 refine A.seq ?_
 refine GS ?_
 refine TL ?_
 refine RM rfl ?_
 refine RBS rfl rfl rfl (.bool false) (by rfl) ?_
 refine RN ?_
 refine A.no rfl ?_
 refine A.skip ?_
 refine EN ?_
 refine GS ?_
 refine TL ?_
 refine RA rfl ?_
 refine RN ?_
 refine A.seq ?_
 refine GS ?_
 refine TL ?_
 refine RM rfl ?_
 refine RS (ok_lenB Tryd.underlying34 rfl LA) ?_
 refine RBS rfl rfl rfl (.bool false) (by simp; omega) ?_
 refine RN ?_
 refine A.no rfl ?_
 refine A.skip ?_
 refine EN ?_
 refine A.seq ?_
 refine GS ?_
 refine TL ?_
 refine RM rfl ?_
 refine RS (ok_lenB Tryd.underlying34 rfl LA) ?_
 refine RBS rfl rfl rfl (.bool false) (by simp; omega) ?_
 refine RN ?_
 refine A.no rfl ?_
 refine A.skip ?_
 refine EN ?_
 refine GS ?_
 refine TL ?_
 refine RM rfl ?_
 refine RM rfl ?_
 refine RBS rfl rfl rfl (.bool true) (by rfl) ?_
 refine RM rfl ?_
 refine RQ (ok_move rfl) ?_
 refine RQ (ok_lenB Tryd.underlying34 rfl LA) ?_
 refine RQ (ok_bin rfl rfl rfl) ?_; refine RZ (.bool false) (by simp; omega) ?_
 refine RQ (ok_move rfl) ?_
 refine RQ (ok_move rfl) ?_
 refine RQ (ok_index (d := byteD (b.getD 0 0)) Tryd.underlying34 info5 rfl (Le.old _ _) rfl (by decide) (by exact byteD_getD (by omega))) ?_
 refine RQ (ok_load Tryd.underlying5 rfl rfl) ?_; refine RZ (nB (byL b 0)) (by rfl) ?_
 refine RQ (ok_bin rfl rfl rfl) ?_; refine RZ (.bool false) (by simp; omega) ?_
 refine RQ (ok_pick rfl rfl) ?_
 refine RQ (ok_move rfl) ?_
 refine RQ (ok_move rfl) ?_
 refine RQ (ok_index (d := byteD (b.getD 1 0)) Tryd.underlying34 info5 rfl (Le.old _ _) rfl (by decide) (by exact byteD_getD (by omega))) ?_
 refine RQ (ok_load Tryd.underlying5 rfl rfl) ?_; refine RZ (nB (byL b 1)) (by rfl) ?_
 refine RQ (ok_bin rfl rfl rfl) ?_; refine RZ (.bool false) (by simp; omega) ?_
 refine RQ (ok_pick rfl rfl) ?_
 refine RQ (ok_move rfl) ?_
 refine RQ (ok_move rfl) ?_
 refine RQ (ok_index (d := byteD (b.getD 2 0)) Tryd.underlying34 info5 rfl (Le.old _ _) rfl (by decide) (by exact byteD_getD (by omega))) ?_
 refine RQ (ok_load Tryd.underlying5 rfl rfl) ?_; refine RZ (nB (byL b 2)) (by rfl) ?_
 refine RQ (ok_bin rfl rfl rfl) ?_; refine RZ (.bool true) (by simp; omega) ?_
 refine RQ (ok_pick rfl rfl) ?_
 refine RP rfl rfl ?_
 refine RM rfl ?_
 refine RQ (ok_move rfl) ?_
 refine RQ (ok_bin rfl rfl rfl) ?_; refine RZ (.bool true) (by rfl) ?_
 refine RP rfl rfl ?_
 refine RM rfl ?_
 refine RQ (ok_loadA (s := 1000014) (by decide) Tryd.underlying30 rfl (size30.of (rfl)) rfl rfl) ?_
 refine RQ (ok_lit [] ([.int .u32 0] ++ [.int .u64 0]) (fun _ _ => rfl) (by kernel_rfl)) ?_
 refine RQ (ok_eqlT (n := 3) true flatN (by decide) (by kernel_rfl) (by kernel_rfl) rfl rfl (kinN _ _) (kinN _ _) ⟨fun _ => rfl, fun _ => rfl⟩) ?_; refine RZ (.bool true) (by rfl) ?_
 refine RP rfl rfl ?_
 refine RM rfl ?_
 refine RQ (ok_loadA (s := 1000015) (by decide) Tryd.underlying33 rfl (size33.of (rfl)) rfl rfl) ?_
 refine RQ (ok_litP [] Tryd.underlying33 info5 zero33 (by decide) trivial rfl) ?_; refine RZ (aggV (List.replicate 32 (.int .u8 0))) (by rfl) ?_
 refine RQ (ok_eqlT (n := 3) true flat33 (by decide) (by kernel_rfl) (by kernel_rfl) rfl rfl (kinZ 32) (kinZ 32) ⟨fun _ => rfl, fun _ => rfl⟩) ?_; refine RZ (.bool true) (by rfl) ?_
 refine RP rfl rfl ?_
 refine RM rfl ?_
 refine RQ (ok_callM lives9_fn (Sub.cons rfl (Sub.cons rfl KN)) tabs_v Args.nil) ?_
 refine RP rfl rfl ?_
 refine RA rfl ?_
 refine RN ?_
 refine A.sub (KC 6 rfl (KC 1000003 rfl (KC 1000004 rfl (KC 1000014 rfl (KC 1000015 rfl (KC 1900000 rfl (KC 1900001 rfl KN))))))) ?_
 refine A.ret ?_
 exact End.ret1 rfl rfl (by first | exact Le.refl _ | exact Le.old _ _)
set_option maxHeartbeats 4000000 in
theorem SealsMessage_good_ok (f : Nat → Nat) (mk : List UInt8) (hf : By f) (hmk : mk.length = 32) (i : Nat) (hi : i < 4096) (s c : Nat) (hs : s < 4294967296) (hc : c < 18446744073709551616) (d : List UInt8) (hd : d.length = 32) (b : List UInt8) (h60 : b.length ≤ 60) (hb : b.length = 48) (hn : (num (b.take 4)) < 4096) : FnM Tryd.prog 3 tabs [.v (aggV (rowV 16 f ++ mk.map byteV ++ [nI i, nW s, nQ c])), .v (aggV (d.map byteV)), byt b] (.v (.bool true)) := by
 have hd16 : (b.drop 16).length = 32 := by simp [hb]
 refine FnM.of Tryd.func3 rfl (by kernel_rfl) Tryd.ntmps3 (by simp) (by decide) (fun w => [(0, .v (aggV (rowV 16 f ++ mk.map byteV ++ [nI i, nW s, nQ c]))), (1, .v (aggV (d.map byteV))), (2, old w.heap.size (byt b)), (1900000, tab 0 (H8.list.map u32V)), (1900001, tab 1 (K64.map u32V))]) (fun w => (StartM.v rfl (StartM.v rfl (StartM.old rfl (StartM.m (by simp [tabs]) (by decide) (StartM.m (by simp [tabs]) (by decide) StartM.nil)))))) fun w₀ hM => ?_
 have htab := tabs_hi hM
 refine GS ?_
 refine TN 0 ?_
 refine RN ?_
 refine ⟨_, _, eff_box (n := 150) (d := 3) (k := 1000003) rfl (by decide), fun b3 hb3 => ?_⟩
 have hBb3 := hb3.1
 refine TN 1 ?_
 refine RN ?_
 refine ⟨_, _, eff_box (n := 150) (d := 4) (k := 1000004) rfl (by decide), fun b4 hb4 => ?_⟩
 have hBb4 := hb4.1
 refine TL ?_
 refine RA rfl ?_
 refine RN ?_
 refine A.seq ?_
 refine GS ?_
 refine TL ?_
 refine RM rfl ?_
 refine RS (ok_lenB Tryd.underlying34 rfl LA) ?_
 refine RBS rfl rfl rfl (.bool false) (by simp; omega) ?_
 refine RN ?_
 refine A.no rfl ?_
 refine A.skip ?_
 refine EN ?_
 refine GS ?_
 refine TN 5 ?_
 refine RS (ok_field field32_1 (by decide) rfl) ?_
 refine RS (ok_loadV (s := 1000003) (by decide) Tryd.underlying3 rfl rfl rfl (SC_ix f hmk _ _ _)) ?_
 refine RS (ok_field field32_2 (by decide) rfl) ?_
 refine RS (ok_loadP (s := 1000003) (by decide) Tryd.underlying30 rfl size30 rfl rfl (by simp [rowV_length, hmk]) (SC_non f hmk _ _ _)) ?_
 refine RS (ok_loadA (s := 1000004) (by decide) Tryd.underlying33 rfl (size33.of (by rw [List.length_map, hd])) rfl rfl) ?_
 refine RN ?_
 refine ⟨_, _, eff_name (n := 150) (d := 30) (k := 1000030) rfl rfl (fun B' => ok_callB (Message_ok i s c hs hc d hd hi) newD_mono (A3 rfl rfl rfl)) (by decide) (by decide), fun b30 hb30 => ?_⟩
 have hBb30 := hb30.1
 have hlt_b3_b30 : b3 < b30 := hb30.2 1000003 _ _ _ rfl
 have hlt_b4_b30 : b4 < b30 := hb30.2 1000004 _ _ _ rfl
 refine TL ?_
 refine RM rfl ?_
 refine RS (ok_extractV rfl rfl) ?_
 refine RS (ok_extractV rfl rfl) ?_
 refine RA rfl ?_
 refine RA rfl ?_
 refine RN ?_
 refine A.seq ?_
 refine GS ?_
 refine TL ?_
 refine RS (ok_field field32_1 (by decide) rfl) ?_
 refine RS (ok_loadV (s := 1000003) (by decide) Tryd.underlying3 rfl rfl rfl (SC_ix f hmk _ _ _)) ?_
 refine RS (ok_call (bad9_no (i : Int) (by omega) (by omega)) (A1 rfl)) ?_
 refine RN ?_
 refine A.no rfl ?_
 refine GS ?_
 refine TN 7 ?_
 refine RS (ok_moveB (s := 1000030) (msgL i s c d) (by decide) rfl rfl (msgL_length hd).symm (by decide) (by decide) (by rw [List.drop_zero, List.take_of_length_le (by rw [List.length_map, msgL_length hd]; decide)])) ?_
 refine RS (ok_call (Parse_msg i s c hs hc d hd hi) (A1 rfl)) ?_
 refine RM rfl ?_
 refine RS (ok_extractV rfl rfl) ?_
 refine RS (ok_extractV rfl rfl) ?_
 refine RS (ok_extractV rfl rfl) ?_
 refine RS (ok_extractV rfl rfl) ?_
 refine RN ?_
 refine ⟨_, _, eff_alloc (n := 150) (d := 10) (k := 1000010) zero30 (by decide), fun b10 hb10 => ?_⟩
 have hBb10 := hb10.1
 refine TN 8 ?_
 refine RN ?_
 refine ⟨_, _, eff_alloc (n := 150) (d := 11) (k := 1000011) zero33 (by decide), fun b11 hb11 => ?_⟩
 have hBb11 := hb11.1
 have hlt_b4_b11 : b4 < b11 := hb11.2 1000004 _ _ _ rfl
 refine TF 10 ?_
 refine RA rfl ?_
 refine RN ?_
 refine ⟨_, eff_storeA (n := 150) (s := 1000010) (size30.of (rfl)) rfl rfl (rfl) hBb10 rfl (rfl) (LO 2 rfl (LV 3 rfl (LV 4 rfl (LV 7 rfl (LV 8 rfl (LV 9 rfl (LV 10 rfl (LV 11 rfl (LV 45 rfl (LV 46 rfl (LT 1000003 rfl (LT 1000004 rfl (LT 1000011 rfl (LT 1000030 rfl (LeftS.cons (t := 1900000) rfl (Surv.tab (by omega)) (LeftS.cons (t := 1900001) rfl (Surv.tab (by omega)) LN)))))))))))))))), ?_⟩
 refine TF 11 ?_
 refine RN ?_
 refine ⟨_, eff_storeA (n := 150) (s := 1000011) (size33.of (by rw [List.length_map, hd])) rfl rfl (all_bytes _) hBb11 rfl (by simp [hd]) (LO 2 rfl (LV 3 rfl (LV 4 rfl (LV 7 rfl (LV 8 rfl (LV 9 rfl (LV 10 rfl (LV 11 rfl (LV 46 rfl (LT 1000003 rfl (LB 1000004 rfl (LT 1000010 rfl (LT 1000030 rfl (LeftS.cons (t := 1900000) rfl (Surv.tab (by omega)) (LeftS.cons (t := 1900001) rfl (Surv.tab (by omega)) LN))))))))))))))), ?_⟩
 refine TL ?_
 refine RA rfl ?_
 refine RN ?_
 refine A.sub (KC 2 rfl (KC 3 rfl (KC 4 rfl (KC 7 rfl (KC 8 rfl (KC 9 rfl (KC 10 rfl (KC 11 rfl (KC 12 rfl (KC 1000003 rfl (KC 1000004 rfl (KC 1000010 rfl (KC 1000011 rfl (KC 1000030 rfl (KC 1900000 rfl (KC 1900001 rfl KN)))))))))))))))) ?_
 refine GS ?_
 refine TL ?_
 refine RS ((OpOk.fact (ok_move rfl) (d := bytes (msgL i s c d) 48) (s := 1000030) (by decide) rfl (slice_bytes (msgL i s c d) (msgL_length hd).symm (by decide) (by decide) (by rw [List.drop_zero, List.take_of_length_le (by rw [List.length_map, msgL_length hd]; decide)]))).le (d' := bytes (msgL i s c d) (msgL i s c d).length) (Le.eq (by rw [msgL_length hd]))) ?_
 refine RM rfl ?_
 refine RS (ok_field field32_1 (by decide) rfl) ?_
 refine RS (ok_loadV (s := 1000003) (by decide) Tryd.underlying3 rfl rfl rfl (SC_ix f hmk _ _ _)) ?_
 refine RS (ok_field field32_2 (by decide) rfl) ?_
 refine RS (ok_loadP (s := 1000003) (by decide) Tryd.underlying30 rfl size30 rfl rfl (by simp [rowV_length, hmk]) (SC_non f hmk _ _ _)) ?_
 refine RS (ok_loadA (s := 1000004) (by decide) Tryd.underlying33 rfl (size33.of (by rw [List.length_map, hd])) rfl rfl) ?_
 refine RS (ok_call (ref9Message_fn i s c hs hc d hd hi) (A3 rfl rfl rfl)) ?_
 refine RS (ok_call (same9_fn (msgL i s c d) 0) (Args.cons rfl (Le.refl _) (A3 rfl rfl rfl))) ?_
 refine RS (ok_not rfl) ?_; refine RZ (.bool false) (by rfl) ?_
 refine RM rfl ?_
 refine RQ (ok_move rfl) ?_
 refine RQ (ok_field field32_1 (by decide) rfl) ?_
 refine RQ (ok_loadV (s := 1000003) (by decide) Tryd.underlying3 rfl rfl rfl (SC_ix f hmk _ _ _)) ?_
 refine RQ (ok_bin rfl rfl rfl) ?_; refine RZ (.bool false) (by simp) ?_
 refine RP rfl rfl ?_
 refine RM rfl ?_
 refine RQ (ok_loadA (s := 1000010) (by decide) Tryd.underlying30 rfl (size30.of (rfl)) rfl rfl) ?_
 refine RQ (ok_field field32_2 (by decide) rfl) ?_
 refine RQ (ok_loadP (s := 1000003) (by decide) Tryd.underlying30 rfl size30 rfl rfl (by simp [rowV_length, hmk]) (SC_non f hmk _ _ _)) ?_
 refine RQ (ok_neqT (n := 3) true flatN (by decide) (by kernel_rfl) (by kernel_rfl) rfl rfl (kinN _ _) (kinN _ _) ⟨fun _ => rfl, fun _ => rfl⟩) ?_; refine RZ (.bool false) (by rfl) ?_
 refine RP rfl rfl ?_
 refine RM rfl ?_
 refine RQ (ok_loadA (s := 1000011) (by decide) Tryd.underlying33 rfl (size33.of (by rw [List.length_map, hd])) rfl rfl) ?_
 refine RQ (ok_loadA (s := 1000004) (by decide) Tryd.underlying33 rfl (size33.of (by rw [List.length_map, hd])) rfl rfl) ?_
 refine RQ (ok_neqT (n := 3) true flat33 (by decide) (by kernel_rfl) (by kernel_rfl) rfl rfl (kinB hd) (kinB hd) ⟨fun _ => rfl, fun _ => rfl⟩) ?_; refine RZ (.bool false) (by rfl) ?_
 refine RP rfl rfl ?_
 refine RM rfl ?_
 refine RQ (ok_move rfl) ?_
 refine RQ (ok_bin rfl rfl rfl) ?_; refine RZ (.bool false) (by rfl) ?_
 refine RP rfl rfl ?_
 refine RN ?_
 refine A.sub (KC 2 rfl (KC 77 rfl (KC 1000003 rfl (KC 1000004 rfl (KC 1000010 rfl (KC 1000011 rfl (KC 1000030 rfl (KC 1900000 rfl (KC 1900001 rfl KN))))))))) ?_
 refine A.no rfl ?_
 refine A.skip ?_
 refine EN ?_
 refine GS ?_
 refine TN 7 ?_
 refine RM rfl ?_
 refine RS (ok_call (Parse_ok b hb hn) (Args.cons rfl (Le.old _ _) Args.nil)) ?_
 refine RM rfl ?_
 refine RS (ok_extractV rfl rfl) ?_
 refine RS (ok_extractV rfl rfl) ?_
 refine RS (ok_extractV rfl rfl) ?_
 refine RS (ok_extractV rfl rfl) ?_
 refine RN ?_
 refine ⟨_, _, eff_alloc (n := 150) (d := 14) (k := 1000014) zero30 (by decide), fun b14 hb14 => ?_⟩
 have hBb14 := hb14.1
 have hlt_b10_b14 : b10 < b14 := hb14.2 1000010 _ _ _ rfl
 refine TN 8 ?_
 refine RN ?_
 refine ⟨_, _, eff_alloc (n := 150) (d := 15) (k := 1000015) zero33 (by decide), fun b15 hb15 => ?_⟩
 have hBb15 := hb15.1
 have hlt_b4_b15 : b4 < b15 := hb15.2 1000004 _ _ _ rfl
 have hlt_b11_b15 : b11 < b15 := hb15.2 1000011 _ _ _ rfl
 refine TF 10 ?_
 refine RA rfl ?_
 refine RN ?_
 refine ⟨_, eff_storeA (n := 150) (s := 1000014) (size30.of (rfl)) rfl rfl (rfl) hBb14 rfl (rfl) (LO 2 rfl (LV 13 rfl (LV 14 rfl (LV 15 rfl (LV 83 rfl (LV 84 rfl (LT 1000003 rfl (LT 1000004 rfl (LB 1000010 rfl (LT 1000011 rfl (LT 1000015 rfl (LT 1000030 rfl (LeftS.cons (t := 1900000) rfl (Surv.tab (by omega)) (LeftS.cons (t := 1900001) rfl (Surv.tab (by omega)) LN)))))))))))))), ?_⟩
 refine TF 11 ?_
 refine RN ?_
 refine ⟨_, eff_storeA (n := 150) (s := 1000015) (size33.of (by rw [List.length_map, hd16])) rfl rfl (all_bytes _) hBb15 rfl (by simp [hb]) (LO 2 rfl (LV 13 rfl (LV 14 rfl (LV 15 rfl (LV 84 rfl (LT 1000003 rfl (LB 1000004 rfl (LT 1000010 rfl (LB 1000011 rfl (LT 1000014 rfl (LT 1000030 rfl (LeftS.cons (t := 1900000) rfl (Surv.tab (by omega)) (LeftS.cons (t := 1900001) rfl (Surv.tab (by omega)) LN))))))))))))), ?_⟩
 refine TL ?_
 refine RA rfl ?_
 refine RN ?_
 refine A.seq ?_
 refine GS ?_
 refine TL ?_
 refine RM rfl ?_
 refine RBS rfl rfl rfl (.bool true) (by rfl) ?_
 refine RN ?_
 refine A.yes rfl ?_
 refine GS ?_
 refine TN 3 ?_
 refine RM rfl ?_
 refine RS (ok_loadA (s := 1000014) (by decide) Tryd.underlying30 rfl (size30.of (rfl)) rfl rfl) ?_
 refine RS (ok_loadA (s := 1000015) (by decide) Tryd.underlying33 rfl (size33.of (by rw [List.length_map, hd16])) rfl rfl) ?_
 refine RN ?_
 refine ⟨_, _, eff_name (n := 150) (d := 91) (k := 1000091) rfl rfl (fun B' => ok_callB (Message_ok (num (b.take 4)) (gS ((b.drop 4).take 12)) (gC ((b.drop 4).take 12)) (gS_lt _) (gC_lt _) (b.drop 16) hd16 hn) newD_mono (A3 rfl rfl rfl)) (by decide) (by decide), fun b91 hb91 => ?_⟩
 have hBb91 := hb91.1
 have hlt_b3_b91 : b3 < b91 := hb91.2 1000003 _ _ _ rfl
 have hlt_b4_b91 : b4 < b91 := hb91.2 1000004 _ _ _ rfl
 have hlt_b10_b91 : b10 < b91 := hb91.2 1000010 _ _ _ rfl
 have hlt_b11_b91 : b11 < b91 := hb91.2 1000011 _ _ _ rfl
 have hlt_b14_b91 : b14 < b91 := hb91.2 1000014 _ _ _ rfl
 have hlt_b15_b91 : b15 < b91 := hb91.2 1000015 _ _ _ rfl
 have hlt_b30_b91 : b30 < b91 := hb91.2 1000030 _ _ _ rfl
 refine TL ?_
 refine RM rfl ?_
 refine RS (ok_extractV rfl rfl) ?_
 refine RS (ok_extractV rfl rfl) ?_
 refine RA rfl ?_
 refine RA rfl ?_
 refine RN ?_
 refine GS ?_
 refine TL ?_
 refine RS ((OpOk.fact (ok_move rfl) (d := bytes b 48) (s := 1000091) (by decide) rfl (slice_bytes b hb.symm (by decide) (by decide) (by rw [msgL_of hb (nonce_back (by simp [hb])), List.drop_zero, List.take_of_length_le (by rw [List.length_map, hb]; decide)]))).le (d' := bytes b b.length) (Le.eq (by rw [hb]))) ?_
 refine RM rfl ?_
 refine RM rfl ?_
 refine RS (ok_call (same9_fn b 0) (Args.cons rfl (Le.refl _) (Args.cons rfl (Le.refl _) (Args.cons rfl (Le.old _ _) (A1 rfl))))) ?_
 refine RM rfl ?_
 refine RQ (ok_callM lives9_fn (Sub.cons rfl (Sub.cons rfl KN)) tabs_v Args.nil) ?_
 refine RP rfl rfl ?_
 refine RA rfl ?_
 refine RN ?_
 refine A.sub (KC 6 rfl (KC 1000003 rfl (KC 1000004 rfl (KC 1000010 rfl (KC 1000011 rfl (KC 1000014 rfl (KC 1000015 rfl (KC 1000030 rfl (KC 1000091 rfl (KC 1900000 rfl (KC 1900001 rfl KN))))))))))) ?_
 refine A.ret ?_
 refine End.ret_then ?_
 exact End.ret1 rfl rfl (by first | exact Le.refl _ | exact Le.old _ _)
set_option maxHeartbeats 4000000 in
theorem SealsMessage_good_short (f : Nat → Nat) (mk : List UInt8) (hf : By f) (hmk : mk.length = 32) (i : Nat) (hi : i < 4096) (s c : Nat) (hs : s < 4294967296) (hc : c < 18446744073709551616) (d : List UInt8) (hd : d.length = 32) (b : List UInt8) (h60 : b.length ≤ 60) (hb : b.length < 48) : FnM Tryd.prog 3 tabs [.v (aggV (rowV 16 f ++ mk.map byteV ++ [nI i, nW s, nQ c])), .v (aggV (d.map byteV)), byt b] (.v (.bool true)) := by
 refine FnM.of Tryd.func3 rfl (by kernel_rfl) Tryd.ntmps3 (by simp) (by decide) (fun w => [(0, .v (aggV (rowV 16 f ++ mk.map byteV ++ [nI i, nW s, nQ c]))), (1, .v (aggV (d.map byteV))), (2, old w.heap.size (byt b)), (1900000, tab 0 (H8.list.map u32V)), (1900001, tab 1 (K64.map u32V))]) (fun w => (StartM.v rfl (StartM.v rfl (StartM.old rfl (StartM.m (by simp [tabs]) (by decide) (StartM.m (by simp [tabs]) (by decide) StartM.nil)))))) fun w₀ hM => ?_
 have htab := tabs_hi hM
 refine GS ?_
 refine TN 0 ?_
 refine RN ?_
 refine ⟨_, _, eff_box (n := 150) (d := 3) (k := 1000003) rfl (by decide), fun b3 hb3 => ?_⟩
 have hBb3 := hb3.1
 refine TN 1 ?_
 refine RN ?_
 refine ⟨_, _, eff_box (n := 150) (d := 4) (k := 1000004) rfl (by decide), fun b4 hb4 => ?_⟩
 have hBb4 := hb4.1
 refine TL ?_
 refine RA rfl ?_
 refine RN ?_
 refine A.seq ?_
 refine GS ?_
 refine TL ?_
 refine RM rfl ?_
 refine RS (ok_lenB Tryd.underlying34 rfl LA) ?_
 refine RBS rfl rfl rfl (.bool false) (by simp; omega) ?_
 refine RN ?_
 refine A.no rfl ?_
 refine A.skip ?_
 refine EN ?_
 refine GS ?_
 refine TN 5 ?_
 refine RS (ok_field field32_1 (by decide) rfl) ?_
 refine RS (ok_loadV (s := 1000003) (by decide) Tryd.underlying3 rfl rfl rfl (SC_ix f hmk _ _ _)) ?_
 refine RS (ok_field field32_2 (by decide) rfl) ?_
 refine RS (ok_loadP (s := 1000003) (by decide) Tryd.underlying30 rfl size30 rfl rfl (by simp [rowV_length, hmk]) (SC_non f hmk _ _ _)) ?_
 refine RS (ok_loadA (s := 1000004) (by decide) Tryd.underlying33 rfl (size33.of (by rw [List.length_map, hd])) rfl rfl) ?_
 refine RN ?_
 refine ⟨_, _, eff_name (n := 150) (d := 30) (k := 1000030) rfl rfl (fun B' => ok_callB (Message_ok i s c hs hc d hd hi) newD_mono (A3 rfl rfl rfl)) (by decide) (by decide), fun b30 hb30 => ?_⟩
 have hBb30 := hb30.1
 have hlt_b3_b30 : b3 < b30 := hb30.2 1000003 _ _ _ rfl
 have hlt_b4_b30 : b4 < b30 := hb30.2 1000004 _ _ _ rfl
 refine TL ?_
 refine RM rfl ?_
 refine RS (ok_extractV rfl rfl) ?_
 refine RS (ok_extractV rfl rfl) ?_
 refine RA rfl ?_
 refine RA rfl ?_
 refine RN ?_
 refine A.seq ?_
 refine GS ?_
 refine TL ?_
 refine RS (ok_field field32_1 (by decide) rfl) ?_
 refine RS (ok_loadV (s := 1000003) (by decide) Tryd.underlying3 rfl rfl rfl (SC_ix f hmk _ _ _)) ?_
 refine RS (ok_call (bad9_no (i : Int) (by omega) (by omega)) (A1 rfl)) ?_
 refine RN ?_
 refine A.no rfl ?_
 refine GS ?_
 refine TN 7 ?_
 refine RS (ok_moveB (s := 1000030) (msgL i s c d) (by decide) rfl rfl (msgL_length hd).symm (by decide) (by decide) (by rw [List.drop_zero, List.take_of_length_le (by rw [List.length_map, msgL_length hd]; decide)])) ?_
 refine RS (ok_call (Parse_msg i s c hs hc d hd hi) (A1 rfl)) ?_
 refine RM rfl ?_
 refine RS (ok_extractV rfl rfl) ?_
 refine RS (ok_extractV rfl rfl) ?_
 refine RS (ok_extractV rfl rfl) ?_
 refine RS (ok_extractV rfl rfl) ?_
 refine RN ?_
 refine ⟨_, _, eff_alloc (n := 150) (d := 10) (k := 1000010) zero30 (by decide), fun b10 hb10 => ?_⟩
 have hBb10 := hb10.1
 refine TN 8 ?_
 refine RN ?_
 refine ⟨_, _, eff_alloc (n := 150) (d := 11) (k := 1000011) zero33 (by decide), fun b11 hb11 => ?_⟩
 have hBb11 := hb11.1
 have hlt_b4_b11 : b4 < b11 := hb11.2 1000004 _ _ _ rfl
 refine TF 10 ?_
 refine RA rfl ?_
 refine RN ?_
 refine ⟨_, eff_storeA (n := 150) (s := 1000010) (size30.of (rfl)) rfl rfl (rfl) hBb10 rfl (rfl) (LO 2 rfl (LV 3 rfl (LV 4 rfl (LV 7 rfl (LV 8 rfl (LV 9 rfl (LV 10 rfl (LV 11 rfl (LV 45 rfl (LV 46 rfl (LT 1000003 rfl (LT 1000004 rfl (LT 1000011 rfl (LT 1000030 rfl (LeftS.cons (t := 1900000) rfl (Surv.tab (by omega)) (LeftS.cons (t := 1900001) rfl (Surv.tab (by omega)) LN)))))))))))))))), ?_⟩
 refine TF 11 ?_
 refine RN ?_
 refine ⟨_, eff_storeA (n := 150) (s := 1000011) (size33.of (by rw [List.length_map, hd])) rfl rfl (all_bytes _) hBb11 rfl (by simp [hd]) (LO 2 rfl (LV 3 rfl (LV 4 rfl (LV 7 rfl (LV 8 rfl (LV 9 rfl (LV 10 rfl (LV 11 rfl (LV 46 rfl (LT 1000003 rfl (LB 1000004 rfl (LT 1000010 rfl (LT 1000030 rfl (LeftS.cons (t := 1900000) rfl (Surv.tab (by omega)) (LeftS.cons (t := 1900001) rfl (Surv.tab (by omega)) LN))))))))))))))), ?_⟩
 refine TL ?_
 refine RA rfl ?_
 refine RN ?_
 refine A.sub (KC 2 rfl (KC 3 rfl (KC 4 rfl (KC 7 rfl (KC 8 rfl (KC 9 rfl (KC 10 rfl (KC 11 rfl (KC 12 rfl (KC 1000003 rfl (KC 1000004 rfl (KC 1000010 rfl (KC 1000011 rfl (KC 1000030 rfl (KC 1900000 rfl (KC 1900001 rfl KN)))))))))))))))) ?_
 refine GS ?_
 refine TL ?_
 refine RS ((OpOk.fact (ok_move rfl) (d := bytes (msgL i s c d) 48) (s := 1000030) (by decide) rfl (slice_bytes (msgL i s c d) (msgL_length hd).symm (by decide) (by decide) (by rw [List.drop_zero, List.take_of_length_le (by rw [List.length_map, msgL_length hd]; decide)]))).le (d' := bytes (msgL i s c d) (msgL i s c d).length) (Le.eq (by rw [msgL_length hd]))) ?_
 refine RM rfl ?_
 refine RS (ok_field field32_1 (by decide) rfl) ?_
 refine RS (ok_loadV (s := 1000003) (by decide) Tryd.underlying3 rfl rfl rfl (SC_ix f hmk _ _ _)) ?_
 refine RS (ok_field field32_2 (by decide) rfl) ?_
 refine RS (ok_loadP (s := 1000003) (by decide) Tryd.underlying30 rfl size30 rfl rfl (by simp [rowV_length, hmk]) (SC_non f hmk _ _ _)) ?_
 refine RS (ok_loadA (s := 1000004) (by decide) Tryd.underlying33 rfl (size33.of (by rw [List.length_map, hd])) rfl rfl) ?_
 refine RS (ok_call (ref9Message_fn i s c hs hc d hd hi) (A3 rfl rfl rfl)) ?_
 refine RS (ok_call (same9_fn (msgL i s c d) 0) (Args.cons rfl (Le.refl _) (A3 rfl rfl rfl))) ?_
 refine RS (ok_not rfl) ?_; refine RZ (.bool false) (by rfl) ?_
 refine RM rfl ?_
 refine RQ (ok_move rfl) ?_
 refine RQ (ok_field field32_1 (by decide) rfl) ?_
 refine RQ (ok_loadV (s := 1000003) (by decide) Tryd.underlying3 rfl rfl rfl (SC_ix f hmk _ _ _)) ?_
 refine RQ (ok_bin rfl rfl rfl) ?_; refine RZ (.bool false) (by simp) ?_
 refine RP rfl rfl ?_
 refine RM rfl ?_
 refine RQ (ok_loadA (s := 1000010) (by decide) Tryd.underlying30 rfl (size30.of (rfl)) rfl rfl) ?_
 refine RQ (ok_field field32_2 (by decide) rfl) ?_
 refine RQ (ok_loadP (s := 1000003) (by decide) Tryd.underlying30 rfl size30 rfl rfl (by simp [rowV_length, hmk]) (SC_non f hmk _ _ _)) ?_
 refine RQ (ok_neqT (n := 3) true flatN (by decide) (by kernel_rfl) (by kernel_rfl) rfl rfl (kinN _ _) (kinN _ _) ⟨fun _ => rfl, fun _ => rfl⟩) ?_; refine RZ (.bool false) (by rfl) ?_
 refine RP rfl rfl ?_
 refine RM rfl ?_
 refine RQ (ok_loadA (s := 1000011) (by decide) Tryd.underlying33 rfl (size33.of (by rw [List.length_map, hd])) rfl rfl) ?_
 refine RQ (ok_loadA (s := 1000004) (by decide) Tryd.underlying33 rfl (size33.of (by rw [List.length_map, hd])) rfl rfl) ?_
 refine RQ (ok_neqT (n := 3) true flat33 (by decide) (by kernel_rfl) (by kernel_rfl) rfl rfl (kinB hd) (kinB hd) ⟨fun _ => rfl, fun _ => rfl⟩) ?_; refine RZ (.bool false) (by rfl) ?_
 refine RP rfl rfl ?_
 refine RM rfl ?_
 refine RQ (ok_move rfl) ?_
 refine RQ (ok_bin rfl rfl rfl) ?_; refine RZ (.bool false) (by rfl) ?_
 refine RP rfl rfl ?_
 refine RN ?_
 refine A.sub (KC 2 rfl (KC 77 rfl (KC 1000003 rfl (KC 1000004 rfl (KC 1000010 rfl (KC 1000011 rfl (KC 1000030 rfl (KC 1900000 rfl (KC 1900001 rfl KN))))))))) ?_
 refine A.no rfl ?_
 refine A.skip ?_
 refine EN ?_
 refine GS ?_
 refine TN 7 ?_
 refine RM rfl ?_
 refine RS (ok_call (Parse_err b 6 (by decide) (checkMessage_short b hb)) (Args.cons rfl (Le.old _ _) Args.nil)) ?_
 refine RM rfl ?_
 refine RS (ok_extractV rfl rfl) ?_
 refine RS (ok_extractV rfl rfl) ?_
 refine RS (ok_extractV rfl rfl) ?_
 refine RS (ok_extractV rfl rfl) ?_
 refine RN ?_
 refine ⟨_, _, eff_alloc (n := 150) (d := 14) (k := 1000014) zero30 (by decide), fun b14 hb14 => ?_⟩
 have hBb14 := hb14.1
 have hlt_b10_b14 : b10 < b14 := hb14.2 1000010 _ _ _ rfl
 refine TN 8 ?_
 refine RN ?_
 refine ⟨_, _, eff_alloc (n := 150) (d := 15) (k := 1000015) zero33 (by decide), fun b15 hb15 => ?_⟩
 have hBb15 := hb15.1
 have hlt_b4_b15 : b4 < b15 := hb15.2 1000004 _ _ _ rfl
 have hlt_b11_b15 : b11 < b15 := hb15.2 1000011 _ _ _ rfl
 refine TF 10 ?_
 refine RA rfl ?_
 refine RN ?_
 refine ⟨_, eff_storeA (n := 150) (s := 1000014) (size30.of (rfl)) rfl rfl (rfl) hBb14 rfl (rfl) (LO 2 rfl (LV 13 rfl (LV 14 rfl (LV 15 rfl (LV 83 rfl (LV 84 rfl (LT 1000003 rfl (LT 1000004 rfl (LB 1000010 rfl (LT 1000011 rfl (LT 1000015 rfl (LT 1000030 rfl (LeftS.cons (t := 1900000) rfl (Surv.tab (by omega)) (LeftS.cons (t := 1900001) rfl (Surv.tab (by omega)) LN)))))))))))))), ?_⟩
 refine TF 11 ?_
 refine RN ?_
 refine ⟨_, eff_storeA (n := 150) (s := 1000015) (size33.of (rfl)) rfl rfl (rfl) hBb15 rfl (rfl) (LO 2 rfl (LV 13 rfl (LV 14 rfl (LV 15 rfl (LV 84 rfl (LT 1000003 rfl (LB 1000004 rfl (LT 1000010 rfl (LB 1000011 rfl (LT 1000014 rfl (LT 1000030 rfl (LeftS.cons (t := 1900000) rfl (Surv.tab (by omega)) (LeftS.cons (t := 1900001) rfl (Surv.tab (by omega)) LN))))))))))))), ?_⟩
 refine TL ?_
 refine RA rfl ?_
 refine RN ?_
 refine A.seq ?_
 refine GS ?_
 refine TL ?_
 refine RM rfl ?_
 refine RBS rfl rfl rfl (.bool false) (by rfl) ?_
 refine RN ?_
 refine A.no rfl ?_
 refine A.skip ?_
 refine EN ?_
 refine GS ?_
 refine TL ?_
 refine RA rfl ?_
 refine RN ?_
 refine A.seq ?_
 refine GS ?_
 refine TL ?_
 refine RM rfl ?_
 refine RS (ok_lenB Tryd.underlying34 rfl LA) ?_
 refine RBS rfl rfl rfl (.bool true) (by simp; omega) ?_
 refine RN ?_
 refine A.yes rfl ?_
 refine GE ?_
 refine TL ?_
 refine RA rfl ?_
 refine RN ?_
 refine EN ?_
 refine A.seq ?_
 refine GS ?_
 refine TL ?_
 refine RM rfl ?_
 refine RS (ok_lenB Tryd.underlying34 rfl LA) ?_
 refine RBS rfl rfl rfl (.bool false) (by simp; omega) ?_
 refine RN ?_
 refine A.no rfl ?_
 refine A.skip ?_
 refine EN ?_
 refine GS ?_
 refine TL ?_
 refine RM rfl ?_
 refine RM rfl ?_
 refine RBS rfl rfl rfl (.bool true) (by rfl) ?_
 refine RM rfl ?_
 refine RQ (ok_move rfl) ?_
 refine RQ (ok_lenB Tryd.underlying34 rfl LA) ?_
 refine RQ (ok_bin rfl rfl rfl) ?_; refine RZ (.bool true) (by simp; omega) ?_
 refine RQ (ok_move rfl) ?_
 refine RK ?_
 refine RK ?_
 refine RK ?_
 refine RK ?_
 refine RQ (ok_pick rfl rfl) ?_
 refine RQ (ok_move rfl) ?_
 refine RK ?_
 refine RK ?_
 refine RK ?_
 refine RK ?_
 refine RQ (ok_pick rfl rfl) ?_
 refine RQ (ok_move rfl) ?_
 refine RK ?_
 refine RK ?_
 refine RK ?_
 refine RK ?_
 refine RQ (ok_pick rfl rfl) ?_
 refine RP rfl rfl ?_
 refine RM rfl ?_
 refine RQ (ok_move rfl) ?_
 refine RQ (ok_bin rfl rfl rfl) ?_; refine RZ (.bool true) (by rfl) ?_
 refine RP rfl rfl ?_
 refine RM rfl ?_
 refine RQ (ok_loadA (s := 1000014) (by decide) Tryd.underlying30 rfl (size30.of (rfl)) rfl rfl) ?_
 refine RQ (ok_lit [] ([.int .u32 0] ++ [.int .u64 0]) (fun _ _ => rfl) (by kernel_rfl)) ?_
 refine RQ (ok_eqlT (n := 3) true flatN (by decide) (by kernel_rfl) (by kernel_rfl) rfl rfl (kinN _ _) (kinN _ _) ⟨fun _ => rfl, fun _ => rfl⟩) ?_; refine RZ (.bool true) (by rfl) ?_
 refine RP rfl rfl ?_
 refine RM rfl ?_
 refine RQ (ok_loadA (s := 1000015) (by decide) Tryd.underlying33 rfl (size33.of (rfl)) rfl rfl) ?_
 refine RQ (ok_litP [] Tryd.underlying33 info5 zero33 (by decide) trivial rfl) ?_; refine RZ (aggV (List.replicate 32 (.int .u8 0))) (by rfl) ?_
 refine RQ (ok_eqlT (n := 3) true flat33 (by decide) (by kernel_rfl) (by kernel_rfl) rfl rfl (kinZ 32) (kinZ 32) ⟨fun _ => rfl, fun _ => rfl⟩) ?_; refine RZ (.bool true) (by rfl) ?_
 refine RP rfl rfl ?_
 refine RM rfl ?_
 refine RQ (ok_callM lives9_fn (Sub.cons rfl (Sub.cons rfl KN)) tabs_v Args.nil) ?_
 refine RP rfl rfl ?_
 refine RA rfl ?_
 refine RN ?_
 refine A.sub (KC 6 rfl (KC 1000003 rfl (KC 1000004 rfl (KC 1000010 rfl (KC 1000011 rfl (KC 1000014 rfl (KC 1000015 rfl (KC 1000030 rfl (KC 1900000 rfl (KC 1900001 rfl KN)))))))))) ?_
 refine A.ret ?_
 exact End.ret1 rfl rfl (by first | exact Le.refl _ | exact Le.old _ _)
set_option maxHeartbeats 4000000 in
theorem SealsMessage_good_far (f : Nat → Nat) (mk : List UInt8) (hf : By f) (hmk : mk.length = 32) (i : Nat) (hi : i < 4096) (s c : Nat) (hs : s < 4294967296) (hc : c < 18446744073709551616) (d : List UInt8) (hd : d.length = 32) (b : List UInt8) (h60 : b.length ≤ 60) (hb : 48 < b.length) : FnM Tryd.prog 3 tabs [.v (aggV (rowV 16 f ++ mk.map byteV ++ [nI i, nW s, nQ c])), .v (aggV (d.map byteV)), byt b] (.v (.bool true)) := by
 refine FnM.of Tryd.func3 rfl (by kernel_rfl) Tryd.ntmps3 (by simp) (by decide) (fun w => [(0, .v (aggV (rowV 16 f ++ mk.map byteV ++ [nI i, nW s, nQ c]))), (1, .v (aggV (d.map byteV))), (2, old w.heap.size (byt b)), (1900000, tab 0 (H8.list.map u32V)), (1900001, tab 1 (K64.map u32V))]) (fun w => (StartM.v rfl (StartM.v rfl (StartM.old rfl (StartM.m (by simp [tabs]) (by decide) (StartM.m (by simp [tabs]) (by decide) StartM.nil)))))) fun w₀ hM => ?_
 have htab := tabs_hi hM
 refine GS ?_
 refine TN 0 ?_
 refine RN ?_
 refine ⟨_, _, eff_box (n := 150) (d := 3) (k := 1000003) rfl (by decide), fun b3 hb3 => ?_⟩
 have hBb3 := hb3.1
 refine TN 1 ?_
 refine RN ?_
 refine ⟨_, _, eff_box (n := 150) (d := 4) (k := 1000004) rfl (by decide), fun b4 hb4 => ?_⟩
 have hBb4 := hb4.1
 refine TL ?_
 refine RA rfl ?_
 refine RN ?_
 refine A.seq ?_
 refine GS ?_
 refine TL ?_
 refine RM rfl ?_
 refine RS (ok_lenB Tryd.underlying34 rfl LA) ?_
 refine RBS rfl rfl rfl (.bool false) (by simp; omega) ?_
 refine RN ?_
 refine A.no rfl ?_
 refine A.skip ?_
 refine EN ?_
 refine GS ?_
 refine TN 5 ?_
 refine RS (ok_field field32_1 (by decide) rfl) ?_
 refine RS (ok_loadV (s := 1000003) (by decide) Tryd.underlying3 rfl rfl rfl (SC_ix f hmk _ _ _)) ?_
 refine RS (ok_field field32_2 (by decide) rfl) ?_
 refine RS (ok_loadP (s := 1000003) (by decide) Tryd.underlying30 rfl size30 rfl rfl (by simp [rowV_length, hmk]) (SC_non f hmk _ _ _)) ?_
 refine RS (ok_loadA (s := 1000004) (by decide) Tryd.underlying33 rfl (size33.of (by rw [List.length_map, hd])) rfl rfl) ?_
 refine RN ?_
 refine ⟨_, _, eff_name (n := 150) (d := 30) (k := 1000030) rfl rfl (fun B' => ok_callB (Message_ok i s c hs hc d hd hi) newD_mono (A3 rfl rfl rfl)) (by decide) (by decide), fun b30 hb30 => ?_⟩
 have hBb30 := hb30.1
 have hlt_b3_b30 : b3 < b30 := hb30.2 1000003 _ _ _ rfl
 have hlt_b4_b30 : b4 < b30 := hb30.2 1000004 _ _ _ rfl
 refine TL ?_
 refine RM rfl ?_
 refine RS (ok_extractV rfl rfl) ?_
 refine RS (ok_extractV rfl rfl) ?_
 refine RA rfl ?_
 refine RA rfl ?_
 refine RN ?_
 refine A.seq ?_
 refine GS ?_
 refine TL ?_
 refine RS (ok_field field32_1 (by decide) rfl) ?_
 refine RS (ok_loadV (s := 1000003) (by decide) Tryd.underlying3 rfl rfl rfl (SC_ix f hmk _ _ _)) ?_
 refine RS (ok_call (bad9_no (i : Int) (by omega) (by omega)) (A1 rfl)) ?_
 refine RN ?_
 refine A.no rfl ?_
 refine GS ?_
 refine TN 7 ?_
 refine RS (ok_moveB (s := 1000030) (msgL i s c d) (by decide) rfl rfl (msgL_length hd).symm (by decide) (by decide) (by rw [List.drop_zero, List.take_of_length_le (by rw [List.length_map, msgL_length hd]; decide)])) ?_
 refine RS (ok_call (Parse_msg i s c hs hc d hd hi) (A1 rfl)) ?_
 refine RM rfl ?_
 refine RS (ok_extractV rfl rfl) ?_
 refine RS (ok_extractV rfl rfl) ?_
 refine RS (ok_extractV rfl rfl) ?_
 refine RS (ok_extractV rfl rfl) ?_
 refine RN ?_
 refine ⟨_, _, eff_alloc (n := 150) (d := 10) (k := 1000010) zero30 (by decide), fun b10 hb10 => ?_⟩
 have hBb10 := hb10.1
 refine TN 8 ?_
 refine RN ?_
 refine ⟨_, _, eff_alloc (n := 150) (d := 11) (k := 1000011) zero33 (by decide), fun b11 hb11 => ?_⟩
 have hBb11 := hb11.1
 have hlt_b4_b11 : b4 < b11 := hb11.2 1000004 _ _ _ rfl
 refine TF 10 ?_
 refine RA rfl ?_
 refine RN ?_
 refine ⟨_, eff_storeA (n := 150) (s := 1000010) (size30.of (rfl)) rfl rfl (rfl) hBb10 rfl (rfl) (LO 2 rfl (LV 3 rfl (LV 4 rfl (LV 7 rfl (LV 8 rfl (LV 9 rfl (LV 10 rfl (LV 11 rfl (LV 45 rfl (LV 46 rfl (LT 1000003 rfl (LT 1000004 rfl (LT 1000011 rfl (LT 1000030 rfl (LeftS.cons (t := 1900000) rfl (Surv.tab (by omega)) (LeftS.cons (t := 1900001) rfl (Surv.tab (by omega)) LN)))))))))))))))), ?_⟩
 refine TF 11 ?_
 refine RN ?_
 refine ⟨_, eff_storeA (n := 150) (s := 1000011) (size33.of (by rw [List.length_map, hd])) rfl rfl (all_bytes _) hBb11 rfl (by simp [hd]) (LO 2 rfl (LV 3 rfl (LV 4 rfl (LV 7 rfl (LV 8 rfl (LV 9 rfl (LV 10 rfl (LV 11 rfl (LV 46 rfl (LT 1000003 rfl (LB 1000004 rfl (LT 1000010 rfl (LT 1000030 rfl (LeftS.cons (t := 1900000) rfl (Surv.tab (by omega)) (LeftS.cons (t := 1900001) rfl (Surv.tab (by omega)) LN))))))))))))))), ?_⟩
 refine TL ?_
 refine RA rfl ?_
 refine RN ?_
 refine A.sub (KC 2 rfl (KC 3 rfl (KC 4 rfl (KC 7 rfl (KC 8 rfl (KC 9 rfl (KC 10 rfl (KC 11 rfl (KC 12 rfl (KC 1000003 rfl (KC 1000004 rfl (KC 1000010 rfl (KC 1000011 rfl (KC 1000030 rfl (KC 1900000 rfl (KC 1900001 rfl KN)))))))))))))))) ?_
 refine GS ?_
 refine TL ?_
 refine RS ((OpOk.fact (ok_move rfl) (d := bytes (msgL i s c d) 48) (s := 1000030) (by decide) rfl (slice_bytes (msgL i s c d) (msgL_length hd).symm (by decide) (by decide) (by rw [List.drop_zero, List.take_of_length_le (by rw [List.length_map, msgL_length hd]; decide)]))).le (d' := bytes (msgL i s c d) (msgL i s c d).length) (Le.eq (by rw [msgL_length hd]))) ?_
 refine RM rfl ?_
 refine RS (ok_field field32_1 (by decide) rfl) ?_
 refine RS (ok_loadV (s := 1000003) (by decide) Tryd.underlying3 rfl rfl rfl (SC_ix f hmk _ _ _)) ?_
 refine RS (ok_field field32_2 (by decide) rfl) ?_
 refine RS (ok_loadP (s := 1000003) (by decide) Tryd.underlying30 rfl size30 rfl rfl (by simp [rowV_length, hmk]) (SC_non f hmk _ _ _)) ?_
 refine RS (ok_loadA (s := 1000004) (by decide) Tryd.underlying33 rfl (size33.of (by rw [List.length_map, hd])) rfl rfl) ?_
 refine RS (ok_call (ref9Message_fn i s c hs hc d hd hi) (A3 rfl rfl rfl)) ?_
 refine RS (ok_call (same9_fn (msgL i s c d) 0) (Args.cons rfl (Le.refl _) (A3 rfl rfl rfl))) ?_
 refine RS (ok_not rfl) ?_; refine RZ (.bool false) (by rfl) ?_
 refine RM rfl ?_
 refine RQ (ok_move rfl) ?_
 refine RQ (ok_field field32_1 (by decide) rfl) ?_
 refine RQ (ok_loadV (s := 1000003) (by decide) Tryd.underlying3 rfl rfl rfl (SC_ix f hmk _ _ _)) ?_
 refine RQ (ok_bin rfl rfl rfl) ?_; refine RZ (.bool false) (by simp) ?_
 refine RP rfl rfl ?_
 refine RM rfl ?_
 refine RQ (ok_loadA (s := 1000010) (by decide) Tryd.underlying30 rfl (size30.of (rfl)) rfl rfl) ?_
 refine RQ (ok_field field32_2 (by decide) rfl) ?_
 refine RQ (ok_loadP (s := 1000003) (by decide) Tryd.underlying30 rfl size30 rfl rfl (by simp [rowV_length, hmk]) (SC_non f hmk _ _ _)) ?_
 refine RQ (ok_neqT (n := 3) true flatN (by decide) (by kernel_rfl) (by kernel_rfl) rfl rfl (kinN _ _) (kinN _ _) ⟨fun _ => rfl, fun _ => rfl⟩) ?_; refine RZ (.bool false) (by rfl) ?_
 refine RP rfl rfl ?_
 refine RM rfl ?_
 refine RQ (ok_loadA (s := 1000011) (by decide) Tryd.underlying33 rfl (size33.of (by rw [List.length_map, hd])) rfl rfl) ?_
 refine RQ (ok_loadA (s := 1000004) (by decide) Tryd.underlying33 rfl (size33.of (by rw [List.length_map, hd])) rfl rfl) ?_
 refine RQ (ok_neqT (n := 3) true flat33 (by decide) (by kernel_rfl) (by kernel_rfl) rfl rfl (kinB hd) (kinB hd) ⟨fun _ => rfl, fun _ => rfl⟩) ?_; refine RZ (.bool false) (by rfl) ?_
 refine RP rfl rfl ?_
 refine RM rfl ?_
 refine RQ (ok_move rfl) ?_
 refine RQ (ok_bin rfl rfl rfl) ?_; refine RZ (.bool false) (by rfl) ?_
 refine RP rfl rfl ?_
 refine RN ?_
 refine A.sub (KC 2 rfl (KC 77 rfl (KC 1000003 rfl (KC 1000004 rfl (KC 1000010 rfl (KC 1000011 rfl (KC 1000030 rfl (KC 1900000 rfl (KC 1900001 rfl KN))))))))) ?_
 refine A.no rfl ?_
 refine A.skip ?_
 refine EN ?_
 refine GS ?_
 refine TN 7 ?_
 refine RM rfl ?_
 refine RS (ok_call (Parse_err b 5 (by decide) (checkMessage_long b hb)) (Args.cons rfl (Le.old _ _) Args.nil)) ?_
 refine RM rfl ?_
 refine RS (ok_extractV rfl rfl) ?_
 refine RS (ok_extractV rfl rfl) ?_
 refine RS (ok_extractV rfl rfl) ?_
 refine RS (ok_extractV rfl rfl) ?_
 refine RN ?_
 refine ⟨_, _, eff_alloc (n := 150) (d := 14) (k := 1000014) zero30 (by decide), fun b14 hb14 => ?_⟩
 have hBb14 := hb14.1
 have hlt_b10_b14 : b10 < b14 := hb14.2 1000010 _ _ _ rfl
 refine TN 8 ?_
 refine RN ?_
 refine ⟨_, _, eff_alloc (n := 150) (d := 15) (k := 1000015) zero33 (by decide), fun b15 hb15 => ?_⟩
 have hBb15 := hb15.1
 have hlt_b4_b15 : b4 < b15 := hb15.2 1000004 _ _ _ rfl
 have hlt_b11_b15 : b11 < b15 := hb15.2 1000011 _ _ _ rfl
 refine TF 10 ?_
 refine RA rfl ?_
 refine RN ?_
 refine ⟨_, eff_storeA (n := 150) (s := 1000014) (size30.of (rfl)) rfl rfl (rfl) hBb14 rfl (rfl) (LO 2 rfl (LV 13 rfl (LV 14 rfl (LV 15 rfl (LV 83 rfl (LV 84 rfl (LT 1000003 rfl (LT 1000004 rfl (LB 1000010 rfl (LT 1000011 rfl (LT 1000015 rfl (LT 1000030 rfl (LeftS.cons (t := 1900000) rfl (Surv.tab (by omega)) (LeftS.cons (t := 1900001) rfl (Surv.tab (by omega)) LN)))))))))))))), ?_⟩
 refine TF 11 ?_
 refine RN ?_
 refine ⟨_, eff_storeA (n := 150) (s := 1000015) (size33.of (rfl)) rfl rfl (rfl) hBb15 rfl (rfl) (LO 2 rfl (LV 13 rfl (LV 14 rfl (LV 15 rfl (LV 84 rfl (LT 1000003 rfl (LB 1000004 rfl (LT 1000010 rfl (LB 1000011 rfl (LT 1000014 rfl (LT 1000030 rfl (LeftS.cons (t := 1900000) rfl (Surv.tab (by omega)) (LeftS.cons (t := 1900001) rfl (Surv.tab (by omega)) LN))))))))))))), ?_⟩
 refine TL ?_
 refine RA rfl ?_
 refine RN ?_
 refine A.seq ?_
 refine GS ?_
 refine TL ?_
 refine RM rfl ?_
 refine RBS rfl rfl rfl (.bool false) (by rfl) ?_
 refine RN ?_
 refine A.no rfl ?_
 refine A.skip ?_
 refine EN ?_
 refine GS ?_
 refine TL ?_
 refine RA rfl ?_
 refine RN ?_
 refine A.seq ?_
 refine GS ?_
 refine TL ?_
 refine RM rfl ?_
 refine RS (ok_lenB Tryd.underlying34 rfl LA) ?_
 refine RBS rfl rfl rfl (.bool false) (by simp; omega) ?_
 refine RN ?_
 refine A.no rfl ?_
 refine A.skip ?_
 refine EN ?_
 refine A.seq ?_
 refine GS ?_
 refine TL ?_
 refine RM rfl ?_
 refine RS (ok_lenB Tryd.underlying34 rfl LA) ?_
 refine RBS rfl rfl rfl (.bool true) (by simp; omega) ?_
 refine RN ?_
 refine A.yes rfl ?_
 refine GE ?_
 refine TL ?_
 refine RA rfl ?_
 refine RN ?_
 refine EN ?_
 refine GS ?_
 refine TL ?_
 refine RM rfl ?_
 refine RM rfl ?_
 refine RBS rfl rfl rfl (.bool true) (by rfl) ?_
 refine RM rfl ?_
 refine RQ (ok_move rfl) ?_
 refine RQ (ok_lenB Tryd.underlying34 rfl LA) ?_
 refine RQ (ok_bin rfl rfl rfl) ?_; refine RZ (.bool true) (by simp; omega) ?_
 refine RQ (ok_move rfl) ?_
 refine RK ?_
 refine RK ?_
 refine RK ?_
 refine RK ?_
 refine RQ (ok_pick rfl rfl) ?_
 refine RQ (ok_move rfl) ?_
 refine RK ?_
 refine RK ?_
 refine RK ?_
 refine RK ?_
 refine RQ (ok_pick rfl rfl) ?_
 refine RQ (ok_move rfl) ?_
 refine RK ?_
 refine RK ?_
 refine RK ?_
 refine RK ?_
 refine RQ (ok_pick rfl rfl) ?_
 refine RP rfl rfl ?_
 refine RM rfl ?_
 refine RQ (ok_move rfl) ?_
 refine RQ (ok_bin rfl rfl rfl) ?_; refine RZ (.bool true) (by rfl) ?_
 refine RP rfl rfl ?_
 refine RM rfl ?_
 refine RQ (ok_loadA (s := 1000014) (by decide) Tryd.underlying30 rfl (size30.of (rfl)) rfl rfl) ?_
 refine RQ (ok_lit [] ([.int .u32 0] ++ [.int .u64 0]) (fun _ _ => rfl) (by kernel_rfl)) ?_
 refine RQ (ok_eqlT (n := 3) true flatN (by decide) (by kernel_rfl) (by kernel_rfl) rfl rfl (kinN _ _) (kinN _ _) ⟨fun _ => rfl, fun _ => rfl⟩) ?_; refine RZ (.bool true) (by rfl) ?_
 refine RP rfl rfl ?_
 refine RM rfl ?_
 refine RQ (ok_loadA (s := 1000015) (by decide) Tryd.underlying33 rfl (size33.of (rfl)) rfl rfl) ?_
 refine RQ (ok_litP [] Tryd.underlying33 info5 zero33 (by decide) trivial rfl) ?_; refine RZ (aggV (List.replicate 32 (.int .u8 0))) (by rfl) ?_
 refine RQ (ok_eqlT (n := 3) true flat33 (by decide) (by kernel_rfl) (by kernel_rfl) rfl rfl (kinZ 32) (kinZ 32) ⟨fun _ => rfl, fun _ => rfl⟩) ?_; refine RZ (.bool true) (by rfl) ?_
 refine RP rfl rfl ?_
 refine RM rfl ?_
 refine RQ (ok_callM lives9_fn (Sub.cons rfl (Sub.cons rfl KN)) tabs_v Args.nil) ?_
 refine RP rfl rfl ?_
 refine RA rfl ?_
 refine RN ?_
 refine A.sub (KC 6 rfl (KC 1000003 rfl (KC 1000004 rfl (KC 1000010 rfl (KC 1000011 rfl (KC 1000014 rfl (KC 1000015 rfl (KC 1000030 rfl (KC 1900000 rfl (KC 1900001 rfl KN)))))))))) ?_
 refine A.ret ?_
 exact End.ret1 rfl rfl (by first | exact Le.refl _ | exact Le.old _ _)
set_option maxHeartbeats 4000000 in
theorem SealsMessage_good_b1 (f : Nat → Nat) (mk : List UInt8) (hf : By f) (hmk : mk.length = 32) (i : Nat) (hi : i < 4096) (s c : Nat) (hs : s < 4294967296) (hc : c < 18446744073709551616) (d : List UInt8) (hd : d.length = 32) (b : List UInt8) (h60 : b.length ≤ 60) (hb : b.length = 48) (hn : 4096 ≤ (num (b.take 4))) (h0 : 0 < byL b 0) : FnM Tryd.prog 3 tabs [.v (aggV (rowV 16 f ++ mk.map byteV ++ [nI i, nW s, nQ c])), .v (aggV (d.map byteV)), byt b] (.v (.bool true)) := by
 refine FnM.of Tryd.func3 rfl (by kernel_rfl) Tryd.ntmps3 (by simp) (by decide) (fun w => [(0, .v (aggV (rowV 16 f ++ mk.map byteV ++ [nI i, nW s, nQ c]))), (1, .v (aggV (d.map byteV))), (2, old w.heap.size (byt b)), (1900000, tab 0 (H8.list.map u32V)), (1900001, tab 1 (K64.map u32V))]) (fun w => (StartM.v rfl (StartM.v rfl (StartM.old rfl (StartM.m (by simp [tabs]) (by decide) (StartM.m (by simp [tabs]) (by decide) StartM.nil)))))) fun w₀ hM => ?_
 have htab := tabs_hi hM
 refine GS ?_
 refine TN 0 ?_
 refine RN ?_
 refine ⟨_, _, eff_box (n := 150) (d := 3) (k := 1000003) rfl (by decide), fun b3 hb3 => ?_⟩
 have hBb3 := hb3.1
 refine TN 1 ?_
 refine RN ?_
 refine ⟨_, _, eff_box (n := 150) (d := 4) (k := 1000004) rfl (by decide), fun b4 hb4 => ?_⟩
 have hBb4 := hb4.1
 refine TL ?_
 refine RA rfl ?_
 refine RN ?_
 refine A.seq ?_
 refine GS ?_
 refine TL ?_
 refine RM rfl ?_
 refine RS (ok_lenB Tryd.underlying34 rfl LA) ?_
 refine RBS rfl rfl rfl (.bool false) (by simp; omega) ?_
 refine RN ?_
 refine A.no rfl ?_
 refine A.skip ?_
 refine EN ?_
 refine GS ?_
 refine TN 5 ?_
 refine RS (ok_field field32_1 (by decide) rfl) ?_
 refine RS (ok_loadV (s := 1000003) (by decide) Tryd.underlying3 rfl rfl rfl (SC_ix f hmk _ _ _)) ?_
 refine RS (ok_field field32_2 (by decide) rfl) ?_
 refine RS (ok_loadP (s := 1000003) (by decide) Tryd.underlying30 rfl size30 rfl rfl (by simp [rowV_length, hmk]) (SC_non f hmk _ _ _)) ?_
 refine RS (ok_loadA (s := 1000004) (by decide) Tryd.underlying33 rfl (size33.of (by rw [List.length_map, hd])) rfl rfl) ?_
 refine RN ?_
 refine ⟨_, _, eff_name (n := 150) (d := 30) (k := 1000030) rfl rfl (fun B' => ok_callB (Message_ok i s c hs hc d hd hi) newD_mono (A3 rfl rfl rfl)) (by decide) (by decide), fun b30 hb30 => ?_⟩
 have hBb30 := hb30.1
 have hlt_b3_b30 : b3 < b30 := hb30.2 1000003 _ _ _ rfl
 have hlt_b4_b30 : b4 < b30 := hb30.2 1000004 _ _ _ rfl
 refine TL ?_
 refine RM rfl ?_
 refine RS (ok_extractV rfl rfl) ?_
 refine RS (ok_extractV rfl rfl) ?_
 refine RA rfl ?_
 refine RA rfl ?_
 refine RN ?_
 refine A.seq ?_
 refine GS ?_
 refine TL ?_
 refine RS (ok_field field32_1 (by decide) rfl) ?_
 refine RS (ok_loadV (s := 1000003) (by decide) Tryd.underlying3 rfl rfl rfl (SC_ix f hmk _ _ _)) ?_
 refine RS (ok_call (bad9_no (i : Int) (by omega) (by omega)) (A1 rfl)) ?_
 refine RN ?_
 refine A.no rfl ?_
 refine GS ?_
 refine TN 7 ?_
 refine RS (ok_moveB (s := 1000030) (msgL i s c d) (by decide) rfl rfl (msgL_length hd).symm (by decide) (by decide) (by rw [List.drop_zero, List.take_of_length_le (by rw [List.length_map, msgL_length hd]; decide)])) ?_
 refine RS (ok_call (Parse_msg i s c hs hc d hd hi) (A1 rfl)) ?_
 refine RM rfl ?_
 refine RS (ok_extractV rfl rfl) ?_
 refine RS (ok_extractV rfl rfl) ?_
 refine RS (ok_extractV rfl rfl) ?_
 refine RS (ok_extractV rfl rfl) ?_
 refine RN ?_
 refine ⟨_, _, eff_alloc (n := 150) (d := 10) (k := 1000010) zero30 (by decide), fun b10 hb10 => ?_⟩
 have hBb10 := hb10.1
 refine TN 8 ?_
 refine RN ?_
 refine ⟨_, _, eff_alloc (n := 150) (d := 11) (k := 1000011) zero33 (by decide), fun b11 hb11 => ?_⟩
 have hBb11 := hb11.1
 have hlt_b4_b11 : b4 < b11 := hb11.2 1000004 _ _ _ rfl
 refine TF 10 ?_
 refine RA rfl ?_
 refine RN ?_
 refine ⟨_, eff_storeA (n := 150) (s := 1000010) (size30.of (rfl)) rfl rfl (rfl) hBb10 rfl (rfl) (LO 2 rfl (LV 3 rfl (LV 4 rfl (LV 7 rfl (LV 8 rfl (LV 9 rfl (LV 10 rfl (LV 11 rfl (LV 45 rfl (LV 46 rfl (LT 1000003 rfl (LT 1000004 rfl (LT 1000011 rfl (LT 1000030 rfl (LeftS.cons (t := 1900000) rfl (Surv.tab (by omega)) (LeftS.cons (t := 1900001) rfl (Surv.tab (by omega)) LN)))))))))))))))), ?_⟩
 refine TF 11 ?_
 refine RN ?_
 refine ⟨_, eff_storeA (n := 150) (s := 1000011) (size33.of (by rw [List.length_map, hd])) rfl rfl (all_bytes _) hBb11 rfl (by simp [hd]) (LO 2 rfl (LV 3 rfl (LV 4 rfl (LV 7 rfl (LV 8 rfl (LV 9 rfl (LV 10 rfl (LV 11 rfl (LV 46 rfl (LT 1000003 rfl (LB 1000004 rfl (LT 1000010 rfl (LT 1000030 rfl (LeftS.cons (t := 1900000) rfl (Surv.tab (by omega)) (LeftS.cons (t := 1900001) rfl (Surv.tab (by omega)) LN))))))))))))))), ?_⟩
 refine TL ?_
 refine RA rfl ?_
 refine RN ?_
 refine A.sub (KC 2 rfl (KC 3 rfl (KC 4 rfl (KC 7 rfl (KC 8 rfl (KC 9 rfl (KC 10 rfl (KC 11 rfl (KC 12 rfl (KC 1000003 rfl (KC 1000004 rfl (KC 1000010 rfl (KC 1000011 rfl (KC 1000030 rfl (KC 1900000 rfl (KC 1900001 rfl KN)))))))))))))))) ?_
 refine GS ?_
 refine TL ?_
 refine RS ((OpOk.fact (ok_move rfl) (d := bytes (msgL i s c d) 48) (s := 1000030) (by decide) rfl (slice_bytes (msgL i s c d) (msgL_length hd).symm (by decide) (by decide) (by rw [List.drop_zero, List.take_of_length_le (by rw [List.length_map, msgL_length hd]; decide)]))).le (d' := bytes (msgL i s c d) (msgL i s c d).length) (Le.eq (by rw [msgL_length hd]))) ?_
 refine RM rfl ?_
 refine RS (ok_field field32_1 (by decide) rfl) ?_
 refine RS (ok_loadV (s := 1000003) (by decide) Tryd.underlying3 rfl rfl rfl (SC_ix f hmk _ _ _)) ?_
 refine RS (ok_field field32_2 (by decide) rfl) ?_
 refine RS (ok_loadP (s := 1000003) (by decide) Tryd.underlying30 rfl size30 rfl rfl (by simp [rowV_length, hmk]) (SC_non f hmk _ _ _)) ?_
 refine RS (ok_loadA (s := 1000004) (by decide) Tryd.underlying33 rfl (size33.of (by rw [List.length_map, hd])) rfl rfl) ?_
 refine RS (ok_call (ref9Message_fn i s c hs hc d hd hi) (A3 rfl rfl rfl)) ?_
 refine RS (ok_call (same9_fn (msgL i s c d) 0) (Args.cons rfl (Le.refl _) (A3 rfl rfl rfl))) ?_
 refine RS (ok_not rfl) ?_; refine RZ (.bool false) (by rfl) ?_
 refine RM rfl ?_
 refine RQ (ok_move rfl) ?_
 refine RQ (ok_field field32_1 (by decide) rfl) ?_
 refine RQ (ok_loadV (s := 1000003) (by decide) Tryd.underlying3 rfl rfl rfl (SC_ix f hmk _ _ _)) ?_
 refine RQ (ok_bin rfl rfl rfl) ?_; refine RZ (.bool false) (by simp) ?_
 refine RP rfl rfl ?_
 refine RM rfl ?_
 refine RQ (ok_loadA (s := 1000010) (by decide) Tryd.underlying30 rfl (size30.of (rfl)) rfl rfl) ?_
 refine RQ (ok_field field32_2 (by decide) rfl) ?_
 refine RQ (ok_loadP (s := 1000003) (by decide) Tryd.underlying30 rfl size30 rfl rfl (by simp [rowV_length, hmk]) (SC_non f hmk _ _ _)) ?_
 refine RQ (ok_neqT (n := 3) true flatN (by decide) (by kernel_rfl) (by kernel_rfl) rfl rfl (kinN _ _) (kinN _ _) ⟨fun _ => rfl, fun _ => rfl⟩) ?_; refine RZ (.bool false) (by rfl) ?_
 refine RP rfl rfl ?_
 refine RM rfl ?_
 refine RQ (ok_loadA (s := 1000011) (by decide) Tryd.underlying33 rfl (size33.of (by rw [List.length_map, hd])) rfl rfl) ?_
 refine RQ (ok_loadA (s := 1000004) (by decide) Tryd.underlying33 rfl (size33.of (by rw [List.length_map, hd])) rfl rfl) ?_
 refine RQ (ok_neqT (n := 3) true flat33 (by decide) (by kernel_rfl) (by kernel_rfl) rfl rfl (kinB hd) (kinB hd) ⟨fun _ => rfl, fun _ => rfl⟩) ?_; refine RZ (.bool false) (by rfl) ?_
 refine RP rfl rfl ?_
 refine RM rfl ?_
 refine RQ (ok_move rfl) ?_
 refine RQ (ok_bin rfl rfl rfl) ?_; refine RZ (.bool false) (by rfl) ?_
 refine RP rfl rfl ?_
 refine RN ?_
 refine A.sub (KC 2 rfl (KC 77 rfl (KC 1000003 rfl (KC 1000004 rfl (KC 1000010 rfl (KC 1000011 rfl (KC 1000030 rfl (KC 1900000 rfl (KC 1900001 rfl KN))))))))) ?_
 refine A.no rfl ?_
 refine A.skip ?_
 refine EN ?_
 refine GS ?_
 refine TN 7 ?_
 refine RM rfl ?_
 refine RS (ok_call (Parse_err b 1 (by decide) (checkMessage_bad b hb hn)) (Args.cons rfl (Le.old _ _) Args.nil)) ?_
 refine RM rfl ?_
 refine RS (ok_extractV rfl rfl) ?_
 refine RS (ok_extractV rfl rfl) ?_
 refine RS (ok_extractV rfl rfl) ?_
 refine RS (ok_extractV rfl rfl) ?_
 refine RN ?_
 refine ⟨_, _, eff_alloc (n := 150) (d := 14) (k := 1000014) zero30 (by decide), fun b14 hb14 => ?_⟩
 have hBb14 := hb14.1
 have hlt_b10_b14 : b10 < b14 := hb14.2 1000010 _ _ _ rfl
 refine TN 8 ?_
 refine RN ?_
 refine ⟨_, _, eff_alloc (n := 150) (d := 15) (k := 1000015) zero33 (by decide), fun b15 hb15 => ?_⟩
 have hBb15 := hb15.1
 have hlt_b4_b15 : b4 < b15 := hb15.2 1000004 _ _ _ rfl
 have hlt_b11_b15 : b11 < b15 := hb15.2 1000011 _ _ _ rfl
 refine TF 10 ?_
 refine RA rfl ?_
 refine RN ?_
 refine ⟨_, eff_storeA (n := 150) (s := 1000014) (size30.of (rfl)) rfl rfl (rfl) hBb14 rfl (rfl) (LO 2 rfl (LV 13 rfl (LV 14 rfl (LV 15 rfl (LV 83 rfl (LV 84 rfl (LT 1000003 rfl (LT 1000004 rfl (LB 1000010 rfl (LT 1000011 rfl (LT 1000015 rfl (LT 1000030 rfl (LeftS.cons (t := 1900000) rfl (Surv.tab (by omega)) (LeftS.cons (t := 1900001) rfl (Surv.tab (by omega)) LN)))))))))))))), ?_⟩
 refine TF 11 ?_
 refine RN ?_
 refine ⟨_, eff_storeA (n := 150) (s := 1000015) (size33.of (rfl)) rfl rfl (rfl) hBb15 rfl (rfl) (LO 2 rfl (LV 13 rfl (LV 14 rfl (LV 15 rfl (LV 84 rfl (LT 1000003 rfl (LB 1000004 rfl (LT 1000010 rfl (LB 1000011 rfl (LT 1000014 rfl (LT 1000030 rfl (LeftS.cons (t := 1900000) rfl (Surv.tab (by omega)) (LeftS.cons (t := 1900001) rfl (Surv.tab (by omega)) LN))))))))))))), ?_⟩
 refine TL ?_
 refine RA rfl ?_
 refine RN ?_
 refine A.seq ?_
 refine GS ?_
 refine TL ?_
 refine RM rfl ?_
 refine RBS rfl rfl rfl (.bool false) (by rfl) ?_
 refine RN ?_
 refine A.no rfl ?_
 refine A.skip ?_
 refine EN ?_
 refine GS ?_
 refine TL ?_
 refine RA rfl ?_
 refine RN ?_
 refine A.seq ?_
 refine GS ?_
 refine TL ?_
 refine RM rfl ?_
 refine RS (ok_lenB Tryd.underlying34 rfl LA) ?_
 refine RBS rfl rfl rfl (.bool false) (by simp; omega) ?_
 refine RN ?_
 refine A.no rfl ?_
 refine A.skip ?_
 refine EN ?_
 refine A.seq ?_
 refine GS ?_
 refine TL ?_
 refine RM rfl ?_
 refine RS (ok_lenB Tryd.underlying34 rfl LA) ?_
 refine RBS rfl rfl rfl (.bool false) (by simp; omega) ?_
 refine RN ?_
 refine A.no rfl ?_
 refine A.skip ?_
 refine EN ?_
 refine GS ?_
 refine TL ?_
 refine RM rfl ?_
 refine RM rfl ?_
 refine RBS rfl rfl rfl (.bool true) (by rfl) ?_
 refine RM rfl ?_
 refine RQ (ok_move rfl) ?_
 refine RQ (ok_lenB Tryd.underlying34 rfl LA) ?_
 refine RQ (ok_bin rfl rfl rfl) ?_; refine RZ (.bool false) (by simp; omega) ?_
 refine RQ (ok_move rfl) ?_
 refine RQ (ok_move rfl) ?_
 refine RQ (ok_index (d := byteD (b.getD 0 0)) Tryd.underlying34 info5 rfl (Le.old _ _) rfl (by decide) (by exact byteD_getD (by omega))) ?_
 refine RQ (ok_load Tryd.underlying5 rfl rfl) ?_; refine RZ (nB (byL b 0)) (by rfl) ?_
 refine RQ (ok_bin rfl rfl rfl) ?_; refine RZ (.bool true) (by simp; omega) ?_
 refine RQ (ok_pick rfl rfl) ?_
 refine RQ (ok_move rfl) ?_
 refine RK ?_
 refine RK ?_
 refine RK ?_
 refine RK ?_
 refine RQ (ok_pick rfl rfl) ?_
 refine RQ (ok_move rfl) ?_
 refine RK ?_
 refine RK ?_
 refine RK ?_
 refine RK ?_
 refine RQ (ok_pick rfl rfl) ?_
 refine RP rfl rfl ?_
 refine RM rfl ?_
 refine RQ (ok_move rfl) ?_
 refine RQ (ok_bin rfl rfl rfl) ?_; refine RZ (.bool true) (by rfl) ?_
 refine RP rfl rfl ?_
 refine RM rfl ?_
 refine RQ (ok_loadA (s := 1000014) (by decide) Tryd.underlying30 rfl (size30.of (rfl)) rfl rfl) ?_
 refine RQ (ok_lit [] ([.int .u32 0] ++ [.int .u64 0]) (fun _ _ => rfl) (by kernel_rfl)) ?_
 refine RQ (ok_eqlT (n := 3) true flatN (by decide) (by kernel_rfl) (by kernel_rfl) rfl rfl (kinN _ _) (kinN _ _) ⟨fun _ => rfl, fun _ => rfl⟩) ?_; refine RZ (.bool true) (by rfl) ?_
 refine RP rfl rfl ?_
 refine RM rfl ?_
 refine RQ (ok_loadA (s := 1000015) (by decide) Tryd.underlying33 rfl (size33.of (rfl)) rfl rfl) ?_
 refine RQ (ok_litP [] Tryd.underlying33 info5 zero33 (by decide) trivial rfl) ?_; refine RZ (aggV (List.replicate 32 (.int .u8 0))) (by rfl) ?_
 refine RQ (ok_eqlT (n := 3) true flat33 (by decide) (by kernel_rfl) (by kernel_rfl) rfl rfl (kinZ 32) (kinZ 32) ⟨fun _ => rfl, fun _ => rfl⟩) ?_; refine RZ (.bool true) (by rfl) ?_
 refine RP rfl rfl ?_
 refine RM rfl ?_
 refine RQ (ok_callM lives9_fn (Sub.cons rfl (Sub.cons rfl KN)) tabs_v Args.nil) ?_
 refine RP rfl rfl ?_
 refine RA rfl ?_
 refine RN ?_
 refine A.sub (KC 6 rfl (KC 1000003 rfl (KC 1000004 rfl (KC 1000010 rfl (KC 1000011 rfl (KC 1000014 rfl (KC 1000015 rfl (KC 1000030 rfl (KC 1900000 rfl (KC 1900001 rfl KN)))))))))) ?_
 refine A.ret ?_
 exact End.ret1 rfl rfl (by first | exact Le.refl _ | exact Le.old _ _)
set_option maxHeartbeats 4000000 in
theorem SealsMessage_good_b2 (f : Nat → Nat) (mk : List UInt8) (hf : By f) (hmk : mk.length = 32) (i : Nat) (hi : i < 4096) (s c : Nat) (hs : s < 4294967296) (hc : c < 18446744073709551616) (d : List UInt8) (hd : d.length = 32) (b : List UInt8) (h60 : b.length ≤ 60) (hb : b.length = 48) (hn : 4096 ≤ (num (b.take 4))) (h0 : ¬ 0 < byL b 0) (h1 : 0 < byL b 1) : FnM Tryd.prog 3 tabs [.v (aggV (rowV 16 f ++ mk.map byteV ++ [nI i, nW s, nQ c])), .v (aggV (d.map byteV)), byt b] (.v (.bool true)) := by
 refine FnM.of Tryd.func3 rfl (by kernel_rfl) Tryd.ntmps3 (by simp) (by decide) (fun w => [(0, .v (aggV (rowV 16 f ++ mk.map byteV ++ [nI i, nW s, nQ c]))), (1, .v (aggV (d.map byteV))), (2, old w.heap.size (byt b)), (1900000, tab 0 (H8.list.map u32V)), (1900001, tab 1 (K64.map u32V))]) (fun w => (StartM.v rfl (StartM.v rfl (StartM.old rfl (StartM.m (by simp [tabs]) (by decide) (StartM.m (by simp [tabs]) (by decide) StartM.nil)))))) fun w₀ hM => ?_
 have htab := tabs_hi hM
 refine GS ?_
 refine TN 0 ?_
 refine RN ?_
 refine ⟨_, _, eff_box (n := 150) (d := 3) (k := 1000003) rfl (by decide), fun b3 hb3 => ?_⟩
 have hBb3 := hb3.1
 refine TN 1 ?_
 refine RN ?_
 refine ⟨_, _, eff_box (n := 150) (d := 4) (k := 1000004) rfl (by decide), fun b4 hb4 => ?_⟩
 have hBb4 := hb4.1
 refine TL ?_
 refine RA rfl ?_
 refine RN ?_
 refine A.seq ?_
 refine GS ?_
 refine TL ?_
 refine RM rfl ?_
 refine RS (ok_lenB Tryd.underlying34 rfl LA) ?_
 refine RBS rfl rfl rfl (.bool false) (by simp; omega) ?_
 refine RN ?_
 refine A.no rfl ?_
 refine A.skip ?_
 refine EN ?_
 refine GS ?_
 refine TN 5 ?_
 refine RS (ok_field field32_1 (by decide) rfl) ?_
 refine RS (ok_loadV (s := 1000003) (by decide) Tryd.underlying3 rfl rfl rfl (SC_ix f hmk _ _ _)) ?_
 refine RS (ok_field field32_2 (by decide) rfl) ?_
 refine RS (ok_loadP (s := 1000003) (by decide) Tryd.underlying30 rfl size30 rfl rfl (by simp [rowV_length, hmk]) (SC_non f hmk _ _ _)) ?_
 refine RS (ok_loadA (s := 1000004) (by decide) Tryd.underlying33 rfl (size33.of (by rw [List.length_map, hd])) rfl rfl) ?_
 refine RN ?_
 refine ⟨_, _, eff_name (n := 150) (d := 30) (k := 1000030) rfl rfl (fun B' => ok_callB (Message_ok i s c hs hc d hd hi) newD_mono (A3 rfl rfl rfl)) (by decide) (by decide), fun b30 hb30 => ?_⟩
 have hBb30 := hb30.1
 have hlt_b3_b30 : b3 < b30 := hb30.2 1000003 _ _ _ rfl
 have hlt_b4_b30 : b4 < b30 := hb30.2 1000004 _ _ _ rfl
 refine TL ?_
 refine RM rfl ?_
 refine RS (ok_extractV rfl rfl) ?_
 refine RS (ok_extractV rfl rfl) ?_
 refine RA rfl ?_
 refine RA rfl ?_
 refine RN ?_
 refine A.seq ?_
 refine GS ?_
 refine TL ?_
 refine RS (ok_field field32_1 (by decide) rfl) ?_
 refine RS (ok_loadV (s := 1000003) (by decide) Tryd.underlying3 rfl rfl rfl (SC_ix f hmk _ _ _)) ?_
 refine RS (ok_call (bad9_no (i : Int) (by omega) (by omega)) (A1 rfl)) ?_
 refine RN ?_
 refine A.no rfl ?_
 refine GS ?_
 refine TN 7 ?_
 refine RS (ok_moveB (s := 1000030) (msgL i s c d) (by decide) rfl rfl (msgL_length hd).symm (by decide) (by decide) (by rw [List.drop_zero, List.take_of_length_le (by rw [List.length_map, msgL_length hd]; decide)])) ?_
 refine RS (ok_call (Parse_msg i s c hs hc d hd hi) (A1 rfl)) ?_
 refine RM rfl ?_
 refine RS (ok_extractV rfl rfl) ?_
 refine RS (ok_extractV rfl rfl) ?_
 refine RS (ok_extractV rfl rfl) ?_
 refine RS (ok_extractV rfl rfl) ?_
 refine RN ?_
 refine ⟨_, _, eff_alloc (n := 150) (d := 10) (k := 1000010) zero30 (by decide), fun b10 hb10 => ?_⟩
 have hBb10 := hb10.1
 refine TN 8 ?_
 refine RN ?_
 refine ⟨_, _, eff_alloc (n := 150) (d := 11) (k := 1000011) zero33 (by decide), fun b11 hb11 => ?_⟩
 have hBb11 := hb11.1
 have hlt_b4_b11 : b4 < b11 := hb11.2 1000004 _ _ _ rfl
 refine TF 10 ?_
 refine RA rfl ?_
 refine RN ?_
 refine ⟨_, eff_storeA (n := 150) (s := 1000010) (size30.of (rfl)) rfl rfl (rfl) hBb10 rfl (rfl) (LO 2 rfl (LV 3 rfl (LV 4 rfl (LV 7 rfl (LV 8 rfl (LV 9 rfl (LV 10 rfl (LV 11 rfl (LV 45 rfl (LV 46 rfl (LT 1000003 rfl (LT 1000004 rfl (LT 1000011 rfl (LT 1000030 rfl (LeftS.cons (t := 1900000) rfl (Surv.tab (by omega)) (LeftS.cons (t := 1900001) rfl (Surv.tab (by omega)) LN)))))))))))))))), ?_⟩
 refine TF 11 ?_
 refine RN ?_
 refine ⟨_, eff_storeA (n := 150) (s := 1000011) (size33.of (by rw [List.length_map, hd])) rfl rfl (all_bytes _) hBb11 rfl (by simp [hd]) (LO 2 rfl (LV 3 rfl (LV 4 rfl (LV 7 rfl (LV 8 rfl (LV 9 rfl (LV 10 rfl (LV 11 rfl (LV 46 rfl (LT 1000003 rfl (LB 1000004 rfl (LT 1000010 rfl (LT 1000030 rfl (LeftS.cons (t := 1900000) rfl (Surv.tab (by omega)) (LeftS.cons (t := 1900001) rfl (Surv.tab (by omega)) LN))))))))))))))), ?_⟩
 refine TL ?_
 refine RA rfl ?_
 refine RN ?_
 refine A.sub (KC 2 rfl (KC 3 rfl (KC 4 rfl (KC 7 rfl (KC 8 rfl (KC 9 rfl (KC 10 rfl (KC 11 rfl (KC 12 rfl (KC 1000003 rfl (KC 1000004 rfl (KC 1000010 rfl (KC 1000011 rfl (KC 1000030 rfl (KC 1900000 rfl (KC 1900001 rfl KN)))))))))))))))) ?_
 refine GS ?_
 refine TL ?_
 refine RS ((OpOk.fact (ok_move rfl) (d := bytes (msgL i s c d) 48) (s := 1000030) (by decide) rfl (slice_bytes (msgL i s c d) (msgL_length hd).symm (by decide) (by decide) (by rw [List.drop_zero, List.take_of_length_le (by rw [List.length_map, msgL_length hd]; decide)]))).le (d' := bytes (msgL i s c d) (msgL i s c d).length) (Le.eq (by rw [msgL_length hd]))) ?_
 refine RM rfl ?_
 refine RS (ok_field field32_1 (by decide) rfl) ?_
 refine RS (ok_loadV (s := 1000003) (by decide) Tryd.underlying3 rfl rfl rfl (SC_ix f hmk _ _ _)) ?_
 refine RS (ok_field field32_2 (by decide) rfl) ?_
 refine RS (ok_loadP (s := 1000003) (by decide) Tryd.underlying30 rfl size30 rfl rfl (by simp [rowV_length, hmk]) (SC_non f hmk _ _ _)) ?_
 refine RS (ok_loadA (s := 1000004) (by decide) Tryd.underlying33 rfl (size33.of (by rw [List.length_map, hd])) rfl rfl) ?_
 refine RS (ok_call (ref9Message_fn i s c hs hc d hd hi) (A3 rfl rfl rfl)) ?_
 refine RS (ok_call (same9_fn (msgL i s c d) 0) (Args.cons rfl (Le.refl _) (A3 rfl rfl rfl))) ?_
 refine RS (ok_not rfl) ?_; refine RZ (.bool false) (by rfl) ?_
 refine RM rfl ?_
 refine RQ (ok_move rfl) ?_
 refine RQ (ok_field field32_1 (by decide) rfl) ?_
 refine RQ (ok_loadV (s := 1000003) (by decide) Tryd.underlying3 rfl rfl rfl (SC_ix f hmk _ _ _)) ?_
 refine RQ (ok_bin rfl rfl rfl) ?_; refine RZ (.bool false) (by simp) ?_
 refine RP rfl rfl ?_
 refine RM rfl ?_
 refine RQ (ok_loadA (s := 1000010) (by decide) Tryd.underlying30 rfl (size30.of (rfl)) rfl rfl) ?_
 refine RQ (ok_field field32_2 (by decide) rfl) ?_
 refine RQ (ok_loadP (s := 1000003) (by decide) Tryd.underlying30 rfl size30 rfl rfl (by simp [rowV_length, hmk]) (SC_non f hmk _ _ _)) ?_
 refine RQ (ok_neqT (n := 3) true flatN (by decide) (by kernel_rfl) (by kernel_rfl) rfl rfl (kinN _ _) (kinN _ _) ⟨fun _ => rfl, fun _ => rfl⟩) ?_; refine RZ (.bool false) (by rfl) ?_
 refine RP rfl rfl ?_
 refine RM rfl ?_
 refine RQ (ok_loadA (s := 1000011) (by decide) Tryd.underlying33 rfl (size33.of (by rw [List.length_map, hd])) rfl rfl) ?_
 refine RQ (ok_loadA (s := 1000004) (by decide) Tryd.underlying33 rfl (size33.of (by rw [List.length_map, hd])) rfl rfl) ?_
 refine RQ (ok_neqT (n := 3) true flat33 (by decide) (by kernel_rfl) (by kernel_rfl) rfl rfl (kinB hd) (kinB hd) ⟨fun _ => rfl, fun _ => rfl⟩) ?_; refine RZ (.bool false) (by rfl) ?_
 refine RP rfl rfl ?_
 refine RM rfl ?_
 refine RQ (ok_move rfl) ?_
 refine RQ (ok_bin rfl rfl rfl) ?_; refine RZ (.bool false) (by rfl) ?_
 refine RP rfl rfl ?_
 refine RN ?_
 refine A.sub (KC 2 rfl (KC 77 rfl (KC 1000003 rfl (KC 1000004 rfl (KC 1000010 rfl (KC 1000011 rfl (KC 1000030 rfl (KC 1900000 rfl (KC 1900001 rfl KN))))))))) ?_
 refine A.no rfl ?_
 refine A.skip ?_
 refine EN ?_
 refine GS ?_
 refine TN 7 ?_
 refine RM rfl ?_
 refine RS (ok_call (Parse_err b 1 (by decide) (checkMessage_bad b hb hn)) (Args.cons rfl (Le.old _ _) Args.nil)) ?_
 refine RM rfl ?_
 refine RS (ok_extractV rfl rfl) ?_
 refine RS (ok_extractV rfl rfl) ?_
 refine RS (ok_extractV rfl rfl) ?_
 refine RS (ok_extractV rfl rfl) ?_
 refine RN ?_
 refine ⟨_, _, eff_alloc (n := 150) (d := 14) (k := 1000014) zero30 (by decide), fun b14 hb14 => ?_⟩
 have hBb14 := hb14.1
 have hlt_b10_b14 : b10 < b14 := hb14.2 1000010 _ _ _ rfl
 refine TN 8 ?_
 refine RN ?_
 refine ⟨_, _, eff_alloc (n := 150) (d := 15) (k := 1000015) zero33 (by decide), fun b15 hb15 => ?_⟩
 have hBb15 := hb15.1
 have hlt_b4_b15 : b4 < b15 := hb15.2 1000004 _ _ _ rfl
 have hlt_b11_b15 : b11 < b15 := hb15.2 1000011 _ _ _ rfl
 refine TF 10 ?_
 refine RA rfl ?_
 refine RN ?_
 refine ⟨_, eff_storeA (n := 150) (s := 1000014) (size30.of (rfl)) rfl rfl (rfl) hBb14 rfl (rfl) (LO 2 rfl (LV 13 rfl (LV 14 rfl (LV 15 rfl (LV 83 rfl (LV 84 rfl (LT 1000003 rfl (LT 1000004 rfl (LB 1000010 rfl (LT 1000011 rfl (LT 1000015 rfl (LT 1000030 rfl (LeftS.cons (t := 1900000) rfl (Surv.tab (by omega)) (LeftS.cons (t := 1900001) rfl (Surv.tab (by omega)) LN)))))))))))))), ?_⟩
 refine TF 11 ?_
 refine RN ?_
 refine ⟨_, eff_storeA (n := 150) (s := 1000015) (size33.of (rfl)) rfl rfl (rfl) hBb15 rfl (rfl) (LO 2 rfl (LV 13 rfl (LV 14 rfl (LV 15 rfl (LV 84 rfl (LT 1000003 rfl (LB 1000004 rfl (LT 1000010 rfl (LB 1000011 rfl (LT 1000014 rfl (LT 1000030 rfl (LeftS.cons (t := 1900000) rfl (Surv.tab (by omega)) (LeftS.cons (t := 1900001) rfl (Surv.tab (by omega)) LN))))))))))))), ?_⟩
 refine TL ?_
 refine RA rfl ?_
 refine RN ?_
 refine A.seq ?_
 refine GS ?_
 refine TL ?_
 refine RM rfl ?_
 refine RBS rfl rfl rfl (.bool false) (by rfl) ?_
 refine RN ?_
 refine A.no rfl ?_
 refine A.skip ?_
 refine EN ?_
 refine GS ?_
 refine TL ?_
 refine RA rfl ?_
 refine RN ?_
 refine A.seq ?_
 refine GS ?_
 refine TL ?_
 refine RM rfl ?_
 refine RS (ok_lenB Tryd.underlying34 rfl LA) ?_
 refine RBS rfl rfl rfl (.bool false) (by simp; omega) ?_
 refine RN ?_
 refine A.no rfl ?_
 refine A.skip ?_
 refine EN ?_
 refine A.seq ?_
 refine GS ?_
 refine TL ?_
 refine RM rfl ?_
 refine RS (ok_lenB Tryd.underlying34 rfl LA) ?_
 refine RBS rfl rfl rfl (.bool false) (by simp; omega) ?_
 refine RN ?_
 refine A.no rfl ?_
 refine A.skip ?_
 refine EN ?_
 refine GS ?_
 refine TL ?_
 refine RM rfl ?_
 refine RM rfl ?_
 refine RBS rfl rfl rfl (.bool true) (by rfl) ?_
 refine RM rfl ?_
 refine RQ (ok_move rfl) ?_
 refine RQ (ok_lenB Tryd.underlying34 rfl LA) ?_
 refine RQ (ok_bin rfl rfl rfl) ?_; refine RZ (.bool false) (by simp; omega) ?_
 refine RQ (ok_move rfl) ?_
 refine RQ (ok_move rfl) ?_
 refine RQ (ok_index (d := byteD (b.getD 0 0)) Tryd.underlying34 info5 rfl (Le.old _ _) rfl (by decide) (by exact byteD_getD (by omega))) ?_
 refine RQ (ok_load Tryd.underlying5 rfl rfl) ?_; refine RZ (nB (byL b 0)) (by rfl) ?_
 refine RQ (ok_bin rfl rfl rfl) ?_; refine RZ (.bool false) (by simp; omega) ?_
 refine RQ (ok_pick rfl rfl) ?_
 refine RQ (ok_move rfl) ?_
 refine RQ (ok_move rfl) ?_
 refine RQ (ok_index (d := byteD (b.getD 1 0)) Tryd.underlying34 info5 rfl (Le.old _ _) rfl (by decide) (by exact byteD_getD (by omega))) ?_
 refine RQ (ok_load Tryd.underlying5 rfl rfl) ?_; refine RZ (nB (byL b 1)) (by rfl) ?_
 refine RQ (ok_bin rfl rfl rfl) ?_; refine RZ (.bool true) (by simp; omega) ?_
 refine RQ (ok_pick rfl rfl) ?_
 refine RQ (ok_move rfl) ?_
 refine RK ?_
 refine RK ?_
 refine RK ?_
 refine RK ?_
 refine RQ (ok_pick rfl rfl) ?_
 refine RP rfl rfl ?_
 refine RM rfl ?_
 refine RQ (ok_move rfl) ?_
 refine RQ (ok_bin rfl rfl rfl) ?_; refine RZ (.bool true) (by rfl) ?_
 refine RP rfl rfl ?_
 refine RM rfl ?_
 refine RQ (ok_loadA (s := 1000014) (by decide) Tryd.underlying30 rfl (size30.of (rfl)) rfl rfl) ?_
 refine RQ (ok_lit [] ([.int .u32 0] ++ [.int .u64 0]) (fun _ _ => rfl) (by kernel_rfl)) ?_
 refine RQ (ok_eqlT (n := 3) true flatN (by decide) (by kernel_rfl) (by kernel_rfl) rfl rfl (kinN _ _) (kinN _ _) ⟨fun _ => rfl, fun _ => rfl⟩) ?_; refine RZ (.bool true) (by rfl) ?_
 refine RP rfl rfl ?_
 refine RM rfl ?_
 refine RQ (ok_loadA (s := 1000015) (by decide) Tryd.underlying33 rfl (size33.of (rfl)) rfl rfl) ?_
 refine RQ (ok_litP [] Tryd.underlying33 info5 zero33 (by decide) trivial rfl) ?_; refine RZ (aggV (List.replicate 32 (.int .u8 0))) (by rfl) ?_
 refine RQ (ok_eqlT (n := 3) true flat33 (by decide) (by kernel_rfl) (by kernel_rfl) rfl rfl (kinZ 32) (kinZ 32) ⟨fun _ => rfl, fun _ => rfl⟩) ?_; refine RZ (.bool true) (by rfl) ?_
 refine RP rfl rfl ?_
 refine RM rfl ?_
 refine RQ (ok_callM lives9_fn (Sub.cons rfl (Sub.cons rfl KN)) tabs_v Args.nil) ?_
 refine RP rfl rfl ?_
 refine RA rfl ?_
 refine RN ?_
 refine A.sub (KC 6 rfl (KC 1000003 rfl (KC 1000004 rfl (KC 1000010 rfl (KC 1000011 rfl (KC 1000014 rfl (KC 1000015 rfl (KC 1000030 rfl (KC 1900000 rfl (KC 1900001 rfl KN)))))))))) ?_
 refine A.ret ?_
 exact End.ret1 rfl rfl (by first | exact Le.refl _ | exact Le.old _ _)
set_option maxHeartbeats 4000000 in
theorem SealsMessage_good_b3 (f : Nat → Nat) (mk : List UInt8) (hf : By f) (hmk : mk.length = 32) (i : Nat) (hi : i < 4096) (s c : Nat) (hs : s < 4294967296) (hc : c < 18446744073709551616) (d : List UInt8) (hd : d.length = 32) (b : List UInt8) (h60 : b.length ≤ 60) (hb : b.length = 48) (hn : 4096 ≤ (num (b.take 4))) (h0 : ¬ 0 < byL b 0) (h1 : ¬ 0 < byL b 1) (h2 : 15 < byL b 2) : FnM Tryd.prog 3 tabs [.v (aggV (rowV 16 f ++ mk.map byteV ++ [nI i, nW s, nQ c])), .v (aggV (d.map byteV)), byt b] (.v (.bool true)) := by
 refine FnM.of Tryd.func3 rfl (by kernel_rfl) Tryd.ntmps3 (by simp) (by decide) (fun w => [(0, .v (aggV (rowV 16 f ++ mk.map byteV ++ [nI i, nW s, nQ c]))), (1, .v (aggV (d.map byteV))), (2, old w.heap.size (byt b)), (1900000, tab 0 (H8.list.map u32V)), (1900001, tab 1 (K64.map u32V))]) (fun w => (StartM.v rfl (StartM.v rfl (StartM.old rfl (StartM.m (by simp [tabs]) (by decide) (StartM.m (by simp [tabs]) (by decide) StartM.nil)))))) fun w₀ hM => ?_
 have htab := tabs_hi hM
 refine GS ?_
 refine TN 0 ?_
 refine RN ?_
 refine ⟨_, _, eff_box (n := 150) (d := 3) (k := 1000003) rfl (by decide), fun b3 hb3 => ?_⟩
 have hBb3 := hb3.1
 refine TN 1 ?_
 refine RN ?_
 refine ⟨_, _, eff_box (n := 150) (d := 4) (k := 1000004) rfl (by decide), fun b4 hb4 => ?_⟩
 have hBb4 := hb4.1
 refine TL ?_
 refine RA rfl ?_
 refine RN ?_
 refine A.seq ?_
 refine GS ?_
 refine TL ?_
 refine RM rfl ?_
 refine RS (ok_lenB Tryd.underlying34 rfl LA) ?_
 refine RBS rfl rfl rfl (.bool false) (by simp; omega) ?_
 refine RN ?_
 refine A.no rfl ?_
 refine A.skip ?_
 refine EN ?_
 refine GS ?_
 refine TN 5 ?_
 refine RS (ok_field field32_1 (by decide) rfl) ?_
 refine RS (ok_loadV (s := 1000003) (by decide) Tryd.underlying3 rfl rfl rfl (SC_ix f hmk _ _ _)) ?_
 refine RS (ok_field field32_2 (by decide) rfl) ?_
 refine RS (ok_loadP (s := 1000003) (by decide) Tryd.underlying30 rfl size30 rfl rfl (by simp [rowV_length, hmk]) (SC_non f hmk _ _ _)) ?_
 refine RS (ok_loadA (s := 1000004) (by decide) Tryd.underlying33 rfl (size33.of (by rw [List.length_map, hd])) rfl rfl) ?_
 refine RN ?_
 refine ⟨_, _, eff_name (n := 150) (d := 30) (k := 1000030) rfl rfl (fun B' => ok_callB (Message_ok i s c hs hc d hd hi) newD_mono (A3 rfl rfl rfl)) (by decide) (by decide), fun b30 hb30 => ?_⟩
 have hBb30 := hb30.1
 have hlt_b3_b30 : b3 < b30 := hb30.2 1000003 _ _ _ rfl
 have hlt_b4_b30 : b4 < b30 := hb30.2 1000004 _ _ _ rfl
 refine TL ?_
 refine RM rfl ?_
 refine RS (ok_extractV rfl rfl) ?_
 refine RS (ok_extractV rfl rfl) ?_
 refine RA rfl ?_
 refine RA rfl ?_
 refine RN ?_
 refine A.seq ?_
 refine GS ?_
 refine TL ?_
 refine RS (ok_field field32_1 (by decide) rfl) ?_
 refine RS (ok_loadV (s := 1000003) (by decide) Tryd.underlying3 rfl rfl rfl (SC_ix f hmk _ _ _)) ?_
 refine RS (ok_call (bad9_no (i : Int) (by omega) (by omega)) (A1 rfl)) ?_
 refine RN ?_
 refine A.no rfl ?_
 refine GS ?_
 refine TN 7 ?_
 refine RS (ok_moveB (s := 1000030) (msgL i s c d) (by decide) rfl rfl (msgL_length hd).symm (by decide) (by decide) (by rw [List.drop_zero, List.take_of_length_le (by rw [List.length_map, msgL_length hd]; decide)])) ?_
 refine RS (ok_call (Parse_msg i s c hs hc d hd hi) (A1 rfl)) ?_
 refine RM rfl ?_
 refine RS (ok_extractV rfl rfl) ?_
 refine RS (ok_extractV rfl rfl) ?_
 refine RS (ok_extractV rfl rfl) ?_
 refine RS (ok_extractV rfl rfl) ?_
 refine RN ?_
 refine ⟨_, _, eff_alloc (n := 150) (d := 10) (k := 1000010) zero30 (by decide), fun b10 hb10 => ?_⟩
 have hBb10 := hb10.1
 refine TN 8 ?_
 refine RN ?_
 refine ⟨_, _, eff_alloc (n := 150) (d := 11) (k := 1000011) zero33 (by decide), fun b11 hb11 => ?_⟩
 have hBb11 := hb11.1
 have hlt_b4_b11 : b4 < b11 := hb11.2 1000004 _ _ _ rfl
 refine TF 10 ?_
 refine RA rfl ?_
 refine RN ?_
 refine ⟨_, eff_storeA (n := 150) (s := 1000010) (size30.of (rfl)) rfl rfl (rfl) hBb10 rfl (rfl) (LO 2 rfl (LV 3 rfl (LV 4 rfl (LV 7 rfl (LV 8 rfl (LV 9 rfl (LV 10 rfl (LV 11 rfl (LV 45 rfl (LV 46 rfl (LT 1000003 rfl (LT 1000004 rfl (LT 1000011 rfl (LT 1000030 rfl (LeftS.cons (t := 1900000) rfl (Surv.tab (by omega)) (LeftS.cons (t := 1900001) rfl (Surv.tab (by omega)) LN)))))))))))))))), ?_⟩
 refine TF 11 ?_
 refine RN ?_
 refine ⟨_, eff_storeA (n := 150) (s := 1000011) (size33.of (by rw [List.length_map, hd])) rfl rfl (all_bytes _) hBb11 rfl (by simp [hd]) (LO 2 rfl (LV 3 rfl (LV 4 rfl (LV 7 rfl (LV 8 rfl (LV 9 rfl (LV 10 rfl (LV 11 rfl (LV 46 rfl (LT 1000003 rfl (LB 1000004 rfl (LT 1000010 rfl (LT 1000030 rfl (LeftS.cons (t := 1900000) rfl (Surv.tab (by omega)) (LeftS.cons (t := 1900001) rfl (Surv.tab (by omega)) LN))))))))))))))), ?_⟩
 refine TL ?_
 refine RA rfl ?_
 refine RN ?_
 refine A.sub (KC 2 rfl (KC 3 rfl (KC 4 rfl (KC 7 rfl (KC 8 rfl (KC 9 rfl (KC 10 rfl (KC 11 rfl (KC 12 rfl (KC 1000003 rfl (KC 1000004 rfl (KC 1000010 rfl (KC 1000011 rfl (KC 1000030 rfl (KC 1900000 rfl (KC 1900001 rfl KN)))))))))))))))) ?_
 refine GS ?_
 refine TL ?_
 refine RS ((OpOk.fact (ok_move rfl) (d := bytes (msgL i s c d) 48) (s := 1000030) (by decide) rfl (slice_bytes (msgL i s c d) (msgL_length hd).symm (by decide) (by decide) (by rw [List.drop_zero, List.take_of_length_le (by rw [List.length_map, msgL_length hd]; decide)]))).le (d' := bytes (msgL i s c d) (msgL i s c d).length) (Le.eq (by rw [msgL_length hd]))) ?_
 refine RM rfl ?_
 refine RS (ok_field field32_1 (by decide) rfl) ?_
 refine RS (ok_loadV (s := 1000003) (by decide) Tryd.underlying3 rfl rfl rfl (SC_ix f hmk _ _ _)) ?_
 refine RS (ok_field field32_2 (by decide) rfl) ?_
 refine RS (ok_loadP (s := 1000003) (by decide) Tryd.underlying30 rfl size30 rfl rfl (by simp [rowV_length, hmk]) (SC_non f hmk _ _ _)) ?_
 refine RS (ok_loadA (s := 1000004) (by decide) Tryd.underlying33 rfl (size33.of (by rw [List.length_map, hd])) rfl rfl) ?_
 refine RS (ok_call (ref9Message_fn i s c hs hc d hd hi) (A3 rfl rfl rfl)) ?_
 refine RS (ok_call (same9_fn (msgL i s c d) 0) (Args.cons rfl (Le.refl _) (A3 rfl rfl rfl))) ?_
 refine RS (ok_not rfl) ?_; refine RZ (.bool false) (by rfl) ?_
 refine RM rfl ?_
 refine RQ (ok_move rfl) ?_
 refine RQ (ok_field field32_1 (by decide) rfl) ?_
 refine RQ (ok_loadV (s := 1000003) (by decide) Tryd.underlying3 rfl rfl rfl (SC_ix f hmk _ _ _)) ?_
 refine RQ (ok_bin rfl rfl rfl) ?_; refine RZ (.bool false) (by simp) ?_
 refine RP rfl rfl ?_
 refine RM rfl ?_
 refine RQ (ok_loadA (s := 1000010) (by decide) Tryd.underlying30 rfl (size30.of (rfl)) rfl rfl) ?_
 refine RQ (ok_field field32_2 (by decide) rfl) ?_
 refine RQ (ok_loadP (s := 1000003) (by decide) Tryd.underlying30 rfl size30 rfl rfl (by simp [rowV_length, hmk]) (SC_non f hmk _ _ _)) ?_
 refine RQ (ok_neqT (n := 3) true flatN (by decide) (by kernel_rfl) (by kernel_rfl) rfl rfl (kinN _ _) (kinN _ _) ⟨fun _ => rfl, fun _ => rfl⟩) ?_; refine RZ (.bool false) (by rfl) ?_
 refine RP rfl rfl ?_
 refine RM rfl ?_
 refine RQ (ok_loadA (s := 1000011) (by decide) Tryd.underlying33 rfl (size33.of (by rw [List.length_map, hd])) rfl rfl) ?_
 refine RQ (ok_loadA (s := 1000004) (by decide) Tryd.underlying33 rfl (size33.of (by rw [List.length_map, hd])) rfl rfl) ?_
 refine RQ (ok_neqT (n := 3) true flat33 (by decide) (by kernel_rfl) (by kernel_rfl) rfl rfl (kinB hd) (kinB hd) ⟨fun _ => rfl, fun _ => rfl⟩) ?_; refine RZ (.bool false) (by rfl) ?_
 refine RP rfl rfl ?_
 refine RM rfl ?_
 refine RQ (ok_move rfl) ?_
 refine RQ (ok_bin rfl rfl rfl) ?_; refine RZ (.bool false) (by rfl) ?_
 refine RP rfl rfl ?_
 refine RN ?_
 refine A.sub (KC 2 rfl (KC 77 rfl (KC 1000003 rfl (KC 1000004 rfl (KC 1000010 rfl (KC 1000011 rfl (KC 1000030 rfl (KC 1900000 rfl (KC 1900001 rfl KN))))))))) ?_
 refine A.no rfl ?_
 refine A.skip ?_
 refine EN ?_
 refine GS ?_
 refine TN 7 ?_
 refine RM rfl ?_
 refine RS (ok_call (Parse_err b 1 (by decide) (checkMessage_bad b hb hn)) (Args.cons rfl (Le.old _ _) Args.nil)) ?_
 refine RM rfl ?_
 refine RS (ok_extractV rfl rfl) ?_
 refine RS (ok_extractV rfl rfl) ?_
 refine RS (ok_extractV rfl rfl) ?_
 refine RS (ok_extractV rfl rfl) ?_
 refine RN ?_
 refine ⟨_, _, eff_alloc (n := 150) (d := 14) (k := 1000014) zero30 (by decide), fun b14 hb14 => ?_⟩
 have hBb14 := hb14.1
 have hlt_b10_b14 : b10 < b14 := hb14.2 1000010 _ _ _ rfl
 refine TN 8 ?_
 refine RN ?_
 refine ⟨_, _, eff_alloc (n := 150) (d := 15) (k := 1000015) zero33 (by decide), fun b15 hb15 => ?_⟩
 have hBb15 := hb15.1
 have hlt_b4_b15 : b4 < b15 := hb15.2 1000004 _ _ _ rfl
 have hlt_b11_b15 : b11 < b15 := hb15.2 1000011 _ _ _ rfl
 refine TF 10 ?_
 refine RA rfl ?_
 refine RN ?_
 refine ⟨_, eff_storeA (n := 150) (s := 1000014) (size30.of (rfl)) rfl rfl (rfl) hBb14 rfl (rfl) (LO 2 rfl (LV 13 rfl (LV 14 rfl (LV 15 rfl (LV 83 rfl (LV 84 rfl (LT 1000003 rfl (LT 1000004 rfl (LB 1000010 rfl (LT 1000011 rfl (LT 1000015 rfl (LT 1000030 rfl (LeftS.cons (t := 1900000) rfl (Surv.tab (by omega)) (LeftS.cons (t := 1900001) rfl (Surv.tab (by omega)) LN)))))))))))))), ?_⟩
 refine TF 11 ?_
 refine RN ?_
 refine ⟨_, eff_storeA (n := 150) (s := 1000015) (size33.of (rfl)) rfl rfl (rfl) hBb15 rfl (rfl) (LO 2 rfl (LV 13 rfl (LV 14 rfl (LV 15 rfl (LV 84 rfl (LT 1000003 rfl (LB 1000004 rfl (LT 1000010 rfl (LB 1000011 rfl (LT 1000014 rfl (LT 1000030 rfl (LeftS.cons (t := 1900000) rfl (Surv.tab (by omega)) (LeftS.cons (t := 1900001) rfl (Surv.tab (by omega)) LN))))))))))))), ?_⟩
 refine TL ?_
 refine RA rfl ?_
 refine RN ?_
 refine A.seq ?_
 refine GS ?_
 refine TL ?_
 refine RM rfl ?_
 refine RBS rfl rfl rfl (.bool false) (by rfl) ?_
 refine RN ?_
 refine A.no rfl ?_
 refine A.skip ?_
 refine EN ?_
 refine GS ?_
 refine TL ?_
 refine RA rfl ?_
 refine RN ?_
 refine A.seq ?_
 refine GS ?_
 refine TL ?_
 refine RM rfl ?_
 refine RS (ok_lenB Tryd.underlying34 rfl LA) ?_
 refine RBS rfl rfl rfl (.bool false) (by simp; omega) ?_
 refine RN ?_
 refine A.no rfl ?_
 refine A.skip ?_
 refine EN ?_
 refine A.seq ?_
 refine GS ?_
 refine TL ?_
 refine RM rfl ?_
 refine RS (ok_lenB Tryd.underlying34 rfl LA) ?_
 refine RBS rfl rfl rfl (.bool false) (by simp; omega) ?_
 refine RN ?_
 refine A.no rfl ?_
 refine A.skip ?_
 refine EN ?_
 refine GS ?_
 refine TL ?_
 refine RM rfl ?_
 refine RM rfl ?_
 refine RBS rfl rfl rfl (.bool true) (by rfl) ?_
 refine RM rfl ?_
 refine RQ (ok_move rfl) ?_
 refine RQ (ok_lenB Tryd.underlying34 rfl LA) ?_
 refine RQ (ok_bin rfl rfl rfl) ?_; refine RZ (.bool false) (by simp; omega) ?_
 refine RQ (ok_move rfl) ?_
 refine RQ (ok_move rfl) ?_
 refine RQ (ok_index (d := byteD (b.getD 0 0)) Tryd.underlying34 info5 rfl (Le.old _ _) rfl (by decide) (by exact byteD_getD (by omega))) ?_
 refine RQ (ok_load Tryd.underlying5 rfl rfl) ?_; refine RZ (nB (byL b 0)) (by rfl) ?_
 refine RQ (ok_bin rfl rfl rfl) ?_; refine RZ (.bool false) (by simp; omega) ?_
 refine RQ (ok_pick rfl rfl) ?_
 refine RQ (ok_move rfl) ?_
 refine RQ (ok_move rfl) ?_
 refine RQ (ok_index (d := byteD (b.getD 1 0)) Tryd.underlying34 info5 rfl (Le.old _ _) rfl (by decide) (by exact byteD_getD (by omega))) ?_
 refine RQ (ok_load Tryd.underlying5 rfl rfl) ?_; refine RZ (nB (byL b 1)) (by rfl) ?_
 refine RQ (ok_bin rfl rfl rfl) ?_; refine RZ (.bool false) (by simp; omega) ?_
 refine RQ (ok_pick rfl rfl) ?_
 refine RQ (ok_move rfl) ?_
 refine RQ (ok_move rfl) ?_
 refine RQ (ok_index (d := byteD (b.getD 2 0)) Tryd.underlying34 info5 rfl (Le.old _ _) rfl (by decide) (by exact byteD_getD (by omega))) ?_
 refine RQ (ok_load Tryd.underlying5 rfl rfl) ?_; refine RZ (nB (byL b 2)) (by rfl) ?_
 refine RQ (ok_bin rfl rfl rfl) ?_; refine RZ (.bool true) (by simp; omega) ?_
 refine RQ (ok_pick rfl rfl) ?_
 refine RP rfl rfl ?_
 refine RM rfl ?_
 refine RQ (ok_move rfl) ?_
 refine RQ (ok_bin rfl rfl rfl) ?_; refine RZ (.bool true) (by rfl) ?_
 refine RP rfl rfl ?_
 refine RM rfl ?_
 refine RQ (ok_loadA (s := 1000014) (by decide) Tryd.underlying30 rfl (size30.of (rfl)) rfl rfl) ?_
 refine RQ (ok_lit [] ([.int .u32 0] ++ [.int .u64 0]) (fun _ _ => rfl) (by kernel_rfl)) ?_
 refine RQ (ok_eqlT (n := 3) true flatN (by decide) (by kernel_rfl) (by kernel_rfl) rfl rfl (kinN _ _) (kinN _ _) ⟨fun _ => rfl, fun _ => rfl⟩) ?_; refine RZ (.bool true) (by rfl) ?_
 refine RP rfl rfl ?_
 refine RM rfl ?_
 refine RQ (ok_loadA (s := 1000015) (by decide) Tryd.underlying33 rfl (size33.of (rfl)) rfl rfl) ?_
 refine RQ (ok_litP [] Tryd.underlying33 info5 zero33 (by decide) trivial rfl) ?_; refine RZ (aggV (List.replicate 32 (.int .u8 0))) (by rfl) ?_
 refine RQ (ok_eqlT (n := 3) true flat33 (by decide) (by kernel_rfl) (by kernel_rfl) rfl rfl (kinZ 32) (kinZ 32) ⟨fun _ => rfl, fun _ => rfl⟩) ?_; refine RZ (.bool true) (by rfl) ?_
 refine RP rfl rfl ?_
 refine RM rfl ?_
 refine RQ (ok_callM lives9_fn (Sub.cons rfl (Sub.cons rfl KN)) tabs_v Args.nil) ?_
 refine RP rfl rfl ?_
 refine RA rfl ?_
 refine RN ?_
 refine A.sub (KC 6 rfl (KC 1000003 rfl (KC 1000004 rfl (KC 1000010 rfl (KC 1000011 rfl (KC 1000014 rfl (KC 1000015 rfl (KC 1000030 rfl (KC 1900000 rfl (KC 1900001 rfl KN)))))))))) ?_
 refine A.ret ?_
 exact End.ret1 rfl rfl (by first | exact Le.refl _ | exact Le.old _ _)
theorem SealsMessage_fn (f : Nat → Nat) (mk : List UInt8) (hf : By f) (hmk : mk.length = 32) (i : Int) (s c : Nat) (hs : s < 4294967296) (hc : c < 18446744073709551616) (d : List UInt8) (hd : d.length = 32) (b : List UInt8) : FnM Tryd.prog 3 tabs [.v (aggV (rowV 16 f ++ mk.map byteV ++ [.int .i64 i, nW s, nQ c])), .v (aggV (d.map byteV)), byt b] (.v (.bool true)) := by
 rcases Nat.lt_or_ge 60 b.length with h60 | h60
 ·exact SealsMessage_long f mk hf hmk i s c hs hc d hd b h60
 ·by_cases hi : i < 0 ∨ 4096 ≤ i
  ·rcases Nat.lt_trichotomy b.length 48 with hb | hb | hb
   ·exact SealsMessage_bad_short f mk hf hmk i hi s c hs hc d hd b h60 hb
   ·by_cases hn : (num (b.take 4)) < 4096
    ·exact SealsMessage_bad_ok f mk hf hmk i hi s c hs hc d hd b h60 hb hn
    ·have hn := Nat.le_of_not_lt hn
     by_cases h0 : 0 < byL b 0
     ·exact SealsMessage_bad_b1 f mk hf hmk i hi s c hs hc d hd b h60 hb hn h0
     ·by_cases h1 : 0 < byL b 1
      ·exact SealsMessage_bad_b2 f mk hf hmk i hi s c hs hc d hd b h60 hb hn h0 h1
      ·exact SealsMessage_bad_b3 f mk hf hmk i hi s c hs hc d hd b h60 hb hn h0 h1 (by have := num4_big hb hn; omega)
   ·exact SealsMessage_bad_far f mk hf hmk i hi s c hs hc d hd b h60 hb
  ·obtain ⟨k, rfl⟩ := Int.eq_ofNat_of_zero_le (show 0 ≤ i by omega)
   exact (fun (i : Nat) (hi : i < 4096) => (by
    rcases Nat.lt_trichotomy b.length 48 with hb | hb | hb
    ·exact SealsMessage_good_short f mk hf hmk i hi s c hs hc d hd b h60 hb
    ·by_cases hn : (num (b.take 4)) < 4096
     ·exact SealsMessage_good_ok f mk hf hmk i hi s c hs hc d hd b h60 hb hn
     ·have hn := Nat.le_of_not_lt hn
      by_cases h0 : 0 < byL b 0
      ·exact SealsMessage_good_b1 f mk hf hmk i hi s c hs hc d hd b h60 hb hn h0
      ·by_cases h1 : 0 < byL b 1
       ·exact SealsMessage_good_b2 f mk hf hmk i hi s c hs hc d hd b h60 hb hn h0 h1
       ·exact SealsMessage_good_b3 f mk hf hmk i hi s c hs hc d hd b h60 hb hn h0 h1 (by have := num4_big hb hn; omega)
    ·exact SealsMessage_good_far f mk hf hmk i hi s c hs hc d hd b h60 hb : FnM Tryd.prog 3 tabs [.v (aggV (rowV 16 f ++ mk.map byteV ++ [nI i, nW s, nQ c])), .v (aggV (d.map byteV)), byt b] (.v (.bool true)))) k (by omega)
end Go.Proofs.YthadcgkcgpinhaaDoor
namespace Go.Proofs.YthadcgkcgpinhaaDoor
open Go Go.RowKit Go.ChangeShapes Go.WideShapes
section
variable {H : Type} {enc : TypeId × Value → H} {P : Program} {w : World} {base : Nat} {held : Bool}
end
end Go.Proofs.YthadcgkcgpinhaaDoor
namespace Go.Proofs.YthadcgkcgpinhaaDoor
open Go Go.RowKit Go.ChangeShapes Go.WideShapes
section
variable {H : Type} {enc : TypeId × Value → H} {P : Program} {w : World} {base : Nat} {held : Bool}
/-- Keys, an index, a nonce. -/
theorem arg_S {t : TypeId} {v : Value} {d : DataW H} {ps : List MemPlace} (hf : flat P 5 t = some (List.replicate 16 .u8 ++ (List.replicate 32 .u8 ++ [.i64, .u32, .u64]))) (hg : isAggT P t = true) {r : Reach} {b0 : Nat} (hk : Value.okWide P w r b0 t v)
    (h : DataW.Trod enc P w base (fun _ => true) held t v d ps) : ∃ (f : Nat → Nat) (mk : List UInt8) (i : Int) (s c : Nat), (∀ i, f i < 256) ∧ mk.length = 32 ∧ s < 4294967296 ∧ c < 18446744073709551616 ∧ -9223372036854775808 ≤ i ∧ i ≤ 9223372036854775807 ∧
      v = aggV (rowV 16 f ++ mk.map byteV ++ [.int .i64 i, .int .u32 ((s : Nat) : Int), .int .u64 ((c : Nat) : Int)]) := by
  obtain ⟨xs, rfl, hx⟩ := arg_flat 5 hf hg hk h
  obtain ⟨x, y, rfl, h1, h2⟩ := hx.append
  obtain ⟨l, hl, rfl⟩ := h1.bytes
  obtain ⟨x, y, rfl, h3, h4⟩ := h2.append
  obtain ⟨mk, hmk, rfl⟩ := h3.bytes
  obtain ⟨i, y, rfl, h5, h6⟩ := h4.cons
  obtain ⟨n, y, rfl, h7, h8⟩ := h6.cons
  obtain ⟨m, rfl, h9⟩ := h8.one
  obtain ⟨s, rfl, hs⟩ := nat_u32 h7
  obtain ⟨c, rfl, hc⟩ := nat_u64 h9
  exact ⟨byL l, mk, i, s, c, byL_lt l, hmk, hs, hc, (bounds_i64 h5).1, (bounds_i64 h5).2, by rw [rowV_byL hl, List.append_assoc]⟩
end
end Go.Proofs.YthadcgkcgpinhaaDoor
