/-
  OWN TEXTS of this seat, put together, part 6: C09b, Vars, C09c.
-/
import Derived.Test.YthadcgkcgpinhaaGreatDoorKB1
import Derived.Test.YthadcgkcgpinhaaGreatDoorKB5
import Derived.Test.YthadcgkcgpinhaaGreatDoorKB2
import Derived.Test.YthadcgkcgpinhaaGreatDoorKB3
namespace Go.Proofs.YthadcgkcgpinhaaGreatDoor
open Go Go.RowKit
set_option linter.unusedVariables false
set_option maxRecDepth 20000

theorem same9_fn (l : List UInt8) (f : Int) : Fn Tryz.prog 27 [bytes l l.length, .v (.int .i64 f), byt l, .v (.int .i64 f)] (.v (.bool true)) := by
 refine Fn.of Tryz.func27 rfl (by kernel_rfl) Tryz.ntmps27 (by simp) (fun w => [(0, old w.heap.size (bytes l l.length)), (1, .v (.int .i64 f)), (2, old w.heap.size (byt l)), (3, .v (.int .i64 f))]) (fun w => (Start.old rfl (Start.v rfl (Start.old rfl (Start.v rfl Start.nil))))) fun w₀ => ?_
 refine GS ?_
 refine TL ?_
 refine RA rfl ?_
 refine RN ?_
 refine GS ?_
 refine TL ?_
 refine RM rfl ?_
 refine RM rfl ?_
 refine RBS rfl rfl rfl (.bool true) (by simp) ?_
 refine RM rfl ?_
 refine RQ (ok_move rfl) ?_
 refine RQ (ok_str (l := l) Tryz.underlying49 Tryz.underlying5 Tryz.underlying9 rfl ((Le.old _ _).trans (le_byt _ _))) ?_
 refine RQ (ok_move rfl) ?_
 refine RQ (ok_str (l := l) Tryz.underlying49 Tryz.underlying5 Tryz.underlying9 rfl (Le.old _ _)) ?_
 refine RQ (ok_seq rfl rfl) ?_; refine RZ (.bool true) (by simp) ?_
 refine RP rfl rfl ?_
 refine RM rfl ?_
 refine RQ (ok_move rfl) ?_
 refine RQ (ok_cap Tryz.underlying49 rfl (Le.old _ _)) ?_
 refine RQ (ok_move rfl) ?_
 refine RQ (ok_lenB Tryz.underlying49 rfl ((Le.old _ _).trans (le_byt _ _))) ?_
 refine RQ (ok_bin rfl rfl rfl) ?_; refine RZ (.bool true) (by simp) ?_
 refine RP rfl rfl ?_
 refine RA rfl ?_
 refine RN ?_
 refine A.ret ?_
 exact End.ret1 rfl rfl (by first | exact Le.refl _ | exact Le.old _ _)
theorem bad9_neg (i : Int) (h : i < 0) : Fn Tryz.prog 8 [.v (.int .i64 i)] (.v (.bool true)) := by
 refine Fn.of Tryz.func8 rfl (by kernel_rfl) Tryz.ntmps8 (by simp) (fun w => [(0, .v (.int .i64 i))]) (fun w => (Start.v rfl Start.nil)) fun w₀ => ?_
 refine GS ?_
 refine TL ?_
 refine RA rfl ?_
 refine RN ?_
 refine GS ?_
 refine TL ?_
 refine RM rfl ?_
 refine RBS rfl rfl rfl (.bool true) (by simp [h]) ?_
 refine RM rfl ?_
 refine RK ?_
 refine RK ?_
 refine RP rfl rfl ?_
 refine RA rfl ?_
 refine RN ?_
 refine A.ret ?_
 exact End.ret1 rfl rfl (by first | exact Le.refl _ | exact Le.old _ _)
theorem bad9_big (i : Int) (h0 : 0 ≤ i) (h : 4096 ≤ i) : Fn Tryz.prog 8 [.v (.int .i64 i)] (.v (.bool true)) := by
 refine Fn.of Tryz.func8 rfl (by kernel_rfl) Tryz.ntmps8 (by simp) (fun w => [(0, .v (.int .i64 i))]) (fun w => (Start.v rfl Start.nil)) fun w₀ => ?_
 refine GS ?_
 refine TL ?_
 refine RA rfl ?_
 refine RN ?_
 refine GS ?_
 refine TL ?_
 refine RM rfl ?_
 refine RBS rfl rfl rfl (.bool false) (by simp; omega) ?_
 refine RM rfl ?_
 refine RQ (ok_move rfl) ?_
 refine RQ (ok_bin rfl rfl rfl) ?_; refine RZ (.bool true) (by simp; omega) ?_
 refine RP rfl rfl ?_
 refine RA rfl ?_
 refine RN ?_
 refine A.ret ?_
 exact End.ret1 rfl rfl (by first | exact Le.refl _ | exact Le.old _ _)
theorem bad9_no (i : Int) (h0 : 0 ≤ i) (h : i < 4096) : Fn Tryz.prog 8 [.v (.int .i64 i)] (.v (.bool false)) := by
 refine Fn.of Tryz.func8 rfl (by kernel_rfl) Tryz.ntmps8 (by simp) (fun w => [(0, .v (.int .i64 i))]) (fun w => (Start.v rfl Start.nil)) fun w₀ => ?_
 refine GS ?_
 refine TL ?_
 refine RA rfl ?_
 refine RN ?_
 refine GS ?_
 refine TL ?_
 refine RM rfl ?_
 refine RBS rfl rfl rfl (.bool false) (by simp; omega) ?_
 refine RM rfl ?_
 refine RQ (ok_move rfl) ?_
 refine RQ (ok_bin rfl rfl rfl) ?_; refine RZ (.bool false) (by simp; omega) ?_
 refine RP rfl rfl ?_
 refine RA rfl ?_
 refine RN ?_
 refine A.ret ?_
 exact End.ret1 rfl rfl (by first | exact Le.refl _ | exact Le.old _ _)
theorem bad9_yes (i : Int) (h : i < 0 ∨ 4096 ≤ i) : Fn Tryz.prog 8 [.v (.int .i64 i)] (.v (.bool true)) := by
 by_cases h0 : i < 0
 ·exact bad9_neg i h0
 ·exact bad9_big i (by omega) (by omega)
theorem ref9Message_fn (i : Nat) (s c : Nat) (hs : s < 4294967296) (hc : c < 18446744073709551616) (d : List UInt8) (hd : d.length = 32) (hi : i < 4096) : Fn Tryz.prog 13 [.v (nI i), .v (aggV ([nW s, nQ c])), .v (aggV (d.map byteV))] (byt (msgL i s c d)) := by
 refine Fn.of Tryz.func13 rfl (by kernel_rfl) Tryz.ntmps13 (by simp) (fun w => [(0, .v (nI i)), (1, .v (aggV ([nW s, nQ c]))), (2, .v (aggV (d.map byteV)))]) (fun w => (Start.v rfl (Start.v rfl (Start.v rfl Start.nil)))) fun w₀ => ?_
 refine GS ?_
 refine TN 0 ?_
 refine RN ?_
 refine ⟨_, _, eff_box (n := 15) (d := 4) (k := 1000004) rfl (by decide), fun b4 hb4 => ?_⟩
 have hBb4 := hb4.1
 refine TN 1 ?_
 refine RN ?_
 refine ⟨_, _, eff_box (n := 15) (d := 5) (k := 1000005) rfl (by decide), fun b5 hb5 => ?_⟩
 have hBb5 := hb5.1
 refine TL ?_
 refine RA rfl ?_
 refine RN ?_
 refine GD ?_
 refine TD 7 ?_
 refine RM rfl ?_
 refine RS (ok_conv Tryz.underlying3 Tryz.underlying27 rfl) ?_; refine RZ (nW i) (by rw [wrapN_u32 (by omega)]) ?_
 refine RS (ok_call ((refPut32_fn ((i : Nat) : Int) (by omega) (by omega)).le (d' := bytes (be 4 i) 4) (Le.refl _)) (A1 rfl)) ?_
 refine RS (ok_loadA (s := 1000004) (by decide) Tryz.underlying30 rfl (size30.of (rfl)) rfl rfl) ?_
 refine RS (ok_call (ref8Put_fn s c hs hc) (A1 rfl)) ?_
 refine RS (ok_appendFull (l := be 4 i) (m := nonceL s c) Tryz.underlying49 info5 (by decide) rfl rfl (Le.eq (by rw [be_length])) rfl (Le.refl _) (by rw [be_length]; decide) (by rw [nonceL_length]; decide) (by rw [be_length, nonceL_length]; decide)) ?_
 refine RS ((ok_sliceA (s := 1000005) 0 32 (by decide) Tryz.underlying33 info5 rfl rfl (.inr ⟨rfl, rfl⟩) (.inr ⟨rfl, rfl⟩) (by omega) (by omega) (by rw [List.length_map, hd]) (by decide)).le (d' := byt d) (byt_all hd)) ?_
 refine RN ?_
 refine ⟨_, eff_appendS (vs := d.map byteV) Tryz.underlying49 info5 (by decide) rfl rfl rfl (Le.eq (byt_vals _)) (by simp [byteV, Value.oneCell']) (by simp [be_length, nonceL_length, hd]) (by decide) (fun g hg => (LT 1000004 rfl (LT 1000005 rfl LN))), ?_⟩
 refine TL ?_
 refine RA rfl ?_
 refine RN ?_
 refine A.ret ?_
 refine End.ret1 rfl rfl (Le.trans (Le.eq ?_) (own_byt (B := w₀.heap.size) (e := 5) (n := 48) (l := (msgL i s c d)) (msgL_length hd).symm))
 rw [List.length_map, be_length, nonceL_length, hd, ← List.map_append, List.append_assoc]; rfl
set_option maxHeartbeats 2000000 in
theorem ref9Xor_fn (f : Nat → Nat) (hf : By f) (s c : Nat) (hs : s < 4294967296) (hc : c < 18446744073709551616) (d : List UInt8) (hd : d.length = 32)  : Fn Tryz.prog 28 [.v (aggV (rowV 16 (f))), .v (aggV ([nW s, nQ c])), .v (aggV (d.map byteV))] (.v (aggV ((xorK f s c 0 d).map byteV))) := by
 have hXl : (xorK f s c 0 d).length = 32 := by rw [xorK_length, hd]
 refine Fn.of Tryz.func28 rfl (by kernel_rfl) Tryz.ntmps28 (by simp) (fun w => [(0, .v (aggV (rowV 16 (f)))), (1, .v (aggV ([nW s, nQ c]))), (2, .v (aggV (d.map byteV)))]) (fun w => (Start.v rfl (Start.v rfl (Start.v rfl Start.nil)))) fun w₀ => ?_
 refine GS ?_
 refine TN 0 ?_
 refine RN ?_
 refine ⟨_, _, eff_box (n := 25) (d := 3) (k := 1000003) rfl (by decide), fun b3 hb3 => ?_⟩
 have hBb3 := hb3.1
 refine TN 1 ?_
 refine RN ?_
 refine ⟨_, _, eff_box (n := 25) (d := 4) (k := 1000004) rfl (by decide), fun b4 hb4 => ?_⟩
 have hBb4 := hb4.1
 refine TN 2 ?_
 refine RN ?_
 refine ⟨_, _, eff_box (n := 25) (d := 5) (k := 1000005) rfl (by decide), fun b5 hb5 => ?_⟩
 have hBb5 := hb5.1
 refine TN 3 ?_
 refine RN ?_
 refine ⟨_, _, eff_alloc (n := 25) (d := 6) (k := 1000006) zero33 (by decide), fun b6 hb6 => ?_⟩
 have hBb6 := hb6.1
 have hlt_b5_b6 : b5 < b6 := hb6.2 1000005 _ _ _ rfl
 refine TL ?_
 refine RN ?_
 refine GD ?_
 refine TL ?_
 refine RS (ok_loadA (s := 1000003) (by decide) Tryz.underlying22 rfl (size22.of (rowV_length _ _)) rfl rfl) ?_
 refine RS (ok_loadA (s := 1000004) (by decide) Tryz.underlying30 rfl (size30.of (rfl)) rfl rfl) ?_
 refine RS ((ok_sliceA (s := 1000005) 0 32 (by decide) Tryz.underlying33 info5 rfl rfl (.inr ⟨rfl, rfl⟩) (.inr ⟨rfl, rfl⟩) (by omega) (by omega) (by rw [List.length_map, hd]) (by decide)).le (d' := byt d) (byt_all hd)) ?_
 refine RS (ok_callB (ref7Xor_fnB f hf s c 0 d hs hc (by omega)) (fun _ _ h => own_mono h) (Args.cons rfl (Le.refl _) (A3 rfl rfl rfl))) ?_
 refine RA rfl ?_
 refine RN ?_
 refine GS ?_
 refine TN 0 ?_
 refine RN ?_
 refine ⟨_, _, eff_alloc (n := 25) (d := 8) (k := 1000008) zero33 (by decide), fun b8 hb8 => ?_⟩
 have hBb8 := hb8.1
 have hlt_b5_b8 : b5 < b8 := hb8.2 1000005 _ _ _ rfl
 have hlt_b6_b8 : b6 < b8 := hb8.2 1000006 _ _ _ rfl
 refine TL ?_
 refine RN ?_
 refine A.seq ?_
 refine GS ?_
 refine TL ?_
 refine RA rfl ?_
 refine RN ?_
 refine A.block ?_
 refine A.loop (ι := Nat) (fun i => i ≤ 32) (fun i => [(6, .v (.pointer (some ⟨b6, 0, none⟩))), (7, own w₀.heap.size 5 d.length ((xorK f s c 0 d).map byteV)), (8, .v (.pointer (some ⟨b8, 0, none⟩))), (9, .v (nI i)), (1000006, blk b6 33 (List.replicate 32 (.int .u8 0))), (1000008, blk b8 33 (((xorK f s c 0 d).take i).map byteV ++ List.replicate ((xorK f s c 0 d).length - i) (.int .u8 0)))]) (fun i => 32 - i) 0 ?_ ?_ ?_
 ·exact Nat.zero_le _
 ·exact (KC 6 rfl (KC 7 rfl (KC 8 rfl (KE 9 rfl (by rfl) (KC 1000006 rfl (KE 1000008 rfl (by rw [hXl]; rfl) KN))))))
 intro i hi'
 refine A.seq ?_
 refine GS ?_
 refine TL ?_
 refine RM rfl ?_
 refine RB rfl rfl rfl ?_
 refine RN ?_
 refine A.cond rfl (fun hc15 => ?_) (fun hc15 => ?_)
 ·have hlt : i < 32 := by simp at hc15; omega
  refine A.skip ?_
  refine EN ?_
  refine A.seq ?_
  refine A.block ?_
  refine GE ?_
  refine TF 6 ?_
  refine RM rfl ?_
  refine RM rfl ?_
  refine RM rfl ?_
  refine RS (ok_index (d := byteD ((xorK f s c 0 d).getD i 0)) Tryz.underlying49 info5 rfl (own_cat rfl (by rw [hXl, hd])) rfl (by omega) (by rw [Int.toNat_natCast, byteD_getD (by omega)])) ?_
  refine RS (ok_load Tryz.underlying5 rfl rfl) ?_; refine RZ (byteV ((xorK f s c 0 d).getD i 0)) (by rfl) ?_
  refine RS (ok_index0 (i) Tryz.underlying33 info5 rfl rfl (rfl) (hlt)) ?_
  refine RN ?_
  refine ⟨_, eff_storeS (n := 25) (s := 1000008) info5 rfl rfl rfl hBb8 rfl (by simp [hXl]; omega) (LV 6 rfl (LeftS.cons (t := 7) rfl (Surv.own (by decide)) (LV 8 rfl (LV 9 rfl (LB 1000006 rfl LN))))), ?_⟩
  refine TL ?_
  refine RN ?_
  refine End.normal_block ?_
  refine EN ?_
  refine GE ?_
  refine TL ?_
  refine RM rfl ?_
  refine RBS rfl rfl rfl (nI (i + 1)) (by rw [wrap_i64 (by omega) (by omega)]; exact congrArg (Value.int .i64) (by omega)) ?_
  refine RA rfl ?_
  refine RN ?_
  refine End.normal_then ?_
  refine End.again (i + 1) ?_ ?_ ?_
  ·show _ ≤ _; omega
  ·show _ - _ < _ - _; omega
  ·exact (KC 6 rfl (KC 7 rfl (KC 8 rfl (KC 9 rfl (KC 1000006 rfl (KE 1000008 rfl (by exact congrArg _ (fill_step (getD_get (l := (xorK f s c 0 d)) (by omega)))) KN))))))
 ·have hi2 : i = 32 := by simp at hc15; omega
  refine A.exit ?_
  refine End.exit_then ?_
  refine End.exit_then ?_
  refine End.exit_here ?_
  refine EN ?_
  refine GS ?_
  refine TF 1 ?_
  refine RS (ok_loadA (s := 1000008) (by decide) Tryz.underlying33 rfl (size33.of (by simp [hXl]; omega)) rfl rfl) ?_; refine RZ (aggV ((xorK f s c 0 d).map byteV)) (by rw [hi2, List.take_of_length_le (by omega), hXl]; simp) ?_
  refine RN ?_
  refine ⟨_, eff_storeA (n := 25) (s := 1000006) (size33.of (by simp [hXl])) rfl rfl (all_bytes _) hBb6 rfl (by simp [hXl]) (LV 6 rfl (LB 1000008 rfl LN)), ?_⟩
  refine TL ?_
  refine RN ?_
  refine A.ret ?_
  exact End.cell1 (s := 1000006) rfl Tryz.underlying33 rfl (size33.of (by rw [List.length_map, hXl])) rfl rfl (Le.refl _)
set_option maxHeartbeats 1000000 in
theorem ref9Open_int (f : Nat → Nat) (mk : List UInt8) (hf : By f) (hmk : mk.length = 32) (i : Nat) (s c : Nat) (hs : s < 4294967296) (hc : c < 18446744073709551616) (d : List UInt8) (hd : d.length = 32) (hi : i < 4096)(tg : List UInt8) (htg : tg.length = 32) (h : tg ≠ (hmac mk (msgL i s c d))) : Fn Tryz.prog 12 [.v (aggV (rowV 16 (f))), .v (aggV (mk.map byteV)), .v (nI i), .v (aggV ([nW s, nQ c])), .v (aggV (d.map byteV)), .v (aggV (tg.map byteV))] (tup [.v (aggV (List.replicate 32 (.int .u8 0))), .v (.int .i64 9)]) := by
 refine Fn.of Tryz.func12 rfl (by kernel_rfl) Tryz.ntmps12 (by simp) (fun w => [(0, .v (aggV (rowV 16 (f)))), (1, .v (aggV (mk.map byteV))), (2, .v (nI i)), (3, .v (aggV ([nW s, nQ c]))), (4, .v (aggV (d.map byteV))), (5, .v (aggV (tg.map byteV)))]) (fun w => (Start.v rfl (Start.v rfl (Start.v rfl (Start.v rfl (Start.v rfl (Start.v rfl Start.nil))))))) fun w₀ => ?_
 refine GS ?_
 refine TN 0 ?_
 refine RN ?_
 refine ⟨_, _, eff_box (n := 27) (d := 6) (k := 1000006) rfl (by decide), fun b6 hb6 => ?_⟩
 have hBb6 := hb6.1
 refine TN 1 ?_
 refine RN ?_
 refine ⟨_, _, eff_box (n := 27) (d := 7) (k := 1000007) rfl (by decide), fun b7 hb7 => ?_⟩
 have hBb7 := hb7.1
 refine TN 2 ?_
 refine RN ?_
 refine ⟨_, _, eff_box (n := 27) (d := 9) (k := 1000009) rfl (by decide), fun b9 hb9 => ?_⟩
 have hBb9 := hb9.1
 refine TN 3 ?_
 refine RN ?_
 refine ⟨_, _, eff_box (n := 27) (d := 10) (k := 1000010) rfl (by decide), fun b10 hb10 => ?_⟩
 have hBb10 := hb10.1
 refine TN 4 ?_
 refine RN ?_
 refine ⟨_, _, eff_box (n := 27) (d := 11) (k := 1000011) rfl (by decide), fun b11 hb11 => ?_⟩
 have hBb11 := hb11.1
 refine TN 5 ?_
 refine RN ?_
 refine ⟨_, _, eff_alloc (n := 27) (d := 12) (k := 1000012) zero33 (by decide), fun b12 hb12 => ?_⟩
 have hBb12 := hb12.1
 have hlt_b10_b12 : b10 < b12 := hb12.2 1000010 _ _ _ rfl
 refine TL ?_
 refine RA rfl ?_
 refine RN ?_
 refine A.seq ?_
 refine GD ?_
 refine TL ?_
 refine RS ((ok_sliceA (s := 1000007) 0 32 (by decide) Tryz.underlying24 info5 rfl rfl (.inr ⟨rfl, rfl⟩) (.inr ⟨rfl, rfl⟩) (by omega) (by omega) (by rw [List.length_map, hmk]) (by decide)).le (d' := byt mk) (byt_all hmk)) ?_
 refine RM rfl ?_
 refine RS (ok_loadA (s := 1000009) (by decide) Tryz.underlying30 rfl (size30.of (rfl)) rfl rfl) ?_
 refine RS (ok_loadA (s := 1000010) (by decide) Tryz.underlying33 rfl (size33.of (by rw [List.length_map, hd])) rfl rfl) ?_
 refine RS (ok_call (ref9Message_fn i s c hs hc d hd hi) (A3 rfl rfl rfl)) ?_
 refine RS (ok_call (ref3Sum_fn mk (msgL i s c d) (by omega) (by rw [msgL_length hd]; decide)) (A2 rfl rfl)) ?_
 refine RS (ok_loadA (s := 1000011) (by decide) Tryz.underlying34 rfl (size34.of (by rw [List.length_map, htg])) rfl rfl) ?_
 refine RS (ok_neqT (n := 3) (decide ((hmac mk (msgL i s c d)) = tg)) flat34 (by decide) (by kernel_rfl) (by kernel_rfl) rfl rfl (kinB (hmac_length _ _)) (kinB htg) (decB _ _)) ?_; refine RZ (.bool true) (by simp [Ne.symm h]) ?_
 refine RN ?_
 refine A.yes rfl ?_
 refine GS ?_
 refine TF 1 ?_
 refine RS (ok_litP [] Tryz.underlying33 info5 zero33 (by decide) trivial rfl) ?_; refine RZ (aggV (List.replicate 32 (.int .u8 0))) (by rfl) ?_
 refine RN ?_
 refine ⟨_, eff_storeA (n := 27) (s := 1000012) (size33.of (rfl)) rfl rfl (rfl) hBb12 rfl (rfl) (LV 12 rfl (LT 1000006 rfl (LT 1000007 rfl (LT 1000009 rfl (LB 1000010 rfl (LT 1000011 rfl LN)))))), ?_⟩
 refine TL ?_
 refine RA rfl ?_
 refine RN ?_
 refine A.ret ?_
 refine End.ret_then ?_
 exact End.cellT (s := 1000012) rfl Tryz.underlying33 rfl (size33.of (rfl)) rfl rfl (Le.refl _) rfl (Le.refl _)
set_option maxHeartbeats 1000000 in
theorem ref9Open_ok (f : Nat → Nat) (mk : List UInt8) (hf : By f) (hmk : mk.length = 32) (i : Nat) (s c : Nat) (hs : s < 4294967296) (hc : c < 18446744073709551616) (d : List UInt8) (hd : d.length = 32) (hi : i < 4096)(tg : List UInt8) (htg : tg.length = 32) (h : tg = (hmac mk (msgL i s c d))) : Fn Tryz.prog 12 [.v (aggV (rowV 16 (f))), .v (aggV (mk.map byteV)), .v (nI i), .v (aggV ([nW s, nQ c])), .v (aggV (d.map byteV)), .v (aggV (tg.map byteV))] (tup [.v (aggV ((xorK f s c 0 d).map byteV)), .v (.int .i64 0)]) := by
 refine Fn.of Tryz.func12 rfl (by kernel_rfl) Tryz.ntmps12 (by simp) (fun w => [(0, .v (aggV (rowV 16 (f)))), (1, .v (aggV (mk.map byteV))), (2, .v (nI i)), (3, .v (aggV ([nW s, nQ c]))), (4, .v (aggV (d.map byteV))), (5, .v (aggV (tg.map byteV)))]) (fun w => (Start.v rfl (Start.v rfl (Start.v rfl (Start.v rfl (Start.v rfl (Start.v rfl Start.nil))))))) fun w₀ => ?_
 refine GS ?_
 refine TN 0 ?_
 refine RN ?_
 refine ⟨_, _, eff_box (n := 27) (d := 6) (k := 1000006) rfl (by decide), fun b6 hb6 => ?_⟩
 have hBb6 := hb6.1
 refine TN 1 ?_
 refine RN ?_
 refine ⟨_, _, eff_box (n := 27) (d := 7) (k := 1000007) rfl (by decide), fun b7 hb7 => ?_⟩
 have hBb7 := hb7.1
 refine TN 2 ?_
 refine RN ?_
 refine ⟨_, _, eff_box (n := 27) (d := 9) (k := 1000009) rfl (by decide), fun b9 hb9 => ?_⟩
 have hBb9 := hb9.1
 refine TN 3 ?_
 refine RN ?_
 refine ⟨_, _, eff_box (n := 27) (d := 10) (k := 1000010) rfl (by decide), fun b10 hb10 => ?_⟩
 have hBb10 := hb10.1
 refine TN 4 ?_
 refine RN ?_
 refine ⟨_, _, eff_box (n := 27) (d := 11) (k := 1000011) rfl (by decide), fun b11 hb11 => ?_⟩
 have hBb11 := hb11.1
 refine TN 5 ?_
 refine RN ?_
 refine ⟨_, _, eff_alloc (n := 27) (d := 12) (k := 1000012) zero33 (by decide), fun b12 hb12 => ?_⟩
 have hBb12 := hb12.1
 have hlt_b10_b12 : b10 < b12 := hb12.2 1000010 _ _ _ rfl
 refine TL ?_
 refine RA rfl ?_
 refine RN ?_
 refine A.seq ?_
 refine GD ?_
 refine TL ?_
 refine RS ((ok_sliceA (s := 1000007) 0 32 (by decide) Tryz.underlying24 info5 rfl rfl (.inr ⟨rfl, rfl⟩) (.inr ⟨rfl, rfl⟩) (by omega) (by omega) (by rw [List.length_map, hmk]) (by decide)).le (d' := byt mk) (byt_all hmk)) ?_
 refine RM rfl ?_
 refine RS (ok_loadA (s := 1000009) (by decide) Tryz.underlying30 rfl (size30.of (rfl)) rfl rfl) ?_
 refine RS (ok_loadA (s := 1000010) (by decide) Tryz.underlying33 rfl (size33.of (by rw [List.length_map, hd])) rfl rfl) ?_
 refine RS (ok_call (ref9Message_fn i s c hs hc d hd hi) (A3 rfl rfl rfl)) ?_
 refine RS (ok_call (ref3Sum_fn mk (msgL i s c d) (by omega) (by rw [msgL_length hd]; decide)) (A2 rfl rfl)) ?_
 refine RS (ok_loadA (s := 1000011) (by decide) Tryz.underlying34 rfl (size34.of (by rw [List.length_map, htg])) rfl rfl) ?_
 refine RS (ok_neqT (n := 3) (decide ((hmac mk (msgL i s c d)) = tg)) flat34 (by decide) (by kernel_rfl) (by kernel_rfl) rfl rfl (kinB (hmac_length _ _)) (kinB htg) (decB _ _)) ?_; refine RZ (.bool false) (by simp [h]) ?_
 refine RN ?_
 refine A.no rfl ?_
 refine A.skip ?_
 refine EN ?_
 refine GS ?_
 refine TF 4 ?_
 refine RS (ok_loadA (s := 1000006) (by decide) Tryz.underlying22 rfl (size22.of (rowV_length _ _)) rfl rfl) ?_
 refine RS (ok_loadA (s := 1000009) (by decide) Tryz.underlying30 rfl (size30.of (rfl)) rfl rfl) ?_
 refine RS (ok_loadA (s := 1000010) (by decide) Tryz.underlying33 rfl (size33.of (by rw [List.length_map, hd])) rfl rfl) ?_
 refine RS (ok_call (ref9Xor_fn f hf s c hs hc d hd) (A3 rfl rfl rfl)) ?_
 refine RN ?_
 refine ⟨_, eff_storeA (n := 27) (s := 1000012) (size33.of (by rw [List.length_map, xorK_length, hd])) rfl rfl (all_bytes _) hBb12 rfl (by simp [xorK_length, hd]) (LV 12 rfl (LT 1000006 rfl (LT 1000007 rfl (LT 1000009 rfl (LB 1000010 rfl (LT 1000011 rfl LN)))))), ?_⟩
 refine TL ?_
 refine RA rfl ?_
 refine RN ?_
 refine A.ret ?_
 exact End.cellT (s := 1000012) rfl Tryz.underlying33 rfl (size33.of (by rw [List.length_map, xorK_length, hd])) rfl rfl (Le.refl _) rfl (Le.refl _)
end Go.Proofs.YthadcgkcgpinhaaGreatDoor
namespace Go.Proofs.YthadcgkcgpinhaaGreatDoor
open Go Go.RowKit
/-- A variable that the region makes: the operation that makes it, its slot, its type, its zero value, the operation that gives it its value. -/
structure VarN where
  a : Nat
  t : Nat
  T : TypeId
  zs : List Value
  s : Nat
  ys : List Value
inductive FromV (ops : Array Oper) (vals : List (Option Value)) (E0 : Env) (o : Oper) : Env → Prop
  | nil : FromV ops vals E0 o []
  | all : FromV ops vals E0 o E0
  | op {t : Nat} {v : Value} {E : Env} (j : Nat) (he : (o.after.any fun e => Region.binds .any e && e.on == j) = true) (hd : (ops[j]?).bind (·.dst) = some t) (hv : vals[j]? = some (some v)) (hr : FromV ops vals E0 o E) : FromV ops vals E0 o ((t, .v v) :: E)
inductive FromW (ops : Array Oper) (vals : List (Option Value)) (E0 : Env) : Env → Prop
  | all : FromW ops vals E0 E0
  | op {t : Nat} {v : Value} {E : Env} (j : Nat) (hd : (ops[j]?).bind (·.dst) = some t) (hv : vals[j]? = some (some v)) (hr : FromW ops vals E0 E) : FromW ops vals E0 ((t, .v v) :: E)
inductive KopOk (P : Program) (ops : Array Oper) (vals : List (Option Value)) (vs : List VarN) (E0 : Env) (i : Nat) : Oper → Prop
  | pure {o : Oper} {t : Nat} {v : Value} (E : Env) (hv : vals[i]? = some (some v)) (hd : o.dst = some t) (h0 : E0.look t = none ∨ E0.look t = some (.v v)) (hf : FromV ops vals E0 o E) (hok : ∀ B', OpOk P B' o E (.v v)) : KopOk P ops vals vs E0 i o
  | alloc {t : Tmp} {T ty : TypeId} {pos : String} {after : Array Edge} {V : VarN} (j : Nat) (hV : vs[j]? = some V) (ha : V.a = i) (hT : V.T = T) (ht : V.t = t) (hz : ZeroIs P T V.zs) (h0 : E0.look t = none) : KopOk P ops vals vs E0 i ⟨some t, .alloc T, ty, pos, after, none⟩
  | store {t T ty : TypeId} {x : Operand} {pos : String} {after : Array Edge} {V : VarN} (j : Nat) (E : Env) (hV : vs[j]? = some V) (hs : V.s = i) (hT : V.T = T) (ht : V.t = t) (he : (after.any fun e => Region.binds .any e && e.on == V.a) = true) (hf : FromV ops vals E0 ⟨none, .store T (.tmp t) x, ty, pos, after, none⟩ E) (hx : E.at x = some (.v (aggV V.ys)))
      (hsz : SizeIs P T V.ys.length) (hl : V.zs.length = V.ys.length) (h1 : V.ys.all (·.oneCell') = true) : KopOk P ops vals vs E0 i ⟨none, .store T (.tmp t) x, ty, pos, after, none⟩
inductive Kops (P : Program) (ops : Array Oper) (vals : List (Option Value)) (vs : List VarN) (E0 : Env) : Nat → List Oper → Prop
  | nil {i : Nat} : Kops P ops vals vs E0 i []
  | cons {i : Nat} {o : Oper} {rest : List Oper} (h : KopOk P ops vals vs E0 i o) (hr : Kops P ops vals vs E0 (i + 1) rest) : Kops P ops vals vs E0 i (o :: rest)
def varsOk (ops : Array Oper) (vals : List (Option Value)) (vs : List VarN) : Bool := (List.range vs.length).all fun j => match vs[j]? with
  | none => false
  | some V => ((ops[V.a]?).bind (·.dst) == some V.t) && (match vals[V.a]? with | some none => true | _ => false) && (match vals[V.s]? with | some none => true | _ => false) && decide (V.a < ops.size) && decide (V.s < ops.size) && V.a != V.s && (List.range vs.length).all fun j' => match vs[j']? with
    | none => false
    | some V' => j == j' || (V.a != V'.a && V.s != V'.s && V.a != V'.s && V.s != V'.a)
section
variable {P : Program} {n B : Nat} {ops : Array Oper} {κ : Cx} {Q : Exit → Act → World → Prop} {vals : List (Option Value)} {vs : List VarN} {E0 : Env}
theorem Kops.nth {k : Nat} {l : List Oper} (h : Kops P ops vals vs E0 k l) : ∀ {i : Nat} {o : Oper}, l[i]? = some o → KopOk P ops vals vs E0 (k + i) o := by
  induction h with
  | nil => intro i o hi; simp at hi
  | @cons k o0 rest h _ ih =>
    intro i o hi
    cases i with
    | zero => simp at hi; subst hi; exact h
    | succ i =>
      have := ih (i := i) (by simpa using hi)
      rwa [show k + (i + 1) = k + 1 + i from by omega]
theorem varsOk_get (h : varsOk ops vals vs = true) {j : Nat} {V : VarN} (hj : vs[j]? = some V) : (ops[V.a]?).bind (·.dst) = some V.t ∧ vals[V.a]? = some none ∧ vals[V.s]? = some none ∧ V.a < ops.size ∧ V.s < ops.size ∧ V.a ≠ V.s ∧ ∀ j' V', vs[j']? = some V' → j ≠ j' → V.a ≠ V'.a ∧ V.s ≠ V'.s ∧ V.a ≠ V'.s ∧ V.s ≠ V'.a := by
  have hlt : j < vs.length := (List.getElem?_eq_some_iff.1 hj).1
  have h1 := List.all_eq_true.1 h j (List.mem_range.2 hlt)
  simp only [hj, Bool.and_eq_true] at h1
  obtain ⟨⟨⟨⟨⟨⟨h2, h3⟩, h4⟩, h5⟩, h6⟩, h7⟩, h8⟩ := h1
  refine ⟨by simpa using h2, ?_, ?_, by simpa using h5, by simpa using h6, by simpa using h7, fun j' V' hj' hne => ?_⟩
  · cases hx : vals[V.a]? with
    | none => rw [hx] at h3; cases h3
    | some x => rw [hx] at h3; cases x with
      | none => rfl
      | some _ => cases h3
  · cases hx : vals[V.s]? with
    | none => rw [hx] at h4; cases h4
    | some x => rw [hx] at h4; cases x with
      | none => rfl
      | some _ => cases h4
  · have h9 := List.all_eq_true.1 h8 j' (List.mem_range.2 (List.getElem?_eq_some_iff.1 hj').1)
    simp only [hj', Bool.or_eq_true, beq_iff_eq, Bool.and_eq_true, bne_iff_ne, ne_eq] at h9
    rcases h9 with h9 | h9
    · exact absurd h9 hne
    · exact ⟨h9.1.1.1, h9.1.1.2, h9.1.2, h9.2⟩
structure InvV (κ : Cx) (n B : Nat) (ops : Array Oper) (vals : List (Option Value)) (vs : List VarN) (E0 : Env) (w1 : World) (listed : Array Bool) (a : Act) (w : World) : Prop where
  base : B ≤ w1.heap.size
  bel : Below w1.heap.size w1 w
  defers : a.defers = κ.df
  size : a.tmps.size = n
  facts : ∀ t d, E0.look t = some d → d.OfB w1.heap.size w (a.tmps.getD t undef)
  lsize : listed.size = ops.size
  got : ∀ (i : Nat) (o : Oper) (t : Nat) (v : Value), ops[i]? = some o → listed.getD i false = true → o.dst = some t → vals[i]? = some (some v) → a.tmps.getD t undef = v
  cl : ∀ (j : Nat) (V : VarN), vs[j]? = some V → listed.getD V.s false = true → listed.getD V.a false = true
  var : ∃ bs : Nat → Nat, (∀ (j : Nat) (V : VarN), vs[j]? = some V → listed.getD V.a false = true → w1.heap.size ≤ bs j ∧ bs j < w.heap.size ∧ a.tmps.getD V.t undef = .pointer (some ⟨bs j, 0, none⟩) ∧ w.heap[bs j]? = some (.cells (if listed.getD V.s false = true then V.ys else V.zs).toArray V.T (0, 0))) ∧
    ∀ (j j' : Nat) (V V' : VarN), vs[j]? = some V → vs[j']? = some V' → listed.getD V.a false = true → listed.getD V'.a false = true → j ≠ j' → bs j ≠ bs j'
theorem InvV.st {w1 : World} {listed : Array Bool} {a : Act} {w : World} (I : InvV κ n B ops vals vs E0 w1 listed a w) : St κ n B E0 a w :=
  ⟨Nat.le_trans I.base I.bel.size, I.defers, I.size, fun t d hl => D.OfB.up (I.facts t d hl) I.bel.size⟩
theorem setD_self {listed : Array Bool} {i : Nat} (h : i < listed.size) : (listed.setIfInBounds i true).getD i false = true := by simp [h]
theorem wp_vars (hn0 : n ≤ vbase) (hfit : fits n ops = true) (hd : downsN ops = true) (hv : varsOk ops vals vs = true) (hn : Kops P ops vals vs E0 0 ops.toList) {w1 : World}
    (hQ : ∀ l a' w', InvV κ n B ops vals vs E0 w1 l a' w' → (∀ i, i < ops.size → l.getD i false = true) → Q .normal a' w') :
    ∀ (fuel : Nat) (listed : Array Bool) (a : Act) (w : World), unlisted ops listed ≤ fuel → InvV κ n B ops vals vs E0 w1 listed a w → wpAnyIn (FR κ.rd) 0 P .any ops Q fuel listed a w := by
  have hmin : ∀ (listed : Array Bool), listed.size = ops.size → Region.ready .any ops listed = [] → ∀ i, i < ops.size → listed.getD i false = true := by
    intro listed hl hr i
    induction i using Nat.strongRecOn with
    | _ i ih =>
      intro hi
      rcases hb : listed.getD i false with _ | _
      · exfalso
        have hdi := (downs_get hd (Array.getElem?_eq_getElem hi)).2.1
        have : i ∈ Region.ready .any ops listed := by
          rw [mem_ready]
          refine ⟨?_, ops[i], Array.getElem?_eq_getElem hi, fun e he hbd => ih e.on (hdi e he hbd) (Nat.lt_trans (hdi e he hbd) hi)⟩
          have : i < listed.size := by rw [hl]; exact hi
          simp [this] at hb ⊢
          exact hb
        rw [hr] at this
        cases this
      · rfl
  intro fuel
  induction fuel with
  | zero =>
    intro listed a w hc I
    have hr : Region.ready .any ops listed = [] := by
      rcases hr : Region.ready .any ops listed with _ | ⟨i, l⟩
      · rfl
      · exfalso
        have hi : i ∈ Region.ready .any ops listed := by rw [hr]; exact List.mem_cons_self
        obtain ⟨hu, o, ho, _⟩ := mem_ready.1 hi
        have hpos : 0 < unlisted ops listed := List.countP_pos_iff.2 ⟨i, List.mem_range.2 (Array.getElem?_eq_some_iff.1 ho).1, by simp only [hu]; rfl⟩
        omega
    exact ⟨hr, hQ listed a w I (hmin listed I.lsize hr)⟩
  | succ fuel ih =>
    intro listed a w hc I
    refine ⟨fun hr => hQ listed a w I (hmin listed I.lsize hr), fun i hi => ?_⟩
    obtain ⟨hu, o, ho, hall⟩ := mem_ready.1 hi
    have hlt : i < ops.size := (Array.getElem?_eq_some_iff.1 ho).1
    have hli : i < listed.size := by rw [I.lsize]; exact hlt
    have huf : listed.getD i false = false := by
      have h1 : listed.getD i true = false := hu
      simp [hli] at h1 ⊢
      exact h1
    have hk := hn.nth (i := i) (o := o) (by simpa using ho)
    rw [Nat.zero_add] at hk
    obtain ⟨hg, _, hdis⟩ := downs_get hd ho
    have hst : ∀ {E : Env}, FromV ops vals E0 o E → ∀ t d, E.look t = some d → d.OfB w1.heap.size w (a.tmps.getD t undef) := fun {E} h => by
      induction h with
      | nil => intro t d hl; cases hl
      | all => exact I.facts
      | @op s v E j he hdj hvj _ ih =>
        intro t d hl
        by_cases hts : s = t
        · subst hts; rw [look_here] at hl; injection hl with hl; subst hl
          obtain ⟨e, he1, he2⟩ := Array.any_eq_true'.1 he
          simp only [Bool.and_eq_true, beq_iff_eq] at he2
          have hl := hall e he1 he2.1
          rw [he2.2] at hl
          cases hq : ops[j]? with
          | none => rw [hq] at hdj; cases hdj
          | some q =>
            rw [hq] at hdj
            exact I.got j q _ _ hq hl hdj hvj
        · rw [look_past _ _ hts] at hl; exact ih t d hl
    have hE : ∀ {E : Env}, FromV ops vals E0 o E → St κ n B E a w := fun h => ⟨Nat.le_trans I.base I.bel.size, I.defers, I.size, fun t d hl => D.OfB.up (hst h t d hl) I.bel.size⟩
    refine wpOpR_step ho fun K hK => ?_
    rw [if_pos (by simp [Region.wanted, hg])]
    have hcl : unlisted ops (listed.setIfInBounds i true) ≤ fuel := by
      have : unlisted ops (listed.setIfInBounds i true) < unlisted ops listed := by
        refine countP_lt (x := i) (fun y hy => ?_) (List.mem_range.2 hlt) (by simp only [hu]; rfl) ?_
        · by_cases hyi : i = y
          · subst hyi
            simp [hli] at hy
          · rw [getD_set_ne true hyi] at hy; exact hy
        · simp [hli]
      omega
    have hset : ∀ j, (listed.setIfInBounds i true).getD j false = true → j = i ∨ listed.getD j false = true := fun j hj => by
      by_cases hji : i = j
      · exact .inl hji.symm
      · rw [getD_set_ne false hji] at hj; exact .inr hj
    have hfar : ∀ j, j ≠ i → (listed.setIfInBounds i true).getD j false = listed.getD j false := fun j hj => getD_set_ne false (fun h => hj h.symm)
    obtain ⟨bs, hb1, hb2⟩ := I.var
    cases hk with
    | @pure _ t v E hvi hdt h0 hf hok =>
      have htn : t < n := (fits_mem hfit (o := o) (by simpa using Array.mem_of_getElem? ho)).2 t hdt
      have hnot : ∀ (j : Nat) (V : VarN), vs[j]? = some V → V.a ≠ i ∧ V.s ≠ i ∧ V.t ≠ t := fun j V hj => by
        obtain ⟨h1, h2, h3, _⟩ := varsOk_get hv hj
        have hai : V.a ≠ i := fun e => by rw [e, hvi] at h2; cases h2
        refine ⟨hai, fun e => (by rw [e, hvi] at h3; cases h3), fun e => ?_⟩
        cases hq : ops[V.a]? with
        | none => rw [hq] at h1; cases h1
        | some q =>
          rw [hq] at h1
          exact hdis V.a q hq hai (by rw [hdt]; simp) (by rw [hdt, show q.dst = some V.t from h1, e])
      have hs := hE hf
      refine wp_of_out hdt ((hok w.heap.size a.eval w (Nat.le_refl _) (hs.virt hn0) fun x _ u hu => hs.at_ x _ hu).mono ?_)
      rintro x w' ⟨hgr, hx⟩
      have hx : x = v := hx
      subst hx
      refine hK _ _ (ih _ _ _ hcl ⟨I.base, I.bel.trans (Below.mono hgr I.bel.size), I.defers, by simp [Act.put, I.size], fun s d hs' => ?_, by simp [I.lsize], fun j q s u hj hl hds hvs => ?_, fun j V hj hl => ?_, bs, fun j V hj hl => ?_, fun j j' V V' hj hj' hl hl' => ?_⟩)
      · by_cases hts : t = s
        · subst hts
          rw [getD_put_here _ _ (by rw [I.size]; exact htn)]
          rcases h0 with h | h
          · rw [h] at hs'; cases hs'
          · rw [h] at hs'; injection hs' with hs'; subst hs'; rfl
        · rw [getD_put_past _ _ hts]; exact (I.facts s d hs').keep (Below.mono hgr I.bel.size)
      · rcases hset j hl with rfl | hl
        · rw [ho] at hj; injection hj with hj; subst hj
          rw [hdt] at hds; injection hds with hds; subst hds
          rw [hvi] at hvs; injection hvs with hvs; injection hvs with hvs; subst hvs
          rw [getD_put_here _ _ (by rw [I.size]; exact htn)]
        · by_cases hji : j = i
          · subst hji
            rw [ho] at hj; injection hj with hj; subst hj
            rw [hdt] at hds; injection hds with hds; subst hds
            rw [hvi] at hvs; injection hvs with hvs; injection hvs with hvs; subst hvs
            rw [getD_put_here _ _ (by rw [I.size]; exact htn)]
          · have hne : t ≠ s := fun he => hdis j q hj hji (by rw [hdt]; simp) (by rw [hdt, hds, he])
            rw [getD_put_past _ _ hne]
            exact I.got j q s u hj hl hds hvs
      · obtain ⟨h1, h2, _⟩ := hnot j V hj
        rw [hfar _ h2] at hl
        rw [hfar _ h1]; exact I.cl j V hj hl
      · obtain ⟨h1, h2, h3⟩ := hnot j V hj
        rw [hfar _ h1] at hl
        obtain ⟨g1, g2, g3, g4⟩ := hb1 j V hj hl
        rw [hfar _ h2]
        exact ⟨g1, Nat.lt_of_lt_of_le g2 hgr.size, by rw [getD_put_past _ _ (fun e => h3 e.symm)]; exact g3, by rw [hgr.block _ g2]; exact g4⟩
      · rw [hfar _ (hnot j V hj).1] at hl
        rw [hfar _ (hnot j' V' hj').1] at hl'
        exact hb2 j j' V V' hj hj' hl hl'
    | @alloc t T ty pos after V j0 hV ha hT ht hz h0 =>
      subst ha hT ht
      have hds := (varsOk_get hv hV).2.2.2.2.2.2
      have hns : V.s ≠ V.a := fun e => (varsOk_get hv hV).2.2.2.2.2.1 e.symm
      have htn : V.t < n := (fits_mem hfit (o := ⟨some V.t, .alloc V.T, ty, pos, after, none⟩) (by simpa using Array.mem_of_getElem? ho)).2 V.t rfl
      have hrun : (execOp a.eval ⟨some V.t, .alloc V.T, ty, pos, after, none⟩).run P w = .ok (.value (.pointer (some ⟨w.heap.size, 0, none⟩))) (w.alloc (.cells V.zs.toArray V.T)) := by
        obtain ⟨i, z, hi, hz, hc⟩ := hz.get
        simp [execOp, Instr.alloc, zeroValue, typeInfo, hi, hz, newVar, newRow, hc]
      refine opR (not_defer hrun) ?_
      unfold Oper.wp
      rw [hrun, Oper.upon_value]
      have hgr : Grow w (w.alloc (.cells V.zs.toArray V.T)) := Grow.alloc w _
      have hlt1 : w.heap.size < (w.alloc (.cells V.zs.toArray V.T)).heap.size := by simp
      have hother : ∀ (j : Nat) (V' : VarN), vs[j]? = some V' → j ≠ j0 → V'.a ≠ V.a ∧ V'.s ≠ V.a ∧ V'.t ≠ V.t := fun j V' hj hne => by
        obtain ⟨h1, h2, h3, h4⟩ := hds j V' hj (fun e => hne e.symm)
        refine ⟨fun e => h1 e.symm, fun e => h3 e.symm, fun e => ?_⟩
        obtain ⟨g1, _⟩ := varsOk_get hv hj
        cases hq : ops[V'.a]? with
        | none => rw [hq] at g1; cases g1
        | some q =>
          rw [hq] at g1
          exact hdis V'.a q hq (fun e => h1 e.symm) (by simp) (by rw [show q.dst = some V'.t from g1, e])
      have hsu : listed.getD V.s false = false := by
        rcases hb : listed.getD V.s false with _ | _
        · rfl
        · rw [I.cl j0 V hV hb] at huf; cases huf
      refine hK _ _ (ih _ _ _ hcl ⟨I.base, I.bel.trans (Below.mono hgr I.bel.size), I.defers, by simp [Act.put, I.size], fun s d hs' => ?_, by simp [I.lsize], fun j q s u hj hl hds hvs => ?_, fun j V' hj hl => ?_, fun j => if j = j0 then w.heap.size else bs j, fun j V' hj hl => ?_, fun j j' V' V'' hj hj' hl hl' hne => ?_⟩)
      · have hts : V.t ≠ s := fun e => by subst e; rw [h0] at hs'; cases hs'
        rw [getD_put_past _ _ hts]; exact (I.facts s d hs').keep (Below.mono hgr I.bel.size)
      · have hji : j ≠ V.a := fun e => by
          subst e
          rw [(varsOk_get hv hV).2.1] at hvs; cases hvs
        rw [hfar _ hji] at hl
        have hne : V.t ≠ s := fun he => hdis j q hj hji (by simp) (by rw [hds, he])
        rw [getD_put_past _ _ hne]
        exact I.got j q s u hj hl hds hvs
      · by_cases hj0 : j = j0
        · subst hj0; rw [hV] at hj; injection hj with hj; subst hj
          exact setD_self hli
        · obtain ⟨h1, h2, _⟩ := hother j V' hj hj0
          rw [hfar _ h2] at hl
          rw [hfar _ h1]; exact I.cl j V' hj hl
      · by_cases hj0 : j = j0
        · subst hj0; rw [hV] at hj; injection hj with hj; subst hj
          dsimp only
          rw [if_pos rfl, hfar _ hns, hsu]
          exact ⟨I.bel.size, hlt1, by rw [getD_put_here _ _ (by rw [I.size]; exact htn)], by simpa using heap_alloc_new w _⟩
        · obtain ⟨h1, h2, h3⟩ := hother j V' hj hj0
          rw [hfar _ h1] at hl
          obtain ⟨g1, g2, g3, g4⟩ := hb1 j V' hj hl
          dsimp only
          rw [if_neg hj0, hfar _ h2]
          exact ⟨g1, Nat.lt_of_lt_of_le g2 hgr.size, by rw [getD_put_past _ _ (fun e => h3 e.symm)]; exact g3, by rw [hgr.block _ g2]; exact g4⟩
      · show (if j = j0 then w.heap.size else bs j) ≠ if j' = j0 then w.heap.size else bs j'
        by_cases hj0 : j = j0
        · rw [if_pos hj0, if_neg (fun e => hne (by rw [hj0, e]))]
          rw [hfar _ (hother j' V'' hj' (fun e => hne (by rw [hj0, e]))).1] at hl'
          have := (hb1 j' V'' hj' hl').2.1
          omega
        · rw [if_neg hj0]
          rw [hfar _ (hother j V' hj hj0).1] at hl
          by_cases hj0' : j' = j0
          · rw [if_pos hj0']
            have := (hb1 j V' hj hl).2.1
            omega
          · rw [if_neg hj0']
            rw [hfar _ (hother j' V'' hj' hj0').1] at hl'
            exact hb2 j j' V' V'' hj hj' hl hl' hne
    | @store t T ty x pos after V j0 E hV hs hT ht he hf hx hsz hl0 h1 =>
      subst hs hT ht
      have hds := (varsOk_get hv hV).2.2.2.2.2.2
      have hna : V.a ≠ V.s := (varsOk_get hv hV).2.2.2.2.2.1
      have hla : listed.getD V.a false = true := by
        obtain ⟨e, he1, he2⟩ := Array.any_eq_true'.1 he
        simp only [Bool.and_eq_true, beq_iff_eq] at he2
        have hl := hall e he1 he2.1
        rwa [he2.2] at hl
      obtain ⟨g1, g2, g3, g4⟩ := hb1 j0 V hV hla
      rw [huf] at g4
      simp only [Bool.false_eq_true, if_false] at g4
      have hp' : a.eval (.tmp V.t) = .pointer (some ⟨bs j0, 0, none⟩) := g3
      have hx' : a.eval x = aggV V.ys := (hE hf).at_ x _ hx
      have hrun : (execOp a.eval ⟨none, .store V.T (.tmp V.t) x, ty, pos, after, none⟩).run P w = .ok .skip (w.setRow (bs j0) V.ys.toArray) := by
        have := run_storeVar_row (P := P) w (bs j0) V.T V.T V.zs.toArray V.ys.toArray g4 (by simpa [SizeIs] using hsz) (by simpa using hl0) (by simpa using h1)
        simp [execOp, hp', hx', Instr.storeAt, Instr.sureAddr, aggV, this]
      refine opR (by nofun) ?_
      unfold Oper.wp
      rw [hrun, Oper.upon_skip]
      have hput : a.put (none : Option Tmp) undef = a := rfl
      try rw [hput]
      have hwr := Wrote.setRow (B := w1.heap.size) g1 g4 V.ys.toArray
      have hbw : Below w1.heap.size w (w.setRow (bs j0) V.ys.toArray) := hwr.below I.bel.size
      have hsame : ∀ k, k ≠ bs j0 → (w.setRow (bs j0) V.ys.toArray).heap[k]? = w.heap[k]? := fun k hk => setRow_other w (bs j0) k V.ys.toArray hk
      have hhere : (w.setRow (bs j0) V.ys.toArray).heap[bs j0]? = some (.cells V.ys.toArray V.T (0, 0)) := by simp [World.setRow, Array.getElem?_modify, g4]
      have hsz' : (w.setRow (bs j0) V.ys.toArray).heap.size = w.heap.size := by simp [World.setRow]
      have hother : ∀ (j : Nat) (V' : VarN), vs[j]? = some V' → j ≠ j0 → V'.a ≠ V.s ∧ V'.s ≠ V.s := fun j V' hj hne => by
        obtain ⟨h1, h2, h3, h4⟩ := hds j V' hj (fun e => hne e.symm)
        exact ⟨fun e => h4 e.symm, fun e => h2 e.symm⟩
      refine hK _ _ (ih _ _ _ hcl ⟨I.base, I.bel.trans hbw, I.defers, I.size, fun s d hs' => (I.facts s d hs').keep hbw, by simp [I.lsize], fun j q s u hj hl hds hvs => ?_, fun j V' hj hl => ?_, bs, fun j V' hj hl => ?_, fun j j' V' V'' hj hj' hl hl' hne => ?_⟩)
      · have hji : j ≠ V.s := fun e => by
          subst e
          rw [(varsOk_get hv hV).2.2.1] at hvs; cases hvs
        rw [hfar _ hji] at hl
        exact I.got j q s u hj hl hds hvs
      · by_cases hj0 : j = j0
        · subst hj0; rw [hV] at hj; injection hj with hj; subst hj
          rw [hfar _ hna]; exact hla
        · obtain ⟨h1, h2⟩ := hother j V' hj hj0
          rw [hfar _ h2] at hl
          rw [hfar _ h1]; exact I.cl j V' hj hl
      · by_cases hj0 : j = j0
        · subst hj0; rw [hV] at hj; injection hj with hj; subst hj
          rw [setD_self hli, if_pos rfl]
          exact ⟨g1, by rw [hsz']; exact g2, g3, hhere⟩
        · obtain ⟨h1, h2⟩ := hother j V' hj hj0
          rw [hfar _ h1] at hl
          obtain ⟨k1, k2, k3, k4⟩ := hb1 j V' hj hl
          rw [hfar _ h2]
          exact ⟨k1, by rw [hsz']; exact k2, k3, by rw [hsame _ (hb2 j j0 V' V hj hV hl hla hj0)]; exact k4⟩
      · have e1 : ∀ {j : Nat} {V' : VarN}, vs[j]? = some V' → (listed.setIfInBounds V.s true).getD V'.a false = true → listed.getD V'.a false = true := fun {j V'} hj hl => by
          by_cases hj0 : j = j0
          · subst hj0; rw [hV] at hj; injection hj with hj; subst hj; exact hla
          · rwa [hfar _ (hother j V' hj hj0).1] at hl
        exact hb2 j j' V' V'' hj hj' (e1 hj hl) (e1 hj' hl') hne
/-- The environment that the new variables give. -/
def varEnv (bs : Nat → Nat) : Nat → List VarN → Env → Env
  | _, [], E => E
  | j, V :: r, E => (V.t, .v (.pointer (some ⟨bs j, 0, none⟩))) :: (1000000 + V.t, blk (bs j) V.T V.ys) :: varEnv bs (j + 1) r E
theorem varEnv_look {bs : Nat → Nat} {E : Env} {t : Nat} {d : D} : ∀ {l : List VarN} {j : Nat}, (varEnv bs j l E).look t = some d → (∃ k V, l[k]? = some V ∧ ((t = V.t ∧ d = .v (.pointer (some ⟨bs (j + k), 0, none⟩))) ∨ (t = 1000000 + V.t ∧ d = blk (bs (j + k)) V.T V.ys))) ∨ E.look t = some d
  | [], _, h => .inr h
  | V :: r, j, h => by
    unfold varEnv at h
    by_cases h1 : V.t = t
    · subst h1; rw [look_here] at h; injection h with h
      exact .inl ⟨0, V, rfl, .inl ⟨rfl, h.symm⟩⟩
    · rw [look_past _ _ h1] at h
      by_cases h2 : 1000000 + V.t = t
      · subst h2; rw [look_here] at h; injection h with h
        exact .inl ⟨0, V, rfl, .inr ⟨rfl, h.symm⟩⟩
      · rw [look_past _ _ h2] at h
        rcases varEnv_look h with ⟨k, V', h3, h4⟩ | h3
        · exact .inl ⟨k + 1, V', by simpa using h3, by rw [show j + (k + 1) = j + 1 + k from by omega]; exact h4⟩
        · exact .inr h3
theorem A.regsV {w₀ : World} {y : Code} {E1 : Env} {id : Nat} (vals : List (Option Value)) (vs : List VarN) (hm : P.follows .mixedOrders = true) (hfit : fits n ops = true) (hd : downsN ops = true) (hv : varsOk ops vals vs = true) (hn : Kops P ops vals vs E0 0 ops.toList) (hf : FromW ops vals E0 E1)
    (h : ∀ bs : Nat → Nat, (∀ j, j < vs.length → NewB w₀.heap.size E0 (bs j)) → (∀ j j', j < vs.length → j' < vs.length → j ≠ j' → bs j ≠ bs j') → A κ P w₀ n y (varEnv bs 0 vs E1) Q) : A κ P w₀ n (.seq (.region id ops true) y) E0 Q := A.seq fun a w hg hst => by
  have hdr : Below w₀.heap.size w w.drew := (Below.refl _ w).drew
  have hn0 := fits_base hfit
  have hst' := hst.grow (Grow.refl w).drew
  have hfin : ∀ l a' w', InvV κ n w₀.heap.size ops vals vs E0 w.drew l a' w' → (∀ i, i < ops.size → l.getD i false = true) → Exit.then (y.wpIn (FR κ.rd) 0 P Q) Q .normal a' w' := fun l a' w' I hall => by
    have key : ∀ t d, E1.look t = some d → d.Of w' (a'.tmps.getD t undef) := by
      clear h
      induction hf with
      | all => exact I.st.of
      | @op s v E j hdj hvj _ ih =>
        intro t d hl
        by_cases hts : s = t
        · subst hts; rw [look_here] at hl; injection hl with hl; subst hl
          cases hq : ops[j]? with
          | none => rw [hq] at hdj; cases hdj
          | some q =>
            rw [hq] at hdj
            exact I.got j q _ _ hq (hall j (Array.getElem?_eq_some_iff.1 hq).1) hdj hvj
        · rw [look_past _ _ hts] at hl; exact ih t d hl
    obtain ⟨bs, hb1, hb2⟩ := I.var
    have hla : ∀ (j : Nat) (V : VarN), vs[j]? = some V → l.getD V.a false = true := fun j V hj => hall _ (varsOk_get hv hj).2.2.2.1
    have hls : ∀ (j : Nat) (V : VarN), vs[j]? = some V → l.getD V.s false = true := fun j V hj => hall _ (varsOk_get hv hj).2.2.2.2.1
    refine h bs (fun j hj => ?_) (fun j j' hj hj' hne => hb2 j j' _ _ (List.getElem?_eq_getElem hj) (List.getElem?_eq_getElem hj') (hla _ _ (List.getElem?_eq_getElem hj)) (hla _ _ (List.getElem?_eq_getElem hj')) hne) a' w' (hg.trans (hdr.trans (Below.mono I.bel I.base))) ⟨Nat.le_trans I.base I.bel.size, I.defers, I.size, fun t d hl => ?_⟩
    · have hk := (hb1 j _ (List.getElem?_eq_getElem hj) (hla _ _ (List.getElem?_eq_getElem hj))).1
      exact ⟨Nat.le_trans I.base hk, fun s b' e xs hs => Nat.lt_of_lt_of_le (hst'.of s _ hs).1 hk⟩
    · rcases varEnv_look hl with ⟨k, V, hk, hd'⟩ | hl
      · rw [Nat.zero_add] at hd'
        obtain ⟨g1, g2, g3, g4⟩ := hb1 k V hk (hla k V hk)
        rw [hls k V hk, if_pos rfl] at g4
        rcases hd' with ⟨rfl, rfl⟩ | ⟨rfl, rfl⟩
        · exact g3
        · exact ⟨g2, g4⟩
      · exact key t d hl
  refine wpIn_region_any hm (wp_vars hn0 hfit hd hv hn hfin _ _ _ _ ?_ ⟨hst'.base, Below.refl _ _, hst'.defers, hst'.size, fun t d hl => hst'.of t d hl, by simp, fun i o t v hi hl => ?_, fun j V hj hl => ?_, fun _ => 0, fun j V hj hl => ?_, fun j j' V V' hj _ hl => ?_⟩)
  · refine Nat.le_trans List.countP_le_length ?_
    simp
  · simp [(Array.getElem?_eq_some_iff.1 hi).1] at hl
  · simp [(varsOk_get hv hj).2.2.2.2.1] at hl
  · simp [(varsOk_get hv hj).2.2.2.1] at hl
  · simp [(varsOk_get hv hj).2.2.2.1] at hl
/-! ### The same, operation by operation -/
theorem FromV.more {vals : List (Option Value)} {o : Oper} {E : Env} {pre : List (Option Value)} (hp : ∀ (j : Nat) (v : Option Value), pre[j]? = some v → vals[j]? = some v) (h : FromV ops pre E0 o E) : FromV ops vals E0 o E := by
  induction h with
  | nil => exact .nil
  | all => exact .all
  | op j he hd hv _ ih => exact .op j he hd (hp _ _ hv) ih
/-- From here on; pre is what the operations before have yielded. -/
def KopsK (P : Program) (ops : Array Oper) (vs : List VarN) (E0 : Env) (rest : List Oper) (pre : List (Option Value)) (C : List (Option Value) → Prop) : Prop :=
  ∃ vals : List (Option Value), (∀ (j : Nat) (v : Option Value), pre[j]? = some v → vals[j]? = some v) ∧ Kops P ops vals vs E0 pre.length rest ∧ C vals
theorem pre_snoc {α : Type} {pre vals : List α} {v : α} (h : ∀ (j : Nat) (u : α), (pre ++ [v])[j]? = some u → vals[j]? = some u) : (∀ (j : Nat) (u : α), pre[j]? = some u → vals[j]? = some u) ∧ vals[pre.length]? = some v :=
  ⟨fun j u hu => h j u (by rw [List.getElem?_append_left (List.getElem?_eq_some_iff.1 hu).1]; exact hu), h _ _ (by simp)⟩
theorem KopsK.nil {pre : List (Option Value)} {C : List (Option Value) → Prop} (h : C pre) : KopsK P ops vs E0 [] pre C := ⟨pre, fun _ _ h => h, .nil, h⟩
theorem KopsK.pure {o : Oper} {rest : List Oper} {pre : List (Option Value)} {C : List (Option Value) → Prop} {t : Nat} {v : Value} (E : Env) (hd : o.dst = some t) (h0 : E0.look t = none ∨ E0.look t = some (.v v)) (hf : FromV ops pre E0 o E) (hok : ∀ B', OpOk P B' o E (.v v))
    (hr : KopsK P ops vs E0 rest (pre ++ [some v]) C) : KopsK P ops vs E0 (o :: rest) pre C := by
  obtain ⟨vals, h1, h2, h3⟩ := hr
  obtain ⟨h4, h5⟩ := pre_snoc h1
  exact ⟨vals, h4, .cons (.pure E h5 hd h0 (hf.more h4) hok) (by simpa using h2), h3⟩
theorem KopsK.alloc {rest : List Oper} {pre : List (Option Value)} {C : List (Option Value) → Prop} {t : Tmp} {T ty : TypeId} {pos : String} {after : Array Edge} {V : VarN} (j : Nat) (hV : vs[j]? = some V) (ha : V.a = pre.length) (hT : V.T = T) (ht : V.t = t) (hz : ZeroIs P T V.zs) (h0 : E0.look t = none)
    (hr : KopsK P ops vs E0 rest (pre ++ [none]) C) : KopsK P ops vs E0 (⟨some t, .alloc T, ty, pos, after, none⟩ :: rest) pre C := by
  obtain ⟨vals, h1, h2, h3⟩ := hr
  obtain ⟨h4, _⟩ := pre_snoc h1
  exact ⟨vals, h4, .cons (.alloc j hV ha hT ht hz h0) (by simpa using h2), h3⟩
theorem KopsK.store {rest : List Oper} {pre : List (Option Value)} {C : List (Option Value) → Prop} {t T ty : TypeId} {x : Operand} {pos : String} {after : Array Edge} {V : VarN} (j : Nat) (E : Env) (hV : vs[j]? = some V) (hs : V.s = pre.length) (hT : V.T = T) (ht : V.t = t) (he : (after.any fun e => Region.binds .any e && e.on == V.a) = true)
    (hf : FromV ops pre E0 ⟨none, .store T (.tmp t) x, ty, pos, after, none⟩ E) (hx : E.at x = some (.v (aggV V.ys))) (hsz : SizeIs P T V.ys.length) (hl : V.zs.length = V.ys.length) (h1 : V.ys.all (·.oneCell') = true)
    (hr : KopsK P ops vs E0 rest (pre ++ [none]) C) : KopsK P ops vs E0 (⟨none, .store T (.tmp t) x, ty, pos, after, none⟩ :: rest) pre C := by
  obtain ⟨vals, g1, g2, g3⟩ := hr
  obtain ⟨g4, _⟩ := pre_snoc g1
  exact ⟨vals, g4, .cons (.store j E hV hs hT ht he (hf.more g4) hx hsz hl h1) (by simpa using g2), g3⟩
theorem A.regsK {w₀ : World} {y : Code} {id : Nat} (vs : List VarN) (hm : P.follows .mixedOrders = true) (hfit : fits n ops = true) (hd : downsN ops = true)
    (h : KopsK P ops vs E0 ops.toList [] fun vals => varsOk ops vals vs = true ∧ ∃ E1, FromW ops vals E0 E1 ∧ ∀ bs : Nat → Nat, (∀ j, j < vs.length → NewB w₀.heap.size E0 (bs j)) → (∀ j j', j < vs.length → j' < vs.length → j ≠ j' → bs j ≠ bs j') → A κ P w₀ n y (varEnv bs 0 vs E1) Q) : A κ P w₀ n (.seq (.region id ops true) y) E0 Q := by
  obtain ⟨vals, _, h2, h3, E1, h4, h5⟩ := h
  exact A.regsV vals vs hm hfit hd h3 h2 h4 h5
end
end Go.Proofs.YthadcgkcgpinhaaGreatDoor
namespace Go.Proofs.YthadcgkcgpinhaaGreatDoor
open Go Go.RowKit
set_option linter.unusedVariables false
set_option maxRecDepth 100000
/-- The keys of the volume whose master key is 32 bytes 00, and the ciphertext of a block of bytes 00, as numbers. -/
def encL : List UInt8 := [12, 62, 161, 151, 37, 228, 164, 106, 26, 178, 118, 94, 86, 176, 201, 170]
def macL : List UInt8 := [230, 47, 80, 21, 88, 194, 214, 64, 101, 64, 46, 232, 93, 156, 190, 210, 152, 227, 223, 17, 80, 49, 164, 242, 160, 45, 120, 28, 99, 199, 66, 189]
def c0L : List UInt8 := [141, 104, 69, 158, 224, 87, 46, 44, 131, 13, 79, 252, 243, 29, 83, 158, 104, 35, 98, 71, 181, 102, 181, 173, 188, 92, 156, 40, 46, 171, 143, 193]
def ksD9 : List (List Nat) := [[12, 62, 161, 151, 37, 228, 164, 106, 26, 178, 118, 94, 86, 176, 201, 170],
 [234, 227, 13, 38, 207, 7, 169, 76, 213, 181, 223, 18, 131, 5, 22, 184],
 [131, 164, 97, 202, 76, 163, 200, 134, 153, 22, 23, 148, 26, 19, 1, 44],
 [250, 216, 16, 104, 182, 123, 216, 238, 47, 109, 207, 122, 53, 126, 206, 86],
 [1, 83, 161, 254, 183, 40, 121, 16, 152, 69, 182, 106, 173, 59, 120, 60],
 [243, 239, 74, 107, 68, 199, 51, 123, 220, 130, 133, 17, 113, 185, 253, 45],
 [133, 187, 146, 200, 193, 124, 161, 179, 29, 254, 36, 162, 108, 71, 217, 143],
 [101, 142, 225, 152, 164, 242, 64, 43, 185, 12, 100, 137, 213, 75, 189, 6],
 [86, 244, 142, 155, 242, 6, 206, 176, 75, 10, 170, 57, 158, 65, 23, 63],
 [206, 4, 251, 144, 60, 2, 53, 32, 119, 8, 159, 25, 233, 73, 136, 38],
 [195, 192, 12, 142, 255, 194, 57, 174, 136, 202, 166, 183, 97, 131, 46, 145]]
theorem enc_ok : hkdf (hmac [99, 97, 105, 115, 115, 111, 110] (List.replicate 32 0 : List UInt8)) [101, 110, 99, 114, 121, 112, 116] 16 = encL := by kernel_rfl
theorem mac_ok : hkdf (hmac [99, 97, 105, 115, 115, 111, 110] (List.replicate 32 0 : List UInt8)) [109, 97, 99] 32 = macL := by kernel_rfl
theorem ksD9_ok : chainK ksD9 0 = true := by kernel_rfl
theorem keyD9 {j : Nat} {m : List Nat} (hm : ksD9[j]? = some m) : Eq16 (keyS (expand (byL encL)) j) (lst16 m) := keys_of ksD9 rfl (l := [12, 62, 161, 151, 37, 228, 164, 106, 26, 178, 118, 94, 86, 176, 201, 170]) (eq16_all (by kernel_rfl)) ksD9_ok hm
def stA9 : List (List Nat) := [[12, 62, 161, 150, 37, 228, 164, 106, 26, 178, 118, 92, 86, 176, 201, 170],
 [34, 43, 5, 45, 165, 186, 171, 220, 136, 150, 248, 62, 52, 90, 89, 31],
 [56, 199, 223, 74, 248, 0, 160, 124, 62, 142, 42, 1, 242, 230, 225, 232],
 [47, 182, 19, 202, 49, 205, 10, 123, 87, 113, 228, 135, 241, 39, 222, 8],
 [174, 172, 139, 117, 181, 225, 187, 20, 61, 59, 184, 116, 86, 184, 96, 195],
 [113, 122, 252, 148, 133, 59, 3, 12, 225, 192, 161, 198, 216, 134, 191, 161],
 [229, 163, 225, 130, 11, 190, 250, 231, 116, 187, 250, 162, 20, 176, 83, 254],
 [179, 220, 26, 6, 41, 41, 117, 119, 216, 204, 93, 8, 51, 232, 89, 64],
 [61, 21, 197, 215, 218, 28, 28, 26, 104, 78, 11, 82, 63, 25, 35, 26],
 [182, 223, 235, 17, 203, 111, 19, 204, 158, 173, 164, 251, 116, 49, 135, 124]]
theorem stA9_ok : chainE stA9 (ksD9.drop 1) = true := by kernel_rfl
theorem blkA9 : Eq16 (ksB (byL encL) 1 2 0) (lst16 [141, 104, 69, 158, 224, 87, 46, 44, 131, 13, 79, 252, 243, 29, 83, 158]) := enc_of stA9 ksD9 (fl := [0, 0, 0, 1, 0, 0, 0, 0, 0, 0, 0, 2, 0, 0, 0, 0]) (eq16_all (by kernel_rfl)) rfl rfl (fun j m hm => keyD9 hm) (by decide) (by kernel_rfl) stA9_ok (s9 := [182, 223, 235, 17, 203, 111, 19, 204, 158, 173, 164, 251, 116, 49, 135, 124]) rfl (k9 := [195, 192, 12, 142, 255, 194, 57, 174, 136, 202, 166, 183, 97, 131, 46, 145]) rfl (by kernel_rfl)
def stB9 : List (List Nat) := [[12, 62, 161, 150, 37, 228, 164, 106, 26, 178, 118, 92, 86, 176, 201, 171],
 [236, 229, 76, 170, 165, 186, 171, 220, 136, 150, 248, 62, 52, 90, 89, 31],
 [130, 154, 130, 173, 140, 116, 60, 148, 124, 72, 174, 67, 138, 182, 201, 192],
 [47, 121, 151, 68, 192, 82, 235, 252, 236, 246, 209, 83, 235, 87, 235, 179],
 [120, 105, 127, 37, 236, 45, 101, 88, 202, 14, 227, 139, 161, 104, 194, 130],
 [225, 216, 57, 91, 63, 20, 93, 194, 67, 123, 181, 206, 117, 136, 235, 181],
 [123, 29, 69, 69, 152, 82, 119, 150, 73, 100, 177, 16, 41, 71, 59, 19],
 [146, 145, 204, 201, 97, 97, 40, 156, 202, 78, 136, 49, 76, 115, 8, 44],
 [87, 88, 46, 131, 171, 58, 18, 36, 188, 120, 190, 198, 167, 234, 133, 100],
 [14, 238, 162, 213, 92, 77, 241, 110, 40, 29, 69, 108, 146, 53, 240, 18]]
theorem stB9_ok : chainE stB9 (ksD9.drop 1) = true := by kernel_rfl
theorem blkB9 : Eq16 (ksB (byL encL) 1 2 1) (lst16 [104, 35, 98, 71, 181, 102, 181, 173, 188, 92, 156, 40, 46, 171, 143, 193]) := enc_of stB9 ksD9 (fl := [0, 0, 0, 1, 0, 0, 0, 0, 0, 0, 0, 2, 0, 0, 0, 1]) (eq16_all (by kernel_rfl)) rfl rfl (fun j m hm => keyD9 hm) (by decide) (by kernel_rfl) stB9_ok (s9 := [14, 238, 162, 213, 92, 77, 241, 110, 40, 29, 69, 108, 146, 53, 240, 18]) rfl (k9 := [195, 192, 12, 142, 255, 194, 57, 174, 136, 202, 166, 183, 97, 131, 46, 145]) rfl (by kernel_rfl)
theorem c0_ok : xorK (byL encL) 1 2 0 (List.replicate 32 0 : List UInt8) = c0L := by
 rw [xorK_zeros, ksL, ksL, rowL_lst blkA9, rowL_lst blkB9]
 kernel_rfl
theorem tags_ne : hmac macL (msgL 3 1 2 c0L) ≠ hmac macL (msgL 4 1 2 c0L) := fun h => by
 have : (hmac macL (msgL 3 1 2 c0L) == hmac macL (msgL 4 1 2 c0L)) = false := by kernel_rfl
 rw [h] at this
 simp at this
theorem msg0 : msgL 3 1 2 (List.replicate 32 0 : List UInt8) = ([0, 0, 0, 3, 0, 0, 0, 1, 0, 0, 0, 0, 0, 0, 0, 2] : List UInt8) ++ (List.replicate 32 0 : List UInt8) := by kernel_rfl

set_option maxHeartbeats 4000000 in
theorem lives9_fn  : FnM Tryz.prog 10 tabs [] (.v (.bool true)) := by
 refine FnM.of Tryz.func10 rfl (by kernel_rfl) Tryz.ntmps10 (by simp) (by decide) (fun w => [(1900000, tab 0 (H8.list.map u32V)), (1900001, tab 1 (K64.map u32V))]) (fun w => (StartM.m (by simp [tabs]) (by decide) (StartM.m (by simp [tabs]) (by decide) StartM.nil))) fun w₀ hM => ?_
 have htab := tabs_hi hM
 refine GS ?_
 refine TL ?_
 refine RA rfl ?_
 refine RN ?_
 refine GS ?_
 refine TN 2 ?_
 refine RS (ok_litP [] Tryz.underlying24 info5 zero24 (by decide) trivial rfl) ?_; refine RZ (aggV ((List.replicate 32 0 : List UInt8).map byteV)) (by rfl) ?_
 refine RS (ok_callM (Volume_fn (List.replicate 32 0 : List UInt8) (by rfl)) (Sub.cons rfl (Sub.cons rfl KN)) tabs_v (A1 rfl)) ?_; refine RZ (aggV (rowV 16 (byL encL) ++ macL.map byteV)) (by rw [enc_ok, mac_ok, rowV_byL (l := encL) (n := 16) rfl]) ?_
 refine RN ?_
 refine ⟨_, _, eff_alloc (n := 137) (d := 1) (k := 1000001) zero26 (by decide), fun b1 hb1 => ?_⟩
 have hBb1 := hb1.1
 refine TF 3 ?_
 refine RN ?_
 refine ⟨_, eff_storeA (n := 137) (s := 1000001) (size26.of (KM_len _ rfl)) rfl rfl (KM_one _ _) hBb1 rfl (by rfl) (LV 1 rfl (LeftS.cons (t := 1900000) rfl (Surv.tab (by omega)) (LeftS.cons (t := 1900001) rfl (Surv.tab (by omega)) LN))), ?_⟩
 refine TL ?_
 refine RN ?_
 refine GS ?_
 refine TN 1 ?_
 refine RS (ok_litS [(0, nW 1), (1, nQ 2)] [nW 1, nQ 2] ⟨rfl, rfl, rfl, rfl, trivial⟩ (buildN 1 2)) ?_
 refine RN ?_
 refine ⟨_, _, eff_alloc (n := 137) (d := 2) (k := 1000002) zero30 (by decide), fun b2 hb2 => ?_⟩
 have hBb2 := hb2.1
 refine TF 2 ?_
 refine RN ?_
 refine ⟨_, eff_storeA (n := 137) (s := 1000002) (size30.of (rfl)) rfl rfl (rfl) hBb2 rfl (rfl) (LV 1 rfl (LV 2 rfl (LT 1000001 rfl (LeftS.cons (t := 1900000) rfl (Surv.tab (by omega)) (LeftS.cons (t := 1900001) rfl (Surv.tab (by omega)) LN))))), ?_⟩
 refine TL ?_
 refine RN ?_
 refine GS ?_
 refine TN 0 ?_
 refine RN ?_
 refine ⟨_, _, eff_alloc (n := 137) (d := 3) (k := 1000003) zero33 (by decide), fun b3 hb3 => ?_⟩
 have hBb3 := hb3.1
 refine TL ?_
 refine RN ?_
 refine A.sub (KC 1 rfl (KC 2 rfl (KC 3 rfl (KC 1000001 rfl (KC 1000002 rfl (KE 1000003 rfl (show blk b3 33 _ = blk b3 33 ((List.replicate 32 0 : List UInt8).map byteV) from rfl) (KC 1900000 rfl (KC 1900001 rfl KN)))))))) ?_
 refine GS ?_
 refine TN 2 ?_
 refine RS (ok_loadA (s := 1000002) (by decide) Tryz.underlying30 rfl (size30.of (rfl)) rfl rfl) ?_
 refine RS (ok_loadA (s := 1000003) (by decide) Tryz.underlying33 rfl (size33.of (by rfl)) rfl rfl) ?_
 refine RN ?_
 refine ⟨_, _, eff_name (n := 137) (d := 31) (k := 1000031) rfl rfl (fun B' => ok_callB (Message_ok 3 1 2 (by decide) (by decide) (List.replicate 32 0 : List UInt8) (by rfl) (by decide)) newD_mono (A3 rfl rfl rfl)) (by decide) (by decide), fun b31 hb31 => ?_⟩
 have hBb31 := hb31.1
 have hlt_b1_b31 : b1 < b31 := hb31.2 1000001 _ _ _ rfl
 have hlt_b2_b31 : b2 < b31 := hb31.2 1000002 _ _ _ rfl
 have hlt_b3_b31 : b3 < b31 := hb31.2 1000003 _ _ _ rfl
 refine TL ?_
 refine RM rfl ?_
 refine RS (ok_extractV rfl rfl) ?_
 refine RS (ok_extractV rfl rfl) ?_
 refine RA rfl ?_
 refine RA rfl ?_
 refine RN ?_
 refine GS ?_
 refine TL ?_
 refine RS (ok_build [byteD 0, byteD 0, byteD 0, byteD 3, byteD 0, byteD 0, byteD 0, byteD 1, byteD 0, byteD 0, byteD 0, byteD 0, byteD 0, byteD 0, byteD 0, byteD 2] Tryz.underlying49 info5 rfl (by decide) (by decide) rfl ⟨rfl, rfl, rfl, rfl, rfl, rfl, rfl, rfl, rfl, rfl, rfl, rfl, rfl, rfl, rfl, rfl, rfl, rfl, rfl, rfl, rfl, rfl, rfl, rfl, rfl, rfl, rfl, rfl, rfl, rfl, rfl, rfl, trivial⟩ (fun d' hd' w x h => by simp only [List.mem_cons, List.not_mem_nil, or_false] at hd'; rcases hd' with rfl | rfl | rfl | rfl | rfl | rfl | rfl | rfl | rfl | rfl | rfl | rfl | rfl | rfl | rfl | rfl <;> exact v_one rfl h)) ?_
 refine RS ((ok_sliceA (s := 1000003) 0 32 (by decide) Tryz.underlying33 info5 rfl rfl (.inr ⟨rfl, rfl⟩) (.inr ⟨rfl, rfl⟩) (by omega) (by omega) (by rw [List.length_map, (show (List.replicate 32 0 : List UInt8).length = 32 from rfl)]) (by decide)).le (d' := byt (List.replicate 32 0 : List UInt8)) (byt_all (show (List.replicate 32 0 : List UInt8).length = 32 from rfl))) ?_
 refine RS (ok_appendFull (l := ([0, 0, 0, 3, 0, 0, 0, 1, 0, 0, 0, 0, 0, 0, 0, 2] : List UInt8)) (m := (List.replicate 32 0 : List UInt8)) Tryz.underlying49 info5 (by decide) rfl rfl (Le.refl _) rfl (Le.refl _) (by decide) (by decide) (by decide)) ?_
 refine RA rfl ?_
 refine RN ?_
 refine GS ?_
 refine TN 8 ?_
 refine RS (ok_loadA (s := 1000001) (by decide) Tryz.underlying26 rfl (size26.of (KM_len _ rfl)) rfl rfl) ?_
 refine RS (ok_loadA (s := 1000002) (by decide) Tryz.underlying30 rfl (size30.of (rfl)) rfl rfl) ?_
 refine RS (ok_loadA (s := 1000003) (by decide) Tryz.underlying33 rfl (size33.of (by rfl)) rfl rfl) ?_
 refine RS (ok_callM (Seal_ok (byL encL) macL (byL_lt _) rfl 3 1 2 (by decide) (by decide) (List.replicate 32 0 : List UInt8) (by rfl) (by decide)) (Sub.cons rfl (Sub.cons rfl KN)) tabs_v (Args.cons rfl (Le.refl _) (A3 rfl rfl rfl))) ?_; refine RZ (.tuple #[aggV (c0L.map byteV), aggV ((hmac macL (msgL 3 1 2 c0L)).map byteV), .int .i64 0]) (by rw [c0_ok]) ?_
 refine RM rfl ?_
 refine RS (ok_extractV rfl rfl) ?_
 refine RS (ok_extractV rfl rfl) ?_
 refine RS (ok_extractV rfl rfl) ?_
 refine RN ?_
 refine ⟨_, _, eff_alloc (n := 137) (d := 7) (k := 1000007) zero33 (by decide), fun b7 hb7 => ?_⟩
 have hBb7 := hb7.1
 have hlt_b3_b7 : b3 < b7 := hb7.2 1000003 _ _ _ rfl
 refine TN 9 ?_
 refine RN ?_
 refine ⟨_, _, eff_alloc (n := 137) (d := 8) (k := 1000008) zero34 (by decide), fun b8 hb8 => ?_⟩
 have hBb8 := hb8.1
 refine TF 10 ?_
 refine RN ?_
 refine ⟨_, eff_storeA (n := 137) (s := 1000007) (size33.of (by rfl)) rfl rfl (all_bytes _) hBb7 rfl (by rfl) (LV 1 rfl (LV 2 rfl (LV 3 rfl (LV 4 rfl (LV 5 rfl (LeftS.cons (t := 6) rfl (Surv.own (by decide)) (LV 7 rfl (LV 8 rfl (LV 43 rfl (LV 44 rfl (LT 1000001 rfl (LT 1000002 rfl (LB 1000003 rfl (LT 1000008 rfl (LT 1000031 rfl (LeftS.cons (t := 1900000) rfl (Surv.tab (by omega)) (LeftS.cons (t := 1900001) rfl (Surv.tab (by omega)) LN))))))))))))))))), ?_⟩
 refine TF 11 ?_
 refine RN ?_
 refine ⟨_, eff_storeA (n := 137) (s := 1000008) (size34.of (by rw [List.length_map, hmac_length])) rfl rfl (all_bytes _) hBb8 rfl (by simp [hmac_length]) (LV 1 rfl (LV 2 rfl (LV 3 rfl (LV 4 rfl (LV 5 rfl (LeftS.cons (t := 6) rfl (Surv.own (by decide)) (LV 7 rfl (LV 8 rfl (LV 44 rfl (LT 1000001 rfl (LT 1000002 rfl (LT 1000003 rfl (LT 1000007 rfl (LT 1000031 rfl (LeftS.cons (t := 1900000) rfl (Surv.tab (by omega)) (LeftS.cons (t := 1900001) rfl (Surv.tab (by omega)) LN)))))))))))))))), ?_⟩
 refine TL ?_
 refine RA rfl ?_
 refine RN ?_
 refine A.sub (KC 1 rfl (KC 2 rfl (KC 3 rfl (KC 4 rfl (KC 5 rfl (KC 6 rfl (KC 7 rfl (KC 8 rfl (KC 9 rfl (KC 1000001 rfl (KC 1000002 rfl (KC 1000003 rfl (KC 1000007 rfl (KC 1000008 rfl (KC 1000031 rfl (KC 1900000 rfl (KC 1900001 rfl KN))))))))))))))))) ?_
 refine A.regsK [⟨8, 10, 22, List.replicate 16 (.int .u8 0), 10, (ksL (byL encL) 1 2 0).map byteV⟩, ⟨9, 11, 22, List.replicate 16 (.int .u8 0), 11, (ksL (byL encL) 1 2 1).map byteV⟩] (by kernel_rfl) (by kernel_rfl) (by kernel_rfl) ?_
 refine KopsK.pure (_) rfl (.inl rfl) FromV.all (fun B' => (ok_field field26_0 (by decide) rfl)) ?_
 refine KopsK.pure ((45, .v _) :: _) rfl (.inl rfl) (FromV.op 0 (by kernel_rfl) rfl rfl FromV.all) (fun B' => (ok_loadP (s := 1000001) (by decide) Tryz.underlying22 rfl size22 rfl rfl (by simp only [List.length_append, rowV_length, List.length_map]; decide) (K_key _ _))) ?_
 refine KopsK.pure (_) rfl (.inl rfl) FromV.all (fun B' => (ok_loadA (s := 1000002) (by decide) Tryz.underlying30 rfl (size30.of (rfl)) rfl rfl)) ?_
 refine KopsK.pure ((46, .v _) :: (47, .v _) :: _) rfl (.inl rfl) (FromV.op 1 (by kernel_rfl) rfl rfl (FromV.op 2 (by kernel_rfl) rfl rfl FromV.all)) (fun B' => (OpOk.asV (aggV ((ksL (byL encL) 1 2 0).map byteV)) (congrArg aggV (ksL_row (byL_lt _) _ _ _)) (ok_call (Block_fn7 (byL encL) (byL_lt _) 1 2 0 (by decide) (by decide) (by decide)) (A3 rfl rfl rfl)))) ?_
 refine KopsK.pure (_) rfl (.inl rfl) FromV.all (fun B' => (ok_field field26_0 (by decide) rfl)) ?_
 refine KopsK.pure ((49, .v _) :: _) rfl (.inl rfl) (FromV.op 4 (by kernel_rfl) rfl rfl FromV.all) (fun B' => (ok_loadP (s := 1000001) (by decide) Tryz.underlying22 rfl size22 rfl rfl (by simp only [List.length_append, rowV_length, List.length_map]; decide) (K_key _ _))) ?_
 refine KopsK.pure (_) rfl (.inl rfl) FromV.all (fun B' => (ok_loadA (s := 1000002) (by decide) Tryz.underlying30 rfl (size30.of (rfl)) rfl rfl)) ?_
 refine KopsK.pure ((50, .v _) :: (51, .v _) :: _) rfl (.inl rfl) (FromV.op 5 (by kernel_rfl) rfl rfl (FromV.op 6 (by kernel_rfl) rfl rfl FromV.all)) (fun B' => (OpOk.asV (aggV ((ksL (byL encL) 1 2 1).map byteV)) (congrArg aggV (ksL_row (byL_lt _) _ _ _)) (ok_call (Block_fn7 (byL encL) (byL_lt _) 1 2 1 (by decide) (by decide) (by decide)) (A3 rfl rfl rfl)))) ?_
 refine KopsK.alloc 0 rfl rfl rfl rfl zero22 rfl ?_
 refine KopsK.alloc 1 rfl rfl rfl rfl zero22 rfl ?_
 refine KopsK.store 0 ((48, .v _) :: _) rfl rfl rfl rfl (by kernel_rfl) (FromV.op 3 (by kernel_rfl) rfl rfl FromV.all) rfl (size22.of (by rw [List.length_map, ksL_length])) (by simp [ksL_length]) (all_bytes _) ?_
 refine KopsK.store 1 ((52, .v _) :: _) rfl rfl rfl rfl (by kernel_rfl) (FromV.op 7 (by kernel_rfl) rfl rfl FromV.all) rfl (size22.of (by rw [List.length_map, ksL_length])) (by simp [ksL_length]) (all_bytes _) ?_
 refine KopsK.nil ⟨by kernel_rfl, _, FromW.all, fun bs hbs hds => ?_⟩
 have hb10 := hbs 0 (by decide)
 have hb11 := hbs 1 (by decide)
 have hne_b10_b11 := hds 0 1 (by decide) (by decide) (by decide)
 dsimp only [varEnv]
 generalize bs 0 = b10 at *
 generalize bs (0 + 1) = b11 at *
 have hBb10 := hb10.1
 have hlt_b1_b10 : b1 < b10 := hb10.2 1000001 _ _ _ rfl
 have hlt_b2_b10 : b2 < b10 := hb10.2 1000002 _ _ _ rfl
 have hlt_b3_b10 : b3 < b10 := hb10.2 1000003 _ _ _ rfl
 have hlt_b7_b10 : b7 < b10 := hb10.2 1000007 _ _ _ rfl
 have hlt_b8_b10 : b8 < b10 := hb10.2 1000008 _ _ _ rfl
 have hlt_b31_b10 : b31 < b10 := hb10.2 1000031 _ _ _ rfl
 have hBb11 := hb11.1
 have hlt_b1_b11 : b1 < b11 := hb11.2 1000001 _ _ _ rfl
 have hlt_b2_b11 : b2 < b11 := hb11.2 1000002 _ _ _ rfl
 have hlt_b3_b11 : b3 < b11 := hb11.2 1000003 _ _ _ rfl
 have hlt_b7_b11 : b7 < b11 := hb11.2 1000007 _ _ _ rfl
 have hlt_b8_b11 : b8 < b11 := hb11.2 1000008 _ _ _ rfl
 have hlt_b31_b11 : b31 < b11 := hb11.2 1000031 _ _ _ rfl
 refine A.sub (KC 1 rfl (KC 2 rfl (KC 3 rfl (KC 4 rfl (KC 5 rfl (KC 6 rfl (KC 7 rfl (KC 8 rfl (KC 9 rfl (KC 10 rfl (KC 11 rfl (KC 1000001 rfl (KC 1000002 rfl (KC 1000003 rfl (KC 1000007 rfl (KC 1000008 rfl (KC 1000010 rfl (KC 1000011 rfl (KC 1000031 rfl (KC 1900000 rfl (KC 1900001 rfl KN))))))))))))))))))))) ?_
 refine A.seq ?_
 refine GD ?_
 refine TL ?_
 refine RS (OpOk.fact (ok_move rfl) (d := bytes (([0, 0, 0, 3, 0, 0, 0, 1, 0, 0, 0, 0, 0, 0, 0, 2] : List UInt8) ++ (List.replicate 32 0 : List UInt8)) (([0, 0, 0, 3, 0, 0, 0, 1, 0, 0, 0, 0, 0, 0, 0, 2] : List UInt8) ++ (List.replicate 32 0 : List UInt8)).length) (s := 1000031) (by decide) rfl (slice_bytes (([0, 0, 0, 3, 0, 0, 0, 1, 0, 0, 0, 0, 0, 0, 0, 2] : List UInt8) ++ (List.replicate 32 0 : List UInt8)) (by rfl) (by decide) (by decide) (by rw [msg0]; rfl))) ?_
 refine RM rfl ?_
 refine RM rfl ?_
 refine RS (ok_call (same9_fn (([0, 0, 0, 3, 0, 0, 0, 1, 0, 0, 0, 0, 0, 0, 0, 2] : List UInt8) ++ (List.replicate 32 0 : List UInt8)) 0) (Args.cons rfl (Le.refl _) (Args.cons rfl (Le.refl _) (Args.cons rfl (own_cat rfl rfl) (A1 rfl))))) ?_
 refine RS (ok_not rfl) ?_; refine RZ (.bool false) (by rfl) ?_
 refine RM rfl ?_
 refine RQ (ok_move rfl) ?_
 refine RQ (ok_bin rfl rfl rfl) ?_; refine RZ (.bool false) (by rfl) ?_
 refine RP rfl rfl ?_
 refine RM rfl ?_
 refine RQ ((ok_sliceA (s := 1000007) 0 32 (by decide) Tryz.underlying33 info5 rfl rfl (.inr ⟨rfl, rfl⟩) (.inr ⟨rfl, rfl⟩) (by omega) (by omega) (by rw [List.length_map, (show c0L.length = 32 from rfl)]) (by decide)).le (d' := byt c0L) (byt_all (show c0L.length = 32 from rfl))) ?_
 refine RQ (ok_str (l := c0L) Tryz.underlying49 Tryz.underlying5 Tryz.underlying9 rfl (Le.refl _)) ?_
 refine RQ ((ok_sliceA (s := 1000010) 0 16 (by decide) Tryz.underlying22 info5 rfl rfl (.inr ⟨rfl, rfl⟩) (.inr ⟨rfl, rfl⟩) (by omega) (by omega) (by rw [List.length_map, ksL_length]) (by decide)).le (d' := byt (ksL (byL encL) 1 2 0)) (byt_all (ksL_length _ _ _ _))) ?_
 refine RQ (ok_str (l := ksL (byL encL) 1 2 0) Tryz.underlying49 Tryz.underlying5 Tryz.underlying9 rfl (Le.refl _)) ?_
 refine RQ ((ok_sliceA (s := 1000011) 0 16 (by decide) Tryz.underlying22 info5 rfl rfl (.inr ⟨rfl, rfl⟩) (.inr ⟨rfl, rfl⟩) (by omega) (by omega) (by rw [List.length_map, ksL_length]) (by decide)).le (d' := byt (ksL (byL encL) 1 2 1)) (byt_all (ksL_length _ _ _ _))) ?_
 refine RQ (ok_str (l := ksL (byL encL) 1 2 1) Tryz.underlying49 Tryz.underlying5 Tryz.underlying9 rfl (Le.refl _)) ?_
 refine RQ (ok_addS rfl rfl (by rw [ksL_length, ksL_length]; decide)) ?_
 refine RQ (ok_sne rfl rfl) ?_; refine RZ (.bool false) (by rw [← c0_ok, xorK_zeros]; simp) ?_
 refine RP rfl rfl ?_
 refine RN ?_
 refine A.no rfl ?_
 refine A.skip ?_
 refine EN ?_
 refine GS ?_
 refine TN 8 ?_
 refine RS (ok_loadA (s := 1000001) (by decide) Tryz.underlying26 rfl (size26.of (KM_len _ rfl)) rfl rfl) ?_
 refine RS (ok_loadA (s := 1000002) (by decide) Tryz.underlying30 rfl (size30.of (rfl)) rfl rfl) ?_
 refine RS (ok_loadA (s := 1000007) (by decide) Tryz.underlying33 rfl (size33.of (by rfl)) rfl rfl) ?_
 refine RS (ok_loadA (s := 1000008) (by decide) Tryz.underlying34 rfl (size34.of (by rw [List.length_map, hmac_length])) rfl rfl) ?_
 refine RS (ok_callM (Open_ok (byL encL) macL (byL_lt _) rfl 3 1 2 (by decide) (by decide) c0L rfl (by decide) (hmac macL (msgL 3 1 2 c0L)) (hmac_length _ _) rfl) (Sub.cons rfl (Sub.cons rfl KN)) tabs_v (Args.cons rfl (Le.refl _) (Args.cons rfl (Le.refl _) (A3 rfl rfl rfl)))) ?_
 refine RM rfl ?_
 refine RS (ok_extractV rfl rfl) ?_; refine RZ (aggV ((List.replicate 32 0 : List UInt8).map byteV)) (by rw [← c0_ok, xorK_xorK (byL_lt _)]) ?_
 refine RS (ok_extractV rfl rfl) ?_
 refine RN ?_
 refine ⟨_, _, eff_alloc (n := 137) (d := 12) (k := 1000012) zero33 (by decide), fun b12 hb12 => ?_⟩
 have hBb12 := hb12.1
 have hlt_b3_b12 : b3 < b12 := hb12.2 1000003 _ _ _ rfl
 have hlt_b7_b12 : b7 < b12 := hb12.2 1000007 _ _ _ rfl
 refine TF 9 ?_
 refine RN ?_
 refine ⟨_, eff_storeA (n := 137) (s := 1000012) (size33.of (by rfl)) rfl rfl (all_bytes _) hBb12 rfl (by rfl) (LV 1 rfl (LV 2 rfl (LV 3 rfl (LV 7 rfl (LV 8 rfl (LV 12 rfl (LV 79 rfl (LT 1000001 rfl (LT 1000002 rfl (LB 1000003 rfl (LB 1000007 rfl (LT 1000008 rfl (LT 1000010 rfl (LT 1000011 rfl (LT 1000031 rfl (LeftS.cons (t := 1900000) rfl (Surv.tab (by omega)) (LeftS.cons (t := 1900001) rfl (Surv.tab (by omega)) LN))))))))))))))))), ?_⟩
 refine TL ?_
 refine RA rfl ?_
 refine RN ?_
 refine A.sub (KC 1 rfl (KC 2 rfl (KC 3 rfl (KC 7 rfl (KC 8 rfl (KC 12 rfl (KC 13 rfl (KC 1000001 rfl (KC 1000002 rfl (KC 1000003 rfl (KC 1000007 rfl (KC 1000008 rfl (KC 1000010 rfl (KC 1000011 rfl (KC 1000012 rfl (KC 1000031 rfl (KC 1900000 rfl (KC 1900001 rfl KN)))))))))))))))))) ?_
 refine GS ?_
 refine TN 8 ?_
 refine RS (ok_loadA (s := 1000001) (by decide) Tryz.underlying26 rfl (size26.of (KM_len _ rfl)) rfl rfl) ?_
 refine RS (ok_loadA (s := 1000002) (by decide) Tryz.underlying30 rfl (size30.of (rfl)) rfl rfl) ?_
 refine RS (ok_loadA (s := 1000007) (by decide) Tryz.underlying33 rfl (size33.of (by rfl)) rfl rfl) ?_
 refine RS (ok_loadA (s := 1000008) (by decide) Tryz.underlying34 rfl (size34.of (by rw [List.length_map, hmac_length])) rfl rfl) ?_
 refine RS (ok_callM (Open_int (byL encL) macL (byL_lt _) rfl 4 1 2 (by decide) (by decide) c0L rfl (by decide) (hmac macL (msgL 3 1 2 c0L)) (hmac_length _ _) tags_ne) (Sub.cons rfl (Sub.cons rfl KN)) tabs_v (Args.cons rfl (Le.refl _) (Args.cons rfl (Le.refl _) (A3 rfl rfl rfl)))) ?_
 refine RM rfl ?_
 refine RS (ok_extractV rfl rfl) ?_
 refine RS (ok_extractV rfl rfl) ?_
 refine RN ?_
 refine ⟨_, _, eff_alloc (n := 137) (d := 14) (k := 1000014) zero33 (by decide), fun b14 hb14 => ?_⟩
 have hBb14 := hb14.1
 have hlt_b3_b14 : b3 < b14 := hb14.2 1000003 _ _ _ rfl
 have hlt_b7_b14 : b7 < b14 := hb14.2 1000007 _ _ _ rfl
 have hlt_b12_b14 : b12 < b14 := hb14.2 1000012 _ _ _ rfl
 refine TF 9 ?_
 refine RN ?_
 refine ⟨_, eff_storeA (n := 137) (s := 1000014) (size33.of (rfl)) rfl rfl (rfl) hBb14 rfl (rfl) (LV 1 rfl (LV 2 rfl (LV 3 rfl (LV 12 rfl (LV 13 rfl (LV 14 rfl (LV 87 rfl (LT 1000001 rfl (LT 1000002 rfl (LB 1000003 rfl (LB 1000007 rfl (LT 1000008 rfl (LT 1000010 rfl (LT 1000011 rfl (LB 1000012 rfl (LT 1000031 rfl (LeftS.cons (t := 1900000) rfl (Surv.tab (by omega)) (LeftS.cons (t := 1900001) rfl (Surv.tab (by omega)) LN)))))))))))))))))), ?_⟩
 refine TL ?_
 refine RA rfl ?_
 refine RN ?_
 refine GS ?_
 refine TN 8 ?_
 refine RS (ok_loadA (s := 1000001) (by decide) Tryz.underlying26 rfl (size26.of (KM_len _ rfl)) rfl rfl) ?_
 refine RS (ok_loadA (s := 1000002) (by decide) Tryz.underlying30 rfl (size30.of (rfl)) rfl rfl) ?_
 refine RS (ok_loadA (s := 1000003) (by decide) Tryz.underlying33 rfl (size33.of (by rfl)) rfl rfl) ?_
 refine RS (ok_callM (Seal_bad (byL encL) macL (byL_lt _) rfl (-1) (by decide) 1 2 (by decide) (by decide) (List.replicate 32 0 : List UInt8) (by rfl)) (Sub.cons rfl (Sub.cons rfl KN)) tabs_v (Args.cons rfl (Le.refl _) (A3 rfl rfl rfl))) ?_
 refine RM rfl ?_
 refine RS (ok_extractV rfl rfl) ?_
 refine RS (ok_extractV rfl rfl) ?_
 refine RS (ok_extractV rfl rfl) ?_
 refine RN ?_
 refine ⟨_, _, eff_alloc (n := 137) (d := 16) (k := 1000016) zero33 (by decide), fun b16 hb16 => ?_⟩
 have hBb16 := hb16.1
 have hlt_b3_b16 : b3 < b16 := hb16.2 1000003 _ _ _ rfl
 have hlt_b7_b16 : b7 < b16 := hb16.2 1000007 _ _ _ rfl
 have hlt_b12_b16 : b12 < b16 := hb16.2 1000012 _ _ _ rfl
 have hlt_b14_b16 : b14 < b16 := hb16.2 1000014 _ _ _ rfl
 refine TN 9 ?_
 refine RN ?_
 refine ⟨_, _, eff_alloc (n := 137) (d := 17) (k := 1000017) zero34 (by decide), fun b17 hb17 => ?_⟩
 have hBb17 := hb17.1
 have hlt_b8_b17 : b8 < b17 := hb17.2 1000008 _ _ _ rfl
 refine TF 10 ?_
 refine RN ?_
 refine ⟨_, eff_storeA (n := 137) (s := 1000016) (size33.of (rfl)) rfl rfl (rfl) hBb16 rfl (rfl) (LV 2 rfl (LV 3 rfl (LV 12 rfl (LV 13 rfl (LV 14 rfl (LV 15 rfl (LV 17 rfl (LV 94 rfl (LV 95 rfl (LT 1000001 rfl (LT 1000002 rfl (LB 1000003 rfl (LB 1000007 rfl (LT 1000008 rfl (LT 1000010 rfl (LT 1000011 rfl (LB 1000012 rfl (LB 1000014 rfl (LT 1000017 rfl (LT 1000031 rfl (LeftS.cons (t := 1900000) rfl (Surv.tab (by omega)) (LeftS.cons (t := 1900001) rfl (Surv.tab (by omega)) LN)))))))))))))))))))))), ?_⟩
 refine TF 11 ?_
 refine RN ?_
 refine ⟨_, eff_storeA (n := 137) (s := 1000017) (size34.of (rfl)) rfl rfl (rfl) hBb17 rfl (rfl) (LV 2 rfl (LV 3 rfl (LV 12 rfl (LV 13 rfl (LV 14 rfl (LV 15 rfl (LV 95 rfl (LT 1000001 rfl (LT 1000002 rfl (LT 1000003 rfl (LT 1000007 rfl (LB 1000008 rfl (LT 1000010 rfl (LT 1000011 rfl (LT 1000012 rfl (LT 1000014 rfl (LT 1000016 rfl (LT 1000031 rfl (LeftS.cons (t := 1900000) rfl (Surv.tab (by omega)) (LeftS.cons (t := 1900001) rfl (Surv.tab (by omega)) LN)))))))))))))))))))), ?_⟩
 refine TL ?_
 refine RA rfl ?_
 refine RN ?_
 refine GS ?_
 refine TL ?_
 refine RS (ok_loadA (s := 1000002) (by decide) Tryz.underlying30 rfl (size30.of (rfl)) rfl rfl) ?_
 refine RS (ok_loadA (s := 1000003) (by decide) Tryz.underlying33 rfl (size33.of (by rfl)) rfl rfl) ?_
 refine RS (ok_call (Message_bad 4096 (by decide) 1 2 (by decide) (by decide) (List.replicate 32 0 : List UInt8) (by rfl)) (A3 rfl rfl rfl)) ?_
 refine RM rfl ?_
 refine RS (ok_extractV rfl rfl) ?_
 refine RS (ok_extractV rfl rfl) ?_
 refine RA rfl ?_
 refine RA rfl ?_
 refine RN ?_
 refine A.sub (KC 3 rfl (KC 12 rfl (KC 13 rfl (KC 14 rfl (KC 15 rfl (KC 18 rfl (KC 20 rfl (KC 1000001 rfl (KC 1000002 rfl (KC 1000003 rfl (KC 1000007 rfl (KC 1000008 rfl (KC 1000010 rfl (KC 1000011 rfl (KC 1000012 rfl (KC 1000014 rfl (KC 1000016 rfl (KC 1000017 rfl (KC 1000031 rfl (KC 1900000 rfl (KC 1900001 rfl KN))))))))))))))))))))) ?_
 refine GS ?_
 refine TN 7 ?_
 refine RS (ok_make 47 Tryz.underlying49 info5 (by decide) rfl rfl rfl rfl rfl (by decide)) ?_
 refine RS (ok_call (Parse_err (List.replicate 47 0) 6 (by decide) (checkMessage_short (List.replicate 47 0) (by decide))) (Args.cons rfl ((Le.eq (by rfl)).trans ((fresh_bytes (l := List.replicate 47 0) rfl (by decide)).trans (le_byt _ _))) Args.nil)) ?_
 refine RM rfl ?_
 refine RS (ok_extractV rfl rfl) ?_
 refine RS (ok_extractV rfl rfl) ?_
 refine RS (ok_extractV rfl rfl) ?_
 refine RS (ok_extractV rfl rfl) ?_
 refine RN ?_
 refine ⟨_, _, eff_alloc (n := 137) (d := 22) (k := 1000022) zero30 (by decide), fun b22 hb22 => ?_⟩
 have hBb22 := hb22.1
 have hlt_b2_b22 : b2 < b22 := hb22.2 1000002 _ _ _ rfl
 refine TN 8 ?_
 refine RN ?_
 refine ⟨_, _, eff_alloc (n := 137) (d := 23) (k := 1000023) zero33 (by decide), fun b23 hb23 => ?_⟩
 have hBb23 := hb23.1
 have hlt_b3_b23 : b3 < b23 := hb23.2 1000003 _ _ _ rfl
 have hlt_b7_b23 : b7 < b23 := hb23.2 1000007 _ _ _ rfl
 have hlt_b12_b23 : b12 < b23 := hb23.2 1000012 _ _ _ rfl
 have hlt_b14_b23 : b14 < b23 := hb23.2 1000014 _ _ _ rfl
 have hlt_b16_b23 : b16 < b23 := hb23.2 1000016 _ _ _ rfl
 refine TF 10 ?_
 refine RA rfl ?_
 refine RN ?_
 refine ⟨_, eff_storeA (n := 137) (s := 1000022) (size30.of (rfl)) rfl rfl (rfl) hBb22 rfl (rfl) (LV 3 rfl (LV 12 rfl (LV 13 rfl (LV 14 rfl (LV 15 rfl (LV 18 rfl (LV 20 rfl (LV 23 rfl (LV 107 rfl (LV 108 rfl (LT 1000001 rfl (LB 1000002 rfl (LT 1000003 rfl (LT 1000007 rfl (LT 1000008 rfl (LT 1000010 rfl (LT 1000011 rfl (LT 1000012 rfl (LT 1000014 rfl (LT 1000016 rfl (LT 1000017 rfl (LT 1000023 rfl (LT 1000031 rfl (LeftS.cons (t := 1900000) rfl (Surv.tab (by omega)) (LeftS.cons (t := 1900001) rfl (Surv.tab (by omega)) LN))))))))))))))))))))))))), ?_⟩
 refine TF 11 ?_
 refine RN ?_
 refine ⟨_, eff_storeA (n := 137) (s := 1000023) (size33.of (rfl)) rfl rfl (rfl) hBb23 rfl (rfl) (LV 3 rfl (LV 12 rfl (LV 13 rfl (LV 14 rfl (LV 15 rfl (LV 18 rfl (LV 20 rfl (LV 108 rfl (LT 1000001 rfl (LT 1000002 rfl (LB 1000003 rfl (LB 1000007 rfl (LT 1000008 rfl (LT 1000010 rfl (LT 1000011 rfl (LB 1000012 rfl (LB 1000014 rfl (LB 1000016 rfl (LT 1000017 rfl (LT 1000022 rfl (LT 1000031 rfl (LeftS.cons (t := 1900000) rfl (Surv.tab (by omega)) (LeftS.cons (t := 1900001) rfl (Surv.tab (by omega)) LN))))))))))))))))))))))), ?_⟩
 refine TL ?_
 refine RA rfl ?_
 refine RN ?_
 refine GS ?_
 refine TL ?_
 refine RS (ok_loadA (s := 1000012) (by decide) Tryz.underlying33 rfl (size33.of (by rfl)) rfl rfl) ?_
 refine RS (ok_loadA (s := 1000003) (by decide) Tryz.underlying33 rfl (size33.of (by rfl)) rfl rfl) ?_
 refine RS (ok_eqlT (n := 3) true flat33 (by decide) (by kernel_rfl) (by kernel_rfl) rfl rfl (kinB (l := (List.replicate 32 0 : List UInt8)) rfl) (kinB (l := (List.replicate 32 0 : List UInt8)) rfl) ⟨fun _ => rfl, fun _ => rfl⟩) ?_; refine RZ (.bool true) (by rfl) ?_
 refine RM rfl ?_
 refine RQ (ok_move rfl) ?_
 refine RQ (ok_bin rfl rfl rfl) ?_; refine RZ (.bool true) (by rfl) ?_
 refine RP rfl rfl ?_
 refine RM rfl ?_
 refine RQ (ok_loadA (s := 1000014) (by decide) Tryz.underlying33 rfl (size33.of (rfl)) rfl rfl) ?_
 refine RQ (ok_litP [] Tryz.underlying33 info5 zero33 (by decide) trivial rfl) ?_; refine RZ (aggV (List.replicate 32 (.int .u8 0))) (by rfl) ?_
 refine RQ (ok_eqlT (n := 3) true flat33 (by decide) (by kernel_rfl) (by kernel_rfl) rfl rfl (kinZ 32) (kinZ 32) ⟨fun _ => rfl, fun _ => rfl⟩) ?_; refine RZ (.bool true) (by rfl) ?_
 refine RP rfl rfl ?_
 refine RM rfl ?_
 refine RQ (ok_move rfl) ?_
 refine RQ (ok_bin rfl rfl rfl) ?_; refine RZ (.bool true) (by rfl) ?_
 refine RP rfl rfl ?_
 refine RM rfl ?_
 refine RQ (ok_move rfl) ?_
 refine RQ (ok_bin rfl rfl rfl) ?_; refine RZ (.bool true) (by rfl) ?_
 refine RP rfl rfl ?_
 refine RM rfl ?_
 refine RQ (ok_move rfl) ?_
 refine RQ (ok_bin rfl rfl rfl) ?_; refine RZ (.bool true) (by rfl) ?_
 refine RP rfl rfl ?_
 refine RM rfl ?_
 refine RQ (ok_move rfl) ?_
 refine RQ (ok_bin rfl rfl rfl) ?_; refine RZ (.bool true) (by rfl) ?_
 refine RP rfl rfl ?_
 refine RA rfl ?_
 refine RN ?_
 refine A.sub (KC 0 rfl (KC 1000001 rfl (KC 1000002 rfl (KC 1000003 rfl (KC 1000007 rfl (KC 1000008 rfl (KC 1000010 rfl (KC 1000011 rfl (KC 1000012 rfl (KC 1000014 rfl (KC 1000016 rfl (KC 1000017 rfl (KC 1000022 rfl (KC 1000023 rfl (KC 1000031 rfl (KC 1900000 rfl (KC 1900001 rfl KN))))))))))))))))) ?_
 refine A.ret ?_
 exact End.ret1 rfl rfl (by first | exact Le.refl _ | exact Le.old _ _)
end Go.Proofs.YthadcgkcgpinhaaGreatDoor
