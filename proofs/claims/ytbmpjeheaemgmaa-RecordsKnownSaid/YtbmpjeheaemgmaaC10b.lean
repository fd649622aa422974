/-
 Package records by facts.
-/
import Derived.Test.YtbmpjeheaemgmaaShort
import Derived.Test.YtbmpjeheaemgmaaC10a
namespace Go.Proofs.Ytbmpjeheaemgmaa
open Go Go.RowKit
set_option linter.unusedVariables false
set_option maxRecDepth 20000
theorem buildS_ (A : Option Addr) (n c : Nat) : Try.prog.built 80 [(0, .slice A n c)] = some ([.slice A n c] : List Value).toArray := by kernel_rfl

theorem cks_A (x : UInt8) (z : Bool) (h : 2 < x.toNat) : Fn Try.prog 30 [.v (byteV x), .v (.bool z)] (.v (.int .i64 1)) := by
 refine Fn.of Try.func30 rfl (by kernel_rfl) Try.ntmps30 (by simp) (fun w => [(0, .v (byteV x)), (1, .v (.bool z))]) (fun w => (Start.v rfl (Start.v rfl Start.nil))) fun w₀ => ?_
 refine GS ?_
 refine TL ?_
 refine RA rfl ?_
 refine RN ?_
 refine A.seq ?_
 refine GS ?_
 refine TL ?_
 refine RM rfl ?_
 refine RBS rfl rfl rfl (.bool true) (by simp; omega) ?_
 refine RM rfl ?_
 refine RK ?_
 refine RK ?_
 refine RK ?_
 refine RunK.skippedU rfl rfl rfl rfl ?_
 refine RunK.skippedU rfl rfl rfl rfl ?_
 refine RK ?_
 refine RP rfl rfl ?_
 refine RN ?_
 refine A.yes rfl ?_
 refine GS ?_
 refine TL ?_
 refine RA rfl ?_
 refine RN ?_
 refine A.ret ?_
 refine End.ret_then ?_
 exact End.ret1 rfl rfl (by first | exact Le.refl _ | exact Le.old _ _)
theorem cks_B (x : UInt8) (h : x.toNat = 0) : Fn Try.prog 30 [.v (byteV x), .v (.bool true)] (.v (.int .i64 0)) := by
 refine Fn.of Try.func30 rfl (by kernel_rfl) Try.ntmps30 (by simp) (fun w => [(0, .v (byteV x)), (1, .v (.bool true))]) (fun w => (Start.v rfl (Start.v rfl Start.nil))) fun w₀ => ?_
 refine GS ?_
 refine TL ?_
 refine RA rfl ?_
 refine RN ?_
 refine A.seq ?_
 refine GS ?_
 refine TL ?_
 refine RM rfl ?_
 refine RBS rfl rfl rfl (.bool false) (by simp; omega) ?_
 refine RM rfl ?_
 refine RQ (ok_move rfl) ?_
 refine RQ (ok_bin rfl rfl rfl) ?_; refine RZ (.bool true) (by simp [h]) ?_
 refine RQ (ok_move rfl) ?_
 refine RQ (ok_move rfl) ?_
 refine RQ (ok_not rfl) ?_; refine RZ (.bool false) (by rfl) ?_
 refine RQ (ok_pick rfl rfl) ?_
 refine RP rfl rfl ?_
 refine RN ?_
 refine A.no rfl ?_
 refine A.skip ?_
 refine EN ?_
 refine GS ?_
 refine TL ?_
 refine RA rfl ?_
 refine RN ?_
 refine A.ret ?_
 exact End.ret1 rfl rfl (by first | exact Le.refl _ | exact Le.old _ _)
theorem cks_C (x : UInt8) (h : x.toNat = 0) : Fn Try.prog 30 [.v (byteV x), .v (.bool false)] (.v (.int .i64 1)) := by
 refine Fn.of Try.func30 rfl (by kernel_rfl) Try.ntmps30 (by simp) (fun w => [(0, .v (byteV x)), (1, .v (.bool false))]) (fun w => (Start.v rfl (Start.v rfl Start.nil))) fun w₀ => ?_
 refine GS ?_
 refine TL ?_
 refine RA rfl ?_
 refine RN ?_
 refine A.seq ?_
 refine GS ?_
 refine TL ?_
 refine RM rfl ?_
 refine RBS rfl rfl rfl (.bool false) (by simp; omega) ?_
 refine RM rfl ?_
 refine RQ (ok_move rfl) ?_
 refine RQ (ok_bin rfl rfl rfl) ?_; refine RZ (.bool true) (by simp [h]) ?_
 refine RQ (ok_move rfl) ?_
 refine RQ (ok_move rfl) ?_
 refine RQ (ok_not rfl) ?_; refine RZ (.bool true) (by rfl) ?_
 refine RQ (ok_pick rfl rfl) ?_
 refine RP rfl rfl ?_
 refine RN ?_
 refine A.yes rfl ?_
 refine GS ?_
 refine TL ?_
 refine RA rfl ?_
 refine RN ?_
 refine A.ret ?_
 refine End.ret_then ?_
 exact End.ret1 rfl rfl (by first | exact Le.refl _ | exact Le.old _ _)
theorem cks_D (x : UInt8) (z : Bool) (h : 1 ≤ x.toNat) (h2 : x.toNat ≤ 2) : Fn Try.prog 30 [.v (byteV x), .v (.bool z)] (.v (.int .i64 0)) := by
 refine Fn.of Try.func30 rfl (by kernel_rfl) Try.ntmps30 (by simp) (fun w => [(0, .v (byteV x)), (1, .v (.bool z))]) (fun w => (Start.v rfl (Start.v rfl Start.nil))) fun w₀ => ?_
 refine GS ?_
 refine TL ?_
 refine RA rfl ?_
 refine RN ?_
 refine A.seq ?_
 refine GS ?_
 refine TL ?_
 refine RM rfl ?_
 refine RBS rfl rfl rfl (.bool false) (by simp; omega) ?_
 refine RM rfl ?_
 refine RQ (ok_move rfl) ?_
 refine RQ (ok_bin rfl rfl rfl) ?_; refine RZ (.bool false) (by simp; omega) ?_
 refine RQ (ok_move rfl) ?_
 refine RK ?_
 refine RK ?_
 refine RQ (ok_pick rfl rfl) ?_
 refine RP rfl rfl ?_
 refine RN ?_
 refine A.no rfl ?_
 refine A.skip ?_
 refine EN ?_
 refine GS ?_
 refine TL ?_
 refine RA rfl ?_
 refine RN ?_
 refine A.ret ?_
 exact End.ret1 rfl rfl (by first | exact Le.refl _ | exact Le.old _ _)
theorem checkState_fn (x : UInt8) (z : Bool) : Fn Try.prog 30 [.v (byteV x), .v (.bool z)] (.v (.int .i64 (ckS x.toNat z))) := by
 unfold ckS
 by_cases h : 2 < x.toNat
 ·rw [if_pos (.inl h)]; exact cks_A x z h
 by_cases h0 : x.toNat = 0
 ·cases z with
  | true => rw [if_neg (by simp; omega)]; exact cks_B x h0
  | false => rw [if_pos (.inr ⟨h0, rfl⟩)]; exact cks_C x h0
 ·rw [if_neg (by omega)]; exact cks_D x z (by omega) (by omega)
theorem CheckR_fn (x : UInt8) (s c : Nat) (t : List UInt8) (ht : t.length = 32)  : Fn Try.prog 11 [.v (aggV (recV x s c t))] (.v (.int .i64 (ckR x s c t))) := by
 refine Fn.of Try.func11 rfl (by kernel_rfl) Try.ntmps11 (by simp) (fun w => [(0, .v (aggV (recV x s c t)))]) (fun w => (Start.v rfl Start.nil)) fun w₀ => ?_
 refine GS ?_
 refine TN 0 ?_
 refine RN ?_
 refine ⟨_, _, eff_box (n := 9) (d := 1) (k := 1000001) rfl (by decide), fun b1 hb1 => ?_⟩
 have hBb1 := hb1.1
 refine TL ?_
 refine RA rfl ?_
 refine RN ?_
 refine GD ?_
 refine TL ?_
 refine RS (ok_field field29_0 (by decide) rfl) ?_
 refine RS (ok_loadV (s := 1000001) (by decide) Try.underlying5 rfl rfl rfl (rfl)) ?_
 refine RS (ok_loadA (s := 1000001) (by decide) Try.underlying29 rfl (size29.of (rec_len x s c ht)) rfl rfl) ?_
 refine RS (ok_lit [] ([.int .u8 0] ++ [.int .u32 0] ++ [.int .u64 0] ++ List.replicate 32 (.int .u8 0)) (fun _ _ => rfl) (by kernel_rfl)) ?_
 refine RS (ok_eqlT (n := 4) (decide (x.toNat = 0 ∧ s = 0 ∧ c = 0 ∧ t = zD)) flat29 (by decide) (by kernel_rfl) (by kernel_rfl) rfl rfl (kinRec x s c ht) (kinRec 0 0 0 (t := zD) rfl) (dec_rec x s c t)) ?_
 refine RS (ok_call (checkState_fn x _) (A2 rfl rfl)) ?_; refine RZ (.int .i64 (ckR x s c t)) (congrArg (Value.int .i64) (ckS_rec x s c t)) ?_
 refine RA rfl ?_
 refine RN ?_
 refine A.ret ?_
 exact End.ret1 rfl rfl (by first | exact Le.refl _ | exact Le.old _ _)
theorem CheckE_fn (x : UInt8) (t : List UInt8) (ht : t.length = 32)  : Fn Try.prog 18 [.v (aggV (entV x t))] (.v (.int .i64 (ckE x t))) := by
 refine Fn.of Try.func18 rfl (by kernel_rfl) Try.ntmps18 (by simp) (fun w => [(0, .v (aggV (entV x t)))]) (fun w => (Start.v rfl Start.nil)) fun w₀ => ?_
 refine GS ?_
 refine TN 0 ?_
 refine RN ?_
 refine ⟨_, _, eff_box (n := 9) (d := 1) (k := 1000001) rfl (by decide), fun b1 hb1 => ?_⟩
 have hBb1 := hb1.1
 refine TL ?_
 refine RA rfl ?_
 refine RN ?_
 refine GD ?_
 refine TL ?_
 refine RS (ok_field field43_0 (by decide) rfl) ?_
 refine RS (ok_loadV (s := 1000001) (by decide) Try.underlying5 rfl rfl rfl (rfl)) ?_
 refine RS (ok_loadA (s := 1000001) (by decide) Try.underlying43 rfl (size43.of (ent_len x ht)) rfl rfl) ?_
 refine RS (ok_lit [] ([.int .u8 0] ++ List.replicate 32 (.int .u8 0)) (fun _ _ => rfl) (by kernel_rfl)) ?_
 refine RS (ok_eqlT (n := 4) (decide (x.toNat = 0 ∧ t = zD)) flat43 (by decide) (by kernel_rfl) (by kernel_rfl) rfl rfl (kinEnt x ht) (kinEnt 0 (t := zD) rfl) (dec_ent x t)) ?_
 refine RS (ok_call (checkState_fn x _) (A2 rfl rfl)) ?_; refine RZ (.int .i64 (ckE x t)) (congrArg (Value.int .i64) (ckS_ent x t)) ?_
 refine RA rfl ?_
 refine RN ?_
 refine A.ret ?_
 exact End.ret1 rfl rfl (by first | exact Le.refl _ | exact Le.old _ _)
theorem PutRecord_bad (x : UInt8) (s c : Nat) (t : List UInt8) (ht : t.length = 32) (hb : BadR x s c t)  : Fn Try.prog 10 [.v (aggV (recV x s c t))] (.v (.tuple #[.slice none 0 0, .int .i64 1])) := by
 refine Fn.of Try.func10 rfl (by kernel_rfl) Try.ntmps10 (by simp) (fun w => [(0, .v (aggV (recV x s c t)))]) (fun w => (Start.v rfl Start.nil)) fun w₀ => ?_
 refine GS ?_
 refine TN 0 ?_
 refine RN ?_
 refine ⟨_, _, eff_box (n := 20) (d := 1) (k := 1000001) rfl (by decide), fun b1 hb1 => ?_⟩
 have hBb1 := hb1.1
 refine TL ?_
 refine RA rfl ?_
 refine RA rfl ?_
 refine RN ?_
 refine A.seq ?_
 refine GS ?_
 refine TL ?_
 refine RS (ok_loadA (s := 1000001) (by decide) Try.underlying29 rfl (size29.of (rec_len x s c ht)) rfl rfl) ?_
 refine RS (ok_call (CheckR_fn x s c t ht) (A1 rfl)) ?_; refine RZ (.int .i64 1) (congrArg (Value.int .i64) (ckR_bad hb)) ?_
 refine RA rfl ?_
 refine RN ?_
 refine GS ?_
 refine TL ?_
 refine RM rfl ?_
 refine RBS rfl rfl rfl (.bool true) (by rfl) ?_
 refine RN ?_
 refine A.yes rfl ?_
 refine GS ?_
 refine TL ?_
 refine RM rfl ?_
 refine RA rfl ?_
 refine RA rfl ?_
 refine RN ?_
 refine A.ret ?_
 refine End.ret_then ?_
 exact End.ret2V rfl rfl rfl
set_option maxHeartbeats 1000000 in
theorem PutRecord_okB (x : UInt8) (s c : Nat) (t : List UInt8) (ht : t.length = 32) (hs : s < 4294967296) (hc : c < 18446744073709551616) (hb : ¬ BadR x s c t)  : FnB Try.prog 10 [.v (aggV (recV x s c t))] (fun B => newD B 5 (fun b => .tuple #[.slice (some ⟨b, 0, none⟩) 45 45, .int .i64 0]) ((recL x s c t).map byteV)) := by
 refine FnB.of Try.func10 rfl (by kernel_rfl) Try.ntmps10 (by simp) (fun w => [(0, .v (aggV (recV x s c t)))]) (fun w => (Start.v rfl Start.nil)) fun w₀ => ?_
 refine GS ?_
 refine TN 0 ?_
 refine RN ?_
 refine ⟨_, _, eff_box (n := 20) (d := 1) (k := 1000001) rfl (by decide), fun b1 hb1 => ?_⟩
 have hBb1 := hb1.1
 refine TL ?_
 refine RA rfl ?_
 refine RA rfl ?_
 refine RN ?_
 refine A.seq ?_
 refine GS ?_
 refine TL ?_
 refine RS (ok_loadA (s := 1000001) (by decide) Try.underlying29 rfl (size29.of (rec_len x s c ht)) rfl rfl) ?_
 refine RS (ok_call (CheckR_fn x s c t ht) (A1 rfl)) ?_; refine RZ (.int .i64 0) (congrArg (Value.int .i64) (ckR_ok hb)) ?_
 refine RA rfl ?_
 refine RN ?_
 refine GS ?_
 refine TL ?_
 refine RM rfl ?_
 refine RBS rfl rfl rfl (.bool false) (by rfl) ?_
 refine RN ?_
 refine A.no rfl ?_
 refine A.skip ?_
 refine EN ?_
 refine GD ?_
 refine RunTK.new 9 (by decide) rfl (.inr (by kernel_rfl)) ?_
 refine RS (ok_field field29_0 (by decide) rfl) ?_
 refine RS (ok_loadV (s := 1000001) (by decide) Try.underlying5 rfl rfl rfl (rfl)) ?_
 refine RS (ok_build [.v (byteV x)] Try.underlying31 info5 rfl (by decide) (by decide) rfl ⟨rfl, rfl, trivial⟩ (fun d hd w x h => by simp only [List.mem_cons, List.not_mem_nil, or_false] at hd; rcases hd with rfl; exact v_one rfl h)) ?_
 refine RS (ok_field field29_1 (by decide) rfl) ?_
 refine RS (ok_loadP (s := 1000001) (by decide) Try.underlying25 rfl size25 rfl rfl (by simp [recV]) (rfl)) ?_
 refine RS (ok_call (Put_fn s c hs hc) (A1 rfl)) ?_
 refine RS (ok_field field29_2 (by decide) rfl) ?_
 refine RS (OpOk.fact (ok_sliceX (l := 0) (h := 32) (m := 32) Try.underlying27 info5 rfl (.inr ⟨rfl, rfl⟩) (.inr ⟨rfl, rfl, rfl⟩) (.inr ⟨rfl, rfl⟩) (by decide) (by decide) (by decide) (.inl (by decide))) (d := byt t) (s := 1000001) (by decide) rfl (slice_byt t ht.symm (by decide) (by decide) (rec_tag ht))) ?_
 refine RS (ok_build [bytes [x] 1, bytes (nonceL s c) 12, byt t] Try.underlying77 info31 rfl (by decide) (by decide) rfl ⟨rfl, rfl, rfl, rfl, rfl, rfl, trivial⟩ (fun d hd w x h => by simp only [List.mem_cons, List.not_mem_nil, or_false] at hd; rcases hd with rfl | rfl | rfl <;> first | exact list_one h | exact lst_one h)) ?_
 refine RN ?_
 refine ⟨_, _, eff_nameF (c := 45) (by simp [recL, nonceL_length, ht]) (n := 20) (d := 19) (k := 1000019) rfl rfl (fun B' => (ok_callB (Join_fnB [[x], nonceL s c, t] (by simp) (by simp [nonceL_length, ht])) (fun _ _ => fresh_mono _ _) (Args.cons rfl (list_lst3 (le_byt _ 1) (le_byt _ 12) (Le.refl _)) Args.nil)).le (d' := fresh _ 5 ((recL x s c t).map byteV) 45) (Le.eq (by simp [recL, nonceL_length, ht]))) (by decide) (by decide), fun b19 hb19 => ?_⟩
 have hBb19 := hb19.1
 have hlt_b1_b19 : b1 < b19 := hb19.2 1000001 _ _ _ rfl
 refine TL ?_
 refine RA rfl ?_
 refine RA rfl ?_
 refine RN ?_
 refine A.ret ?_
 first | exact End.newTT (kg := 1000019) rfl rfl rfl rfl hBb19 rfl rfl | exact End.ret2V rfl rfl rfl
theorem PutEntry_bad (x : UInt8) (t : List UInt8) (ht : t.length = 32) (hb : BadE x t)  : Fn Try.prog 17 [.v (aggV (entV x t))] (.v (.tuple #[.slice none 0 0, .int .i64 1])) := by
 refine Fn.of Try.func17 rfl (by kernel_rfl) Try.ntmps17 (by simp) (fun w => [(0, .v (aggV (entV x t)))]) (fun w => (Start.v rfl Start.nil)) fun w₀ => ?_
 refine GS ?_
 refine TN 0 ?_
 refine RN ?_
 refine ⟨_, _, eff_box (n := 17) (d := 1) (k := 1000001) rfl (by decide), fun b1 hb1 => ?_⟩
 have hBb1 := hb1.1
 refine TL ?_
 refine RA rfl ?_
 refine RA rfl ?_
 refine RN ?_
 refine A.seq ?_
 refine GS ?_
 refine TL ?_
 refine RS (ok_loadA (s := 1000001) (by decide) Try.underlying43 rfl (size43.of (ent_len x ht)) rfl rfl) ?_
 refine RS (ok_call (CheckE_fn x t ht) (A1 rfl)) ?_; refine RZ (.int .i64 1) (congrArg (Value.int .i64) (ckE_bad hb)) ?_
 refine RA rfl ?_
 refine RN ?_
 refine GS ?_
 refine TL ?_
 refine RM rfl ?_
 refine RBS rfl rfl rfl (.bool true) (by rfl) ?_
 refine RN ?_
 refine A.yes rfl ?_
 refine GS ?_
 refine TL ?_
 refine RM rfl ?_
 refine RA rfl ?_
 refine RA rfl ?_
 refine RN ?_
 refine A.ret ?_
 refine End.ret_then ?_
 exact End.ret2V rfl rfl rfl
theorem PutEntry_okB (x : UInt8) (t : List UInt8) (ht : t.length = 32) (hb : ¬ BadE x t)  : FnB Try.prog 17 [.v (aggV (entV x t))] (fun B => newD B 5 (fun b => .tuple #[.slice (some ⟨b, 0, none⟩) 33 33, .int .i64 0]) ((entL x t).map byteV)) := by
 refine FnB.of Try.func17 rfl (by kernel_rfl) Try.ntmps17 (by simp) (fun w => [(0, .v (aggV (entV x t)))]) (fun w => (Start.v rfl Start.nil)) fun w₀ => ?_
 refine GS ?_
 refine TN 0 ?_
 refine RN ?_
 refine ⟨_, _, eff_box (n := 17) (d := 1) (k := 1000001) rfl (by decide), fun b1 hb1 => ?_⟩
 have hBb1 := hb1.1
 refine TL ?_
 refine RA rfl ?_
 refine RA rfl ?_
 refine RN ?_
 refine A.seq ?_
 refine GS ?_
 refine TL ?_
 refine RS (ok_loadA (s := 1000001) (by decide) Try.underlying43 rfl (size43.of (ent_len x ht)) rfl rfl) ?_
 refine RS (ok_call (CheckE_fn x t ht) (A1 rfl)) ?_; refine RZ (.int .i64 0) (congrArg (Value.int .i64) (ckE_ok hb)) ?_
 refine RA rfl ?_
 refine RN ?_
 refine GS ?_
 refine TL ?_
 refine RM rfl ?_
 refine RBS rfl rfl rfl (.bool false) (by rfl) ?_
 refine RN ?_
 refine A.no rfl ?_
 refine A.skip ?_
 refine EN ?_
 refine GD ?_
 refine RunTK.new 6 (by decide) rfl (.inr (by kernel_rfl)) ?_
 refine RS (ok_field field43_0 (by decide) rfl) ?_
 refine RS (ok_loadV (s := 1000001) (by decide) Try.underlying5 rfl rfl rfl (rfl)) ?_
 refine RS (ok_build [.v (byteV x)] Try.underlying31 info5 rfl (by decide) (by decide) rfl ⟨rfl, rfl, trivial⟩ (fun d hd w x h => by simp only [List.mem_cons, List.not_mem_nil, or_false] at hd; rcases hd with rfl; exact v_one rfl h)) ?_
 refine RS (ok_field field43_1 (by decide) rfl) ?_
 refine RS (OpOk.fact (ok_sliceX (l := 0) (h := 32) (m := 32) Try.underlying27 info5 rfl (.inr ⟨rfl, rfl⟩) (.inr ⟨rfl, rfl, rfl⟩) (.inr ⟨rfl, rfl⟩) (by decide) (by decide) (by decide) (.inl (by decide))) (d := byt t) (s := 1000001) (by decide) rfl (slice_byt t ht.symm (by decide) (by decide) (ent_tag ht))) ?_
 refine RS (ok_build [bytes [x] 1, byt t] Try.underlying77 info31 rfl (by decide) (by decide) rfl ⟨rfl, rfl, rfl, rfl, trivial⟩ (fun d hd w x h => by simp only [List.mem_cons, List.not_mem_nil, or_false] at hd; rcases hd with rfl | rfl <;> first | exact list_one h | exact lst_one h)) ?_
 refine RN ?_
 refine ⟨_, _, eff_nameF (c := 33) (by simp [entL, ht]) (n := 17) (d := 16) (k := 1000016) rfl rfl (fun B' => (ok_callB (Join_fnB [[x], t] (by simp) (by simp [ht])) (fun _ _ => fresh_mono _ _) (Args.cons rfl (list_lst2 (le_byt _ 1) (Le.refl _)) Args.nil)).le (d' := fresh _ 5 ((entL x t).map byteV) 33) (Le.eq (by simp [entL, ht]))) (by decide) (by decide), fun b16 hb16 => ?_⟩
 have hBb16 := hb16.1
 have hlt_b1_b16 : b1 < b16 := hb16.2 1000001 _ _ _ rfl
 refine TL ?_
 refine RA rfl ?_
 refine RA rfl ?_
 refine RN ?_
 refine A.ret ?_
 first | exact End.newTT (kg := 1000016) rfl rfl rfl rfl hBb16 rfl rfl | exact End.ret2V rfl rfl rfl
theorem PutCell_fnB (t : List UInt8) (ht : t.length = 32) (e m : Nat) (he : e < 18446744073709551616) (hm : m < 18446744073709551616)  : FnB Try.prog 21 [.v (aggV (celV t e m))] (fun B => fresh B 5 ((celL t e m).map byteV) 48) := by
 refine FnB.of Try.func21 rfl (by kernel_rfl) Try.ntmps21 (by simp) (fun w => [(0, .v (aggV (celV t e m)))]) (fun w => (Start.v rfl Start.nil)) fun w₀ => ?_
 refine GS ?_
 refine TN 0 ?_
 refine RN ?_
 refine ⟨_, _, eff_box (n := 13) (d := 1) (k := 1000001) rfl (by decide), fun b1 hb1 => ?_⟩
 have hBb1 := hb1.1
 refine TL ?_
 refine RA rfl ?_
 refine RN ?_
 refine GD ?_
 refine TL ?_
 refine RS (ok_field field52_0 (by decide) rfl) ?_
 refine RS (OpOk.fact (ok_sliceX (l := 0) (h := 32) (m := 32) Try.underlying27 info5 rfl (.inr ⟨rfl, rfl⟩) (.inr ⟨rfl, rfl, rfl⟩) (.inr ⟨rfl, rfl⟩) (by decide) (by decide) (by decide) (.inl (by decide))) (d := byt t) (s := 1000001) (by decide) rfl (slice_byt t ht.symm (by decide) (by decide) (cel_root ht e m))) ?_
 refine RS (ok_field field52_1 (by decide) rfl) ?_
 refine RS (ok_loadV (s := 1000001) (by decide) Try.underlying23 rfl rfl rfl (cel_e ht e m)) ?_
 refine RS (ok_call ((Put64_fn ((e : Nat) : Int) (by omega) (by omega)).le (d' := bytes (be 8 e) 8) (Le.refl _)) (A1 rfl)) ?_
 refine RS (ok_field field52_2 (by decide) rfl) ?_
 refine RS (ok_loadV (s := 1000001) (by decide) Try.underlying23 rfl rfl rfl (cel_m ht e m)) ?_
 refine RS (ok_call ((Put64_fn ((m : Nat) : Int) (by omega) (by omega)).le (d' := bytes (be 8 m) 8) (Le.refl _)) (A1 rfl)) ?_
 refine RS (ok_build [byt t, bytes (be 8 e) 8, bytes (be 8 m) 8] Try.underlying77 info31 rfl (by decide) (by decide) rfl ⟨rfl, rfl, rfl, rfl, rfl, rfl, trivial⟩ (fun d hd w x h => by simp only [List.mem_cons, List.not_mem_nil, or_false] at hd; rcases hd with rfl | rfl | rfl <;> first | exact list_one h | exact lst_one h)) ?_
 refine RS ((ok_callB (Join_fnB [t, be 8 e, be 8 m] (by simp) (by simp [be_length, ht])) (fun _ _ => fresh_mono _ _) (Args.cons rfl (list_lst3 (Le.refl _) (le_byt _ 8) (le_byt _ 8)) Args.nil)).le (d' := fresh w₀.heap.size 5 ((celL t e m).map byteV) 48) (Le.eq (by simp [celL, be_length, ht]))) ?_
 refine RA rfl ?_
 refine RN ?_
 refine A.ret ?_
 exact End.ret1 rfl rfl (by first | exact Le.refl _ | exact Le.old _ _)
theorem PutCell_fn (t : List UInt8) (ht : t.length = 32) (e m : Nat) (he : e < 18446744073709551616) (hm : m < 18446744073709551616) : Fn Try.prog 21 [.v (aggV (celV t e m))] (bytes (celL t e m) 48) :=
 (PutCell_fnB t ht e m he hm).fn fun _ => fresh_bytes (celL_len ht e m).symm (by decide)
theorem csz_lo (l : List UInt8) (n : Nat) (h : l.length < n) : Fn Try.prog 31 [byt l, .v (nI n)] (.v (.int .i64 6)) := by
 refine Fn.of Try.func31 rfl (by kernel_rfl) Try.ntmps31 (by simp) (fun w => [(0, old w.heap.size (byt l)), (1, .v (nI n))]) (fun w => (Start.old rfl (Start.v rfl Start.nil))) fun w₀ => ?_
 refine GS ?_
 refine TL ?_
 refine RA rfl ?_
 refine RN ?_
 refine A.seq ?_
 refine A.block ?_
 refine GS ?_
 refine TL ?_
 refine RM rfl ?_
 refine RS (ok_lenB Try.underlying31 rfl LA) ?_
 refine RM rfl ?_
 refine RBS rfl rfl rfl (.bool true) (by simp; omega) ?_
 refine RA rfl ?_
 refine RN ?_
 refine A.yes rfl ?_
 refine GS ?_
 refine TL ?_
 refine RA rfl ?_
 refine RN ?_
 refine A.ret ?_
 refine End.ret_block ?_
 refine End.ret_then ?_
 exact End.ret1 rfl rfl (by first | exact Le.refl _ | exact Le.old _ _)
theorem csz_hi (l : List UInt8) (n : Nat) (h : n < l.length) : Fn Try.prog 31 [byt l, .v (nI n)] (.v (.int .i64 5)) := by
 refine Fn.of Try.func31 rfl (by kernel_rfl) Try.ntmps31 (by simp) (fun w => [(0, old w.heap.size (byt l)), (1, .v (nI n))]) (fun w => (Start.old rfl (Start.v rfl Start.nil))) fun w₀ => ?_
 refine GS ?_
 refine TL ?_
 refine RA rfl ?_
 refine RN ?_
 refine A.seq ?_
 refine A.block ?_
 refine GS ?_
 refine TL ?_
 refine RM rfl ?_
 refine RS (ok_lenB Try.underlying31 rfl LA) ?_
 refine RM rfl ?_
 refine RBS rfl rfl rfl (.bool false) (by simp; omega) ?_
 refine RA rfl ?_
 refine RN ?_
 refine A.no rfl ?_
 refine GS ?_
 refine TL ?_
 refine RM rfl ?_
 refine RS (ok_lenB Try.underlying31 rfl LA) ?_
 refine RM rfl ?_
 refine RBS rfl rfl rfl (.bool true) (by simp; omega) ?_
 refine RA rfl ?_
 refine RN ?_
 refine A.yes rfl ?_
 refine GS ?_
 refine TL ?_
 refine RA rfl ?_
 refine RN ?_
 refine A.ret ?_
 refine End.ret_block ?_
 refine End.ret_then ?_
 exact End.ret1 rfl rfl (by first | exact Le.refl _ | exact Le.old _ _)
theorem csz_eq (l : List UInt8) (n : Nat) (h : l.length = n) : Fn Try.prog 31 [byt l, .v (nI n)] (.v (.int .i64 0)) := by
 refine Fn.of Try.func31 rfl (by kernel_rfl) Try.ntmps31 (by simp) (fun w => [(0, old w.heap.size (byt l)), (1, .v (nI n))]) (fun w => (Start.old rfl (Start.v rfl Start.nil))) fun w₀ => ?_
 refine GS ?_
 refine TL ?_
 refine RA rfl ?_
 refine RN ?_
 refine A.seq ?_
 refine A.block ?_
 refine GS ?_
 refine TL ?_
 refine RM rfl ?_
 refine RS (ok_lenB Try.underlying31 rfl LA) ?_
 refine RM rfl ?_
 refine RBS rfl rfl rfl (.bool false) (by simp; omega) ?_
 refine RA rfl ?_
 refine RN ?_
 refine A.no rfl ?_
 refine GS ?_
 refine TL ?_
 refine RM rfl ?_
 refine RS (ok_lenB Try.underlying31 rfl LA) ?_
 refine RM rfl ?_
 refine RBS rfl rfl rfl (.bool false) (by simp; omega) ?_
 refine RA rfl ?_
 refine RN ?_
 refine A.no rfl ?_
 refine A.skip ?_
 refine End.normal_block ?_
 refine EN ?_
 refine GS ?_
 refine TL ?_
 refine RA rfl ?_
 refine RN ?_
 refine A.ret ?_
 exact End.ret1 rfl rfl (by first | exact Le.refl _ | exact Le.old _ _)
theorem checkSize_fn (l : List UInt8) (n : Nat) : Fn Try.prog 31 [byt l, .v (nI n)] (.v (.int .i64 (szE l.length n))) := by
 by_cases h : l.length < n
 ·rw [szE_lo h]; exact csz_lo l n h
 by_cases h2 : n < l.length
 ·rw [szE_hi h2]; exact csz_hi l n h2
 ·rw [szE_eq (by omega)]; exact csz_eq l n (by omega)
theorem front_fnB (A₀ : Option Addr) (n m : Nat) : FnB Try.prog 32 [.v (.slice A₀ n m)] (fun B => newD B 80 (fun b => ptr b) [.slice A₀ n m]) := by
 refine FnB.of Try.func32 rfl (by kernel_rfl) Try.ntmps32 (by simp) (fun w => [(0, .v (.slice A₀ n m))]) (fun w => (Start.v rfl Start.nil)) fun w₀ => ?_
 refine GS ?_
 refine TL ?_
 refine RA rfl ?_
 refine RN ?_
 refine GS ?_
 refine TN 2 ?_
 refine RM rfl ?_
 refine RS (ok_litS [(0, .slice A₀ n m)] [.slice A₀ n m] ⟨rfl, rfl, trivial⟩ (buildS_ A₀ n m)) ?_
 refine RN ?_
 refine ⟨_, _, eff_box (n := 6) (d := 5) (k := 1000005) rfl (by decide), fun b5 hb5 => ?_⟩
 have hBb5 := hb5.1
 refine TL ?_
 refine RA rfl ?_
 refine RN ?_
 refine A.ret ?_
 exact End.newF (kg := 1000005) rfl rfl rfl hBb5 rfl rfl
theorem cut_fnWR (g n m k : Nat) (A₀ : Option Addr) (hk : k ≤ n) (hn : n ≤ m) (h0 : 0 < m) : FnWR Try.prog 33 [] 80 g [.slice A₀ n m] [.slice (cutA m k A₀) (n - k) (m - k)] ([ptr g].map D.v ++ [.v (nI k)]) (.slice A₀ k m) := by
 refine FnWR.of (us := [ptr g, (nI k)]) (n := 22) (kb := 1000080) (kw := 1000081) Try.func33 rfl (by kernel_rfl) Try.ntmps33 (by simp) (by decide) (fun p hp => by cases hp) (by decide) (by decide) [(0, .v (ptr g)), (1, .v (nI k))]
  (fun p hp => by simp only [List.mem_cons, List.not_mem_nil, or_false] at hp; rcases hp with rfl | rfl <;> exact ⟨_, rfl, rfl⟩) fun w₀ w₁ hw => ?_
 have hBg : w₀.heap.size ≤ g := Nat.le_of_eq hw
 refine GS ?_
 refine TL ?_
 refine RA rfl ?_
 refine RN ?_
 refine GS ?_
 refine TL ?_
 refine RM rfl ?_
 refine RS (ok_nilCheck rfl) ?_
 refine RS (ok_field field80_0 (by decide) rfl) ?_
 refine RS (ok_loadV (s := 1000080) (by decide) Try.underlying31 rfl rfl rfl (rfl)) ?_
 refine RM rfl ?_
 refine RS (ok_sliceHi k Try.underlying31 info5 rfl rfl (by omega) h0) ?_
 refine RA rfl ?_
 refine RN ?_
 refine GS ?_
 refine TF 9 ?_
 refine RM rfl ?_
 refine RM rfl ?_
 refine RS (ok_nilCheck rfl) ?_
 refine RS (ok_field field80_0 (by decide) rfl) ?_
 refine RS (ok_loadV (s := 1000080) (by decide) Try.underlying31 rfl rfl rfl (rfl)) ?_
 refine RM rfl ?_
 refine RS (ok_sliceLo k Try.underlying31 info5 rfl rfl hk hn) ?_
 refine RS (ok_nilCheck rfl) ?_
 refine RS (ok_field field80_0 (by decide) rfl) ?_
 refine RN ?_
 refine ⟨_, eff_storeS (n := 22) (s := 1000080) info31 rfl rfl rfl hBg rfl (by simp) (LV 5 rfl (LeftS.cons (t := 1000081) rfl (Surv.wrote) LN)), ?_⟩
 refine TL ?_
 refine RN ?_
 refine GS ?_
 refine TL ?_
 refine RM rfl ?_
 refine RA rfl ?_
 refine RN ?_
 refine A.ret ?_
 exact End.wroteR (kb := 1000080) (kw := 1000081) (.inl rfl) rfl rfl rfl rfl rfl
theorem Eff.upM {P : Program} {n B : Nat} {ops : Array Oper} {o : Oper} {E E' : Env} {t k B' : Nat} {v : Value} {d : D} (ht : E'.look t = some (.v v)) (hk : E'.look k = some (old B' (valM v d))) (h : Eff P n B ops o E E') : Eff P n B ops o E ((t, old B' d) :: E') :=
 fun κ a w K Q hs hK => h κ a w K Q hs fun a' w' hb hs' => hK a' w' hb (hs'.push (d := old B' d) (by
  have h1 := hs'.of t _ ht
  have h2 := hs'.of k _ hk
  rw [show a'.tmps.getD t undef = v from h1]
  exact h2))
theorem GetRecord_len (l : List UInt8) (h : l.length ≠ 45) : Fn Try.prog 14 [byt l] (.v (.tuple #[aggV (recV 0 0 0 zD), .int .i64 (szE l.length 45)])) := by
 refine Fn.of Try.func14 rfl (by kernel_rfl) Try.ntmps14 (by simp) (fun w => [(0, old w.heap.size (byt l))]) (fun w => (Start.old rfl Start.nil)) fun w₀ => ?_
 refine A.nameC (t := 0) (k := 1000200) rfl fun A₀ m₀ hm1 hm2 => ?_
 refine GS ?_
 refine TN 0 ?_
 refine RN ?_
 refine ⟨_, _, eff_alloc (n := 41) (d := 2) (k := 1000002) zero29 (by decide), fun b2 hb2 => ?_⟩
 have hBb2 := hb2.1
 refine TL ?_
 refine RA rfl ?_
 refine RN ?_
 refine A.seq ?_
 refine GS ?_
 refine TL ?_
 refine RS (OpOk.valO (ok_move rfl) (k := 1000200) (by decide) rfl) ?_
 refine RS (ok_call (checkSize_fn l 45) (Args.cons rfl (Le.old _ _) (A1 rfl))) ?_
 refine RA rfl ?_
 refine RN ?_
 refine GS ?_
 refine TL ?_
 refine RM rfl ?_
 refine RBS rfl rfl rfl (.bool true) (congrArg Value.bool (bne_iff_ne.2 (szE_ne h))) ?_
 refine RN ?_
 refine A.yes rfl ?_
 refine GS ?_
 refine TF 2 ?_
 refine RS (ok_lit [] ([.int .u8 0] ++ [.int .u32 0] ++ [.int .u64 0] ++ List.replicate 32 (.int .u8 0)) (fun _ _ => rfl) (by kernel_rfl)) ?_
 refine RM rfl ?_
 refine RN ?_
 refine ⟨_, eff_storeA (n := 41) (s := 1000002) (size29.of (rfl)) rfl rfl (rfl) hBb2 rfl (rfl) (LV 2 rfl (LV 13 rfl (LO 1000200 rfl LN))), ?_⟩
 refine TL ?_
 refine RA rfl ?_
 refine RN ?_
 refine A.ret ?_
 refine End.ret_then ?_
 exact End.cellV (s := 1000002) rfl Try.underlying29 rfl (size29.of rfl) rfl rfl rfl
set_option maxHeartbeats 1000000 in
theorem GetRecord_bad (l : List UInt8) (h : l.length = 45) (hb : BadR (pX l) (gS (pN l)) (gC (pN l)) (pT l)) : Fn Try.prog 14 [byt l] (.v (.tuple #[aggV (recV 0 0 0 zD), .int .i64 1])) := by
 refine Fn.of Try.func14 rfl (by kernel_rfl) Try.ntmps14 (by simp) (fun w => [(0, old w.heap.size (byt l))]) (fun w => (Start.old rfl Start.nil)) fun w₀ => ?_
 refine A.nameC (t := 0) (k := 1000200) rfl fun A₀ m₀ hm1 hm2 => ?_
 refine A.cut (k₀ := 1000200) (k₁ := 1000211) (k₂ := 1000201) (i := 1) rfl (by omega) ?_
 refine A.cut (k₀ := 1000201) (k₁ := 1000212) (k₂ := 1000202) (i := 12) rfl (by omega) ?_
 refine A.cut (k₀ := 1000202) (k₁ := 1000213) (k₂ := 1000203) (i := 32) rfl (by omega) ?_
 refine GS ?_
 refine TN 0 ?_
 refine RN ?_
 refine ⟨_, _, eff_alloc (n := 41) (d := 2) (k := 1000002) zero29 (by decide), fun b2 hb2 => ?_⟩
 have hBb2 := hb2.1
 refine TL ?_
 refine RA rfl ?_
 refine RN ?_
 refine A.seq ?_
 refine GS ?_
 refine TL ?_
 refine RS (OpOk.valO (ok_move rfl) (k := 1000200) (by decide) rfl) ?_
 refine RS (ok_call (checkSize_fn l 45) (Args.cons rfl (Le.old _ _) (A1 rfl))) ?_; refine RZ (.int .i64 0) (congrArg (Value.int .i64) (szE_eq h)) ?_
 refine RA rfl ?_
 refine RN ?_
 refine GS ?_
 refine TL ?_
 refine RM rfl ?_
 refine RBS rfl rfl rfl (.bool false) (by rfl) ?_
 refine RN ?_
 refine A.no rfl ?_
 refine A.skip ?_
 refine EN ?_
 refine GS ?_
 refine TN 1 ?_
 refine RM rfl ?_
 refine RN ?_
 refine ⟨_, _, eff_name (n := 41) (d := 15) (k := 1000015) rfl rfl (fun B' => ok_callB (front_fnB A₀ l.length m₀) newD_mono (A1 rfl)) (by decide) (by decide), fun b15 hb15 => ?_⟩
 have hBb15 := hb15.1
 have hlt_b2_b15 : b2 < b15 := hb15.2 1000002 _ _ _ rfl
 refine TL ?_
 refine RS (ok_makeFuncM rfl) ?_
 refine RA rfl ?_
 refine RN ?_
 refine GS ?_
 refine TN 0 ?_
 refine RN ?_
 refine ⟨_, _, eff_alloc (n := 41) (d := 6) (k := 1000006) zero29 (by decide), fun b6 hb6 => ?_⟩
 have hBb6 := hb6.1
 have hlt_b2_b6 : b2 < b6 := hb6.2 1000002 _ _ _ rfl
 refine TL ?_
 refine RN ?_
 refine GS ?_
 refine TF 1 ?_
 refine RM rfl ?_
 refine RN ?_
 refine ⟨_, Eff.upM (t := 18) (k := 1000211) rfl rfl (eff_callBR (n := 41) (s := 1000015) (us := [ptr b15]) (ds := [.v (nI ((1 : Nat)))]) (cut_fnWR b15 (l.length) (m₀) 1 (A₀) (by omega) (by omega) (by omega)) (fun p hp => by cases hp) rfl (A1 rfl) hBb15 rfl (by decide) (by decide) (LV 2 rfl (LV 5 rfl (LV 6 rfl (LT 1000002 rfl (LT 1000006 rfl (LO 1000200 rfl (LO 1000201 rfl (LO 1000202 rfl (LO 1000203 rfl (LO 1000211 rfl (LO 1000212 rfl (LO 1000213 rfl LN))))))))))))), ?_⟩
 refine TF 5 ?_
 refine RS (ok_index (d := byteD (pX l)) Try.underlying31 info5 rfl LA rfl (by decide) (by cases l with | nil => simp at h | cons a l => rfl)) ?_
 refine RS (ok_load Try.underlying5 rfl rfl) ?_
 refine RS (ok_field field29_0 (by decide) rfl) ?_
 refine RN ?_
 refine ⟨_, eff_storeS (n := 41) (s := 1000006) info5 rfl rfl rfl hBb6 rfl (by simp) (LV 2 rfl (LV 5 rfl (LV 6 rfl (LB 1000002 rfl (LT 1000015 rfl (LO 1000200 rfl (LO 1000201 rfl (LO 1000202 rfl (LO 1000203 rfl (LO 1000211 rfl (LO 1000212 rfl (LO 1000213 rfl LN)))))))))))), ?_⟩
 refine TL ?_
 refine RN ?_
 refine A.sub (KC 2 rfl (KC 5 rfl (KC 6 rfl (KC 1000002 rfl (KE 1000006 rfl (show _ = blk b6 29 (recV (pX l) 0 0 zD) from by rfl) (KC 1000015 rfl (KC 1000200 rfl (KC 1000201 rfl (KC 1000202 rfl (KC 1000203 rfl (KC 1000211 rfl (KC 1000212 rfl (KC 1000213 rfl KN))))))))))))) ?_
 refine GS ?_
 refine TF 1 ?_
 refine RM rfl ?_
 refine RN ?_
 refine ⟨_, Eff.upM (t := 24) (k := 1000212) rfl rfl (eff_callBR (n := 41) (s := 1000015) (us := [ptr b15]) (ds := [.v (nI ((12 : Nat)))]) (cut_fnWR b15 (l.length - 1) (m₀ - 1) 12 (cutA (m₀) 1 (A₀)) (by omega) (by omega) (by omega)) (fun p hp => by cases hp) rfl (A1 rfl) hBb15 rfl (by decide) (by decide) (LV 2 rfl (LV 5 rfl (LV 6 rfl (LT 1000002 rfl (LT 1000006 rfl (LO 1000200 rfl (LO 1000201 rfl (LO 1000202 rfl (LO 1000203 rfl (LO 1000211 rfl (LO 1000212 rfl (LO 1000213 rfl LN))))))))))))), ?_⟩
 refine TF 7 ?_
 refine RS (ok_call (Get_fn (pN l)) (Args.cons rfl LA Args.nil)) ?_
 refine RM rfl ?_
 refine RS (ok_extract rfl rfl) ?_
 refine RS (ok_extract rfl rfl) ?_
 refine RS (ok_field field29_1 (by decide) rfl) ?_
 refine RN ?_
 refine ⟨_, eff_storeP (n := 41) (s := 1000006) (size25.of (rfl)) rfl rfl (rfl) hBb6 rfl (by rw [rec_len _ _ _ (t := zD) rfl]; exact Nat.le_of_ble_eq_true rfl) (LV 2 rfl (LV 5 rfl (LV 6 rfl (LB 1000002 rfl (LT 1000015 rfl (LO 1000200 rfl (LO 1000201 rfl (LO 1000202 rfl (LO 1000203 rfl (LO 1000211 rfl (LO 1000212 rfl (LO 1000213 rfl LN)))))))))))), ?_⟩
 refine TL ?_
 refine RN ?_
 refine A.sub (KC 2 rfl (KC 5 rfl (KC 6 rfl (KC 1000002 rfl (KE 1000006 rfl (show _ = blk b6 29 (recV (pX l) (gS (pN l)) (gC (pN l)) zD) from by rfl) (KC 1000015 rfl (KC 1000200 rfl (KC 1000201 rfl (KC 1000202 rfl (KC 1000203 rfl (KC 1000211 rfl (KC 1000212 rfl (KC 1000213 rfl KN))))))))))))) ?_
 refine GS ?_
 refine TF 1 ?_
 refine RM rfl ?_
 refine RN ?_
 refine ⟨_, Eff.upM (t := 30) (k := 1000213) rfl rfl (eff_callBR (n := 41) (s := 1000015) (us := [ptr b15]) (ds := [.v (nI ((32 : Nat)))]) (cut_fnWR b15 (l.length - 1 - 12) (m₀ - 1 - 12) 32 (cutA (m₀ - 1) 12 (cutA (m₀) 1 (A₀))) (by omega) (by omega) (by omega)) (fun p hp => by cases hp) rfl (A1 rfl) hBb15 rfl (by decide) (by decide) (LV 2 rfl (LV 6 rfl (LT 1000002 rfl (LT 1000006 rfl (LO 1000200 rfl (LO 1000201 rfl (LO 1000202 rfl (LO 1000203 rfl (LO 1000211 rfl (LO 1000212 rfl (LO 1000213 rfl LN)))))))))))), ?_⟩
 refine TF 5 ?_
 refine RS (ok_arrayB (pT l) (by rw [pT_len h]; exact Try.underlying27) rfl LA (by rw [pT_len h]; decide)) ?_
 refine RS (ok_loadB Try.underlying27 rfl (size27.of (pT_len h)) rfl) ?_
 refine RS (ok_field field29_2 (by decide) rfl) ?_
 refine RN ?_
 refine ⟨_, eff_storeP (n := 41) (s := 1000006) (size27.of (by rw [List.length_map, pT_len h])) rfl rfl (all_byte _) hBb6 rfl (by simp [recV, zD, pT_len h]) (LV 2 rfl (LV 6 rfl (LB 1000002 rfl (LT 1000015 rfl (LO 1000200 rfl (LO 1000201 rfl (LO 1000202 rfl (LO 1000203 rfl (LO 1000211 rfl (LO 1000212 rfl (LO 1000213 rfl LN))))))))))), ?_⟩
 refine TL ?_
 refine RN ?_
 refine A.sub (KC 2 rfl (KC 6 rfl (KC 1000002 rfl (KE 1000006 rfl (show _ = blk b6 29 (recV (pX l) (gS (pN l)) (gC (pN l)) (pT l)) from congrArg _ (rec_set3 _ _ _ (pT_len h) (t' := zD) rfl)) (KC 1000015 rfl (KC 1000200 rfl (KC 1000201 rfl (KC 1000202 rfl (KC 1000203 rfl (KC 1000211 rfl (KC 1000212 rfl (KC 1000213 rfl KN)))))))))))) ?_
 refine A.seq ?_
 refine GS ?_
 refine TL ?_
 refine RS (ok_loadA (s := 1000006) (by decide) Try.underlying29 rfl (size29.of (rec_len _ _ _ (pT_len h))) rfl rfl) ?_
 refine RS (ok_call (CheckR_fn (pX l) (gS (pN l)) (gC (pN l)) (pT l) (pT_len h)) (A1 rfl)) ?_; refine RZ (.int .i64 1) (congrArg (Value.int .i64) (ckR_bad hb)) ?_
 refine RA rfl ?_
 refine RN ?_
 refine GS ?_
 refine TL ?_
 refine RM rfl ?_
 refine RBS rfl rfl rfl (.bool true) (by rfl) ?_
 refine RN ?_
 refine A.yes rfl ?_
 refine GS ?_
 refine TF 2 ?_
 refine RS (ok_lit [] ([.int .u8 0] ++ [.int .u32 0] ++ [.int .u64 0] ++ List.replicate 32 (.int .u8 0)) (fun _ _ => rfl) (by kernel_rfl)) ?_
 refine RM rfl ?_
 refine RN ?_
 refine ⟨_, eff_storeA (n := 41) (s := 1000002) (size29.of (rfl)) rfl rfl (rfl) hBb2 rfl (rfl) (LV 2 rfl (LV 39 rfl (LB 1000006 rfl (LT 1000015 rfl (LO 1000200 rfl (LO 1000201 rfl (LO 1000202 rfl (LO 1000203 rfl (LO 1000211 rfl (LO 1000212 rfl (LO 1000213 rfl LN))))))))))), ?_⟩
 refine TL ?_
 refine RA rfl ?_
 refine RN ?_
 refine A.ret ?_
 refine End.ret_then ?_
 exact End.cellV (s := 1000002) rfl Try.underlying29 rfl (size29.of (rfl)) rfl rfl rfl
set_option maxHeartbeats 1000000 in
theorem GetRecord_ok (l : List UInt8) (h : l.length = 45) (hb : ¬ BadR (pX l) (gS (pN l)) (gC (pN l)) (pT l)) : Fn Try.prog 14 [byt l] (.v (.tuple #[aggV (recV (pX l) (gS (pN l)) (gC (pN l)) (pT l)), .int .i64 0])) := by
 refine Fn.of Try.func14 rfl (by kernel_rfl) Try.ntmps14 (by simp) (fun w => [(0, old w.heap.size (byt l))]) (fun w => (Start.old rfl Start.nil)) fun w₀ => ?_
 refine A.nameC (t := 0) (k := 1000200) rfl fun A₀ m₀ hm1 hm2 => ?_
 refine A.cut (k₀ := 1000200) (k₁ := 1000211) (k₂ := 1000201) (i := 1) rfl (by omega) ?_
 refine A.cut (k₀ := 1000201) (k₁ := 1000212) (k₂ := 1000202) (i := 12) rfl (by omega) ?_
 refine A.cut (k₀ := 1000202) (k₁ := 1000213) (k₂ := 1000203) (i := 32) rfl (by omega) ?_
 refine GS ?_
 refine TN 0 ?_
 refine RN ?_
 refine ⟨_, _, eff_alloc (n := 41) (d := 2) (k := 1000002) zero29 (by decide), fun b2 hb2 => ?_⟩
 have hBb2 := hb2.1
 refine TL ?_
 refine RA rfl ?_
 refine RN ?_
 refine A.seq ?_
 refine GS ?_
 refine TL ?_
 refine RS (OpOk.valO (ok_move rfl) (k := 1000200) (by decide) rfl) ?_
 refine RS (ok_call (checkSize_fn l 45) (Args.cons rfl (Le.old _ _) (A1 rfl))) ?_; refine RZ (.int .i64 0) (congrArg (Value.int .i64) (szE_eq h)) ?_
 refine RA rfl ?_
 refine RN ?_
 refine GS ?_
 refine TL ?_
 refine RM rfl ?_
 refine RBS rfl rfl rfl (.bool false) (by rfl) ?_
 refine RN ?_
 refine A.no rfl ?_
 refine A.skip ?_
 refine EN ?_
 refine GS ?_
 refine TN 1 ?_
 refine RM rfl ?_
 refine RN ?_
 refine ⟨_, _, eff_name (n := 41) (d := 15) (k := 1000015) rfl rfl (fun B' => ok_callB (front_fnB A₀ l.length m₀) newD_mono (A1 rfl)) (by decide) (by decide), fun b15 hb15 => ?_⟩
 have hBb15 := hb15.1
 have hlt_b2_b15 : b2 < b15 := hb15.2 1000002 _ _ _ rfl
 refine TL ?_
 refine RS (ok_makeFuncM rfl) ?_
 refine RA rfl ?_
 refine RN ?_
 refine GS ?_
 refine TN 0 ?_
 refine RN ?_
 refine ⟨_, _, eff_alloc (n := 41) (d := 6) (k := 1000006) zero29 (by decide), fun b6 hb6 => ?_⟩
 have hBb6 := hb6.1
 have hlt_b2_b6 : b2 < b6 := hb6.2 1000002 _ _ _ rfl
 refine TL ?_
 refine RN ?_
 refine GS ?_
 refine TF 1 ?_
 refine RM rfl ?_
 refine RN ?_
 refine ⟨_, Eff.upM (t := 18) (k := 1000211) rfl rfl (eff_callBR (n := 41) (s := 1000015) (us := [ptr b15]) (ds := [.v (nI ((1 : Nat)))]) (cut_fnWR b15 (l.length) (m₀) 1 (A₀) (by omega) (by omega) (by omega)) (fun p hp => by cases hp) rfl (A1 rfl) hBb15 rfl (by decide) (by decide) (LV 2 rfl (LV 5 rfl (LV 6 rfl (LT 1000002 rfl (LT 1000006 rfl (LO 1000200 rfl (LO 1000201 rfl (LO 1000202 rfl (LO 1000203 rfl (LO 1000211 rfl (LO 1000212 rfl (LO 1000213 rfl LN))))))))))))), ?_⟩
 refine TF 5 ?_
 refine RS (ok_index (d := byteD (pX l)) Try.underlying31 info5 rfl LA rfl (by decide) (by cases l with | nil => simp at h | cons a l => rfl)) ?_
 refine RS (ok_load Try.underlying5 rfl rfl) ?_
 refine RS (ok_field field29_0 (by decide) rfl) ?_
 refine RN ?_
 refine ⟨_, eff_storeS (n := 41) (s := 1000006) info5 rfl rfl rfl hBb6 rfl (by simp) (LV 2 rfl (LV 5 rfl (LV 6 rfl (LB 1000002 rfl (LT 1000015 rfl (LO 1000200 rfl (LO 1000201 rfl (LO 1000202 rfl (LO 1000203 rfl (LO 1000211 rfl (LO 1000212 rfl (LO 1000213 rfl LN)))))))))))), ?_⟩
 refine TL ?_
 refine RN ?_
 refine A.sub (KC 2 rfl (KC 5 rfl (KC 6 rfl (KC 1000002 rfl (KE 1000006 rfl (show _ = blk b6 29 (recV (pX l) 0 0 zD) from by rfl) (KC 1000015 rfl (KC 1000200 rfl (KC 1000201 rfl (KC 1000202 rfl (KC 1000203 rfl (KC 1000211 rfl (KC 1000212 rfl (KC 1000213 rfl KN))))))))))))) ?_
 refine GS ?_
 refine TF 1 ?_
 refine RM rfl ?_
 refine RN ?_
 refine ⟨_, Eff.upM (t := 24) (k := 1000212) rfl rfl (eff_callBR (n := 41) (s := 1000015) (us := [ptr b15]) (ds := [.v (nI ((12 : Nat)))]) (cut_fnWR b15 (l.length - 1) (m₀ - 1) 12 (cutA (m₀) 1 (A₀)) (by omega) (by omega) (by omega)) (fun p hp => by cases hp) rfl (A1 rfl) hBb15 rfl (by decide) (by decide) (LV 2 rfl (LV 5 rfl (LV 6 rfl (LT 1000002 rfl (LT 1000006 rfl (LO 1000200 rfl (LO 1000201 rfl (LO 1000202 rfl (LO 1000203 rfl (LO 1000211 rfl (LO 1000212 rfl (LO 1000213 rfl LN))))))))))))), ?_⟩
 refine TF 7 ?_
 refine RS (ok_call (Get_fn (pN l)) (Args.cons rfl LA Args.nil)) ?_
 refine RM rfl ?_
 refine RS (ok_extract rfl rfl) ?_
 refine RS (ok_extract rfl rfl) ?_
 refine RS (ok_field field29_1 (by decide) rfl) ?_
 refine RN ?_
 refine ⟨_, eff_storeP (n := 41) (s := 1000006) (size25.of (rfl)) rfl rfl (rfl) hBb6 rfl (by rw [rec_len _ _ _ (t := zD) rfl]; exact Nat.le_of_ble_eq_true rfl) (LV 2 rfl (LV 5 rfl (LV 6 rfl (LB 1000002 rfl (LT 1000015 rfl (LO 1000200 rfl (LO 1000201 rfl (LO 1000202 rfl (LO 1000203 rfl (LO 1000211 rfl (LO 1000212 rfl (LO 1000213 rfl LN)))))))))))), ?_⟩
 refine TL ?_
 refine RN ?_
 refine A.sub (KC 2 rfl (KC 5 rfl (KC 6 rfl (KC 1000002 rfl (KE 1000006 rfl (show _ = blk b6 29 (recV (pX l) (gS (pN l)) (gC (pN l)) zD) from by rfl) (KC 1000015 rfl (KC 1000200 rfl (KC 1000201 rfl (KC 1000202 rfl (KC 1000203 rfl (KC 1000211 rfl (KC 1000212 rfl (KC 1000213 rfl KN))))))))))))) ?_
 refine GS ?_
 refine TF 1 ?_
 refine RM rfl ?_
 refine RN ?_
 refine ⟨_, Eff.upM (t := 30) (k := 1000213) rfl rfl (eff_callBR (n := 41) (s := 1000015) (us := [ptr b15]) (ds := [.v (nI ((32 : Nat)))]) (cut_fnWR b15 (l.length - 1 - 12) (m₀ - 1 - 12) 32 (cutA (m₀ - 1) 12 (cutA (m₀) 1 (A₀))) (by omega) (by omega) (by omega)) (fun p hp => by cases hp) rfl (A1 rfl) hBb15 rfl (by decide) (by decide) (LV 2 rfl (LV 6 rfl (LT 1000002 rfl (LT 1000006 rfl (LO 1000200 rfl (LO 1000201 rfl (LO 1000202 rfl (LO 1000203 rfl (LO 1000211 rfl (LO 1000212 rfl (LO 1000213 rfl LN)))))))))))), ?_⟩
 refine TF 5 ?_
 refine RS (ok_arrayB (pT l) (by rw [pT_len h]; exact Try.underlying27) rfl LA (by rw [pT_len h]; decide)) ?_
 refine RS (ok_loadB Try.underlying27 rfl (size27.of (pT_len h)) rfl) ?_
 refine RS (ok_field field29_2 (by decide) rfl) ?_
 refine RN ?_
 refine ⟨_, eff_storeP (n := 41) (s := 1000006) (size27.of (by rw [List.length_map, pT_len h])) rfl rfl (all_byte _) hBb6 rfl (by simp [recV, zD, pT_len h]) (LV 2 rfl (LV 6 rfl (LB 1000002 rfl (LT 1000015 rfl (LO 1000200 rfl (LO 1000201 rfl (LO 1000202 rfl (LO 1000203 rfl (LO 1000211 rfl (LO 1000212 rfl (LO 1000213 rfl LN))))))))))), ?_⟩
 refine TL ?_
 refine RN ?_
 refine A.sub (KC 2 rfl (KC 6 rfl (KC 1000002 rfl (KE 1000006 rfl (show _ = blk b6 29 (recV (pX l) (gS (pN l)) (gC (pN l)) (pT l)) from congrArg _ (rec_set3 _ _ _ (pT_len h) (t' := zD) rfl)) (KC 1000015 rfl (KC 1000200 rfl (KC 1000201 rfl (KC 1000202 rfl (KC 1000203 rfl (KC 1000211 rfl (KC 1000212 rfl (KC 1000213 rfl KN)))))))))))) ?_
 refine A.seq ?_
 refine GS ?_
 refine TL ?_
 refine RS (ok_loadA (s := 1000006) (by decide) Try.underlying29 rfl (size29.of (rec_len _ _ _ (pT_len h))) rfl rfl) ?_
 refine RS (ok_call (CheckR_fn (pX l) (gS (pN l)) (gC (pN l)) (pT l) (pT_len h)) (A1 rfl)) ?_; refine RZ (.int .i64 0) (congrArg (Value.int .i64) (ckR_ok hb)) ?_
 refine RA rfl ?_
 refine RN ?_
 refine GS ?_
 refine TL ?_
 refine RM rfl ?_
 refine RBS rfl rfl rfl (.bool false) (by rfl) ?_
 refine RN ?_
 refine A.no rfl ?_
 refine A.skip ?_
 refine EN ?_
 refine GS ?_
 refine TF 1 ?_
 refine RS (ok_loadA (s := 1000006) (by decide) Try.underlying29 rfl (size29.of (rec_len _ _ _ (pT_len h))) rfl rfl) ?_
 refine RN ?_
 refine ⟨_, eff_storeA (n := 41) (s := 1000002) (size29.of (rec_len _ _ _ (pT_len h))) rfl rfl (rec_one _ _ _ _) hBb2 rfl (by rw [rec_len _ _ _ (pT_len h)]; rfl) (LV 2 rfl (LB 1000006 rfl (LT 1000015 rfl (LO 1000200 rfl (LO 1000201 rfl (LO 1000202 rfl (LO 1000203 rfl (LO 1000211 rfl (LO 1000212 rfl (LO 1000213 rfl LN)))))))))), ?_⟩
 refine TL ?_
 refine RA rfl ?_
 refine RN ?_
 refine A.ret ?_
 exact End.cellV (s := 1000002) rfl Try.underlying29 rfl (size29.of (rec_len _ _ _ (pT_len h))) rfl rfl rfl
theorem GetRecord_put (x : UInt8) (s c : Nat) (t : List UInt8) (ht : t.length = 32) (hs : s < 4294967296) (hc : c < 18446744073709551616) (hb : ¬ BadR x s c t) : Fn Try.prog 14 [byt (recL x s c t)] (.v (.tuple #[aggV (recV x s c t), .int .i64 0])) := by
 obtain ⟨h1, h2, h3, h4⟩ := rec_front (x := x) ht hs hc
 have h := GetRecord_ok (recL x s c t) (recL_len x s c ht) (by rw [h1, h2, h3, h4]; exact hb)
 rwa [h1, h2, h3, h4] at h
theorem GetEntry_len (l : List UInt8) (h : l.length ≠ 33) : Fn Try.prog 19 [byt l] (.v (.tuple #[aggV (entV 0 zD), .int .i64 (szE l.length 33)])) := by
 refine Fn.of Try.func19 rfl (by kernel_rfl) Try.ntmps19 (by simp) (fun w => [(0, old w.heap.size (byt l))]) (fun w => (Start.old rfl Start.nil)) fun w₀ => ?_
 refine A.nameC (t := 0) (k := 1000200) rfl fun A₀ m₀ hm1 hm2 => ?_
 refine GS ?_
 refine TN 0 ?_
 refine RN ?_
 refine ⟨_, _, eff_alloc (n := 34) (d := 2) (k := 1000002) zero43 (by decide), fun b2 hb2 => ?_⟩
 have hBb2 := hb2.1
 refine TL ?_
 refine RA rfl ?_
 refine RN ?_
 refine A.seq ?_
 refine GS ?_
 refine TL ?_
 refine RS (OpOk.valO (ok_move rfl) (k := 1000200) (by decide) rfl) ?_
 refine RS (ok_call (checkSize_fn l 33) (Args.cons rfl (Le.old _ _) (A1 rfl))) ?_
 refine RA rfl ?_
 refine RN ?_
 refine GS ?_
 refine TL ?_
 refine RM rfl ?_
 refine RBS rfl rfl rfl (.bool true) (congrArg Value.bool (bne_iff_ne.2 (szE_ne h))) ?_
 refine RN ?_
 refine A.yes rfl ?_
 refine GS ?_
 refine TF 2 ?_
 refine RS (ok_lit [] ([.int .u8 0] ++ List.replicate 32 (.int .u8 0)) (fun _ _ => rfl) (by kernel_rfl)) ?_
 refine RM rfl ?_
 refine RN ?_
 refine ⟨_, eff_storeA (n := 34) (s := 1000002) (size43.of (rfl)) rfl rfl (rfl) hBb2 rfl (rfl) (LV 2 rfl (LV 13 rfl (LO 1000200 rfl LN))), ?_⟩
 refine TL ?_
 refine RA rfl ?_
 refine RN ?_
 refine A.ret ?_
 refine End.ret_then ?_
 exact End.cellV (s := 1000002) rfl Try.underlying43 rfl (size43.of rfl) rfl rfl rfl
set_option maxHeartbeats 1000000 in
theorem GetEntry_bad (l : List UInt8) (h : l.length = 33) (hb : BadE (pX l) (pD l)) : Fn Try.prog 19 [byt l] (.v (.tuple #[aggV (entV 0 zD), .int .i64 1])) := by
 refine Fn.of Try.func19 rfl (by kernel_rfl) Try.ntmps19 (by simp) (fun w => [(0, old w.heap.size (byt l))]) (fun w => (Start.old rfl Start.nil)) fun w₀ => ?_
 refine A.nameC (t := 0) (k := 1000200) rfl fun A₀ m₀ hm1 hm2 => ?_
 refine A.cut (k₀ := 1000200) (k₁ := 1000211) (k₂ := 1000201) (i := 1) rfl (by omega) ?_
 refine A.cut (k₀ := 1000201) (k₁ := 1000212) (k₂ := 1000202) (i := 32) rfl (by omega) ?_
 refine GS ?_
 refine TN 0 ?_
 refine RN ?_
 refine ⟨_, _, eff_alloc (n := 34) (d := 2) (k := 1000002) zero43 (by decide), fun b2 hb2 => ?_⟩
 have hBb2 := hb2.1
 refine TL ?_
 refine RA rfl ?_
 refine RN ?_
 refine A.seq ?_
 refine GS ?_
 refine TL ?_
 refine RS (OpOk.valO (ok_move rfl) (k := 1000200) (by decide) rfl) ?_
 refine RS (ok_call (checkSize_fn l 33) (Args.cons rfl (Le.old _ _) (A1 rfl))) ?_; refine RZ (.int .i64 0) (congrArg (Value.int .i64) (szE_eq h)) ?_
 refine RA rfl ?_
 refine RN ?_
 refine GS ?_
 refine TL ?_
 refine RM rfl ?_
 refine RBS rfl rfl rfl (.bool false) (by rfl) ?_
 refine RN ?_
 refine A.no rfl ?_
 refine A.skip ?_
 refine EN ?_
 refine GS ?_
 refine TN 1 ?_
 refine RM rfl ?_
 refine RN ?_
 refine ⟨_, _, eff_name (n := 34) (d := 15) (k := 1000015) rfl rfl (fun B' => ok_callB (front_fnB A₀ l.length m₀) newD_mono (A1 rfl)) (by decide) (by decide), fun b15 hb15 => ?_⟩
 have hBb15 := hb15.1
 have hlt_b2_b15 : b2 < b15 := hb15.2 1000002 _ _ _ rfl
 refine TL ?_
 refine RS (ok_makeFuncM rfl) ?_
 refine RA rfl ?_
 refine RN ?_
 refine GS ?_
 refine TN 0 ?_
 refine RN ?_
 refine ⟨_, _, eff_alloc (n := 34) (d := 6) (k := 1000006) zero43 (by decide), fun b6 hb6 => ?_⟩
 have hBb6 := hb6.1
 have hlt_b2_b6 : b2 < b6 := hb6.2 1000002 _ _ _ rfl
 refine TL ?_
 refine RN ?_
 refine GS ?_
 refine TF 1 ?_
 refine RM rfl ?_
 refine RN ?_
 refine ⟨_, Eff.upM (t := 18) (k := 1000211) rfl rfl (eff_callBR (n := 34) (s := 1000015) (us := [ptr b15]) (ds := [.v (nI ((1 : Nat)))]) (cut_fnWR b15 (l.length) (m₀) 1 (A₀) (by omega) (by omega) (by omega)) (fun p hp => by cases hp) rfl (A1 rfl) hBb15 rfl (by decide) (by decide) (LV 2 rfl (LV 5 rfl (LV 6 rfl (LT 1000002 rfl (LT 1000006 rfl (LO 1000200 rfl (LO 1000201 rfl (LO 1000202 rfl (LO 1000211 rfl (LO 1000212 rfl LN))))))))))), ?_⟩
 refine TF 5 ?_
 refine RS (ok_index (d := byteD (pX l)) Try.underlying31 info5 rfl LA rfl (by decide) (by cases l with | nil => simp at h | cons a l => rfl)) ?_
 refine RS (ok_load Try.underlying5 rfl rfl) ?_
 refine RS (ok_field field43_0 (by decide) rfl) ?_
 refine RN ?_
 refine ⟨_, eff_storeS (n := 34) (s := 1000006) info5 rfl rfl rfl hBb6 rfl (by simp) (LV 2 rfl (LV 5 rfl (LV 6 rfl (LB 1000002 rfl (LT 1000015 rfl (LO 1000200 rfl (LO 1000201 rfl (LO 1000202 rfl (LO 1000211 rfl (LO 1000212 rfl LN)))))))))), ?_⟩
 refine TL ?_
 refine RN ?_
 refine A.sub (KC 2 rfl (KC 5 rfl (KC 6 rfl (KC 1000002 rfl (KE 1000006 rfl (show _ = blk b6 43 (entV (pX l) zD) from by rfl) (KC 1000015 rfl (KC 1000200 rfl (KC 1000201 rfl (KC 1000202 rfl (KC 1000211 rfl (KC 1000212 rfl KN))))))))))) ?_
 refine GS ?_
 refine TF 1 ?_
 refine RM rfl ?_
 refine RN ?_
 refine ⟨_, Eff.upM (t := 23) (k := 1000212) rfl rfl (eff_callBR (n := 34) (s := 1000015) (us := [ptr b15]) (ds := [.v (nI ((32 : Nat)))]) (cut_fnWR b15 (l.length - 1) (m₀ - 1) 32 (cutA (m₀) 1 (A₀)) (by omega) (by omega) (by omega)) (fun p hp => by cases hp) rfl (A1 rfl) hBb15 rfl (by decide) (by decide) (LV 2 rfl (LV 6 rfl (LT 1000002 rfl (LT 1000006 rfl (LO 1000200 rfl (LO 1000201 rfl (LO 1000202 rfl (LO 1000211 rfl (LO 1000212 rfl LN)))))))))), ?_⟩
 refine TF 5 ?_
 refine RS (ok_arrayB (pD l) (by rw [pD_len h]; exact Try.underlying27) rfl LA (by rw [pD_len h]; decide)) ?_
 refine RS (ok_loadB Try.underlying27 rfl (size27.of (pD_len h)) rfl) ?_
 refine RS (ok_field field43_1 (by decide) rfl) ?_
 refine RN ?_
 refine ⟨_, eff_storeP (n := 34) (s := 1000006) (size27.of (by rw [List.length_map, pD_len h])) rfl rfl (all_byte _) hBb6 rfl (by simp [entV, zD, pD_len h]) (LV 2 rfl (LV 6 rfl (LB 1000002 rfl (LT 1000015 rfl (LO 1000200 rfl (LO 1000201 rfl (LO 1000202 rfl (LO 1000211 rfl (LO 1000212 rfl LN))))))))), ?_⟩
 refine TL ?_
 refine RN ?_
 refine A.sub (KC 2 rfl (KC 6 rfl (KC 1000002 rfl (KE 1000006 rfl (show _ = blk b6 43 (entV (pX l) (pD l)) from congrArg _ (ent_set1 _ (pD_len h) (t' := zD) rfl)) (KC 1000015 rfl (KC 1000200 rfl (KC 1000201 rfl (KC 1000202 rfl (KC 1000211 rfl (KC 1000212 rfl KN)))))))))) ?_
 refine A.seq ?_
 refine GS ?_
 refine TL ?_
 refine RS (ok_loadA (s := 1000006) (by decide) Try.underlying43 rfl (size43.of (ent_len _ (pD_len h))) rfl rfl) ?_
 refine RS (ok_call (CheckE_fn (pX l) (pD l) (pD_len h)) (A1 rfl)) ?_; refine RZ (.int .i64 1) (congrArg (Value.int .i64) (ckE_bad hb)) ?_
 refine RA rfl ?_
 refine RN ?_
 refine GS ?_
 refine TL ?_
 refine RM rfl ?_
 refine RBS rfl rfl rfl (.bool true) (by rfl) ?_
 refine RN ?_
 refine A.yes rfl ?_
 refine GS ?_
 refine TF 2 ?_
 refine RS (ok_lit [] ([.int .u8 0] ++ List.replicate 32 (.int .u8 0)) (fun _ _ => rfl) (by kernel_rfl)) ?_
 refine RM rfl ?_
 refine RN ?_
 refine ⟨_, eff_storeA (n := 34) (s := 1000002) (size43.of (rfl)) rfl rfl (rfl) hBb2 rfl (rfl) (LV 2 rfl (LV 32 rfl (LB 1000006 rfl (LT 1000015 rfl (LO 1000200 rfl (LO 1000201 rfl (LO 1000202 rfl (LO 1000211 rfl (LO 1000212 rfl LN))))))))), ?_⟩
 refine TL ?_
 refine RA rfl ?_
 refine RN ?_
 refine A.ret ?_
 refine End.ret_then ?_
 exact End.cellV (s := 1000002) rfl Try.underlying43 rfl (size43.of (rfl)) rfl rfl rfl
set_option maxHeartbeats 1000000 in
theorem GetEntry_ok (l : List UInt8) (h : l.length = 33) (hb : ¬ BadE (pX l) (pD l)) : Fn Try.prog 19 [byt l] (.v (.tuple #[aggV (entV (pX l) (pD l)), .int .i64 0])) := by
 refine Fn.of Try.func19 rfl (by kernel_rfl) Try.ntmps19 (by simp) (fun w => [(0, old w.heap.size (byt l))]) (fun w => (Start.old rfl Start.nil)) fun w₀ => ?_
 refine A.nameC (t := 0) (k := 1000200) rfl fun A₀ m₀ hm1 hm2 => ?_
 refine A.cut (k₀ := 1000200) (k₁ := 1000211) (k₂ := 1000201) (i := 1) rfl (by omega) ?_
 refine A.cut (k₀ := 1000201) (k₁ := 1000212) (k₂ := 1000202) (i := 32) rfl (by omega) ?_
 refine GS ?_
 refine TN 0 ?_
 refine RN ?_
 refine ⟨_, _, eff_alloc (n := 34) (d := 2) (k := 1000002) zero43 (by decide), fun b2 hb2 => ?_⟩
 have hBb2 := hb2.1
 refine TL ?_
 refine RA rfl ?_
 refine RN ?_
 refine A.seq ?_
 refine GS ?_
 refine TL ?_
 refine RS (OpOk.valO (ok_move rfl) (k := 1000200) (by decide) rfl) ?_
 refine RS (ok_call (checkSize_fn l 33) (Args.cons rfl (Le.old _ _) (A1 rfl))) ?_; refine RZ (.int .i64 0) (congrArg (Value.int .i64) (szE_eq h)) ?_
 refine RA rfl ?_
 refine RN ?_
 refine GS ?_
 refine TL ?_
 refine RM rfl ?_
 refine RBS rfl rfl rfl (.bool false) (by rfl) ?_
 refine RN ?_
 refine A.no rfl ?_
 refine A.skip ?_
 refine EN ?_
 refine GS ?_
 refine TN 1 ?_
 refine RM rfl ?_
 refine RN ?_
 refine ⟨_, _, eff_name (n := 34) (d := 15) (k := 1000015) rfl rfl (fun B' => ok_callB (front_fnB A₀ l.length m₀) newD_mono (A1 rfl)) (by decide) (by decide), fun b15 hb15 => ?_⟩
 have hBb15 := hb15.1
 have hlt_b2_b15 : b2 < b15 := hb15.2 1000002 _ _ _ rfl
 refine TL ?_
 refine RS (ok_makeFuncM rfl) ?_
 refine RA rfl ?_
 refine RN ?_
 refine GS ?_
 refine TN 0 ?_
 refine RN ?_
 refine ⟨_, _, eff_alloc (n := 34) (d := 6) (k := 1000006) zero43 (by decide), fun b6 hb6 => ?_⟩
 have hBb6 := hb6.1
 have hlt_b2_b6 : b2 < b6 := hb6.2 1000002 _ _ _ rfl
 refine TL ?_
 refine RN ?_
 refine GS ?_
 refine TF 1 ?_
 refine RM rfl ?_
 refine RN ?_
 refine ⟨_, Eff.upM (t := 18) (k := 1000211) rfl rfl (eff_callBR (n := 34) (s := 1000015) (us := [ptr b15]) (ds := [.v (nI ((1 : Nat)))]) (cut_fnWR b15 (l.length) (m₀) 1 (A₀) (by omega) (by omega) (by omega)) (fun p hp => by cases hp) rfl (A1 rfl) hBb15 rfl (by decide) (by decide) (LV 2 rfl (LV 5 rfl (LV 6 rfl (LT 1000002 rfl (LT 1000006 rfl (LO 1000200 rfl (LO 1000201 rfl (LO 1000202 rfl (LO 1000211 rfl (LO 1000212 rfl LN))))))))))), ?_⟩
 refine TF 5 ?_
 refine RS (ok_index (d := byteD (pX l)) Try.underlying31 info5 rfl LA rfl (by decide) (by cases l with | nil => simp at h | cons a l => rfl)) ?_
 refine RS (ok_load Try.underlying5 rfl rfl) ?_
 refine RS (ok_field field43_0 (by decide) rfl) ?_
 refine RN ?_
 refine ⟨_, eff_storeS (n := 34) (s := 1000006) info5 rfl rfl rfl hBb6 rfl (by simp) (LV 2 rfl (LV 5 rfl (LV 6 rfl (LB 1000002 rfl (LT 1000015 rfl (LO 1000200 rfl (LO 1000201 rfl (LO 1000202 rfl (LO 1000211 rfl (LO 1000212 rfl LN)))))))))), ?_⟩
 refine TL ?_
 refine RN ?_
 refine A.sub (KC 2 rfl (KC 5 rfl (KC 6 rfl (KC 1000002 rfl (KE 1000006 rfl (show _ = blk b6 43 (entV (pX l) zD) from by rfl) (KC 1000015 rfl (KC 1000200 rfl (KC 1000201 rfl (KC 1000202 rfl (KC 1000211 rfl (KC 1000212 rfl KN))))))))))) ?_
 refine GS ?_
 refine TF 1 ?_
 refine RM rfl ?_
 refine RN ?_
 refine ⟨_, Eff.upM (t := 23) (k := 1000212) rfl rfl (eff_callBR (n := 34) (s := 1000015) (us := [ptr b15]) (ds := [.v (nI ((32 : Nat)))]) (cut_fnWR b15 (l.length - 1) (m₀ - 1) 32 (cutA (m₀) 1 (A₀)) (by omega) (by omega) (by omega)) (fun p hp => by cases hp) rfl (A1 rfl) hBb15 rfl (by decide) (by decide) (LV 2 rfl (LV 6 rfl (LT 1000002 rfl (LT 1000006 rfl (LO 1000200 rfl (LO 1000201 rfl (LO 1000202 rfl (LO 1000211 rfl (LO 1000212 rfl LN)))))))))), ?_⟩
 refine TF 5 ?_
 refine RS (ok_arrayB (pD l) (by rw [pD_len h]; exact Try.underlying27) rfl LA (by rw [pD_len h]; decide)) ?_
 refine RS (ok_loadB Try.underlying27 rfl (size27.of (pD_len h)) rfl) ?_
 refine RS (ok_field field43_1 (by decide) rfl) ?_
 refine RN ?_
 refine ⟨_, eff_storeP (n := 34) (s := 1000006) (size27.of (by rw [List.length_map, pD_len h])) rfl rfl (all_byte _) hBb6 rfl (by simp [entV, zD, pD_len h]) (LV 2 rfl (LV 6 rfl (LB 1000002 rfl (LT 1000015 rfl (LO 1000200 rfl (LO 1000201 rfl (LO 1000202 rfl (LO 1000211 rfl (LO 1000212 rfl LN))))))))), ?_⟩
 refine TL ?_
 refine RN ?_
 refine A.sub (KC 2 rfl (KC 6 rfl (KC 1000002 rfl (KE 1000006 rfl (show _ = blk b6 43 (entV (pX l) (pD l)) from congrArg _ (ent_set1 _ (pD_len h) (t' := zD) rfl)) (KC 1000015 rfl (KC 1000200 rfl (KC 1000201 rfl (KC 1000202 rfl (KC 1000211 rfl (KC 1000212 rfl KN)))))))))) ?_
 refine A.seq ?_
 refine GS ?_
 refine TL ?_
 refine RS (ok_loadA (s := 1000006) (by decide) Try.underlying43 rfl (size43.of (ent_len _ (pD_len h))) rfl rfl) ?_
 refine RS (ok_call (CheckE_fn (pX l) (pD l) (pD_len h)) (A1 rfl)) ?_; refine RZ (.int .i64 0) (congrArg (Value.int .i64) (ckE_ok hb)) ?_
 refine RA rfl ?_
 refine RN ?_
 refine GS ?_
 refine TL ?_
 refine RM rfl ?_
 refine RBS rfl rfl rfl (.bool false) (by rfl) ?_
 refine RN ?_
 refine A.no rfl ?_
 refine A.skip ?_
 refine EN ?_
 refine GS ?_
 refine TF 1 ?_
 refine RS (ok_loadA (s := 1000006) (by decide) Try.underlying43 rfl (size43.of (ent_len _ (pD_len h))) rfl rfl) ?_
 refine RN ?_
 refine ⟨_, eff_storeA (n := 34) (s := 1000002) (size43.of (ent_len _ (pD_len h))) rfl rfl (ent_one _ _) hBb2 rfl (by rw [ent_len _ (pD_len h)]; rfl) (LV 2 rfl (LB 1000006 rfl (LT 1000015 rfl (LO 1000200 rfl (LO 1000201 rfl (LO 1000202 rfl (LO 1000211 rfl (LO 1000212 rfl LN)))))))), ?_⟩
 refine TL ?_
 refine RA rfl ?_
 refine RN ?_
 refine A.ret ?_
 exact End.cellV (s := 1000002) rfl Try.underlying43 rfl (size43.of (ent_len _ (pD_len h))) rfl rfl rfl
theorem GetEntry_put (x : UInt8) (t : List UInt8) (ht : t.length = 32) (hb : ¬ BadE x t) : Fn Try.prog 19 [byt (entL x t)] (.v (.tuple #[aggV (entV x t), .int .i64 0])) := by
 obtain ⟨h1, h4⟩ := ent_front (x := x) ht
 have h := GetEntry_ok (entL x t) (entL_len x ht) (by rw [h1, h4]; exact hb)
 rwa [h1, h4] at h
theorem GetCell_len (l : List UInt8) (h : l.length ≠ 48) : Fn Try.prog 22 [byt l] (.v (.tuple #[aggV (celV zD 0 0), .int .i64 (szE l.length 48)])) := by
 refine Fn.of Try.func22 rfl (by kernel_rfl) Try.ntmps22 (by simp) (fun w => [(0, old w.heap.size (byt l))]) (fun w => (Start.old rfl Start.nil)) fun w₀ => ?_
 refine A.nameC (t := 0) (k := 1000200) rfl fun A₀ m₀ hm1 hm2 => ?_
 refine GS ?_
 refine TN 0 ?_
 refine RN ?_
 refine ⟨_, _, eff_alloc (n := 36) (d := 2) (k := 1000002) zero52 (by decide), fun b2 hb2 => ?_⟩
 have hBb2 := hb2.1
 refine TL ?_
 refine RA rfl ?_
 refine RN ?_
 refine A.seq ?_
 refine GS ?_
 refine TL ?_
 refine RS (OpOk.valO (ok_move rfl) (k := 1000200) (by decide) rfl) ?_
 refine RS (ok_call (checkSize_fn l 48) (Args.cons rfl (Le.old _ _) (A1 rfl))) ?_
 refine RA rfl ?_
 refine RN ?_
 refine GS ?_
 refine TL ?_
 refine RM rfl ?_
 refine RBS rfl rfl rfl (.bool true) (congrArg Value.bool (bne_iff_ne.2 (szE_ne h))) ?_
 refine RN ?_
 refine A.yes rfl ?_
 refine GS ?_
 refine TF 2 ?_
 refine RS (ok_lit [] (List.replicate 32 (.int .u8 0) ++ [.int .u64 0] ++ [.int .u64 0]) (fun _ _ => rfl) (by kernel_rfl)) ?_
 refine RM rfl ?_
 refine RN ?_
 refine ⟨_, eff_storeA (n := 36) (s := 1000002) (size52.of (rfl)) rfl rfl (rfl) hBb2 rfl (rfl) (LV 2 rfl (LV 12 rfl (LO 1000200 rfl LN))), ?_⟩
 refine TL ?_
 refine RA rfl ?_
 refine RN ?_
 refine A.ret ?_
 refine End.ret_then ?_
 exact End.cellV (s := 1000002) rfl Try.underlying52 rfl (size52.of rfl) rfl rfl rfl
set_option maxHeartbeats 1000000 in
theorem GetCell_ok (l : List UInt8) (h : l.length = 48) : Fn Try.prog 22 [byt l] (.v (.tuple #[aggV (celV (cD l) (cE l) (cM l)), .int .i64 0])) := by
 refine Fn.of Try.func22 rfl (by kernel_rfl) Try.ntmps22 (by simp) (fun w => [(0, old w.heap.size (byt l))]) (fun w => (Start.old rfl Start.nil)) fun w₀ => ?_
 refine A.nameC (t := 0) (k := 1000200) rfl fun A₀ m₀ hm1 hm2 => ?_
 refine A.cut (k₀ := 1000200) (k₁ := 1000211) (k₂ := 1000201) (i := 32) rfl (by omega) ?_
 refine A.cut (k₀ := 1000201) (k₁ := 1000212) (k₂ := 1000202) (i := 8) rfl (by omega) ?_
 refine A.cut (k₀ := 1000202) (k₁ := 1000213) (k₂ := 1000203) (i := 8) rfl (by omega) ?_
 refine GS ?_
 refine TN 0 ?_
 refine RN ?_
 refine ⟨_, _, eff_alloc (n := 36) (d := 2) (k := 1000002) zero52 (by decide), fun b2 hb2 => ?_⟩
 have hBb2 := hb2.1
 refine TL ?_
 refine RA rfl ?_
 refine RN ?_
 refine A.seq ?_
 refine GS ?_
 refine TL ?_
 refine RS (OpOk.valO (ok_move rfl) (k := 1000200) (by decide) rfl) ?_
 refine RS (ok_call (checkSize_fn l 48) (Args.cons rfl (Le.old _ _) (A1 rfl))) ?_; refine RZ (.int .i64 0) (congrArg (Value.int .i64) (szE_eq h)) ?_
 refine RA rfl ?_
 refine RN ?_
 refine GS ?_
 refine TL ?_
 refine RM rfl ?_
 refine RBS rfl rfl rfl (.bool false) (by rfl) ?_
 refine RN ?_
 refine A.no rfl ?_
 refine A.skip ?_
 refine EN ?_
 refine GS ?_
 refine TN 1 ?_
 refine RM rfl ?_
 refine RN ?_
 refine ⟨_, _, eff_name (n := 36) (d := 14) (k := 1000014) rfl rfl (fun B' => ok_callB (front_fnB A₀ l.length m₀) newD_mono (A1 rfl)) (by decide) (by decide), fun b14 hb14 => ?_⟩
 have hBb14 := hb14.1
 have hlt_b2_b14 : b2 < b14 := hb14.2 1000002 _ _ _ rfl
 refine TL ?_
 refine RS (ok_makeFuncM rfl) ?_
 refine RA rfl ?_
 refine RN ?_
 refine GS ?_
 refine TN 0 ?_
 refine RN ?_
 refine ⟨_, _, eff_alloc (n := 36) (d := 6) (k := 1000006) zero52 (by decide), fun b6 hb6 => ?_⟩
 have hBb6 := hb6.1
 have hlt_b2_b6 : b2 < b6 := hb6.2 1000002 _ _ _ rfl
 refine TL ?_
 refine RN ?_
 refine GS ?_
 refine TF 1 ?_
 refine RM rfl ?_
 refine RN ?_
 refine ⟨_, Eff.upM (t := 17) (k := 1000211) rfl rfl (eff_callBR (n := 36) (s := 1000014) (us := [ptr b14]) (ds := [.v (nI ((32 : Nat)))]) (cut_fnWR b14 (l.length) (m₀) 32 (A₀) (by omega) (by omega) (by omega)) (fun p hp => by cases hp) rfl (A1 rfl) hBb14 rfl (by decide) (by decide) (LV 2 rfl (LV 5 rfl (LV 6 rfl (LT 1000002 rfl (LT 1000006 rfl (LO 1000200 rfl (LO 1000201 rfl (LO 1000202 rfl (LO 1000203 rfl (LO 1000211 rfl (LO 1000212 rfl (LO 1000213 rfl LN))))))))))))), ?_⟩
 refine TF 5 ?_
 refine RS (ok_arrayB (cD l) (by rw [cD_len h]; exact Try.underlying27) rfl LA (by rw [cD_len h]; decide)) ?_
 refine RS (ok_loadB Try.underlying27 rfl (size27.of (cD_len h)) rfl) ?_
 refine RS (ok_field field52_0 (by decide) rfl) ?_
 refine RN ?_
 refine ⟨_, eff_storeP (n := 36) (s := 1000006) (size27.of (by rw [List.length_map, cD_len h])) rfl rfl (all_byte _) hBb6 rfl (by simp [cD_len h]) (LV 2 rfl (LV 5 rfl (LV 6 rfl (LB 1000002 rfl (LT 1000014 rfl (LO 1000200 rfl (LO 1000201 rfl (LO 1000202 rfl (LO 1000203 rfl (LO 1000211 rfl (LO 1000212 rfl (LO 1000213 rfl LN)))))))))))), ?_⟩
 refine TL ?_
 refine RN ?_
 refine A.sub (KC 2 rfl (KC 5 rfl (KC 6 rfl (KC 1000002 rfl (KE 1000006 rfl (show _ = blk b6 52 (celV (cD l) 0 0) from congrArg _ (cel_set0 (t' := zD) 0 0 (cD_len h) rfl)) (KC 1000014 rfl (KC 1000200 rfl (KC 1000201 rfl (KC 1000202 rfl (KC 1000203 rfl (KC 1000211 rfl (KC 1000212 rfl (KC 1000213 rfl KN))))))))))))) ?_
 refine GS ?_
 refine TF 1 ?_
 refine RM rfl ?_
 refine RN ?_
 refine ⟨_, Eff.upM (t := 23) (k := 1000212) rfl rfl (eff_callBR (n := 36) (s := 1000014) (us := [ptr b14]) (ds := [.v (nI ((8 : Nat)))]) (cut_fnWR b14 (l.length - 32) (m₀ - 32) 8 (cutA (m₀) 32 (A₀)) (by omega) (by omega) (by omega)) (fun p hp => by cases hp) rfl (A1 rfl) hBb14 rfl (by decide) (by decide) (LV 2 rfl (LV 5 rfl (LV 6 rfl (LT 1000002 rfl (LT 1000006 rfl (LO 1000200 rfl (LO 1000201 rfl (LO 1000202 rfl (LO 1000203 rfl (LO 1000211 rfl (LO 1000212 rfl (LO 1000213 rfl LN))))))))))))), ?_⟩
 refine TF 7 ?_
 refine RS (ok_call (Get64_fn ((l.drop 32).take 8)) (Args.cons rfl LA Args.nil)) ?_
 refine RM rfl ?_
 refine RS (ok_extract rfl rfl) ?_; refine RZ (nQ (cE l)) (congrArg (Value.int .u64) (getV_nat _ 8).symm) ?_
 refine RS (ok_extract rfl rfl) ?_
 refine RS (ok_field field52_1 (by decide) rfl) ?_
 refine RN ?_
 refine ⟨_, eff_storeS (n := 36) (s := 1000006) info23 rfl rfl rfl hBb6 rfl (by rw [cel_len (cD_len h)]; decide) (LV 2 rfl (LV 5 rfl (LV 6 rfl (LB 1000002 rfl (LT 1000014 rfl (LO 1000200 rfl (LO 1000201 rfl (LO 1000202 rfl (LO 1000203 rfl (LO 1000211 rfl (LO 1000212 rfl (LO 1000213 rfl LN)))))))))))), ?_⟩
 refine TL ?_
 refine RN ?_
 refine A.sub (KC 2 rfl (KC 5 rfl (KC 6 rfl (KC 1000002 rfl (KE 1000006 rfl (show _ = blk b6 52 (celV (cD l) (cE l) 0) from congrArg _ (cel_set32 _ _ _ (cD_len h))) (KC 1000014 rfl (KC 1000200 rfl (KC 1000201 rfl (KC 1000202 rfl (KC 1000203 rfl (KC 1000211 rfl (KC 1000212 rfl (KC 1000213 rfl KN))))))))))))) ?_
 refine GS ?_
 refine TF 1 ?_
 refine RM rfl ?_
 refine RN ?_
 refine ⟨_, Eff.upM (t := 30) (k := 1000213) rfl rfl (eff_callBR (n := 36) (s := 1000014) (us := [ptr b14]) (ds := [.v (nI ((8 : Nat)))]) (cut_fnWR b14 (l.length - 32 - 8) (m₀ - 32 - 8) 8 (cutA (m₀ - 32) 8 (cutA (m₀) 32 (A₀))) (by omega) (by omega) (by omega)) (fun p hp => by cases hp) rfl (A1 rfl) hBb14 rfl (by decide) (by decide) (LV 2 rfl (LV 6 rfl (LT 1000002 rfl (LT 1000006 rfl (LO 1000200 rfl (LO 1000201 rfl (LO 1000202 rfl (LO 1000203 rfl (LO 1000211 rfl (LO 1000212 rfl (LO 1000213 rfl LN)))))))))))), ?_⟩
 refine TF 7 ?_
 refine RS (ok_call (Get64_fn (((l.drop 32).drop 8).take 8)) (Args.cons rfl LA Args.nil)) ?_
 refine RM rfl ?_
 refine RS (ok_extract rfl rfl) ?_; refine RZ (nQ (cM l)) (congrArg (Value.int .u64) (getV_nat _ 8).symm) ?_
 refine RS (ok_extract rfl rfl) ?_
 refine RS (ok_field field52_2 (by decide) rfl) ?_
 refine RN ?_
 refine ⟨_, eff_storeS (n := 36) (s := 1000006) info23 rfl rfl rfl hBb6 rfl (by rw [cel_len (cD_len h)]; decide) (LV 2 rfl (LV 6 rfl (LB 1000002 rfl (LT 1000014 rfl (LO 1000200 rfl (LO 1000201 rfl (LO 1000202 rfl (LO 1000203 rfl (LO 1000211 rfl (LO 1000212 rfl (LO 1000213 rfl LN))))))))))), ?_⟩
 refine TL ?_
 refine RN ?_
 refine A.sub (KC 2 rfl (KC 6 rfl (KC 1000002 rfl (KE 1000006 rfl (show _ = blk b6 52 (celV (cD l) (cE l) (cM l)) from congrArg _ (cel_set33 _ _ _ (cD_len h))) (KC 1000014 rfl (KC 1000200 rfl (KC 1000201 rfl (KC 1000202 rfl (KC 1000203 rfl (KC 1000211 rfl (KC 1000212 rfl (KC 1000213 rfl KN)))))))))))) ?_
 refine GS ?_
 refine TF 1 ?_
 refine RS (ok_loadA (s := 1000006) (by decide) Try.underlying52 rfl (size52.of (cel_len (cD_len h) _ _)) rfl rfl) ?_
 refine RN ?_
 refine ⟨_, eff_storeA (n := 36) (s := 1000002) (size52.of (cel_len (cD_len h) _ _)) rfl rfl (cel_one _ _ _) hBb2 rfl (by rw [cel_len (cD_len h)]; rfl) (LV 2 rfl (LB 1000006 rfl (LT 1000014 rfl (LO 1000200 rfl (LO 1000201 rfl (LO 1000202 rfl (LO 1000203 rfl (LO 1000211 rfl (LO 1000212 rfl (LO 1000213 rfl LN)))))))))), ?_⟩
 refine TL ?_
 refine RA rfl ?_
 refine RN ?_
 refine A.ret ?_
 exact End.cellV (s := 1000002) rfl Try.underlying52 rfl (size52.of (cel_len (cD_len h) _ _)) rfl rfl rfl
theorem GetCell_put (t : List UInt8) (ht : t.length = 32) (e m : Nat) (he : e < 18446744073709551616) (hm : m < 18446744073709551616) : Fn Try.prog 22 [byt (celL t e m)] (.v (.tuple #[aggV (celV t e m), .int .i64 0])) := by
 obtain ⟨h1, h2, h3⟩ := cel_front ht he hm
 have h := GetCell_ok (celL t e m) (celL_len ht e m)
 rwa [h1, h2, h3] at h
theorem Slot_none (x : UInt8) (h : x.toNat = 0) : Fn Try.prog 26 [.v (byteV x)] (.v (.tuple #[.int .i64 0, .int .i64 11])) := by
 refine Fn.of Try.func26 rfl (by kernel_rfl) Try.ntmps26 (by simp) (fun w => [(0, .v (byteV x))]) (fun w => (Start.v rfl Start.nil)) fun w₀ => ?_
 refine GS ?_
 refine TL ?_
 refine RA rfl ?_
 refine RA rfl ?_
 refine RN ?_
 refine A.seq ?_
 refine A.block ?_
 refine GS ?_
 refine TL ?_
 refine RM rfl ?_
 refine RBS rfl rfl rfl (.bool true) (by simp [h]) ?_
 refine RA rfl ?_
 refine RN ?_
 refine A.yes rfl ?_
 refine GS ?_
 refine TL ?_
 refine RA rfl ?_
 refine RA rfl ?_
 refine RN ?_
 refine A.ret ?_
 refine End.ret_block ?_
 refine End.ret_then ?_
 exact End.ret2V rfl rfl rfl
theorem Slot_big (x : UInt8) (h : 2 < x.toNat) : Fn Try.prog 26 [.v (byteV x)] (.v (.tuple #[.int .i64 0, .int .i64 1])) := by
 refine Fn.of Try.func26 rfl (by kernel_rfl) Try.ntmps26 (by simp) (fun w => [(0, .v (byteV x))]) (fun w => (Start.v rfl Start.nil)) fun w₀ => ?_
 refine GS ?_
 refine TL ?_
 refine RA rfl ?_
 refine RA rfl ?_
 refine RN ?_
 refine A.seq ?_
 refine A.block ?_
 refine GS ?_
 refine TL ?_
 refine RM rfl ?_
 refine RBS rfl rfl rfl (.bool false) (by simp; omega) ?_
 refine RA rfl ?_
 refine RN ?_
 refine A.no rfl ?_
 refine GS ?_
 refine TL ?_
 refine RM rfl ?_
 refine RBS rfl rfl rfl (.bool true) (by simp; omega) ?_
 refine RA rfl ?_
 refine RN ?_
 refine A.yes rfl ?_
 refine GS ?_
 refine TL ?_
 refine RA rfl ?_
 refine RA rfl ?_
 refine RN ?_
 refine A.ret ?_
 refine End.ret_block ?_
 refine End.ret_then ?_
 exact End.ret2V rfl rfl rfl
theorem Slot_ok (x : UInt8) (h : 1 ≤ x.toNat) (h2 : x.toNat ≤ 2) : Fn Try.prog 26 [.v (byteV x)] (.v (.tuple #[nI (x.toNat - 1), .int .i64 0])) := by
 refine Fn.of Try.func26 rfl (by kernel_rfl) Try.ntmps26 (by simp) (fun w => [(0, .v (byteV x))]) (fun w => (Start.v rfl Start.nil)) fun w₀ => ?_
 refine GS ?_
 refine TL ?_
 refine RA rfl ?_
 refine RA rfl ?_
 refine RN ?_
 refine A.seq ?_
 refine A.block ?_
 refine GS ?_
 refine TL ?_
 refine RM rfl ?_
 refine RBS rfl rfl rfl (.bool false) (by simp; omega) ?_
 refine RA rfl ?_
 refine RN ?_
 refine A.no rfl ?_
 refine GS ?_
 refine TL ?_
 refine RM rfl ?_
 refine RBS rfl rfl rfl (.bool false) (by simp; omega) ?_
 refine RA rfl ?_
 refine RN ?_
 refine A.no rfl ?_
 refine A.skip ?_
 refine End.normal_block ?_
 refine EN ?_
 refine GS ?_
 refine TL ?_
 refine RM rfl ?_
 refine RS (ok_conv Try.underlying5 Try.underlying3 rfl) ?_; refine RZ (nI (x.toNat)) (by rw [wrapN_i64 (by omega)]) ?_
 refine RBS rfl rfl rfl (nI (x.toNat - 1)) (by rw [wrap_i64 (by omega) (by omega)]; exact congrArg (Value.int .i64) (by omega)) ?_
 refine RA rfl ?_
 refine RA rfl ?_
 refine RN ?_
 refine A.ret ?_
 exact End.ret2V rfl rfl rfl
theorem State_neg (n : Int) (h : n < 0) : Fn Try.prog 27 [.v (.int .i64 n)] (.v (.tuple #[.int .u8 0, .int .i64 1])) := by
 refine Fn.of Try.func27 rfl (by kernel_rfl) Try.ntmps27 (by simp) (fun w => [(0, .v (.int .i64 n))]) (fun w => (Start.v rfl Start.nil)) fun w₀ => ?_
 refine GS ?_
 refine TL ?_
 refine RA rfl ?_
 refine RA rfl ?_
 refine RN ?_
 refine A.seq ?_
 refine GS ?_
 refine TL ?_
 refine RM rfl ?_
 refine RBS rfl rfl rfl (.bool true) (by simp; omega) ?_
 refine RM rfl ?_
 refine RK ?_
 refine RK ?_
 refine RP rfl rfl ?_
 refine RN ?_
 refine A.yes rfl ?_
 refine GS ?_
 refine TL ?_
 refine RA rfl ?_
 refine RA rfl ?_
 refine RN ?_
 refine A.ret ?_
 refine End.ret_then ?_
 exact End.ret2V rfl rfl rfl
theorem State_big (n : Int) (h : 1 < n) : Fn Try.prog 27 [.v (.int .i64 n)] (.v (.tuple #[.int .u8 0, .int .i64 1])) := by
 refine Fn.of Try.func27 rfl (by kernel_rfl) Try.ntmps27 (by simp) (fun w => [(0, .v (.int .i64 n))]) (fun w => (Start.v rfl Start.nil)) fun w₀ => ?_
 refine GS ?_
 refine TL ?_
 refine RA rfl ?_
 refine RA rfl ?_
 refine RN ?_
 refine A.seq ?_
 refine GS ?_
 refine TL ?_
 refine RM rfl ?_
 refine RBS rfl rfl rfl (.bool false) (by simp; omega) ?_
 refine RM rfl ?_
 refine RQ (ok_move rfl) ?_
 refine RQ (ok_bin rfl rfl rfl) ?_; refine RZ (.bool true) (by simp; omega) ?_
 refine RP rfl rfl ?_
 refine RN ?_
 refine A.yes rfl ?_
 refine GS ?_
 refine TL ?_
 refine RA rfl ?_
 refine RA rfl ?_
 refine RN ?_
 refine A.ret ?_
 refine End.ret_then ?_
 exact End.ret2V rfl rfl rfl
theorem State_ok (n : Int) (x : UInt8) (h : 0 ≤ n) (h2 : n ≤ 1) (hx : ((x.toNat : Nat) : Int) = n + 1) : Fn Try.prog 27 [.v (.int .i64 n)] (.v (.tuple #[byteV x, .int .i64 0])) := by
 refine Fn.of Try.func27 rfl (by kernel_rfl) Try.ntmps27 (by simp) (fun w => [(0, .v (.int .i64 n))]) (fun w => (Start.v rfl Start.nil)) fun w₀ => ?_
 refine GS ?_
 refine TL ?_
 refine RA rfl ?_
 refine RA rfl ?_
 refine RN ?_
 refine A.seq ?_
 refine GS ?_
 refine TL ?_
 refine RM rfl ?_
 refine RBS rfl rfl rfl (.bool false) (by simp; omega) ?_
 refine RM rfl ?_
 refine RQ (ok_move rfl) ?_
 refine RQ (ok_bin rfl rfl rfl) ?_; refine RZ (.bool false) (by simp; omega) ?_
 refine RP rfl rfl ?_
 refine RN ?_
 refine A.no rfl ?_
 refine A.skip ?_
 refine EN ?_
 refine GS ?_
 refine TL ?_
 refine RM rfl ?_
 refine RS (ok_conv Try.underlying3 Try.underlying5 rfl) ?_; refine RZ (.int .u8 n) (by rw [wrap_u8 (by omega) (by omega)]) ?_
 refine RBS rfl rfl rfl (byteV x) (by rw [wrap_u8 (by omega) (by omega), byteV, hx]) ?_
 refine RA rfl ?_
 refine RA rfl ?_
 refine RN ?_
 refine A.ret ?_
 exact End.ret2V rfl rfl rfl
end Go.Proofs.Ytbmpjeheaemgmaa
