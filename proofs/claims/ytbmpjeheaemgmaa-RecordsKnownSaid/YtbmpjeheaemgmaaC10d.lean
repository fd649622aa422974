/-
 The laws of caissonlaw10, part two: what is read of any bytes; the chapter's examples and others.
-/
import Derived.Test.YtbmpjeheaemgmaaShort
import Derived.Test.YtbmpjeheaemgmaaC10c
namespace Go.Proofs.Ytbmpjeheaemgmaa
open Go Go.RowKit
set_option linter.unusedVariables false
set_option maxRecDepth 20000
theorem wE_ne {z : Int} {o : Bool} (h : z ≠ 0) : z = wantE z o := (if_pos h).symm
theorem wE_f {z : Int} (h : z = 0) : 0 = wantE z false := by unfold wantE; rw [if_neg (by omega)]; rfl
theorem wE_t {z : Int} (h : z = 0) : 1 = wantE z true := by unfold wantE; rw [if_neg (by omega)]; rfl

theorem rget_long (l : List UInt8) (h : 60 < l.length) : Fn Try.prog 6 [byt l] (.v (.bool true)) := by
 refine Fn.of Try.func6 rfl (by kernel_rfl) Try.ntmps6 (by simp) (fun w => [(0, old w.heap.size (byt l))]) (fun w => (Start.old rfl Start.nil)) fun w₀ => ?_
 refine GS ?_
 refine TL ?_
 refine RA rfl ?_
 refine RN ?_
 refine A.seq ?_
 refine GS ?_
 refine TL ?_
 refine RM rfl ?_
 refine RS (ok_lenB Try.underlying31 rfl LA) ?_
 refine RBS rfl rfl rfl (.bool true) (by simp; omega) ?_
 refine RN ?_
 refine A.yes rfl ?_
 refine GS ?_
 refine TL ?_
 refine RS (ok_call lives10_fn Args.nil) ?_
 refine RA rfl ?_
 refine RN ?_
 refine A.ret ?_
 refine End.ret_then ?_
 exact End.ret1 rfl rfl (by first | exact Le.refl _ | exact Le.old _ _)
set_option maxHeartbeats 4000000 in
theorem rget_rec_ok (l : List UInt8) (h60 : l.length ≤ 60) (h : l.length = 45) (hb : ¬ BadL l) : Fn Try.prog 6 [byt l] (.v (.bool true)) := by
 have hbr := fun x => hb ((badR_iff h).1 x)
 have hO : ((pX l).toNat = 0 ∧ rest l = 0) ∨ (1 ≤ (pX l).toNat ∧ (pX l).toNat ≤ 2) := by unfold BadL at hb; omega
 refine Fn.of Try.func6 rfl (by kernel_rfl) Try.ntmps6 (by simp) (fun w => [(0, old w.heap.size (byt l))]) (fun w => (Start.old rfl Start.nil)) fun w₀ => ?_
 refine GS ?_
 refine TL ?_
 refine RA rfl ?_
 refine RN ?_
 refine A.seq ?_
 refine GS ?_
 refine TL ?_
 refine RM rfl ?_
 refine RS (ok_lenB Try.underlying31 rfl LA) ?_
 refine RBS rfl rfl rfl (.bool false) (by simp; omega) ?_
 refine RN ?_
 refine A.no rfl ?_
 refine A.skip ?_
 refine EN ?_
 refine GS ?_
 refine TN 5 ?_
 refine RM rfl ?_
 refine RS (ok_call (GetRecord_ok l h hbr) (Args.cons rfl (Le.old _ _) Args.nil)) ?_
 refine RM rfl ?_
 refine RS (ok_extractV rfl rfl) ?_
 refine RS (ok_extractV rfl rfl) ?_
 refine RN ?_
 refine ⟨_, _, eff_alloc (n := 146) (d := 3) (k := 1000003) zero29 (by decide), fun b3 hb3 => ?_⟩
 have hBb3 := hb3.1
 refine TF 6 ?_
 refine RN ?_
 refine ⟨_, eff_storeA (n := 146) (s := 1000003) (size29.of (rec_len _ _ _ (pT_len h))) rfl rfl (rec_one _ _ _ _) hBb3 rfl (by rw [rec_len _ _ _ (pT_len h)]; rfl) (LO 0 rfl (LV 3 rfl (LV 20 rfl LN))), ?_⟩
 refine TL ?_
 refine RA rfl ?_
 refine RN ?_
 refine GS ?_
 refine TN 5 ?_
 refine RM rfl ?_
 refine RS (ok_call (GetEntry_len l (by omega : l.length ≠ 33)) (Args.cons rfl (Le.old _ _) Args.nil)) ?_
 refine RM rfl ?_
 refine RS (ok_extractV rfl rfl) ?_
 refine RS (ok_extractV rfl rfl) ?_
 refine RN ?_
 refine ⟨_, _, eff_alloc (n := 146) (d := 5) (k := 1000005) zero43 (by decide), fun b5 hb5 => ?_⟩
 have hBb5 := hb5.1
 refine TF 6 ?_
 refine RN ?_
 refine ⟨_, eff_storeA (n := 146) (s := 1000005) (size43.of (rfl)) rfl rfl (rfl) hBb5 rfl (rfl) (LO 0 rfl (LV 3 rfl (LV 4 rfl (LV 5 rfl (LV 25 rfl (LT 1000003 rfl LN)))))), ?_⟩
 refine TL ?_
 refine RA rfl ?_
 refine RN ?_
 refine GS ?_
 refine TN 5 ?_
 refine RM rfl ?_
 refine RS (ok_call (GetCell_len l (by omega : l.length ≠ 48)) (Args.cons rfl (Le.old _ _) Args.nil)) ?_
 refine RM rfl ?_
 refine RS (ok_extractV rfl rfl) ?_
 refine RS (ok_extractV rfl rfl) ?_
 refine RN ?_
 refine ⟨_, _, eff_alloc (n := 146) (d := 7) (k := 1000007) zero52 (by decide), fun b7 hb7 => ?_⟩
 have hBb7 := hb7.1
 refine TF 6 ?_
 refine RN ?_
 refine ⟨_, eff_storeA (n := 146) (s := 1000007) (size52.of (rfl)) rfl rfl (rfl) hBb7 rfl (rfl) (LO 0 rfl (LV 3 rfl (LV 4 rfl (LV 5 rfl (LV 6 rfl (LV 7 rfl (LV 30 rfl (LT 1000003 rfl (LT 1000005 rfl LN))))))))), ?_⟩
 refine TL ?_
 refine RA rfl ?_
 refine RN ?_
 refine A.sub (KC 0 rfl (KC 3 rfl (KC 4 rfl (KC 5 rfl (KC 6 rfl (KC 7 rfl (KC 8 rfl (KC 1000003 rfl (KC 1000005 rfl (KC 1000007 rfl KN)))))))))) ?_
 refine A.seq ?_
 refine GD ?_
 refine TL ?_
 refine RM rfl ?_
 refine RBS rfl rfl rfl (.bool true) (by rfl) ?_
 refine RM rfl ?_
 refine RQ (ok_loadA (s := 1000003) (by decide) Try.underlying29 rfl (size29.of (rec_len _ _ _ (pT_len h))) rfl rfl) ?_
 refine RQ (ok_call (refRecord_fn (pX l) (gS (pN l)) (gC (pN l)) (pT l) (pT_len h) (gS_lt _) (gC_lt _)) (A1 rfl)) ?_
 refine RQ (ok_str (l := recL (pX l) (gS (pN l)) (gC (pN l)) (pT l)) Try.underlying31 Try.underlying5 Try.underlying9 rfl LA) ?_
 refine RQ (ok_move rfl) ?_
 refine RQ (ok_str (l := l) Try.underlying31 Try.underlying5 Try.underlying9 rfl LA) ?_
 refine RQ (ok_sne rfl rfl) ?_; refine RZ (.bool false) (by rw [rec_back h]; simp) ?_
 refine RP rfl rfl ?_
 refine RM rfl ?_
 refine RQ (ok_move rfl) ?_
 refine RQ (ok_bin rfl rfl rfl) ?_; refine RZ (.bool false) (congrArg Value.bool (beq_eq_false_iff_ne.2 (szE_ne (by omega : l.length ≠ 33)))) ?_
 refine RQ (ok_move rfl) ?_
 refine RK ?_
 refine RK ?_
 refine RK ?_
 refine RK ?_
 refine RK ?_
 refine RK ?_
 refine RQ (ok_pick rfl rfl) ?_
 refine RP rfl rfl ?_
 refine RM rfl ?_
 refine RQ (ok_move rfl) ?_
 refine RQ (ok_bin rfl rfl rfl) ?_; refine RZ (.bool false) (congrArg Value.bool (beq_eq_false_iff_ne.2 (szE_ne (by omega : l.length ≠ 48)))) ?_
 refine RQ (ok_move rfl) ?_
 refine RK ?_
 refine RK ?_
 refine RK ?_
 refine RK ?_
 refine RK ?_
 refine RK ?_
 refine RQ (ok_pick rfl rfl) ?_
 refine RP rfl rfl ?_
 refine RN ?_
 refine A.sub (KC 0 rfl (KC 3 rfl (KC 4 rfl (KC 5 rfl (KC 6 rfl (KC 7 rfl (KC 8 rfl (KC 64 rfl (KC 1000003 rfl (KC 1000005 rfl (KC 1000007 rfl KN))))))))))) ?_
 refine A.no rfl ?_
 refine A.skip ?_
 refine EN ?_
 refine A.seq ?_
 refine GS ?_
 refine TL ?_
 refine RM rfl ?_
 refine RBS rfl rfl rfl (.bool false) (by rfl) ?_
 refine RM rfl ?_
 refine RK ?_
 refine RK ?_
 refine RK ?_
 refine RP rfl rfl ?_
 refine RM rfl ?_
 refine RQ (ok_move rfl) ?_
 refine RQ (ok_bin rfl rfl rfl) ?_; refine RZ (.bool true) (congrArg Value.bool (bne_iff_ne.2 (szE_ne (by omega : l.length ≠ 33)))) ?_
 refine RQ (ok_move rfl) ?_
 refine RQ (ok_loadA (s := 1000005) (by decide) Try.underlying43 rfl (size43.of (rfl)) rfl rfl) ?_
 refine RQ (ok_lit [] ([.int .u8 0] ++ List.replicate 32 (.int .u8 0)) (fun _ _ => rfl) (by kernel_rfl)) ?_
 refine RQ (ok_neqT (n := 4) true flat43 (by decide) (by kernel_rfl) (by kernel_rfl) rfl rfl (kinEnt 0 (t := zD) rfl) (kinEnt 0 (t := zD) rfl) ⟨fun _ => rfl, fun _ => rfl⟩) ?_; refine RZ (.bool false) (by rfl) ?_
 refine RQ (ok_pick rfl rfl) ?_
 refine RP rfl rfl ?_
 refine RM rfl ?_
 refine RQ (ok_move rfl) ?_
 refine RQ (ok_bin rfl rfl rfl) ?_; refine RZ (.bool true) (congrArg Value.bool (bne_iff_ne.2 (szE_ne (by omega : l.length ≠ 48)))) ?_
 refine RQ (ok_move rfl) ?_
 refine RQ (ok_loadA (s := 1000007) (by decide) Try.underlying52 rfl (size52.of (rfl)) rfl rfl) ?_
 refine RQ (ok_lit [] (List.replicate 32 (.int .u8 0) ++ [.int .u64 0] ++ [.int .u64 0]) (fun _ _ => rfl) (by kernel_rfl)) ?_
 refine RQ (ok_neqT (n := 4) true flat52 (by decide) (by kernel_rfl) (by kernel_rfl) rfl rfl (kinCel (t := zD) rfl 0 0) (kinCel (t := zD) rfl 0 0) ⟨fun _ => rfl, fun _ => rfl⟩) ?_; refine RZ (.bool false) (by rfl) ?_
 refine RQ (ok_pick rfl rfl) ?_
 refine RP rfl rfl ?_
 refine RM rfl ?_
 refine RQ (ok_move rfl) ?_
 refine RQ (ok_move rfl) ?_
 refine RQ (ok_lenB Try.underlying31 rfl LA) ?_
 refine RQ (ok_call (length10_fn l.length 48) (A2 rfl rfl)) ?_
 refine RQ (ok_bin rfl rfl rfl) ?_; refine RZ (.bool false) (by simp) ?_
 refine RP rfl rfl ?_
 refine RN ?_
 refine A.sub (KC 0 rfl (KC 4 rfl (KC 6 rfl (KC 96 rfl (KC 1000003 rfl (KC 1000005 rfl (KC 1000007 rfl KN))))))) ?_
 refine A.no rfl ?_
 refine A.skip ?_
 refine EN ?_
 refine GS ?_
 refine TL ?_
 refine RA rfl ?_
 refine RN ?_
 refine A.seq ?_
 refine GS ?_
 refine TL ?_
 refine RA rfl ?_
 refine RN ?_
 refine A.block ?_
 refine A.loop (ι := Nat) (fun i => 1 ≤ i ∧ (i ≤ l.length ∨ i = 1)) (fun i => [(0, old w₀.heap.size (byt l)), (4, .v (.int .i64 0)), (6, .v (.int .i64 (szE l.length 33))), (9, .v (nI (restT l i))), (10, .v (nI i))]) (fun i => l.length - i) 1 ?_ ?_ ?_
 ·exact ⟨Nat.le_refl _, .inr rfl⟩
 ·exact (KC 0 rfl (KC 4 rfl (KC 6 rfl (KE 9 rfl (by rw [restT_one]; rfl) (KE 10 rfl (by rfl) KN)))))
 intro i hi'
 refine A.seq ?_
 refine GS ?_
 refine TL ?_
 refine RM rfl ?_
 refine RM rfl ?_
 refine RS (ok_lenB Try.underlying31 rfl LA) ?_
 refine RB rfl rfl rfl ?_
 refine RN ?_
 refine A.cond rfl (fun hc100 => ?_) (fun hc100 => ?_)
 ·have hi : i < l.length := by simp at hc100; omega
  have hr := restT_le l i
  have hb8 := (l.getD i 0).toNat_lt
  refine A.skip ?_
  refine EN ?_
  refine A.seq ?_
  refine A.block ?_
  refine GE ?_
  refine TL ?_
  refine RM rfl ?_
  refine RM rfl ?_
  refine RM rfl ?_
  refine RS (ok_index (d := byteD (l.getD i 0)) Try.underlying31 info5 rfl LA rfl (Int.natCast_nonneg _) (rest_byteD hi)) ?_
  refine RS (ok_load Try.underlying5 rfl rfl) ?_
  refine RS (ok_conv Try.underlying5 Try.underlying3 rfl) ?_; refine RZ (nI ((l.getD i 0).toNat)) (by rw [wrapN_i64 (by omega)]) ?_
  refine RBS rfl rfl rfl (nI (restT l i + (l.getD i 0).toNat)) (by rw [wrap_i64 (by omega) (by omega)]; exact congrArg (Value.int .i64) (by omega)) ?_
  refine RA rfl ?_
  refine RN ?_
  refine End.normal_block ?_
  refine EN ?_
  refine GE ?_
  refine TL ?_
  refine RM rfl ?_
  refine RBS rfl rfl rfl (nI (i + 1)) (by rw [wrap_i64 (by omega) (by omega)]; exact congrArg (Value.int .i64) (by omega)) ?_
  refine RA rfl ?_
  refine RN ?_
  refine End.normal_then ?_
  refine End.again (i + 1) ?_ ?_ ?_
  ·exact ⟨by omega, by omega⟩
  ·show _ - _ < _ - _; omega
  ·exact (KC 0 rfl (KC 4 rfl (KC 6 rfl (KE 9 rfl (by rw [restT_succ hi'.1 hi]) (KC 10 rfl KN)))))
 ·have hi2 : l.length ≤ i := by simp at hc100; omega
  refine A.exit ?_
  refine End.exit_then ?_
  refine End.exit_then ?_
  refine End.exit_here ?_
  refine EN ?_
  rcases hO with hO | hO
  ·refine GS ?_
   refine TL ?_
   refine RM rfl ?_
   refine RS (ok_lenB Try.underlying31 rfl LA) ?_
   refine RBS rfl rfl rfl (.bool true) (by simp; omega) ?_
   refine RM rfl ?_
   refine RQ (ok_move rfl) ?_
   refine RQ (ok_index (d := byteD (pX l)) Try.underlying31 info5 rfl LA rfl (by decide) (rest_byteD (i := 0) (by omega))) ?_
   refine RQ (ok_load Try.underlying5 rfl rfl) ?_
   refine RQ (ok_bin rfl rfl rfl) ?_; refine RZ (.bool false) (by simp; omega) ?_
   refine RQ (ok_move rfl) ?_
   refine RQ (ok_move rfl) ?_
   refine RQ (ok_index (d := byteD (pX l)) Try.underlying31 info5 rfl LA rfl (by decide) (rest_byteD (i := 0) (by omega))) ?_
   refine RQ (ok_load Try.underlying5 rfl rfl) ?_
   refine RQ (ok_bin rfl rfl rfl) ?_; refine RZ (.bool true) (by simp [hO]) ?_
   refine RQ (ok_move rfl) ?_
   refine RQ (ok_move rfl) ?_; refine RZ (nI (rest l)) (by rw [restT_end hi2]) ?_
   refine RQ (ok_bin rfl rfl rfl) ?_; refine RZ (.bool false) (by simp; omega) ?_
   refine RQ (ok_pick rfl rfl) ?_
   refine RQ (ok_pick rfl rfl) ?_
   refine RP rfl rfl ?_
   refine RA rfl ?_
   refine RN ?_
   refine GS ?_
   refine TL ?_
   refine RM rfl ?_
   refine RM rfl ?_
   refine RS (ok_lenB Try.underlying31 rfl LA) ?_
   refine RS (ok_call (length10_fn l.length 45) (A2 rfl rfl)) ?_
   refine RM rfl ?_
   refine RS (ok_call (wanted_fn _ _ _ (wE_f (szE_eq h))) (A3 rfl rfl rfl)) ?_
   refine RM rfl ?_
   refine RQ (ok_move rfl) ?_
   refine RQ (ok_move rfl) ?_
   refine RQ (ok_lenB Try.underlying31 rfl LA) ?_
   refine RQ (ok_call (length10_fn l.length 33) (A2 rfl rfl)) ?_
   refine RQ (ok_move rfl) ?_
   refine RQ (ok_call (wanted_fn _ _ _ (wE_ne (szE_ne (by omega : l.length ≠ 33)))) (A3 rfl rfl rfl)) ?_
   refine RP rfl rfl ?_
   refine RM rfl ?_
   refine RQ (ok_call lives10_fn Args.nil) ?_
   refine RP rfl rfl ?_
   refine RA rfl ?_
   refine RN ?_
   refine A.sub (KC 2 rfl KN) ?_
   refine A.ret ?_
   exact End.ret1 rfl rfl (by first | exact Le.refl _ | exact Le.old _ _)
  ·refine GS ?_
   refine TL ?_
   refine RM rfl ?_
   refine RS (ok_lenB Try.underlying31 rfl LA) ?_
   refine RBS rfl rfl rfl (.bool true) (by simp; omega) ?_
   refine RM rfl ?_
   refine RQ (ok_move rfl) ?_
   refine RQ (ok_index (d := byteD (pX l)) Try.underlying31 info5 rfl LA rfl (by decide) (rest_byteD (i := 0) (by omega))) ?_
   refine RQ (ok_load Try.underlying5 rfl rfl) ?_
   refine RQ (ok_bin rfl rfl rfl) ?_; refine RZ (.bool false) (by simp; omega) ?_
   refine RQ (ok_move rfl) ?_
   refine RQ (ok_move rfl) ?_
   refine RQ (ok_index (d := byteD (pX l)) Try.underlying31 info5 rfl LA rfl (by decide) (rest_byteD (i := 0) (by omega))) ?_
   refine RQ (ok_load Try.underlying5 rfl rfl) ?_
   refine RQ (ok_bin rfl rfl rfl) ?_; refine RZ (.bool false) (by simp; omega) ?_
   refine RQ (ok_move rfl) ?_
   refine RK ?_
   refine RK ?_
   refine RQ (ok_pick rfl rfl) ?_
   refine RQ (ok_pick rfl rfl) ?_
   refine RP rfl rfl ?_
   refine RA rfl ?_
   refine RN ?_
   refine GS ?_
   refine TL ?_
   refine RM rfl ?_
   refine RM rfl ?_
   refine RS (ok_lenB Try.underlying31 rfl LA) ?_
   refine RS (ok_call (length10_fn l.length 45) (A2 rfl rfl)) ?_
   refine RM rfl ?_
   refine RS (ok_call (wanted_fn _ _ _ (wE_f (szE_eq h))) (A3 rfl rfl rfl)) ?_
   refine RM rfl ?_
   refine RQ (ok_move rfl) ?_
   refine RQ (ok_move rfl) ?_
   refine RQ (ok_lenB Try.underlying31 rfl LA) ?_
   refine RQ (ok_call (length10_fn l.length 33) (A2 rfl rfl)) ?_
   refine RQ (ok_move rfl) ?_
   refine RQ (ok_call (wanted_fn _ _ _ (wE_ne (szE_ne (by omega : l.length ≠ 33)))) (A3 rfl rfl rfl)) ?_
   refine RP rfl rfl ?_
   refine RM rfl ?_
   refine RQ (ok_call lives10_fn Args.nil) ?_
   refine RP rfl rfl ?_
   refine RA rfl ?_
   refine RN ?_
   refine A.sub (KC 2 rfl KN) ?_
   refine A.ret ?_
   exact End.ret1 rfl rfl (by first | exact Le.refl _ | exact Le.old _ _)
set_option maxHeartbeats 4000000 in
theorem rget_rec_bad (l : List UInt8) (h60 : l.length ≤ 60) (h : l.length = 45) (hb : BadL l) : Fn Try.prog 6 [byt l] (.v (.bool true)) := by
 have hbr := (badR_iff h).2 hb
 have hO : 2 < (pX l).toNat ∨ ((pX l).toNat = 0 ∧ 0 < rest l) := hb
 refine Fn.of Try.func6 rfl (by kernel_rfl) Try.ntmps6 (by simp) (fun w => [(0, old w.heap.size (byt l))]) (fun w => (Start.old rfl Start.nil)) fun w₀ => ?_
 refine GS ?_
 refine TL ?_
 refine RA rfl ?_
 refine RN ?_
 refine A.seq ?_
 refine GS ?_
 refine TL ?_
 refine RM rfl ?_
 refine RS (ok_lenB Try.underlying31 rfl LA) ?_
 refine RBS rfl rfl rfl (.bool false) (by simp; omega) ?_
 refine RN ?_
 refine A.no rfl ?_
 refine A.skip ?_
 refine EN ?_
 refine GS ?_
 refine TN 5 ?_
 refine RM rfl ?_
 refine RS (ok_call (GetRecord_bad l h hbr) (Args.cons rfl (Le.old _ _) Args.nil)) ?_
 refine RM rfl ?_
 refine RS (ok_extractV rfl rfl) ?_
 refine RS (ok_extractV rfl rfl) ?_
 refine RN ?_
 refine ⟨_, _, eff_alloc (n := 146) (d := 3) (k := 1000003) zero29 (by decide), fun b3 hb3 => ?_⟩
 have hBb3 := hb3.1
 refine TF 6 ?_
 refine RN ?_
 refine ⟨_, eff_storeA (n := 146) (s := 1000003) (size29.of (rfl)) rfl rfl (rfl) hBb3 rfl (rfl) (LO 0 rfl (LV 3 rfl (LV 20 rfl LN))), ?_⟩
 refine TL ?_
 refine RA rfl ?_
 refine RN ?_
 refine GS ?_
 refine TN 5 ?_
 refine RM rfl ?_
 refine RS (ok_call (GetEntry_len l (by omega : l.length ≠ 33)) (Args.cons rfl (Le.old _ _) Args.nil)) ?_
 refine RM rfl ?_
 refine RS (ok_extractV rfl rfl) ?_
 refine RS (ok_extractV rfl rfl) ?_
 refine RN ?_
 refine ⟨_, _, eff_alloc (n := 146) (d := 5) (k := 1000005) zero43 (by decide), fun b5 hb5 => ?_⟩
 have hBb5 := hb5.1
 refine TF 6 ?_
 refine RN ?_
 refine ⟨_, eff_storeA (n := 146) (s := 1000005) (size43.of (rfl)) rfl rfl (rfl) hBb5 rfl (rfl) (LO 0 rfl (LV 3 rfl (LV 4 rfl (LV 5 rfl (LV 25 rfl (LT 1000003 rfl LN)))))), ?_⟩
 refine TL ?_
 refine RA rfl ?_
 refine RN ?_
 refine GS ?_
 refine TN 5 ?_
 refine RM rfl ?_
 refine RS (ok_call (GetCell_len l (by omega : l.length ≠ 48)) (Args.cons rfl (Le.old _ _) Args.nil)) ?_
 refine RM rfl ?_
 refine RS (ok_extractV rfl rfl) ?_
 refine RS (ok_extractV rfl rfl) ?_
 refine RN ?_
 refine ⟨_, _, eff_alloc (n := 146) (d := 7) (k := 1000007) zero52 (by decide), fun b7 hb7 => ?_⟩
 have hBb7 := hb7.1
 refine TF 6 ?_
 refine RN ?_
 refine ⟨_, eff_storeA (n := 146) (s := 1000007) (size52.of (rfl)) rfl rfl (rfl) hBb7 rfl (rfl) (LO 0 rfl (LV 3 rfl (LV 4 rfl (LV 5 rfl (LV 6 rfl (LV 7 rfl (LV 30 rfl (LT 1000003 rfl (LT 1000005 rfl LN))))))))), ?_⟩
 refine TL ?_
 refine RA rfl ?_
 refine RN ?_
 refine A.sub (KC 0 rfl (KC 3 rfl (KC 4 rfl (KC 5 rfl (KC 6 rfl (KC 7 rfl (KC 8 rfl (KC 1000003 rfl (KC 1000005 rfl (KC 1000007 rfl KN)))))))))) ?_
 refine A.seq ?_
 refine GD ?_
 refine TL ?_
 refine RM rfl ?_
 refine RBS rfl rfl rfl (.bool false) (by rfl) ?_
 refine RM rfl ?_
 refine RK ?_
 refine RK ?_
 refine RK ?_
 refine RK ?_
 refine RK ?_
 refine RK ?_
 refine RP rfl rfl ?_
 refine RM rfl ?_
 refine RQ (ok_move rfl) ?_
 refine RQ (ok_bin rfl rfl rfl) ?_; refine RZ (.bool false) (congrArg Value.bool (beq_eq_false_iff_ne.2 (szE_ne (by omega : l.length ≠ 33)))) ?_
 refine RQ (ok_move rfl) ?_
 refine RK ?_
 refine RK ?_
 refine RK ?_
 refine RK ?_
 refine RK ?_
 refine RK ?_
 refine RQ (ok_pick rfl rfl) ?_
 refine RP rfl rfl ?_
 refine RM rfl ?_
 refine RQ (ok_move rfl) ?_
 refine RQ (ok_bin rfl rfl rfl) ?_; refine RZ (.bool false) (congrArg Value.bool (beq_eq_false_iff_ne.2 (szE_ne (by omega : l.length ≠ 48)))) ?_
 refine RQ (ok_move rfl) ?_
 refine RK ?_
 refine RK ?_
 refine RK ?_
 refine RK ?_
 refine RK ?_
 refine RK ?_
 refine RQ (ok_pick rfl rfl) ?_
 refine RP rfl rfl ?_
 refine RN ?_
 refine A.sub (KC 0 rfl (KC 3 rfl (KC 4 rfl (KC 5 rfl (KC 6 rfl (KC 7 rfl (KC 8 rfl (KC 64 rfl (KC 1000003 rfl (KC 1000005 rfl (KC 1000007 rfl KN))))))))))) ?_
 refine A.no rfl ?_
 refine A.skip ?_
 refine EN ?_
 refine A.seq ?_
 refine GS ?_
 refine TL ?_
 refine RM rfl ?_
 refine RBS rfl rfl rfl (.bool true) (by rfl) ?_
 refine RM rfl ?_
 refine RQ (ok_loadA (s := 1000003) (by decide) Try.underlying29 rfl (size29.of (rfl)) rfl rfl) ?_
 refine RQ (ok_lit [] ([.int .u8 0] ++ [.int .u32 0] ++ [.int .u64 0] ++ List.replicate 32 (.int .u8 0)) (fun _ _ => rfl) (by kernel_rfl)) ?_
 refine RQ (ok_neqT (n := 4) true flat29 (by decide) (by kernel_rfl) (by kernel_rfl) rfl rfl (kinRec 0 0 0 (t := zD) rfl) (kinRec 0 0 0 (t := zD) rfl) ⟨fun _ => rfl, fun _ => rfl⟩) ?_; refine RZ (.bool false) (by rfl) ?_
 refine RP rfl rfl ?_
 refine RM rfl ?_
 refine RQ (ok_move rfl) ?_
 refine RQ (ok_bin rfl rfl rfl) ?_; refine RZ (.bool true) (congrArg Value.bool (bne_iff_ne.2 (szE_ne (by omega : l.length ≠ 33)))) ?_
 refine RQ (ok_move rfl) ?_
 refine RQ (ok_loadA (s := 1000005) (by decide) Try.underlying43 rfl (size43.of (rfl)) rfl rfl) ?_
 refine RQ (ok_lit [] ([.int .u8 0] ++ List.replicate 32 (.int .u8 0)) (fun _ _ => rfl) (by kernel_rfl)) ?_
 refine RQ (ok_neqT (n := 4) true flat43 (by decide) (by kernel_rfl) (by kernel_rfl) rfl rfl (kinEnt 0 (t := zD) rfl) (kinEnt 0 (t := zD) rfl) ⟨fun _ => rfl, fun _ => rfl⟩) ?_; refine RZ (.bool false) (by rfl) ?_
 refine RQ (ok_pick rfl rfl) ?_
 refine RP rfl rfl ?_
 refine RM rfl ?_
 refine RQ (ok_move rfl) ?_
 refine RQ (ok_bin rfl rfl rfl) ?_; refine RZ (.bool true) (congrArg Value.bool (bne_iff_ne.2 (szE_ne (by omega : l.length ≠ 48)))) ?_
 refine RQ (ok_move rfl) ?_
 refine RQ (ok_loadA (s := 1000007) (by decide) Try.underlying52 rfl (size52.of (rfl)) rfl rfl) ?_
 refine RQ (ok_lit [] (List.replicate 32 (.int .u8 0) ++ [.int .u64 0] ++ [.int .u64 0]) (fun _ _ => rfl) (by kernel_rfl)) ?_
 refine RQ (ok_neqT (n := 4) true flat52 (by decide) (by kernel_rfl) (by kernel_rfl) rfl rfl (kinCel (t := zD) rfl 0 0) (kinCel (t := zD) rfl 0 0) ⟨fun _ => rfl, fun _ => rfl⟩) ?_; refine RZ (.bool false) (by rfl) ?_
 refine RQ (ok_pick rfl rfl) ?_
 refine RP rfl rfl ?_
 refine RM rfl ?_
 refine RQ (ok_move rfl) ?_
 refine RQ (ok_move rfl) ?_
 refine RQ (ok_lenB Try.underlying31 rfl LA) ?_
 refine RQ (ok_call (length10_fn l.length 48) (A2 rfl rfl)) ?_
 refine RQ (ok_bin rfl rfl rfl) ?_; refine RZ (.bool false) (by simp) ?_
 refine RP rfl rfl ?_
 refine RN ?_
 refine A.sub (KC 0 rfl (KC 4 rfl (KC 6 rfl (KC 96 rfl (KC 1000003 rfl (KC 1000005 rfl (KC 1000007 rfl KN))))))) ?_
 refine A.no rfl ?_
 refine A.skip ?_
 refine EN ?_
 refine GS ?_
 refine TL ?_
 refine RA rfl ?_
 refine RN ?_
 refine A.seq ?_
 refine GS ?_
 refine TL ?_
 refine RA rfl ?_
 refine RN ?_
 refine A.block ?_
 refine A.loop (ι := Nat) (fun i => 1 ≤ i ∧ (i ≤ l.length ∨ i = 1)) (fun i => [(0, old w₀.heap.size (byt l)), (4, .v (.int .i64 1)), (6, .v (.int .i64 (szE l.length 33))), (9, .v (nI (restT l i))), (10, .v (nI i))]) (fun i => l.length - i) 1 ?_ ?_ ?_
 ·exact ⟨Nat.le_refl _, .inr rfl⟩
 ·exact (KC 0 rfl (KC 4 rfl (KC 6 rfl (KE 9 rfl (by rw [restT_one]; rfl) (KE 10 rfl (by rfl) KN)))))
 intro i hi'
 refine A.seq ?_
 refine GS ?_
 refine TL ?_
 refine RM rfl ?_
 refine RM rfl ?_
 refine RS (ok_lenB Try.underlying31 rfl LA) ?_
 refine RB rfl rfl rfl ?_
 refine RN ?_
 refine A.cond rfl (fun hc100 => ?_) (fun hc100 => ?_)
 ·have hi : i < l.length := by simp at hc100; omega
  have hr := restT_le l i
  have hb8 := (l.getD i 0).toNat_lt
  refine A.skip ?_
  refine EN ?_
  refine A.seq ?_
  refine A.block ?_
  refine GE ?_
  refine TL ?_
  refine RM rfl ?_
  refine RM rfl ?_
  refine RM rfl ?_
  refine RS (ok_index (d := byteD (l.getD i 0)) Try.underlying31 info5 rfl LA rfl (Int.natCast_nonneg _) (rest_byteD hi)) ?_
  refine RS (ok_load Try.underlying5 rfl rfl) ?_
  refine RS (ok_conv Try.underlying5 Try.underlying3 rfl) ?_; refine RZ (nI ((l.getD i 0).toNat)) (by rw [wrapN_i64 (by omega)]) ?_
  refine RBS rfl rfl rfl (nI (restT l i + (l.getD i 0).toNat)) (by rw [wrap_i64 (by omega) (by omega)]; exact congrArg (Value.int .i64) (by omega)) ?_
  refine RA rfl ?_
  refine RN ?_
  refine End.normal_block ?_
  refine EN ?_
  refine GE ?_
  refine TL ?_
  refine RM rfl ?_
  refine RBS rfl rfl rfl (nI (i + 1)) (by rw [wrap_i64 (by omega) (by omega)]; exact congrArg (Value.int .i64) (by omega)) ?_
  refine RA rfl ?_
  refine RN ?_
  refine End.normal_then ?_
  refine End.again (i + 1) ?_ ?_ ?_
  ·exact ⟨by omega, by omega⟩
  ·show _ - _ < _ - _; omega
  ·exact (KC 0 rfl (KC 4 rfl (KC 6 rfl (KE 9 rfl (by rw [restT_succ hi'.1 hi]) (KC 10 rfl KN)))))
 ·have hi2 : l.length ≤ i := by simp at hc100; omega
  refine A.exit ?_
  refine End.exit_then ?_
  refine End.exit_then ?_
  refine End.exit_here ?_
  refine EN ?_
  rcases hO with hO | hO
  ·refine GS ?_
   refine TL ?_
   refine RM rfl ?_
   refine RS (ok_lenB Try.underlying31 rfl LA) ?_
   refine RBS rfl rfl rfl (.bool true) (by simp; omega) ?_
   refine RM rfl ?_
   refine RQ (ok_move rfl) ?_
   refine RQ (ok_index (d := byteD (pX l)) Try.underlying31 info5 rfl LA rfl (by decide) (rest_byteD (i := 0) (by omega))) ?_
   refine RQ (ok_load Try.underlying5 rfl rfl) ?_
   refine RQ (ok_bin rfl rfl rfl) ?_; refine RZ (.bool true) (by simp; omega) ?_
   refine RQ (ok_move rfl) ?_
   refine RK ?_
   refine RK ?_
   refine RK ?_
   refine RK ?_
   refine RK ?_
   refine RunK.skippedU rfl rfl rfl rfl ?_
   refine RunK.skippedU rfl rfl rfl rfl ?_
   refine RK ?_
   refine RQ (ok_pick rfl rfl) ?_
   refine RP rfl rfl ?_
   refine RA rfl ?_
   refine RN ?_
   refine GS ?_
   refine TL ?_
   refine RM rfl ?_
   refine RM rfl ?_
   refine RS (ok_lenB Try.underlying31 rfl LA) ?_
   refine RS (ok_call (length10_fn l.length 45) (A2 rfl rfl)) ?_
   refine RM rfl ?_
   refine RS (ok_call (wanted_fn _ _ _ (wE_t (szE_eq h))) (A3 rfl rfl rfl)) ?_
   refine RM rfl ?_
   refine RQ (ok_move rfl) ?_
   refine RQ (ok_move rfl) ?_
   refine RQ (ok_lenB Try.underlying31 rfl LA) ?_
   refine RQ (ok_call (length10_fn l.length 33) (A2 rfl rfl)) ?_
   refine RQ (ok_move rfl) ?_
   refine RQ (ok_call (wanted_fn _ _ _ (wE_ne (szE_ne (by omega : l.length ≠ 33)))) (A3 rfl rfl rfl)) ?_
   refine RP rfl rfl ?_
   refine RM rfl ?_
   refine RQ (ok_call lives10_fn Args.nil) ?_
   refine RP rfl rfl ?_
   refine RA rfl ?_
   refine RN ?_
   refine A.sub (KC 2 rfl KN) ?_
   refine A.ret ?_
   exact End.ret1 rfl rfl (by first | exact Le.refl _ | exact Le.old _ _)
  ·refine GS ?_
   refine TL ?_
   refine RM rfl ?_
   refine RS (ok_lenB Try.underlying31 rfl LA) ?_
   refine RBS rfl rfl rfl (.bool true) (by simp; omega) ?_
   refine RM rfl ?_
   refine RQ (ok_move rfl) ?_
   refine RQ (ok_index (d := byteD (pX l)) Try.underlying31 info5 rfl LA rfl (by decide) (rest_byteD (i := 0) (by omega))) ?_
   refine RQ (ok_load Try.underlying5 rfl rfl) ?_
   refine RQ (ok_bin rfl rfl rfl) ?_; refine RZ (.bool false) (by simp; omega) ?_
   refine RQ (ok_move rfl) ?_
   refine RQ (ok_move rfl) ?_
   refine RQ (ok_index (d := byteD (pX l)) Try.underlying31 info5 rfl LA rfl (by decide) (rest_byteD (i := 0) (by omega))) ?_
   refine RQ (ok_load Try.underlying5 rfl rfl) ?_
   refine RQ (ok_bin rfl rfl rfl) ?_; refine RZ (.bool true) (by simp [hO]) ?_
   refine RQ (ok_move rfl) ?_
   refine RQ (ok_move rfl) ?_; refine RZ (nI (rest l)) (by rw [restT_end hi2]) ?_
   refine RQ (ok_bin rfl rfl rfl) ?_; refine RZ (.bool true) (by simp; omega) ?_
   refine RQ (ok_pick rfl rfl) ?_
   refine RQ (ok_pick rfl rfl) ?_
   refine RP rfl rfl ?_
   refine RA rfl ?_
   refine RN ?_
   refine GS ?_
   refine TL ?_
   refine RM rfl ?_
   refine RM rfl ?_
   refine RS (ok_lenB Try.underlying31 rfl LA) ?_
   refine RS (ok_call (length10_fn l.length 45) (A2 rfl rfl)) ?_
   refine RM rfl ?_
   refine RS (ok_call (wanted_fn _ _ _ (wE_t (szE_eq h))) (A3 rfl rfl rfl)) ?_
   refine RM rfl ?_
   refine RQ (ok_move rfl) ?_
   refine RQ (ok_move rfl) ?_
   refine RQ (ok_lenB Try.underlying31 rfl LA) ?_
   refine RQ (ok_call (length10_fn l.length 33) (A2 rfl rfl)) ?_
   refine RQ (ok_move rfl) ?_
   refine RQ (ok_call (wanted_fn _ _ _ (wE_ne (szE_ne (by omega : l.length ≠ 33)))) (A3 rfl rfl rfl)) ?_
   refine RP rfl rfl ?_
   refine RM rfl ?_
   refine RQ (ok_call lives10_fn Args.nil) ?_
   refine RP rfl rfl ?_
   refine RA rfl ?_
   refine RN ?_
   refine A.sub (KC 2 rfl KN) ?_
   refine A.ret ?_
   exact End.ret1 rfl rfl (by first | exact Le.refl _ | exact Le.old _ _)
set_option maxHeartbeats 4000000 in
theorem rget_ent_ok (l : List UInt8) (h60 : l.length ≤ 60) (h : l.length = 33) (hb : ¬ BadL l) : Fn Try.prog 6 [byt l] (.v (.bool true)) := by
 have hbe := fun x => hb ((badE_iff h).1 x)
 have hO : ((pX l).toNat = 0 ∧ rest l = 0) ∨ (1 ≤ (pX l).toNat ∧ (pX l).toNat ≤ 2) := by unfold BadL at hb; omega
 refine Fn.of Try.func6 rfl (by kernel_rfl) Try.ntmps6 (by simp) (fun w => [(0, old w.heap.size (byt l))]) (fun w => (Start.old rfl Start.nil)) fun w₀ => ?_
 refine GS ?_
 refine TL ?_
 refine RA rfl ?_
 refine RN ?_
 refine A.seq ?_
 refine GS ?_
 refine TL ?_
 refine RM rfl ?_
 refine RS (ok_lenB Try.underlying31 rfl LA) ?_
 refine RBS rfl rfl rfl (.bool false) (by simp; omega) ?_
 refine RN ?_
 refine A.no rfl ?_
 refine A.skip ?_
 refine EN ?_
 refine GS ?_
 refine TN 5 ?_
 refine RM rfl ?_
 refine RS (ok_call (GetRecord_len l (by omega : l.length ≠ 45)) (Args.cons rfl (Le.old _ _) Args.nil)) ?_
 refine RM rfl ?_
 refine RS (ok_extractV rfl rfl) ?_
 refine RS (ok_extractV rfl rfl) ?_
 refine RN ?_
 refine ⟨_, _, eff_alloc (n := 146) (d := 3) (k := 1000003) zero29 (by decide), fun b3 hb3 => ?_⟩
 have hBb3 := hb3.1
 refine TF 6 ?_
 refine RN ?_
 refine ⟨_, eff_storeA (n := 146) (s := 1000003) (size29.of (rfl)) rfl rfl (rfl) hBb3 rfl (rfl) (LO 0 rfl (LV 3 rfl (LV 20 rfl LN))), ?_⟩
 refine TL ?_
 refine RA rfl ?_
 refine RN ?_
 refine GS ?_
 refine TN 5 ?_
 refine RM rfl ?_
 refine RS (ok_call (GetEntry_ok l h hbe) (Args.cons rfl (Le.old _ _) Args.nil)) ?_
 refine RM rfl ?_
 refine RS (ok_extractV rfl rfl) ?_
 refine RS (ok_extractV rfl rfl) ?_
 refine RN ?_
 refine ⟨_, _, eff_alloc (n := 146) (d := 5) (k := 1000005) zero43 (by decide), fun b5 hb5 => ?_⟩
 have hBb5 := hb5.1
 refine TF 6 ?_
 refine RN ?_
 refine ⟨_, eff_storeA (n := 146) (s := 1000005) (size43.of (ent_len _ (pD_len h))) rfl rfl (ent_one _ _) hBb5 rfl (by rw [ent_len _ (pD_len h)]; rfl) (LO 0 rfl (LV 3 rfl (LV 4 rfl (LV 5 rfl (LV 25 rfl (LT 1000003 rfl LN)))))), ?_⟩
 refine TL ?_
 refine RA rfl ?_
 refine RN ?_
 refine GS ?_
 refine TN 5 ?_
 refine RM rfl ?_
 refine RS (ok_call (GetCell_len l (by omega : l.length ≠ 48)) (Args.cons rfl (Le.old _ _) Args.nil)) ?_
 refine RM rfl ?_
 refine RS (ok_extractV rfl rfl) ?_
 refine RS (ok_extractV rfl rfl) ?_
 refine RN ?_
 refine ⟨_, _, eff_alloc (n := 146) (d := 7) (k := 1000007) zero52 (by decide), fun b7 hb7 => ?_⟩
 have hBb7 := hb7.1
 refine TF 6 ?_
 refine RN ?_
 refine ⟨_, eff_storeA (n := 146) (s := 1000007) (size52.of (rfl)) rfl rfl (rfl) hBb7 rfl (rfl) (LO 0 rfl (LV 3 rfl (LV 4 rfl (LV 5 rfl (LV 6 rfl (LV 7 rfl (LV 30 rfl (LT 1000003 rfl (LT 1000005 rfl LN))))))))), ?_⟩
 refine TL ?_
 refine RA rfl ?_
 refine RN ?_
 refine A.sub (KC 0 rfl (KC 3 rfl (KC 4 rfl (KC 5 rfl (KC 6 rfl (KC 7 rfl (KC 8 rfl (KC 1000003 rfl (KC 1000005 rfl (KC 1000007 rfl KN)))))))))) ?_
 refine A.seq ?_
 refine GD ?_
 refine TL ?_
 refine RM rfl ?_
 refine RBS rfl rfl rfl (.bool false) (congrArg Value.bool (beq_eq_false_iff_ne.2 (szE_ne (by omega : l.length ≠ 45)))) ?_
 refine RM rfl ?_
 refine RK ?_
 refine RK ?_
 refine RK ?_
 refine RK ?_
 refine RK ?_
 refine RK ?_
 refine RP rfl rfl ?_
 refine RM rfl ?_
 refine RQ (ok_move rfl) ?_
 refine RQ (ok_bin rfl rfl rfl) ?_; refine RZ (.bool true) (by rfl) ?_
 refine RQ (ok_move rfl) ?_
 refine RQ (ok_loadA (s := 1000005) (by decide) Try.underlying43 rfl (size43.of (ent_len _ (pD_len h))) rfl rfl) ?_
 refine RQ (ok_call (refEntry_fn (pX l) (pD l) (pD_len h)) (A1 rfl)) ?_
 refine RQ (ok_str (l := entL (pX l) (pD l)) Try.underlying31 Try.underlying5 Try.underlying9 rfl LA) ?_
 refine RQ (ok_move rfl) ?_
 refine RQ (ok_str (l := l) Try.underlying31 Try.underlying5 Try.underlying9 rfl LA) ?_
 refine RQ (ok_sne rfl rfl) ?_; refine RZ (.bool false) (by rw [ent_back h]; simp) ?_
 refine RQ (ok_pick rfl rfl) ?_
 refine RP rfl rfl ?_
 refine RM rfl ?_
 refine RQ (ok_move rfl) ?_
 refine RQ (ok_bin rfl rfl rfl) ?_; refine RZ (.bool false) (congrArg Value.bool (beq_eq_false_iff_ne.2 (szE_ne (by omega : l.length ≠ 48)))) ?_
 refine RQ (ok_move rfl) ?_
 refine RK ?_
 refine RK ?_
 refine RK ?_
 refine RK ?_
 refine RK ?_
 refine RK ?_
 refine RQ (ok_pick rfl rfl) ?_
 refine RP rfl rfl ?_
 refine RN ?_
 refine A.sub (KC 0 rfl (KC 3 rfl (KC 4 rfl (KC 5 rfl (KC 6 rfl (KC 7 rfl (KC 8 rfl (KC 64 rfl (KC 1000003 rfl (KC 1000005 rfl (KC 1000007 rfl KN))))))))))) ?_
 refine A.no rfl ?_
 refine A.skip ?_
 refine EN ?_
 refine A.seq ?_
 refine GS ?_
 refine TL ?_
 refine RM rfl ?_
 refine RBS rfl rfl rfl (.bool true) (congrArg Value.bool (bne_iff_ne.2 (szE_ne (by omega : l.length ≠ 45)))) ?_
 refine RM rfl ?_
 refine RQ (ok_loadA (s := 1000003) (by decide) Try.underlying29 rfl (size29.of (rfl)) rfl rfl) ?_
 refine RQ (ok_lit [] ([.int .u8 0] ++ [.int .u32 0] ++ [.int .u64 0] ++ List.replicate 32 (.int .u8 0)) (fun _ _ => rfl) (by kernel_rfl)) ?_
 refine RQ (ok_neqT (n := 4) true flat29 (by decide) (by kernel_rfl) (by kernel_rfl) rfl rfl (kinRec 0 0 0 (t := zD) rfl) (kinRec 0 0 0 (t := zD) rfl) ⟨fun _ => rfl, fun _ => rfl⟩) ?_; refine RZ (.bool false) (by rfl) ?_
 refine RP rfl rfl ?_
 refine RM rfl ?_
 refine RQ (ok_move rfl) ?_
 refine RQ (ok_bin rfl rfl rfl) ?_; refine RZ (.bool false) (by rfl) ?_
 refine RQ (ok_move rfl) ?_
 refine RK ?_
 refine RK ?_
 refine RK ?_
 refine RQ (ok_pick rfl rfl) ?_
 refine RP rfl rfl ?_
 refine RM rfl ?_
 refine RQ (ok_move rfl) ?_
 refine RQ (ok_bin rfl rfl rfl) ?_; refine RZ (.bool true) (congrArg Value.bool (bne_iff_ne.2 (szE_ne (by omega : l.length ≠ 48)))) ?_
 refine RQ (ok_move rfl) ?_
 refine RQ (ok_loadA (s := 1000007) (by decide) Try.underlying52 rfl (size52.of (rfl)) rfl rfl) ?_
 refine RQ (ok_lit [] (List.replicate 32 (.int .u8 0) ++ [.int .u64 0] ++ [.int .u64 0]) (fun _ _ => rfl) (by kernel_rfl)) ?_
 refine RQ (ok_neqT (n := 4) true flat52 (by decide) (by kernel_rfl) (by kernel_rfl) rfl rfl (kinCel (t := zD) rfl 0 0) (kinCel (t := zD) rfl 0 0) ⟨fun _ => rfl, fun _ => rfl⟩) ?_; refine RZ (.bool false) (by rfl) ?_
 refine RQ (ok_pick rfl rfl) ?_
 refine RP rfl rfl ?_
 refine RM rfl ?_
 refine RQ (ok_move rfl) ?_
 refine RQ (ok_move rfl) ?_
 refine RQ (ok_lenB Try.underlying31 rfl LA) ?_
 refine RQ (ok_call (length10_fn l.length 48) (A2 rfl rfl)) ?_
 refine RQ (ok_bin rfl rfl rfl) ?_; refine RZ (.bool false) (by simp) ?_
 refine RP rfl rfl ?_
 refine RN ?_
 refine A.sub (KC 0 rfl (KC 4 rfl (KC 6 rfl (KC 96 rfl (KC 1000003 rfl (KC 1000005 rfl (KC 1000007 rfl KN))))))) ?_
 refine A.no rfl ?_
 refine A.skip ?_
 refine EN ?_
 refine GS ?_
 refine TL ?_
 refine RA rfl ?_
 refine RN ?_
 refine A.seq ?_
 refine GS ?_
 refine TL ?_
 refine RA rfl ?_
 refine RN ?_
 refine A.block ?_
 refine A.loop (ι := Nat) (fun i => 1 ≤ i ∧ (i ≤ l.length ∨ i = 1)) (fun i => [(0, old w₀.heap.size (byt l)), (4, .v (.int .i64 (szE l.length 45))), (6, .v (.int .i64 0)), (9, .v (nI (restT l i))), (10, .v (nI i))]) (fun i => l.length - i) 1 ?_ ?_ ?_
 ·exact ⟨Nat.le_refl _, .inr rfl⟩
 ·exact (KC 0 rfl (KC 4 rfl (KC 6 rfl (KE 9 rfl (by rw [restT_one]; rfl) (KE 10 rfl (by rfl) KN)))))
 intro i hi'
 refine A.seq ?_
 refine GS ?_
 refine TL ?_
 refine RM rfl ?_
 refine RM rfl ?_
 refine RS (ok_lenB Try.underlying31 rfl LA) ?_
 refine RB rfl rfl rfl ?_
 refine RN ?_
 refine A.cond rfl (fun hc100 => ?_) (fun hc100 => ?_)
 ·have hi : i < l.length := by simp at hc100; omega
  have hr := restT_le l i
  have hb8 := (l.getD i 0).toNat_lt
  refine A.skip ?_
  refine EN ?_
  refine A.seq ?_
  refine A.block ?_
  refine GE ?_
  refine TL ?_
  refine RM rfl ?_
  refine RM rfl ?_
  refine RM rfl ?_
  refine RS (ok_index (d := byteD (l.getD i 0)) Try.underlying31 info5 rfl LA rfl (Int.natCast_nonneg _) (rest_byteD hi)) ?_
  refine RS (ok_load Try.underlying5 rfl rfl) ?_
  refine RS (ok_conv Try.underlying5 Try.underlying3 rfl) ?_; refine RZ (nI ((l.getD i 0).toNat)) (by rw [wrapN_i64 (by omega)]) ?_
  refine RBS rfl rfl rfl (nI (restT l i + (l.getD i 0).toNat)) (by rw [wrap_i64 (by omega) (by omega)]; exact congrArg (Value.int .i64) (by omega)) ?_
  refine RA rfl ?_
  refine RN ?_
  refine End.normal_block ?_
  refine EN ?_
  refine GE ?_
  refine TL ?_
  refine RM rfl ?_
  refine RBS rfl rfl rfl (nI (i + 1)) (by rw [wrap_i64 (by omega) (by omega)]; exact congrArg (Value.int .i64) (by omega)) ?_
  refine RA rfl ?_
  refine RN ?_
  refine End.normal_then ?_
  refine End.again (i + 1) ?_ ?_ ?_
  ·exact ⟨by omega, by omega⟩
  ·show _ - _ < _ - _; omega
  ·exact (KC 0 rfl (KC 4 rfl (KC 6 rfl (KE 9 rfl (by rw [restT_succ hi'.1 hi]) (KC 10 rfl KN)))))
 ·have hi2 : l.length ≤ i := by simp at hc100; omega
  refine A.exit ?_
  refine End.exit_then ?_
  refine End.exit_then ?_
  refine End.exit_here ?_
  refine EN ?_
  rcases hO with hO | hO
  ·refine GS ?_
   refine TL ?_
   refine RM rfl ?_
   refine RS (ok_lenB Try.underlying31 rfl LA) ?_
   refine RBS rfl rfl rfl (.bool true) (by simp; omega) ?_
   refine RM rfl ?_
   refine RQ (ok_move rfl) ?_
   refine RQ (ok_index (d := byteD (pX l)) Try.underlying31 info5 rfl LA rfl (by decide) (rest_byteD (i := 0) (by omega))) ?_
   refine RQ (ok_load Try.underlying5 rfl rfl) ?_
   refine RQ (ok_bin rfl rfl rfl) ?_; refine RZ (.bool false) (by simp; omega) ?_
   refine RQ (ok_move rfl) ?_
   refine RQ (ok_move rfl) ?_
   refine RQ (ok_index (d := byteD (pX l)) Try.underlying31 info5 rfl LA rfl (by decide) (rest_byteD (i := 0) (by omega))) ?_
   refine RQ (ok_load Try.underlying5 rfl rfl) ?_
   refine RQ (ok_bin rfl rfl rfl) ?_; refine RZ (.bool true) (by simp [hO]) ?_
   refine RQ (ok_move rfl) ?_
   refine RQ (ok_move rfl) ?_; refine RZ (nI (rest l)) (by rw [restT_end hi2]) ?_
   refine RQ (ok_bin rfl rfl rfl) ?_; refine RZ (.bool false) (by simp; omega) ?_
   refine RQ (ok_pick rfl rfl) ?_
   refine RQ (ok_pick rfl rfl) ?_
   refine RP rfl rfl ?_
   refine RA rfl ?_
   refine RN ?_
   refine GS ?_
   refine TL ?_
   refine RM rfl ?_
   refine RM rfl ?_
   refine RS (ok_lenB Try.underlying31 rfl LA) ?_
   refine RS (ok_call (length10_fn l.length 45) (A2 rfl rfl)) ?_
   refine RM rfl ?_
   refine RS (ok_call (wanted_fn _ _ _ (wE_ne (szE_ne (by omega : l.length ≠ 45)))) (A3 rfl rfl rfl)) ?_
   refine RM rfl ?_
   refine RQ (ok_move rfl) ?_
   refine RQ (ok_move rfl) ?_
   refine RQ (ok_lenB Try.underlying31 rfl LA) ?_
   refine RQ (ok_call (length10_fn l.length 33) (A2 rfl rfl)) ?_
   refine RQ (ok_move rfl) ?_
   refine RQ (ok_call (wanted_fn _ _ _ (wE_f (szE_eq h))) (A3 rfl rfl rfl)) ?_
   refine RP rfl rfl ?_
   refine RM rfl ?_
   refine RQ (ok_call lives10_fn Args.nil) ?_
   refine RP rfl rfl ?_
   refine RA rfl ?_
   refine RN ?_
   refine A.sub (KC 2 rfl KN) ?_
   refine A.ret ?_
   exact End.ret1 rfl rfl (by first | exact Le.refl _ | exact Le.old _ _)
  ·refine GS ?_
   refine TL ?_
   refine RM rfl ?_
   refine RS (ok_lenB Try.underlying31 rfl LA) ?_
   refine RBS rfl rfl rfl (.bool true) (by simp; omega) ?_
   refine RM rfl ?_
   refine RQ (ok_move rfl) ?_
   refine RQ (ok_index (d := byteD (pX l)) Try.underlying31 info5 rfl LA rfl (by decide) (rest_byteD (i := 0) (by omega))) ?_
   refine RQ (ok_load Try.underlying5 rfl rfl) ?_
   refine RQ (ok_bin rfl rfl rfl) ?_; refine RZ (.bool false) (by simp; omega) ?_
   refine RQ (ok_move rfl) ?_
   refine RQ (ok_move rfl) ?_
   refine RQ (ok_index (d := byteD (pX l)) Try.underlying31 info5 rfl LA rfl (by decide) (rest_byteD (i := 0) (by omega))) ?_
   refine RQ (ok_load Try.underlying5 rfl rfl) ?_
   refine RQ (ok_bin rfl rfl rfl) ?_; refine RZ (.bool false) (by simp; omega) ?_
   refine RQ (ok_move rfl) ?_
   refine RK ?_
   refine RK ?_
   refine RQ (ok_pick rfl rfl) ?_
   refine RQ (ok_pick rfl rfl) ?_
   refine RP rfl rfl ?_
   refine RA rfl ?_
   refine RN ?_
   refine GS ?_
   refine TL ?_
   refine RM rfl ?_
   refine RM rfl ?_
   refine RS (ok_lenB Try.underlying31 rfl LA) ?_
   refine RS (ok_call (length10_fn l.length 45) (A2 rfl rfl)) ?_
   refine RM rfl ?_
   refine RS (ok_call (wanted_fn _ _ _ (wE_ne (szE_ne (by omega : l.length ≠ 45)))) (A3 rfl rfl rfl)) ?_
   refine RM rfl ?_
   refine RQ (ok_move rfl) ?_
   refine RQ (ok_move rfl) ?_
   refine RQ (ok_lenB Try.underlying31 rfl LA) ?_
   refine RQ (ok_call (length10_fn l.length 33) (A2 rfl rfl)) ?_
   refine RQ (ok_move rfl) ?_
   refine RQ (ok_call (wanted_fn _ _ _ (wE_f (szE_eq h))) (A3 rfl rfl rfl)) ?_
   refine RP rfl rfl ?_
   refine RM rfl ?_
   refine RQ (ok_call lives10_fn Args.nil) ?_
   refine RP rfl rfl ?_
   refine RA rfl ?_
   refine RN ?_
   refine A.sub (KC 2 rfl KN) ?_
   refine A.ret ?_
   exact End.ret1 rfl rfl (by first | exact Le.refl _ | exact Le.old _ _)
set_option maxHeartbeats 4000000 in
theorem rget_ent_bad (l : List UInt8) (h60 : l.length ≤ 60) (h : l.length = 33) (hb : BadL l) : Fn Try.prog 6 [byt l] (.v (.bool true)) := by
 have hbe := (badE_iff h).2 hb
 have hO : 2 < (pX l).toNat ∨ ((pX l).toNat = 0 ∧ 0 < rest l) := hb
 refine Fn.of Try.func6 rfl (by kernel_rfl) Try.ntmps6 (by simp) (fun w => [(0, old w.heap.size (byt l))]) (fun w => (Start.old rfl Start.nil)) fun w₀ => ?_
 refine GS ?_
 refine TL ?_
 refine RA rfl ?_
 refine RN ?_
 refine A.seq ?_
 refine GS ?_
 refine TL ?_
 refine RM rfl ?_
 refine RS (ok_lenB Try.underlying31 rfl LA) ?_
 refine RBS rfl rfl rfl (.bool false) (by simp; omega) ?_
 refine RN ?_
 refine A.no rfl ?_
 refine A.skip ?_
 refine EN ?_
 refine GS ?_
 refine TN 5 ?_
 refine RM rfl ?_
 refine RS (ok_call (GetRecord_len l (by omega : l.length ≠ 45)) (Args.cons rfl (Le.old _ _) Args.nil)) ?_
 refine RM rfl ?_
 refine RS (ok_extractV rfl rfl) ?_
 refine RS (ok_extractV rfl rfl) ?_
 refine RN ?_
 refine ⟨_, _, eff_alloc (n := 146) (d := 3) (k := 1000003) zero29 (by decide), fun b3 hb3 => ?_⟩
 have hBb3 := hb3.1
 refine TF 6 ?_
 refine RN ?_
 refine ⟨_, eff_storeA (n := 146) (s := 1000003) (size29.of (rfl)) rfl rfl (rfl) hBb3 rfl (rfl) (LO 0 rfl (LV 3 rfl (LV 20 rfl LN))), ?_⟩
 refine TL ?_
 refine RA rfl ?_
 refine RN ?_
 refine GS ?_
 refine TN 5 ?_
 refine RM rfl ?_
 refine RS (ok_call (GetEntry_bad l h hbe) (Args.cons rfl (Le.old _ _) Args.nil)) ?_
 refine RM rfl ?_
 refine RS (ok_extractV rfl rfl) ?_
 refine RS (ok_extractV rfl rfl) ?_
 refine RN ?_
 refine ⟨_, _, eff_alloc (n := 146) (d := 5) (k := 1000005) zero43 (by decide), fun b5 hb5 => ?_⟩
 have hBb5 := hb5.1
 refine TF 6 ?_
 refine RN ?_
 refine ⟨_, eff_storeA (n := 146) (s := 1000005) (size43.of (rfl)) rfl rfl (rfl) hBb5 rfl (rfl) (LO 0 rfl (LV 3 rfl (LV 4 rfl (LV 5 rfl (LV 25 rfl (LT 1000003 rfl LN)))))), ?_⟩
 refine TL ?_
 refine RA rfl ?_
 refine RN ?_
 refine GS ?_
 refine TN 5 ?_
 refine RM rfl ?_
 refine RS (ok_call (GetCell_len l (by omega : l.length ≠ 48)) (Args.cons rfl (Le.old _ _) Args.nil)) ?_
 refine RM rfl ?_
 refine RS (ok_extractV rfl rfl) ?_
 refine RS (ok_extractV rfl rfl) ?_
 refine RN ?_
 refine ⟨_, _, eff_alloc (n := 146) (d := 7) (k := 1000007) zero52 (by decide), fun b7 hb7 => ?_⟩
 have hBb7 := hb7.1
 refine TF 6 ?_
 refine RN ?_
 refine ⟨_, eff_storeA (n := 146) (s := 1000007) (size52.of (rfl)) rfl rfl (rfl) hBb7 rfl (rfl) (LO 0 rfl (LV 3 rfl (LV 4 rfl (LV 5 rfl (LV 6 rfl (LV 7 rfl (LV 30 rfl (LT 1000003 rfl (LT 1000005 rfl LN))))))))), ?_⟩
 refine TL ?_
 refine RA rfl ?_
 refine RN ?_
 refine A.sub (KC 0 rfl (KC 3 rfl (KC 4 rfl (KC 5 rfl (KC 6 rfl (KC 7 rfl (KC 8 rfl (KC 1000003 rfl (KC 1000005 rfl (KC 1000007 rfl KN)))))))))) ?_
 refine A.seq ?_
 refine GD ?_
 refine TL ?_
 refine RM rfl ?_
 refine RBS rfl rfl rfl (.bool false) (congrArg Value.bool (beq_eq_false_iff_ne.2 (szE_ne (by omega : l.length ≠ 45)))) ?_
 refine RM rfl ?_
 refine RK ?_
 refine RK ?_
 refine RK ?_
 refine RK ?_
 refine RK ?_
 refine RK ?_
 refine RP rfl rfl ?_
 refine RM rfl ?_
 refine RQ (ok_move rfl) ?_
 refine RQ (ok_bin rfl rfl rfl) ?_; refine RZ (.bool false) (by rfl) ?_
 refine RQ (ok_move rfl) ?_
 refine RK ?_
 refine RK ?_
 refine RK ?_
 refine RK ?_
 refine RK ?_
 refine RK ?_
 refine RQ (ok_pick rfl rfl) ?_
 refine RP rfl rfl ?_
 refine RM rfl ?_
 refine RQ (ok_move rfl) ?_
 refine RQ (ok_bin rfl rfl rfl) ?_; refine RZ (.bool false) (congrArg Value.bool (beq_eq_false_iff_ne.2 (szE_ne (by omega : l.length ≠ 48)))) ?_
 refine RQ (ok_move rfl) ?_
 refine RK ?_
 refine RK ?_
 refine RK ?_
 refine RK ?_
 refine RK ?_
 refine RK ?_
 refine RQ (ok_pick rfl rfl) ?_
 refine RP rfl rfl ?_
 refine RN ?_
 refine A.sub (KC 0 rfl (KC 3 rfl (KC 4 rfl (KC 5 rfl (KC 6 rfl (KC 7 rfl (KC 8 rfl (KC 64 rfl (KC 1000003 rfl (KC 1000005 rfl (KC 1000007 rfl KN))))))))))) ?_
 refine A.no rfl ?_
 refine A.skip ?_
 refine EN ?_
 refine A.seq ?_
 refine GS ?_
 refine TL ?_
 refine RM rfl ?_
 refine RBS rfl rfl rfl (.bool true) (congrArg Value.bool (bne_iff_ne.2 (szE_ne (by omega : l.length ≠ 45)))) ?_
 refine RM rfl ?_
 refine RQ (ok_loadA (s := 1000003) (by decide) Try.underlying29 rfl (size29.of (rfl)) rfl rfl) ?_
 refine RQ (ok_lit [] ([.int .u8 0] ++ [.int .u32 0] ++ [.int .u64 0] ++ List.replicate 32 (.int .u8 0)) (fun _ _ => rfl) (by kernel_rfl)) ?_
 refine RQ (ok_neqT (n := 4) true flat29 (by decide) (by kernel_rfl) (by kernel_rfl) rfl rfl (kinRec 0 0 0 (t := zD) rfl) (kinRec 0 0 0 (t := zD) rfl) ⟨fun _ => rfl, fun _ => rfl⟩) ?_; refine RZ (.bool false) (by rfl) ?_
 refine RP rfl rfl ?_
 refine RM rfl ?_
 refine RQ (ok_move rfl) ?_
 refine RQ (ok_bin rfl rfl rfl) ?_; refine RZ (.bool true) (by rfl) ?_
 refine RQ (ok_move rfl) ?_
 refine RQ (ok_loadA (s := 1000005) (by decide) Try.underlying43 rfl (size43.of (rfl)) rfl rfl) ?_
 refine RQ (ok_lit [] ([.int .u8 0] ++ List.replicate 32 (.int .u8 0)) (fun _ _ => rfl) (by kernel_rfl)) ?_
 refine RQ (ok_neqT (n := 4) true flat43 (by decide) (by kernel_rfl) (by kernel_rfl) rfl rfl (kinEnt 0 (t := zD) rfl) (kinEnt 0 (t := zD) rfl) ⟨fun _ => rfl, fun _ => rfl⟩) ?_; refine RZ (.bool false) (by rfl) ?_
 refine RQ (ok_pick rfl rfl) ?_
 refine RP rfl rfl ?_
 refine RM rfl ?_
 refine RQ (ok_move rfl) ?_
 refine RQ (ok_bin rfl rfl rfl) ?_; refine RZ (.bool true) (congrArg Value.bool (bne_iff_ne.2 (szE_ne (by omega : l.length ≠ 48)))) ?_
 refine RQ (ok_move rfl) ?_
 refine RQ (ok_loadA (s := 1000007) (by decide) Try.underlying52 rfl (size52.of (rfl)) rfl rfl) ?_
 refine RQ (ok_lit [] (List.replicate 32 (.int .u8 0) ++ [.int .u64 0] ++ [.int .u64 0]) (fun _ _ => rfl) (by kernel_rfl)) ?_
 refine RQ (ok_neqT (n := 4) true flat52 (by decide) (by kernel_rfl) (by kernel_rfl) rfl rfl (kinCel (t := zD) rfl 0 0) (kinCel (t := zD) rfl 0 0) ⟨fun _ => rfl, fun _ => rfl⟩) ?_; refine RZ (.bool false) (by rfl) ?_
 refine RQ (ok_pick rfl rfl) ?_
 refine RP rfl rfl ?_
 refine RM rfl ?_
 refine RQ (ok_move rfl) ?_
 refine RQ (ok_move rfl) ?_
 refine RQ (ok_lenB Try.underlying31 rfl LA) ?_
 refine RQ (ok_call (length10_fn l.length 48) (A2 rfl rfl)) ?_
 refine RQ (ok_bin rfl rfl rfl) ?_; refine RZ (.bool false) (by simp) ?_
 refine RP rfl rfl ?_
 refine RN ?_
 refine A.sub (KC 0 rfl (KC 4 rfl (KC 6 rfl (KC 96 rfl (KC 1000003 rfl (KC 1000005 rfl (KC 1000007 rfl KN))))))) ?_
 refine A.no rfl ?_
 refine A.skip ?_
 refine EN ?_
 refine GS ?_
 refine TL ?_
 refine RA rfl ?_
 refine RN ?_
 refine A.seq ?_
 refine GS ?_
 refine TL ?_
 refine RA rfl ?_
 refine RN ?_
 refine A.block ?_
 refine A.loop (ι := Nat) (fun i => 1 ≤ i ∧ (i ≤ l.length ∨ i = 1)) (fun i => [(0, old w₀.heap.size (byt l)), (4, .v (.int .i64 (szE l.length 45))), (6, .v (.int .i64 1)), (9, .v (nI (restT l i))), (10, .v (nI i))]) (fun i => l.length - i) 1 ?_ ?_ ?_
 ·exact ⟨Nat.le_refl _, .inr rfl⟩
 ·exact (KC 0 rfl (KC 4 rfl (KC 6 rfl (KE 9 rfl (by rw [restT_one]; rfl) (KE 10 rfl (by rfl) KN)))))
 intro i hi'
 refine A.seq ?_
 refine GS ?_
 refine TL ?_
 refine RM rfl ?_
 refine RM rfl ?_
 refine RS (ok_lenB Try.underlying31 rfl LA) ?_
 refine RB rfl rfl rfl ?_
 refine RN ?_
 refine A.cond rfl (fun hc100 => ?_) (fun hc100 => ?_)
 ·have hi : i < l.length := by simp at hc100; omega
  have hr := restT_le l i
  have hb8 := (l.getD i 0).toNat_lt
  refine A.skip ?_
  refine EN ?_
  refine A.seq ?_
  refine A.block ?_
  refine GE ?_
  refine TL ?_
  refine RM rfl ?_
  refine RM rfl ?_
  refine RM rfl ?_
  refine RS (ok_index (d := byteD (l.getD i 0)) Try.underlying31 info5 rfl LA rfl (Int.natCast_nonneg _) (rest_byteD hi)) ?_
  refine RS (ok_load Try.underlying5 rfl rfl) ?_
  refine RS (ok_conv Try.underlying5 Try.underlying3 rfl) ?_; refine RZ (nI ((l.getD i 0).toNat)) (by rw [wrapN_i64 (by omega)]) ?_
  refine RBS rfl rfl rfl (nI (restT l i + (l.getD i 0).toNat)) (by rw [wrap_i64 (by omega) (by omega)]; exact congrArg (Value.int .i64) (by omega)) ?_
  refine RA rfl ?_
  refine RN ?_
  refine End.normal_block ?_
  refine EN ?_
  refine GE ?_
  refine TL ?_
  refine RM rfl ?_
  refine RBS rfl rfl rfl (nI (i + 1)) (by rw [wrap_i64 (by omega) (by omega)]; exact congrArg (Value.int .i64) (by omega)) ?_
  refine RA rfl ?_
  refine RN ?_
  refine End.normal_then ?_
  refine End.again (i + 1) ?_ ?_ ?_
  ·exact ⟨by omega, by omega⟩
  ·show _ - _ < _ - _; omega
  ·exact (KC 0 rfl (KC 4 rfl (KC 6 rfl (KE 9 rfl (by rw [restT_succ hi'.1 hi]) (KC 10 rfl KN)))))
 ·have hi2 : l.length ≤ i := by simp at hc100; omega
  refine A.exit ?_
  refine End.exit_then ?_
  refine End.exit_then ?_
  refine End.exit_here ?_
  refine EN ?_
  rcases hO with hO | hO
  ·refine GS ?_
   refine TL ?_
   refine RM rfl ?_
   refine RS (ok_lenB Try.underlying31 rfl LA) ?_
   refine RBS rfl rfl rfl (.bool true) (by simp; omega) ?_
   refine RM rfl ?_
   refine RQ (ok_move rfl) ?_
   refine RQ (ok_index (d := byteD (pX l)) Try.underlying31 info5 rfl LA rfl (by decide) (rest_byteD (i := 0) (by omega))) ?_
   refine RQ (ok_load Try.underlying5 rfl rfl) ?_
   refine RQ (ok_bin rfl rfl rfl) ?_; refine RZ (.bool true) (by simp; omega) ?_
   refine RQ (ok_move rfl) ?_
   refine RK ?_
   refine RK ?_
   refine RK ?_
   refine RK ?_
   refine RK ?_
   refine RunK.skippedU rfl rfl rfl rfl ?_
   refine RunK.skippedU rfl rfl rfl rfl ?_
   refine RK ?_
   refine RQ (ok_pick rfl rfl) ?_
   refine RP rfl rfl ?_
   refine RA rfl ?_
   refine RN ?_
   refine GS ?_
   refine TL ?_
   refine RM rfl ?_
   refine RM rfl ?_
   refine RS (ok_lenB Try.underlying31 rfl LA) ?_
   refine RS (ok_call (length10_fn l.length 45) (A2 rfl rfl)) ?_
   refine RM rfl ?_
   refine RS (ok_call (wanted_fn _ _ _ (wE_ne (szE_ne (by omega : l.length ≠ 45)))) (A3 rfl rfl rfl)) ?_
   refine RM rfl ?_
   refine RQ (ok_move rfl) ?_
   refine RQ (ok_move rfl) ?_
   refine RQ (ok_lenB Try.underlying31 rfl LA) ?_
   refine RQ (ok_call (length10_fn l.length 33) (A2 rfl rfl)) ?_
   refine RQ (ok_move rfl) ?_
   refine RQ (ok_call (wanted_fn _ _ _ (wE_t (szE_eq h))) (A3 rfl rfl rfl)) ?_
   refine RP rfl rfl ?_
   refine RM rfl ?_
   refine RQ (ok_call lives10_fn Args.nil) ?_
   refine RP rfl rfl ?_
   refine RA rfl ?_
   refine RN ?_
   refine A.sub (KC 2 rfl KN) ?_
   refine A.ret ?_
   exact End.ret1 rfl rfl (by first | exact Le.refl _ | exact Le.old _ _)
  ·refine GS ?_
   refine TL ?_
   refine RM rfl ?_
   refine RS (ok_lenB Try.underlying31 rfl LA) ?_
   refine RBS rfl rfl rfl (.bool true) (by simp; omega) ?_
   refine RM rfl ?_
   refine RQ (ok_move rfl) ?_
   refine RQ (ok_index (d := byteD (pX l)) Try.underlying31 info5 rfl LA rfl (by decide) (rest_byteD (i := 0) (by omega))) ?_
   refine RQ (ok_load Try.underlying5 rfl rfl) ?_
   refine RQ (ok_bin rfl rfl rfl) ?_; refine RZ (.bool false) (by simp; omega) ?_
   refine RQ (ok_move rfl) ?_
   refine RQ (ok_move rfl) ?_
   refine RQ (ok_index (d := byteD (pX l)) Try.underlying31 info5 rfl LA rfl (by decide) (rest_byteD (i := 0) (by omega))) ?_
   refine RQ (ok_load Try.underlying5 rfl rfl) ?_
   refine RQ (ok_bin rfl rfl rfl) ?_; refine RZ (.bool true) (by simp [hO]) ?_
   refine RQ (ok_move rfl) ?_
   refine RQ (ok_move rfl) ?_; refine RZ (nI (rest l)) (by rw [restT_end hi2]) ?_
   refine RQ (ok_bin rfl rfl rfl) ?_; refine RZ (.bool true) (by simp; omega) ?_
   refine RQ (ok_pick rfl rfl) ?_
   refine RQ (ok_pick rfl rfl) ?_
   refine RP rfl rfl ?_
   refine RA rfl ?_
   refine RN ?_
   refine GS ?_
   refine TL ?_
   refine RM rfl ?_
   refine RM rfl ?_
   refine RS (ok_lenB Try.underlying31 rfl LA) ?_
   refine RS (ok_call (length10_fn l.length 45) (A2 rfl rfl)) ?_
   refine RM rfl ?_
   refine RS (ok_call (wanted_fn _ _ _ (wE_ne (szE_ne (by omega : l.length ≠ 45)))) (A3 rfl rfl rfl)) ?_
   refine RM rfl ?_
   refine RQ (ok_move rfl) ?_
   refine RQ (ok_move rfl) ?_
   refine RQ (ok_lenB Try.underlying31 rfl LA) ?_
   refine RQ (ok_call (length10_fn l.length 33) (A2 rfl rfl)) ?_
   refine RQ (ok_move rfl) ?_
   refine RQ (ok_call (wanted_fn _ _ _ (wE_t (szE_eq h))) (A3 rfl rfl rfl)) ?_
   refine RP rfl rfl ?_
   refine RM rfl ?_
   refine RQ (ok_call lives10_fn Args.nil) ?_
   refine RP rfl rfl ?_
   refine RA rfl ?_
   refine RN ?_
   refine A.sub (KC 2 rfl KN) ?_
   refine A.ret ?_
   exact End.ret1 rfl rfl (by first | exact Le.refl _ | exact Le.old _ _)
set_option maxHeartbeats 4000000 in
theorem rget_cel (l : List UInt8) (h60 : l.length ≤ 60) (h : l.length = 48) : Fn Try.prog 6 [byt l] (.v (.bool true)) := by
 have hO : 2 < (pX l).toNat ∨ (pX l).toNat = 0 ∨ (1 ≤ (pX l).toNat ∧ (pX l).toNat ≤ 2) := by omega
 refine Fn.of Try.func6 rfl (by kernel_rfl) Try.ntmps6 (by simp) (fun w => [(0, old w.heap.size (byt l))]) (fun w => (Start.old rfl Start.nil)) fun w₀ => ?_
 refine GS ?_
 refine TL ?_
 refine RA rfl ?_
 refine RN ?_
 refine A.seq ?_
 refine GS ?_
 refine TL ?_
 refine RM rfl ?_
 refine RS (ok_lenB Try.underlying31 rfl LA) ?_
 refine RBS rfl rfl rfl (.bool false) (by simp; omega) ?_
 refine RN ?_
 refine A.no rfl ?_
 refine A.skip ?_
 refine EN ?_
 refine GS ?_
 refine TN 5 ?_
 refine RM rfl ?_
 refine RS (ok_call (GetRecord_len l (by omega : l.length ≠ 45)) (Args.cons rfl (Le.old _ _) Args.nil)) ?_
 refine RM rfl ?_
 refine RS (ok_extractV rfl rfl) ?_
 refine RS (ok_extractV rfl rfl) ?_
 refine RN ?_
 refine ⟨_, _, eff_alloc (n := 146) (d := 3) (k := 1000003) zero29 (by decide), fun b3 hb3 => ?_⟩
 have hBb3 := hb3.1
 refine TF 6 ?_
 refine RN ?_
 refine ⟨_, eff_storeA (n := 146) (s := 1000003) (size29.of (rfl)) rfl rfl (rfl) hBb3 rfl (rfl) (LO 0 rfl (LV 3 rfl (LV 20 rfl LN))), ?_⟩
 refine TL ?_
 refine RA rfl ?_
 refine RN ?_
 refine GS ?_
 refine TN 5 ?_
 refine RM rfl ?_
 refine RS (ok_call (GetEntry_len l (by omega : l.length ≠ 33)) (Args.cons rfl (Le.old _ _) Args.nil)) ?_
 refine RM rfl ?_
 refine RS (ok_extractV rfl rfl) ?_
 refine RS (ok_extractV rfl rfl) ?_
 refine RN ?_
 refine ⟨_, _, eff_alloc (n := 146) (d := 5) (k := 1000005) zero43 (by decide), fun b5 hb5 => ?_⟩
 have hBb5 := hb5.1
 refine TF 6 ?_
 refine RN ?_
 refine ⟨_, eff_storeA (n := 146) (s := 1000005) (size43.of (rfl)) rfl rfl (rfl) hBb5 rfl (rfl) (LO 0 rfl (LV 3 rfl (LV 4 rfl (LV 5 rfl (LV 25 rfl (LT 1000003 rfl LN)))))), ?_⟩
 refine TL ?_
 refine RA rfl ?_
 refine RN ?_
 refine GS ?_
 refine TN 5 ?_
 refine RM rfl ?_
 refine RS (ok_call (GetCell_ok l h) (Args.cons rfl (Le.old _ _) Args.nil)) ?_
 refine RM rfl ?_
 refine RS (ok_extractV rfl rfl) ?_
 refine RS (ok_extractV rfl rfl) ?_
 refine RN ?_
 refine ⟨_, _, eff_alloc (n := 146) (d := 7) (k := 1000007) zero52 (by decide), fun b7 hb7 => ?_⟩
 have hBb7 := hb7.1
 refine TF 6 ?_
 refine RN ?_
 refine ⟨_, eff_storeA (n := 146) (s := 1000007) (size52.of (cel_len (cD_len h) _ _)) rfl rfl (cel_one _ _ _) hBb7 rfl (by rw [cel_len (cD_len h)]; rfl) (LO 0 rfl (LV 3 rfl (LV 4 rfl (LV 5 rfl (LV 6 rfl (LV 7 rfl (LV 30 rfl (LT 1000003 rfl (LT 1000005 rfl LN))))))))), ?_⟩
 refine TL ?_
 refine RA rfl ?_
 refine RN ?_
 refine A.sub (KC 0 rfl (KC 3 rfl (KC 4 rfl (KC 5 rfl (KC 6 rfl (KC 7 rfl (KC 8 rfl (KC 1000003 rfl (KC 1000005 rfl (KC 1000007 rfl KN)))))))))) ?_
 refine A.seq ?_
 refine GD ?_
 refine TL ?_
 refine RM rfl ?_
 refine RBS rfl rfl rfl (.bool false) (congrArg Value.bool (beq_eq_false_iff_ne.2 (szE_ne (by omega : l.length ≠ 45)))) ?_
 refine RM rfl ?_
 refine RK ?_
 refine RK ?_
 refine RK ?_
 refine RK ?_
 refine RK ?_
 refine RK ?_
 refine RP rfl rfl ?_
 refine RM rfl ?_
 refine RQ (ok_move rfl) ?_
 refine RQ (ok_bin rfl rfl rfl) ?_; refine RZ (.bool false) (congrArg Value.bool (beq_eq_false_iff_ne.2 (szE_ne (by omega : l.length ≠ 33)))) ?_
 refine RQ (ok_move rfl) ?_
 refine RK ?_
 refine RK ?_
 refine RK ?_
 refine RK ?_
 refine RK ?_
 refine RK ?_
 refine RQ (ok_pick rfl rfl) ?_
 refine RP rfl rfl ?_
 refine RM rfl ?_
 refine RQ (ok_move rfl) ?_
 refine RQ (ok_bin rfl rfl rfl) ?_; refine RZ (.bool true) (by rfl) ?_
 refine RQ (ok_move rfl) ?_
 refine RQ (ok_loadA (s := 1000007) (by decide) Try.underlying52 rfl (size52.of (cel_len (cD_len h) _ _)) rfl rfl) ?_
 refine RQ (ok_call (refCell_fn (cD l) (cD_len h) (cE l) (cM l) (getQ_lt _) (getQ_lt _)) (A1 rfl)) ?_
 refine RQ (ok_str (l := celL (cD l) (cE l) (cM l)) Try.underlying31 Try.underlying5 Try.underlying9 rfl LA) ?_
 refine RQ (ok_move rfl) ?_
 refine RQ (ok_str (l := l) Try.underlying31 Try.underlying5 Try.underlying9 rfl LA) ?_
 refine RQ (ok_sne rfl rfl) ?_; refine RZ (.bool false) (by rw [cel_back h]; simp) ?_
 refine RQ (ok_pick rfl rfl) ?_
 refine RP rfl rfl ?_
 refine RN ?_
 refine A.sub (KC 0 rfl (KC 3 rfl (KC 4 rfl (KC 5 rfl (KC 6 rfl (KC 7 rfl (KC 8 rfl (KC 64 rfl (KC 1000003 rfl (KC 1000005 rfl (KC 1000007 rfl KN))))))))))) ?_
 refine A.no rfl ?_
 refine A.skip ?_
 refine EN ?_
 refine A.seq ?_
 refine GS ?_
 refine TL ?_
 refine RM rfl ?_
 refine RBS rfl rfl rfl (.bool true) (congrArg Value.bool (bne_iff_ne.2 (szE_ne (by omega : l.length ≠ 45)))) ?_
 refine RM rfl ?_
 refine RQ (ok_loadA (s := 1000003) (by decide) Try.underlying29 rfl (size29.of (rfl)) rfl rfl) ?_
 refine RQ (ok_lit [] ([.int .u8 0] ++ [.int .u32 0] ++ [.int .u64 0] ++ List.replicate 32 (.int .u8 0)) (fun _ _ => rfl) (by kernel_rfl)) ?_
 refine RQ (ok_neqT (n := 4) true flat29 (by decide) (by kernel_rfl) (by kernel_rfl) rfl rfl (kinRec 0 0 0 (t := zD) rfl) (kinRec 0 0 0 (t := zD) rfl) ⟨fun _ => rfl, fun _ => rfl⟩) ?_; refine RZ (.bool false) (by rfl) ?_
 refine RP rfl rfl ?_
 refine RM rfl ?_
 refine RQ (ok_move rfl) ?_
 refine RQ (ok_bin rfl rfl rfl) ?_; refine RZ (.bool true) (congrArg Value.bool (bne_iff_ne.2 (szE_ne (by omega : l.length ≠ 33)))) ?_
 refine RQ (ok_move rfl) ?_
 refine RQ (ok_loadA (s := 1000005) (by decide) Try.underlying43 rfl (size43.of (rfl)) rfl rfl) ?_
 refine RQ (ok_lit [] ([.int .u8 0] ++ List.replicate 32 (.int .u8 0)) (fun _ _ => rfl) (by kernel_rfl)) ?_
 refine RQ (ok_neqT (n := 4) true flat43 (by decide) (by kernel_rfl) (by kernel_rfl) rfl rfl (kinEnt 0 (t := zD) rfl) (kinEnt 0 (t := zD) rfl) ⟨fun _ => rfl, fun _ => rfl⟩) ?_; refine RZ (.bool false) (by rfl) ?_
 refine RQ (ok_pick rfl rfl) ?_
 refine RP rfl rfl ?_
 refine RM rfl ?_
 refine RQ (ok_move rfl) ?_
 refine RQ (ok_bin rfl rfl rfl) ?_; refine RZ (.bool false) (by rfl) ?_
 refine RQ (ok_move rfl) ?_
 refine RK ?_
 refine RK ?_
 refine RK ?_
 refine RQ (ok_pick rfl rfl) ?_
 refine RP rfl rfl ?_
 refine RM rfl ?_
 refine RQ (ok_move rfl) ?_
 refine RQ (ok_move rfl) ?_
 refine RQ (ok_lenB Try.underlying31 rfl LA) ?_
 refine RQ (ok_call (length10_fn l.length 48) (A2 rfl rfl)) ?_
 refine RQ (ok_bin rfl rfl rfl) ?_; refine RZ (.bool false) (by rw [szE_eq h]; rfl) ?_
 refine RP rfl rfl ?_
 refine RN ?_
 refine A.sub (KC 0 rfl (KC 4 rfl (KC 6 rfl (KC 96 rfl (KC 1000003 rfl (KC 1000005 rfl (KC 1000007 rfl KN))))))) ?_
 refine A.no rfl ?_
 refine A.skip ?_
 refine EN ?_
 refine GS ?_
 refine TL ?_
 refine RA rfl ?_
 refine RN ?_
 refine A.seq ?_
 refine GS ?_
 refine TL ?_
 refine RA rfl ?_
 refine RN ?_
 refine A.block ?_
 refine A.loop (ι := Nat) (fun i => 1 ≤ i ∧ (i ≤ l.length ∨ i = 1)) (fun i => [(0, old w₀.heap.size (byt l)), (4, .v (.int .i64 (szE l.length 45))), (6, .v (.int .i64 (szE l.length 33))), (9, .v (nI (restT l i))), (10, .v (nI i))]) (fun i => l.length - i) 1 ?_ ?_ ?_
 ·exact ⟨Nat.le_refl _, .inr rfl⟩
 ·exact (KC 0 rfl (KC 4 rfl (KC 6 rfl (KE 9 rfl (by rw [restT_one]; rfl) (KE 10 rfl (by rfl) KN)))))
 intro i hi'
 refine A.seq ?_
 refine GS ?_
 refine TL ?_
 refine RM rfl ?_
 refine RM rfl ?_
 refine RS (ok_lenB Try.underlying31 rfl LA) ?_
 refine RB rfl rfl rfl ?_
 refine RN ?_
 refine A.cond rfl (fun hc100 => ?_) (fun hc100 => ?_)
 ·have hi : i < l.length := by simp at hc100; omega
  have hr := restT_le l i
  have hb8 := (l.getD i 0).toNat_lt
  refine A.skip ?_
  refine EN ?_
  refine A.seq ?_
  refine A.block ?_
  refine GE ?_
  refine TL ?_
  refine RM rfl ?_
  refine RM rfl ?_
  refine RM rfl ?_
  refine RS (ok_index (d := byteD (l.getD i 0)) Try.underlying31 info5 rfl LA rfl (Int.natCast_nonneg _) (rest_byteD hi)) ?_
  refine RS (ok_load Try.underlying5 rfl rfl) ?_
  refine RS (ok_conv Try.underlying5 Try.underlying3 rfl) ?_; refine RZ (nI ((l.getD i 0).toNat)) (by rw [wrapN_i64 (by omega)]) ?_
  refine RBS rfl rfl rfl (nI (restT l i + (l.getD i 0).toNat)) (by rw [wrap_i64 (by omega) (by omega)]; exact congrArg (Value.int .i64) (by omega)) ?_
  refine RA rfl ?_
  refine RN ?_
  refine End.normal_block ?_
  refine EN ?_
  refine GE ?_
  refine TL ?_
  refine RM rfl ?_
  refine RBS rfl rfl rfl (nI (i + 1)) (by rw [wrap_i64 (by omega) (by omega)]; exact congrArg (Value.int .i64) (by omega)) ?_
  refine RA rfl ?_
  refine RN ?_
  refine End.normal_then ?_
  refine End.again (i + 1) ?_ ?_ ?_
  ·exact ⟨by omega, by omega⟩
  ·show _ - _ < _ - _; omega
  ·exact (KC 0 rfl (KC 4 rfl (KC 6 rfl (KE 9 rfl (by rw [restT_succ hi'.1 hi]) (KC 10 rfl KN)))))
 ·have hi2 : l.length ≤ i := by simp at hc100; omega
  refine A.exit ?_
  refine End.exit_then ?_
  refine End.exit_then ?_
  refine End.exit_here ?_
  refine EN ?_
  rcases hO with hO | hO | hO
  ·refine GS ?_
   refine TL ?_
   refine RM rfl ?_
   refine RS (ok_lenB Try.underlying31 rfl LA) ?_
   refine RBS rfl rfl rfl (.bool true) (by simp; omega) ?_
   refine RM rfl ?_
   refine RQ (ok_move rfl) ?_
   refine RQ (ok_index (d := byteD (pX l)) Try.underlying31 info5 rfl LA rfl (by decide) (rest_byteD (i := 0) (by omega))) ?_
   refine RQ (ok_load Try.underlying5 rfl rfl) ?_
   refine RQ (ok_bin rfl rfl rfl) ?_; refine RZ (.bool true) (by simp; omega) ?_
   refine RQ (ok_move rfl) ?_
   refine RK ?_
   refine RK ?_
   refine RK ?_
   refine RK ?_
   refine RK ?_
   refine RunK.skippedU rfl rfl rfl rfl ?_
   refine RunK.skippedU rfl rfl rfl rfl ?_
   refine RK ?_
   refine RQ (ok_pick rfl rfl) ?_
   refine RP rfl rfl ?_
   refine RA rfl ?_
   refine RN ?_
   refine GS ?_
   refine TL ?_
   refine RM rfl ?_
   refine RM rfl ?_
   refine RS (ok_lenB Try.underlying31 rfl LA) ?_
   refine RS (ok_call (length10_fn l.length 45) (A2 rfl rfl)) ?_
   refine RM rfl ?_
   refine RS (ok_call (wanted_fn _ _ _ (wE_ne (szE_ne (by omega : l.length ≠ 45)))) (A3 rfl rfl rfl)) ?_
   refine RM rfl ?_
   refine RQ (ok_move rfl) ?_
   refine RQ (ok_move rfl) ?_
   refine RQ (ok_lenB Try.underlying31 rfl LA) ?_
   refine RQ (ok_call (length10_fn l.length 33) (A2 rfl rfl)) ?_
   refine RQ (ok_move rfl) ?_
   refine RQ (ok_call (wanted_fn _ _ _ (wE_ne (szE_ne (by omega : l.length ≠ 33)))) (A3 rfl rfl rfl)) ?_
   refine RP rfl rfl ?_
   refine RM rfl ?_
   refine RQ (ok_call lives10_fn Args.nil) ?_
   refine RP rfl rfl ?_
   refine RA rfl ?_
   refine RN ?_
   refine A.sub (KC 2 rfl KN) ?_
   refine A.ret ?_
   exact End.ret1 rfl rfl (by first | exact Le.refl _ | exact Le.old _ _)
  ·refine GS ?_
   refine TL ?_
   refine RM rfl ?_
   refine RS (ok_lenB Try.underlying31 rfl LA) ?_
   refine RBS rfl rfl rfl (.bool true) (by simp; omega) ?_
   refine RM rfl ?_
   refine RQ (ok_move rfl) ?_
   refine RQ (ok_index (d := byteD (pX l)) Try.underlying31 info5 rfl LA rfl (by decide) (rest_byteD (i := 0) (by omega))) ?_
   refine RQ (ok_load Try.underlying5 rfl rfl) ?_
   refine RQ (ok_bin rfl rfl rfl) ?_; refine RZ (.bool false) (by simp; omega) ?_
   refine RQ (ok_move rfl) ?_
   refine RQ (ok_move rfl) ?_
   refine RQ (ok_index (d := byteD (pX l)) Try.underlying31 info5 rfl LA rfl (by decide) (rest_byteD (i := 0) (by omega))) ?_
   refine RQ (ok_load Try.underlying5 rfl rfl) ?_
   refine RQ (ok_bin rfl rfl rfl) ?_; refine RZ (.bool true) (by simp [hO]) ?_
   refine RQ (ok_move rfl) ?_
   refine RQ (ok_move rfl) ?_; refine RZ (nI (rest l)) (by rw [restT_end hi2]) ?_
   refine RQ (ok_bin rfl rfl rfl) ?_; refine RZ (.bool (decide (0 < rest l))) (congrArg Value.bool (decide_eq_decide.2 (by omega))) ?_
   refine RQ (ok_pick rfl rfl) ?_
   refine RQ (ok_pick rfl rfl) ?_
   refine RP rfl rfl ?_
   refine RA rfl ?_
   refine RN ?_
   refine GS ?_
   refine TL ?_
   refine RM rfl ?_
   refine RM rfl ?_
   refine RS (ok_lenB Try.underlying31 rfl LA) ?_
   refine RS (ok_call (length10_fn l.length 45) (A2 rfl rfl)) ?_
   refine RM rfl ?_
   refine RS (ok_call (wanted_fn _ _ _ (wE_ne (szE_ne (by omega : l.length ≠ 45)))) (A3 rfl rfl rfl)) ?_
   refine RM rfl ?_
   refine RQ (ok_move rfl) ?_
   refine RQ (ok_move rfl) ?_
   refine RQ (ok_lenB Try.underlying31 rfl LA) ?_
   refine RQ (ok_call (length10_fn l.length 33) (A2 rfl rfl)) ?_
   refine RQ (ok_move rfl) ?_
   refine RQ (ok_call (wanted_fn _ _ _ (wE_ne (szE_ne (by omega : l.length ≠ 33)))) (A3 rfl rfl rfl)) ?_
   refine RP rfl rfl ?_
   refine RM rfl ?_
   refine RQ (ok_call lives10_fn Args.nil) ?_
   refine RP rfl rfl ?_
   refine RA rfl ?_
   refine RN ?_
   refine A.sub (KC 2 rfl KN) ?_
   refine A.ret ?_
   exact End.ret1 rfl rfl (by first | exact Le.refl _ | exact Le.old _ _)
  ·refine GS ?_
   refine TL ?_
   refine RM rfl ?_
   refine RS (ok_lenB Try.underlying31 rfl LA) ?_
   refine RBS rfl rfl rfl (.bool true) (by simp; omega) ?_
   refine RM rfl ?_
   refine RQ (ok_move rfl) ?_
   refine RQ (ok_index (d := byteD (pX l)) Try.underlying31 info5 rfl LA rfl (by decide) (rest_byteD (i := 0) (by omega))) ?_
   refine RQ (ok_load Try.underlying5 rfl rfl) ?_
   refine RQ (ok_bin rfl rfl rfl) ?_; refine RZ (.bool false) (by simp; omega) ?_
   refine RQ (ok_move rfl) ?_
   refine RQ (ok_move rfl) ?_
   refine RQ (ok_index (d := byteD (pX l)) Try.underlying31 info5 rfl LA rfl (by decide) (rest_byteD (i := 0) (by omega))) ?_
   refine RQ (ok_load Try.underlying5 rfl rfl) ?_
   refine RQ (ok_bin rfl rfl rfl) ?_; refine RZ (.bool false) (by simp; omega) ?_
   refine RQ (ok_move rfl) ?_
   refine RK ?_
   refine RK ?_
   refine RQ (ok_pick rfl rfl) ?_
   refine RQ (ok_pick rfl rfl) ?_
   refine RP rfl rfl ?_
   refine RA rfl ?_
   refine RN ?_
   refine GS ?_
   refine TL ?_
   refine RM rfl ?_
   refine RM rfl ?_
   refine RS (ok_lenB Try.underlying31 rfl LA) ?_
   refine RS (ok_call (length10_fn l.length 45) (A2 rfl rfl)) ?_
   refine RM rfl ?_
   refine RS (ok_call (wanted_fn _ _ _ (wE_ne (szE_ne (by omega : l.length ≠ 45)))) (A3 rfl rfl rfl)) ?_
   refine RM rfl ?_
   refine RQ (ok_move rfl) ?_
   refine RQ (ok_move rfl) ?_
   refine RQ (ok_lenB Try.underlying31 rfl LA) ?_
   refine RQ (ok_call (length10_fn l.length 33) (A2 rfl rfl)) ?_
   refine RQ (ok_move rfl) ?_
   refine RQ (ok_call (wanted_fn _ _ _ (wE_ne (szE_ne (by omega : l.length ≠ 33)))) (A3 rfl rfl rfl)) ?_
   refine RP rfl rfl ?_
   refine RM rfl ?_
   refine RQ (ok_call lives10_fn Args.nil) ?_
   refine RP rfl rfl ?_
   refine RA rfl ?_
   refine RN ?_
   refine A.sub (KC 2 rfl KN) ?_
   refine A.ret ?_
   exact End.ret1 rfl rfl (by first | exact Le.refl _ | exact Le.old _ _)
set_option maxHeartbeats 4000000 in
theorem rget_no (l : List UInt8) (h60 : l.length ≤ 60) (h1 : l.length ≠ 45) (h2 : l.length ≠ 33) (h3 : l.length ≠ 48) : Fn Try.prog 6 [byt l] (.v (.bool true)) := by
 have hO : l.length = 0 ∨ (0 < l.length ∧ 2 < (pX l).toNat) ∨ (0 < l.length ∧ (pX l).toNat = 0) ∨ (0 < l.length ∧ (1 ≤ (pX l).toNat ∧ (pX l).toNat ≤ 2)) := by omega
 refine Fn.of Try.func6 rfl (by kernel_rfl) Try.ntmps6 (by simp) (fun w => [(0, old w.heap.size (byt l))]) (fun w => (Start.old rfl Start.nil)) fun w₀ => ?_
 refine GS ?_
 refine TL ?_
 refine RA rfl ?_
 refine RN ?_
 refine A.seq ?_
 refine GS ?_
 refine TL ?_
 refine RM rfl ?_
 refine RS (ok_lenB Try.underlying31 rfl LA) ?_
 refine RBS rfl rfl rfl (.bool false) (by simp; omega) ?_
 refine RN ?_
 refine A.no rfl ?_
 refine A.skip ?_
 refine EN ?_
 refine GS ?_
 refine TN 5 ?_
 refine RM rfl ?_
 refine RS (ok_call (GetRecord_len l (by omega : l.length ≠ 45)) (Args.cons rfl (Le.old _ _) Args.nil)) ?_
 refine RM rfl ?_
 refine RS (ok_extractV rfl rfl) ?_
 refine RS (ok_extractV rfl rfl) ?_
 refine RN ?_
 refine ⟨_, _, eff_alloc (n := 146) (d := 3) (k := 1000003) zero29 (by decide), fun b3 hb3 => ?_⟩
 have hBb3 := hb3.1
 refine TF 6 ?_
 refine RN ?_
 refine ⟨_, eff_storeA (n := 146) (s := 1000003) (size29.of (rfl)) rfl rfl (rfl) hBb3 rfl (rfl) (LO 0 rfl (LV 3 rfl (LV 20 rfl LN))), ?_⟩
 refine TL ?_
 refine RA rfl ?_
 refine RN ?_
 refine GS ?_
 refine TN 5 ?_
 refine RM rfl ?_
 refine RS (ok_call (GetEntry_len l (by omega : l.length ≠ 33)) (Args.cons rfl (Le.old _ _) Args.nil)) ?_
 refine RM rfl ?_
 refine RS (ok_extractV rfl rfl) ?_
 refine RS (ok_extractV rfl rfl) ?_
 refine RN ?_
 refine ⟨_, _, eff_alloc (n := 146) (d := 5) (k := 1000005) zero43 (by decide), fun b5 hb5 => ?_⟩
 have hBb5 := hb5.1
 refine TF 6 ?_
 refine RN ?_
 refine ⟨_, eff_storeA (n := 146) (s := 1000005) (size43.of (rfl)) rfl rfl (rfl) hBb5 rfl (rfl) (LO 0 rfl (LV 3 rfl (LV 4 rfl (LV 5 rfl (LV 25 rfl (LT 1000003 rfl LN)))))), ?_⟩
 refine TL ?_
 refine RA rfl ?_
 refine RN ?_
 refine GS ?_
 refine TN 5 ?_
 refine RM rfl ?_
 refine RS (ok_call (GetCell_len l (by omega : l.length ≠ 48)) (Args.cons rfl (Le.old _ _) Args.nil)) ?_
 refine RM rfl ?_
 refine RS (ok_extractV rfl rfl) ?_
 refine RS (ok_extractV rfl rfl) ?_
 refine RN ?_
 refine ⟨_, _, eff_alloc (n := 146) (d := 7) (k := 1000007) zero52 (by decide), fun b7 hb7 => ?_⟩
 have hBb7 := hb7.1
 refine TF 6 ?_
 refine RN ?_
 refine ⟨_, eff_storeA (n := 146) (s := 1000007) (size52.of (rfl)) rfl rfl (rfl) hBb7 rfl (rfl) (LO 0 rfl (LV 3 rfl (LV 4 rfl (LV 5 rfl (LV 6 rfl (LV 7 rfl (LV 30 rfl (LT 1000003 rfl (LT 1000005 rfl LN))))))))), ?_⟩
 refine TL ?_
 refine RA rfl ?_
 refine RN ?_
 refine A.sub (KC 0 rfl (KC 3 rfl (KC 4 rfl (KC 5 rfl (KC 6 rfl (KC 7 rfl (KC 8 rfl (KC 1000003 rfl (KC 1000005 rfl (KC 1000007 rfl KN)))))))))) ?_
 refine A.seq ?_
 refine GD ?_
 refine TL ?_
 refine RM rfl ?_
 refine RBS rfl rfl rfl (.bool false) (congrArg Value.bool (beq_eq_false_iff_ne.2 (szE_ne (by omega : l.length ≠ 45)))) ?_
 refine RM rfl ?_
 refine RK ?_
 refine RK ?_
 refine RK ?_
 refine RK ?_
 refine RK ?_
 refine RK ?_
 refine RP rfl rfl ?_
 refine RM rfl ?_
 refine RQ (ok_move rfl) ?_
 refine RQ (ok_bin rfl rfl rfl) ?_; refine RZ (.bool false) (congrArg Value.bool (beq_eq_false_iff_ne.2 (szE_ne (by omega : l.length ≠ 33)))) ?_
 refine RQ (ok_move rfl) ?_
 refine RK ?_
 refine RK ?_
 refine RK ?_
 refine RK ?_
 refine RK ?_
 refine RK ?_
 refine RQ (ok_pick rfl rfl) ?_
 refine RP rfl rfl ?_
 refine RM rfl ?_
 refine RQ (ok_move rfl) ?_
 refine RQ (ok_bin rfl rfl rfl) ?_; refine RZ (.bool false) (congrArg Value.bool (beq_eq_false_iff_ne.2 (szE_ne (by omega : l.length ≠ 48)))) ?_
 refine RQ (ok_move rfl) ?_
 refine RK ?_
 refine RK ?_
 refine RK ?_
 refine RK ?_
 refine RK ?_
 refine RK ?_
 refine RQ (ok_pick rfl rfl) ?_
 refine RP rfl rfl ?_
 refine RN ?_
 refine A.sub (KC 0 rfl (KC 3 rfl (KC 4 rfl (KC 5 rfl (KC 6 rfl (KC 7 rfl (KC 8 rfl (KC 64 rfl (KC 1000003 rfl (KC 1000005 rfl (KC 1000007 rfl KN))))))))))) ?_
 refine A.no rfl ?_
 refine A.skip ?_
 refine EN ?_
 refine A.seq ?_
 refine GS ?_
 refine TL ?_
 refine RM rfl ?_
 refine RBS rfl rfl rfl (.bool true) (congrArg Value.bool (bne_iff_ne.2 (szE_ne (by omega : l.length ≠ 45)))) ?_
 refine RM rfl ?_
 refine RQ (ok_loadA (s := 1000003) (by decide) Try.underlying29 rfl (size29.of (rfl)) rfl rfl) ?_
 refine RQ (ok_lit [] ([.int .u8 0] ++ [.int .u32 0] ++ [.int .u64 0] ++ List.replicate 32 (.int .u8 0)) (fun _ _ => rfl) (by kernel_rfl)) ?_
 refine RQ (ok_neqT (n := 4) true flat29 (by decide) (by kernel_rfl) (by kernel_rfl) rfl rfl (kinRec 0 0 0 (t := zD) rfl) (kinRec 0 0 0 (t := zD) rfl) ⟨fun _ => rfl, fun _ => rfl⟩) ?_; refine RZ (.bool false) (by rfl) ?_
 refine RP rfl rfl ?_
 refine RM rfl ?_
 refine RQ (ok_move rfl) ?_
 refine RQ (ok_bin rfl rfl rfl) ?_; refine RZ (.bool true) (congrArg Value.bool (bne_iff_ne.2 (szE_ne (by omega : l.length ≠ 33)))) ?_
 refine RQ (ok_move rfl) ?_
 refine RQ (ok_loadA (s := 1000005) (by decide) Try.underlying43 rfl (size43.of (rfl)) rfl rfl) ?_
 refine RQ (ok_lit [] ([.int .u8 0] ++ List.replicate 32 (.int .u8 0)) (fun _ _ => rfl) (by kernel_rfl)) ?_
 refine RQ (ok_neqT (n := 4) true flat43 (by decide) (by kernel_rfl) (by kernel_rfl) rfl rfl (kinEnt 0 (t := zD) rfl) (kinEnt 0 (t := zD) rfl) ⟨fun _ => rfl, fun _ => rfl⟩) ?_; refine RZ (.bool false) (by rfl) ?_
 refine RQ (ok_pick rfl rfl) ?_
 refine RP rfl rfl ?_
 refine RM rfl ?_
 refine RQ (ok_move rfl) ?_
 refine RQ (ok_bin rfl rfl rfl) ?_; refine RZ (.bool true) (congrArg Value.bool (bne_iff_ne.2 (szE_ne (by omega : l.length ≠ 48)))) ?_
 refine RQ (ok_move rfl) ?_
 refine RQ (ok_loadA (s := 1000007) (by decide) Try.underlying52 rfl (size52.of (rfl)) rfl rfl) ?_
 refine RQ (ok_lit [] (List.replicate 32 (.int .u8 0) ++ [.int .u64 0] ++ [.int .u64 0]) (fun _ _ => rfl) (by kernel_rfl)) ?_
 refine RQ (ok_neqT (n := 4) true flat52 (by decide) (by kernel_rfl) (by kernel_rfl) rfl rfl (kinCel (t := zD) rfl 0 0) (kinCel (t := zD) rfl 0 0) ⟨fun _ => rfl, fun _ => rfl⟩) ?_; refine RZ (.bool false) (by rfl) ?_
 refine RQ (ok_pick rfl rfl) ?_
 refine RP rfl rfl ?_
 refine RM rfl ?_
 refine RQ (ok_move rfl) ?_
 refine RQ (ok_move rfl) ?_
 refine RQ (ok_lenB Try.underlying31 rfl LA) ?_
 refine RQ (ok_call (length10_fn l.length 48) (A2 rfl rfl)) ?_
 refine RQ (ok_bin rfl rfl rfl) ?_; refine RZ (.bool false) (by simp) ?_
 refine RP rfl rfl ?_
 refine RN ?_
 refine A.sub (KC 0 rfl (KC 4 rfl (KC 6 rfl (KC 96 rfl (KC 1000003 rfl (KC 1000005 rfl (KC 1000007 rfl KN))))))) ?_
 refine A.no rfl ?_
 refine A.skip ?_
 refine EN ?_
 refine GS ?_
 refine TL ?_
 refine RA rfl ?_
 refine RN ?_
 refine A.seq ?_
 refine GS ?_
 refine TL ?_
 refine RA rfl ?_
 refine RN ?_
 refine A.block ?_
 refine A.loop (ι := Nat) (fun i => 1 ≤ i ∧ (i ≤ l.length ∨ i = 1)) (fun i => [(0, old w₀.heap.size (byt l)), (4, .v (.int .i64 (szE l.length 45))), (6, .v (.int .i64 (szE l.length 33))), (9, .v (nI (restT l i))), (10, .v (nI i))]) (fun i => l.length - i) 1 ?_ ?_ ?_
 ·exact ⟨Nat.le_refl _, .inr rfl⟩
 ·exact (KC 0 rfl (KC 4 rfl (KC 6 rfl (KE 9 rfl (by rw [restT_one]; rfl) (KE 10 rfl (by rfl) KN)))))
 intro i hi'
 refine A.seq ?_
 refine GS ?_
 refine TL ?_
 refine RM rfl ?_
 refine RM rfl ?_
 refine RS (ok_lenB Try.underlying31 rfl LA) ?_
 refine RB rfl rfl rfl ?_
 refine RN ?_
 refine A.cond rfl (fun hc100 => ?_) (fun hc100 => ?_)
 ·have hi : i < l.length := by simp at hc100; omega
  have hr := restT_le l i
  have hb8 := (l.getD i 0).toNat_lt
  refine A.skip ?_
  refine EN ?_
  refine A.seq ?_
  refine A.block ?_
  refine GE ?_
  refine TL ?_
  refine RM rfl ?_
  refine RM rfl ?_
  refine RM rfl ?_
  refine RS (ok_index (d := byteD (l.getD i 0)) Try.underlying31 info5 rfl LA rfl (Int.natCast_nonneg _) (rest_byteD hi)) ?_
  refine RS (ok_load Try.underlying5 rfl rfl) ?_
  refine RS (ok_conv Try.underlying5 Try.underlying3 rfl) ?_; refine RZ (nI ((l.getD i 0).toNat)) (by rw [wrapN_i64 (by omega)]) ?_
  refine RBS rfl rfl rfl (nI (restT l i + (l.getD i 0).toNat)) (by rw [wrap_i64 (by omega) (by omega)]; exact congrArg (Value.int .i64) (by omega)) ?_
  refine RA rfl ?_
  refine RN ?_
  refine End.normal_block ?_
  refine EN ?_
  refine GE ?_
  refine TL ?_
  refine RM rfl ?_
  refine RBS rfl rfl rfl (nI (i + 1)) (by rw [wrap_i64 (by omega) (by omega)]; exact congrArg (Value.int .i64) (by omega)) ?_
  refine RA rfl ?_
  refine RN ?_
  refine End.normal_then ?_
  refine End.again (i + 1) ?_ ?_ ?_
  ·exact ⟨by omega, by omega⟩
  ·show _ - _ < _ - _; omega
  ·exact (KC 0 rfl (KC 4 rfl (KC 6 rfl (KE 9 rfl (by rw [restT_succ hi'.1 hi]) (KC 10 rfl KN)))))
 ·have hi2 : l.length ≤ i := by simp at hc100; omega
  refine A.exit ?_
  refine End.exit_then ?_
  refine End.exit_then ?_
  refine End.exit_here ?_
  refine EN ?_
  rcases hO with hO | ⟨hp, hO⟩ | ⟨hp, hO⟩ | ⟨hp, hO⟩
  ·refine GS ?_
   refine TL ?_
   refine RM rfl ?_
   refine RS (ok_lenB Try.underlying31 rfl LA) ?_
   refine RBS rfl rfl rfl (.bool false) (by rw [hO]; rfl) ?_
   refine RM rfl ?_
   refine RK ?_
   refine RK ?_
   refine RK ?_
   refine RK ?_
   refine RK ?_
   refine RunK.skippedU rfl rfl rfl rfl ?_
   refine RunK.skippedU rfl rfl rfl rfl ?_
   refine RunK.skippedU rfl rfl rfl rfl ?_
   refine RunK.skippedU rfl rfl rfl rfl ?_
   refine RunK.skippedU rfl rfl rfl rfl ?_
   refine RunK.skippedU rfl rfl rfl rfl ?_
   refine RunK.skippedU rfl rfl rfl rfl ?_
   refine RunK.skippedU rfl rfl rfl rfl ?_
   refine RK ?_
   refine RP rfl rfl ?_
   refine RA rfl ?_
   refine RN ?_
   refine GS ?_
   refine TL ?_
   refine RM rfl ?_
   refine RM rfl ?_
   refine RS (ok_lenB Try.underlying31 rfl LA) ?_
   refine RS (ok_call (length10_fn l.length 45) (A2 rfl rfl)) ?_
   refine RM rfl ?_
   refine RS (ok_call (wanted_fn _ _ _ (wE_ne (szE_ne (by omega : l.length ≠ 45)))) (A3 rfl rfl rfl)) ?_
   refine RM rfl ?_
   refine RQ (ok_move rfl) ?_
   refine RQ (ok_move rfl) ?_
   refine RQ (ok_lenB Try.underlying31 rfl LA) ?_
   refine RQ (ok_call (length10_fn l.length 33) (A2 rfl rfl)) ?_
   refine RQ (ok_move rfl) ?_
   refine RQ (ok_call (wanted_fn _ _ _ (wE_ne (szE_ne (by omega : l.length ≠ 33)))) (A3 rfl rfl rfl)) ?_
   refine RP rfl rfl ?_
   refine RM rfl ?_
   refine RQ (ok_call lives10_fn Args.nil) ?_
   refine RP rfl rfl ?_
   refine RA rfl ?_
   refine RN ?_
   refine A.sub (KC 2 rfl KN) ?_
   refine A.ret ?_
   exact End.ret1 rfl rfl (by first | exact Le.refl _ | exact Le.old _ _)
  ·refine GS ?_
   refine TL ?_
   refine RM rfl ?_
   refine RS (ok_lenB Try.underlying31 rfl LA) ?_
   refine RBS rfl rfl rfl (.bool true) (by simp; omega) ?_
   refine RM rfl ?_
   refine RQ (ok_move rfl) ?_
   refine RQ (ok_index (d := byteD (pX l)) Try.underlying31 info5 rfl LA rfl (by decide) (rest_byteD (i := 0) (by omega))) ?_
   refine RQ (ok_load Try.underlying5 rfl rfl) ?_
   refine RQ (ok_bin rfl rfl rfl) ?_; refine RZ (.bool true) (by simp; omega) ?_
   refine RQ (ok_move rfl) ?_
   refine RK ?_
   refine RK ?_
   refine RK ?_
   refine RK ?_
   refine RK ?_
   refine RunK.skippedU rfl rfl rfl rfl ?_
   refine RunK.skippedU rfl rfl rfl rfl ?_
   refine RK ?_
   refine RQ (ok_pick rfl rfl) ?_
   refine RP rfl rfl ?_
   refine RA rfl ?_
   refine RN ?_
   refine GS ?_
   refine TL ?_
   refine RM rfl ?_
   refine RM rfl ?_
   refine RS (ok_lenB Try.underlying31 rfl LA) ?_
   refine RS (ok_call (length10_fn l.length 45) (A2 rfl rfl)) ?_
   refine RM rfl ?_
   refine RS (ok_call (wanted_fn _ _ _ (wE_ne (szE_ne (by omega : l.length ≠ 45)))) (A3 rfl rfl rfl)) ?_
   refine RM rfl ?_
   refine RQ (ok_move rfl) ?_
   refine RQ (ok_move rfl) ?_
   refine RQ (ok_lenB Try.underlying31 rfl LA) ?_
   refine RQ (ok_call (length10_fn l.length 33) (A2 rfl rfl)) ?_
   refine RQ (ok_move rfl) ?_
   refine RQ (ok_call (wanted_fn _ _ _ (wE_ne (szE_ne (by omega : l.length ≠ 33)))) (A3 rfl rfl rfl)) ?_
   refine RP rfl rfl ?_
   refine RM rfl ?_
   refine RQ (ok_call lives10_fn Args.nil) ?_
   refine RP rfl rfl ?_
   refine RA rfl ?_
   refine RN ?_
   refine A.sub (KC 2 rfl KN) ?_
   refine A.ret ?_
   exact End.ret1 rfl rfl (by first | exact Le.refl _ | exact Le.old _ _)
  ·refine GS ?_
   refine TL ?_
   refine RM rfl ?_
   refine RS (ok_lenB Try.underlying31 rfl LA) ?_
   refine RBS rfl rfl rfl (.bool true) (by simp; omega) ?_
   refine RM rfl ?_
   refine RQ (ok_move rfl) ?_
   refine RQ (ok_index (d := byteD (pX l)) Try.underlying31 info5 rfl LA rfl (by decide) (rest_byteD (i := 0) (by omega))) ?_
   refine RQ (ok_load Try.underlying5 rfl rfl) ?_
   refine RQ (ok_bin rfl rfl rfl) ?_; refine RZ (.bool false) (by simp; omega) ?_
   refine RQ (ok_move rfl) ?_
   refine RQ (ok_move rfl) ?_
   refine RQ (ok_index (d := byteD (pX l)) Try.underlying31 info5 rfl LA rfl (by decide) (rest_byteD (i := 0) (by omega))) ?_
   refine RQ (ok_load Try.underlying5 rfl rfl) ?_
   refine RQ (ok_bin rfl rfl rfl) ?_; refine RZ (.bool true) (by simp [hO]) ?_
   refine RQ (ok_move rfl) ?_
   refine RQ (ok_move rfl) ?_; refine RZ (nI (rest l)) (by rw [restT_end hi2]) ?_
   refine RQ (ok_bin rfl rfl rfl) ?_; refine RZ (.bool (decide (0 < rest l))) (congrArg Value.bool (decide_eq_decide.2 (by omega))) ?_
   refine RQ (ok_pick rfl rfl) ?_
   refine RQ (ok_pick rfl rfl) ?_
   refine RP rfl rfl ?_
   refine RA rfl ?_
   refine RN ?_
   refine GS ?_
   refine TL ?_
   refine RM rfl ?_
   refine RM rfl ?_
   refine RS (ok_lenB Try.underlying31 rfl LA) ?_
   refine RS (ok_call (length10_fn l.length 45) (A2 rfl rfl)) ?_
   refine RM rfl ?_
   refine RS (ok_call (wanted_fn _ _ _ (wE_ne (szE_ne (by omega : l.length ≠ 45)))) (A3 rfl rfl rfl)) ?_
   refine RM rfl ?_
   refine RQ (ok_move rfl) ?_
   refine RQ (ok_move rfl) ?_
   refine RQ (ok_lenB Try.underlying31 rfl LA) ?_
   refine RQ (ok_call (length10_fn l.length 33) (A2 rfl rfl)) ?_
   refine RQ (ok_move rfl) ?_
   refine RQ (ok_call (wanted_fn _ _ _ (wE_ne (szE_ne (by omega : l.length ≠ 33)))) (A3 rfl rfl rfl)) ?_
   refine RP rfl rfl ?_
   refine RM rfl ?_
   refine RQ (ok_call lives10_fn Args.nil) ?_
   refine RP rfl rfl ?_
   refine RA rfl ?_
   refine RN ?_
   refine A.sub (KC 2 rfl KN) ?_
   refine A.ret ?_
   exact End.ret1 rfl rfl (by first | exact Le.refl _ | exact Le.old _ _)
  ·refine GS ?_
   refine TL ?_
   refine RM rfl ?_
   refine RS (ok_lenB Try.underlying31 rfl LA) ?_
   refine RBS rfl rfl rfl (.bool true) (by simp; omega) ?_
   refine RM rfl ?_
   refine RQ (ok_move rfl) ?_
   refine RQ (ok_index (d := byteD (pX l)) Try.underlying31 info5 rfl LA rfl (by decide) (rest_byteD (i := 0) (by omega))) ?_
   refine RQ (ok_load Try.underlying5 rfl rfl) ?_
   refine RQ (ok_bin rfl rfl rfl) ?_; refine RZ (.bool false) (by simp; omega) ?_
   refine RQ (ok_move rfl) ?_
   refine RQ (ok_move rfl) ?_
   refine RQ (ok_index (d := byteD (pX l)) Try.underlying31 info5 rfl LA rfl (by decide) (rest_byteD (i := 0) (by omega))) ?_
   refine RQ (ok_load Try.underlying5 rfl rfl) ?_
   refine RQ (ok_bin rfl rfl rfl) ?_; refine RZ (.bool false) (by simp; omega) ?_
   refine RQ (ok_move rfl) ?_
   refine RK ?_
   refine RK ?_
   refine RQ (ok_pick rfl rfl) ?_
   refine RQ (ok_pick rfl rfl) ?_
   refine RP rfl rfl ?_
   refine RA rfl ?_
   refine RN ?_
   refine GS ?_
   refine TL ?_
   refine RM rfl ?_
   refine RM rfl ?_
   refine RS (ok_lenB Try.underlying31 rfl LA) ?_
   refine RS (ok_call (length10_fn l.length 45) (A2 rfl rfl)) ?_
   refine RM rfl ?_
   refine RS (ok_call (wanted_fn _ _ _ (wE_ne (szE_ne (by omega : l.length ≠ 45)))) (A3 rfl rfl rfl)) ?_
   refine RM rfl ?_
   refine RQ (ok_move rfl) ?_
   refine RQ (ok_move rfl) ?_
   refine RQ (ok_lenB Try.underlying31 rfl LA) ?_
   refine RQ (ok_call (length10_fn l.length 33) (A2 rfl rfl)) ?_
   refine RQ (ok_move rfl) ?_
   refine RQ (ok_call (wanted_fn _ _ _ (wE_ne (szE_ne (by omega : l.length ≠ 33)))) (A3 rfl rfl rfl)) ?_
   refine RP rfl rfl ?_
   refine RM rfl ?_
   refine RQ (ok_call lives10_fn Args.nil) ?_
   refine RP rfl rfl ?_
   refine RA rfl ?_
   refine RN ?_
   refine A.sub (KC 2 rfl KN) ?_
   refine A.ret ?_
   exact End.ret1 rfl rfl (by first | exact Le.refl _ | exact Le.old _ _)
theorem RecordsGet_fn (l : List UInt8) : Fn Try.prog 6 [byt l] (.v (.bool true)) := by
 by_cases h60 : 60 < l.length
 ·exact rget_long l h60
 by_cases h1 : l.length = 45
 ·by_cases hb : BadL l
  ·exact rget_rec_bad l (by omega) h1 hb
  ·exact rget_rec_ok l (by omega) h1 hb
 by_cases h2 : l.length = 33
 ·by_cases hb : BadL l
  ·exact rget_ent_bad l (by omega) h2 hb
  ·exact rget_ent_ok l (by omega) h2 hb
 by_cases h3 : l.length = 48
 ·exact rget_cel l (by omega) h3
 ·exact rget_no l (by omega) h1 h2 h3
/-- The examples' bytes. -/
def exE10 : List UInt8 := List.replicate 31 0 ++ [1]
theorem bR0 (x : UInt8) : Try.prog.built 29 [(0, byteV x)] = some (recV x 0 0 zD).toArray := by kernel_rfl
theorem bR1 (x : UInt8) : Try.prog.built 29 [(0, byteV x), (1, aggV [nW 1, nQ 0])] = some (recV x 1 0 zD).toArray := by kernel_rfl
theorem bR2 (x : UInt8) : Try.prog.built 29 [(0, byteV x), (1, aggV [nW 0, nQ 1])] = some (recV x 0 1 zD).toArray := by kernel_rfl
theorem bR3 (x : UInt8) : Try.prog.built 29 [(0, byteV x), (2, aggV (exE10.map byteV))] = some (recV x 0 0 exE10).toArray := by kernel_rfl
theorem bE0 (x : UInt8) : Try.prog.built 43 [(0, byteV x)] = some (entV x zD).toArray := by kernel_rfl
theorem bE1 (x : UInt8) : Try.prog.built 43 [(0, byteV x), (1, aggV (exE10.map byteV))] = some (entV x exE10).toArray := by kernel_rfl
theorem set_byte {l : List UInt8} {i : Nat} (b : UInt8) : (l.map byteV).set i (byteV b) = (l.set i b).map byteV := List.map_set.symm
theorem get_byte {l : List UInt8} {i : Nat} (h : i < l.length) : (l.map byteV)[i]? = some (byteV (l.getD i 0)) := by
 rw [List.getElem?_map, List.getElem?_eq_getElem h, List.getD_eq_getElem?_getD, List.getElem?_eq_getElem h]; rfl
/-- A byte 2 in front; then the last byte one more. -/
def exL (n : Nat) : List UInt8 := (List.replicate n 0).set 0 2
def exM (n : Nat) : List UInt8 := (exL n).set (n - 1) (UInt8.ofNat (((exL n).getD (n - 1) 0).toNat + 1))
theorem exL_len (n : Nat) : (exL n).length = n := by simp [exL]
theorem exM_len (n : Nat) : (exM n).length = n := by simp [exM, exL_len]
theorem zeros_len (n : Nat) : (List.replicate n (0 : UInt8)).length = n := List.length_replicate

set_option maxHeartbeats 4000000 in
theorem RecordsKnown_fn  : Fn Try.prog 8 [] (.v (.bool true)) := by
 refine Fn.of Try.func8 rfl (by kernel_rfl) Try.ntmps8 (by simp) (fun w => []) (fun w => Start.nil) fun w₀ => ?_
 refine GS ?_
 refine TL ?_
 refine RA rfl ?_
 refine RN ?_
 refine A.seq ?_
 refine GS ?_
 refine TL ?_
 refine RA rfl ?_
 refine RN ?_
 refine A.block ?_
 refine A.loop (ι := Nat) (fun i => i ≤ 256) (fun i => [(1, .v (nI i))]) (fun i => 256 - i) 0 ?_ ?_ ?_
 ·exact Nat.zero_le _
 ·exact (KE 1 rfl (by rfl) KN)
 intro i hi'
 refine A.seq ?_
 refine GS ?_
 refine TL ?_
 refine RM rfl ?_
 refine RB rfl rfl rfl ?_
 refine RN ?_
 refine A.cond rfl (fun hc6 => ?_) (fun hc6 => ?_)
 ·have hi : i < 256 := by simp at hc6; omega
  refine A.skip ?_
  refine EN ?_
  refine A.seq ?_
  refine A.block ?_
  refine GS ?_
  refine TL ?_
  refine RM rfl ?_
  refine RS (ok_conv Try.underlying3 Try.underlying5 rfl) ?_; refine RZ (byteV (UInt8.ofNat i)) (by rw [wrapN_u8 (by omega)]; exact byteV_nat i (by omega)) ?_
  refine RA rfl ?_
  refine RN ?_
  refine GS ?_
  refine TL ?_
  refine RM rfl ?_
  refine RM rfl ?_
  refine RBS rfl rfl rfl (.int .i64 ((i : Int) - 3)) (by rw [wrap_i64 (by omega) (by omega)]) ?_
  refine RS (ok_call (RecordsSlots_fn (UInt8.ofNat i) ((i : Int) - 3)) (A2 rfl rfl)) ?_
  refine RS (ok_not rfl) ?_; refine RZ (.bool false) (by rfl) ?_
  refine RM rfl ?_
  refine RQ (ok_move rfl) ?_
  refine RQ (ok_litS [(0, byteV (UInt8.ofNat i))] (recV (UInt8.ofNat i) 0 0 zD) ⟨rfl, rfl, trivial⟩ (bR0 _)) ?_
  refine RQ (ok_call (RecordsRecord_fn (UInt8.ofNat i) 0 0 zD rfl (by decide) (by decide)) (A1 rfl)) ?_
  refine RQ (ok_not rfl) ?_; refine RZ (.bool false) (by rfl) ?_
  refine RP rfl rfl ?_
  refine RM rfl ?_
  refine RQ (ok_move rfl) ?_
  refine RQ (ok_litS [(0, nW 1)] ([nW 1, nQ 0]) ⟨rfl, rfl, trivial⟩ (buildN0 1)) ?_
  refine RQ (ok_litS [(0, byteV (UInt8.ofNat i)), (1, aggV [nW 1, nQ 0])] (recV (UInt8.ofNat i) 1 0 zD) ⟨rfl, rfl, rfl, rfl, trivial⟩ (bR1 _)) ?_
  refine RQ (ok_call (RecordsRecord_fn (UInt8.ofNat i) 1 0 zD rfl (by decide) (by decide)) (A1 rfl)) ?_
  refine RQ (ok_not rfl) ?_; refine RZ (.bool false) (by rfl) ?_
  refine RP rfl rfl ?_
  refine RM rfl ?_
  refine RQ (ok_move rfl) ?_
  refine RQ (ok_litS [(1, nQ 1)] ([nW 0, nQ 1]) ⟨rfl, rfl, trivial⟩ (buildN1 1)) ?_
  refine RQ (ok_litS [(0, byteV (UInt8.ofNat i)), (1, aggV [nW 0, nQ 1])] (recV (UInt8.ofNat i) 0 1 zD) ⟨rfl, rfl, rfl, rfl, trivial⟩ (bR2 _)) ?_
  refine RQ (ok_call (RecordsRecord_fn (UInt8.ofNat i) 0 1 zD rfl (by decide) (by decide)) (A1 rfl)) ?_
  refine RQ (ok_not rfl) ?_; refine RZ (.bool false) (by rfl) ?_
  refine RP rfl rfl ?_
  refine RM rfl ?_
  refine RQ (ok_move rfl) ?_
  refine RQ (ok_litS [(31, .int .u8 1)] (exE10.map byteV) ⟨rfl, rfl, trivial⟩ (by kernel_rfl)) ?_
  refine RQ (ok_litS [(0, byteV (UInt8.ofNat i)), (2, aggV (exE10.map byteV))] (recV (UInt8.ofNat i) 0 0 exE10) ⟨rfl, rfl, rfl, rfl, trivial⟩ (bR3 _)) ?_
  refine RQ (ok_call (RecordsRecord_fn (UInt8.ofNat i) 0 0 exE10 rfl (by decide) (by decide)) (A1 rfl)) ?_
  refine RQ (ok_not rfl) ?_; refine RZ (.bool false) (by rfl) ?_
  refine RP rfl rfl ?_
  refine RM rfl ?_
  refine RQ (ok_move rfl) ?_
  refine RQ (ok_litS [(0, byteV (UInt8.ofNat i))] (entV (UInt8.ofNat i) zD) ⟨rfl, rfl, trivial⟩ (bE0 _)) ?_
  refine RQ (ok_call (RecordsEntry_fn (UInt8.ofNat i) zD rfl) (A1 rfl)) ?_
  refine RQ (ok_not rfl) ?_; refine RZ (.bool false) (by rfl) ?_
  refine RP rfl rfl ?_
  refine RM rfl ?_
  refine RQ (ok_move rfl) ?_
  refine RQ (ok_litS [(31, .int .u8 1)] (exE10.map byteV) ⟨rfl, rfl, trivial⟩ (by kernel_rfl)) ?_
  refine RQ (ok_litS [(0, byteV (UInt8.ofNat i)), (1, aggV (exE10.map byteV))] (entV (UInt8.ofNat i) exE10) ⟨rfl, rfl, rfl, rfl, trivial⟩ (bE1 _)) ?_
  refine RQ (ok_call (RecordsEntry_fn (UInt8.ofNat i) exE10 rfl) (A1 rfl)) ?_
  refine RQ (ok_not rfl) ?_; refine RZ (.bool false) (by rfl) ?_
  refine RP rfl rfl ?_
  refine RN ?_
  refine A.sub (KC 1 rfl (KC 55 rfl KN)) ?_
  refine A.no rfl ?_
  refine A.skip ?_
  refine End.normal_block ?_
  refine EN ?_
  refine GE ?_
  refine TL ?_
  refine RM rfl ?_
  refine RBS rfl rfl rfl (nI (i + 1)) (by rw [wrap_i64 (by omega) (by omega)]; exact congrArg (Value.int .i64) (by omega)) ?_
  refine RA rfl ?_
  refine RN ?_
  refine End.normal_then ?_
  refine End.again (i + 1) ?_ ?_ ?_
  ·show _ ≤ _; omega
  ·show _ - _ < _ - _; omega
  ·exact (KC 1 rfl KN)
 ·refine A.exit ?_
  refine End.exit_then ?_
  refine End.exit_then ?_
  refine End.exit_here ?_
  refine EN ?_
  refine A.seq ?_
  refine GS ?_
  refine TL ?_
  refine RA rfl ?_
  refine RN ?_
  refine A.block ?_
  refine A.loop (ι := Nat) (fun n => n ≤ 61) (fun n => [(3, .v (nI n))]) (fun n => 61 - n) 0 ?_ ?_ ?_
  ·exact Nat.zero_le _
  ·exact (KE 3 rfl (by rfl) KN)
  intro n hn'
  refine A.seq ?_
  refine GS ?_
  refine TL ?_
  refine RM rfl ?_
  refine RB rfl rfl rfl ?_
  refine RN ?_
  refine A.cond rfl (fun hc57 => ?_) (fun hc57 => ?_)
  ·have hn : n < 61 := by simp at hc57; omega
   refine A.skip ?_
   refine EN ?_
   refine A.seq ?_
   refine A.block ?_
   refine GS ?_
   refine TN 1 ?_
   refine RM rfl ?_
   refine RN ?_
   refine ⟨_, _, eff_nameF (c := n) List.length_replicate (n := 87) (d := 61) (k := 1000061) rfl rfl (fun B' => ok_make n Try.underlying31 info5 (by decide) rfl rfl rfl rfl rfl (by omega)) (by decide) (by decide), fun b61 hb61 => ?_⟩
   have hBb61 := hb61.1
   refine TL ?_
   refine RA rfl ?_
   refine RN ?_
   refine A.sub (KC 3 rfl (KC 4 rfl (KE 1000061 rfl (show _ = blk b61 5 ((List.replicate n (0 : UInt8)).map byteV) from by rw [List.map_replicate]; rfl) KN))) ?_
   refine A.seq ?_
   refine GS ?_
   refine TL ?_
   refine RS (OpOk.fact (ok_move rfl) (d := byt (List.replicate n 0)) (s := 1000061) (by decide) rfl (slice_byt (List.replicate n 0) (zeros_len n).symm (Nat.le_refl _) (by simp only [maxLen]; omega) (by rw [List.drop_zero, List.take_of_length_le (by rw [List.length_map, zeros_len n]; exact Nat.le_refl _)]))) ?_
   refine RS (ok_call (RecordsGet_fn (List.replicate n 0)) (A1 rfl)) ?_
   refine RS (ok_not rfl) ?_; refine RZ (.bool false) (by rfl) ?_
   refine RN ?_
   refine A.no rfl ?_
   refine A.skip ?_
   refine EN ?_
   refine GS ?_
   refine TL ?_
   refine RM rfl ?_
   refine RB rfl rfl rfl ?_
   refine RN ?_
   refine A.cond rfl (fun hc66 => ?_) (fun hc66 => ?_)
   ·have hn0 : 0 < n := by simp at hc66; omega
    refine GS ?_
    refine TF 2 ?_
    refine RM rfl ?_
    refine RS (ok_indexV 0 Try.underlying31 info5 rfl rfl rfl (by omega)) ?_
    refine RN ?_
    refine ⟨_, eff_storeS (n := 87) (s := 1000061) info5 rfl rfl rfl hBb61 rfl (by first | (rw [List.length_map, List.length_replicate]; omega) | (rw [List.length_map, exL_len]; omega)) (LV 3 rfl (LV 4 rfl LN)), ?_⟩
    refine TL ?_
    refine RN ?_
    refine A.sub (KC 3 rfl (KC 4 rfl (KE 1000061 rfl (show _ = blk b61 5 ((exL n).map byteV) from congrArg _ (set_byte 2)) KN))) ?_
    refine GS ?_
    refine TF 7 ?_
    refine RM rfl ?_
    refine RM rfl ?_
    refine RBS rfl rfl rfl (nI (n - 1)) (by rw [wrap_i64 (by omega) (by omega)]; exact congrArg (Value.int .i64) (by omega)) ?_
    refine RS (ok_indexV (n - 1) Try.underlying31 info5 rfl rfl rfl (by omega)) ?_
    refine RS (ok_loadV (s := 1000061) (by decide) Try.underlying5 rfl rfl rfl (get_byte (by rw [exL_len]; omega))) ?_
    refine RBS rfl rfl rfl (byteV (UInt8.ofNat (((exL n).getD (n - 1) 0).toNat + 1))) (by rw [byteV, Nat.zero_add]; exact congrArg (Value.int .u8) (wrap_u8_nat (((exL n).getD (n - 1) 0).toNat + 1))) ?_
    refine RS (ok_indexV (n - 1) Try.underlying31 info5 rfl rfl rfl (by omega)) ?_
    refine RN ?_
    refine ⟨_, eff_storeS (n := 87) (s := 1000061) info5 rfl rfl rfl hBb61 rfl (by first | (rw [List.length_map, List.length_replicate]; omega) | (rw [List.length_map, exL_len]; omega)) (LV 3 rfl (LV 4 rfl LN)), ?_⟩
    refine TL ?_
    refine RN ?_
    refine A.sub (KC 3 rfl (KC 4 rfl (KE 1000061 rfl (show _ = blk b61 5 ((exM n).map byteV) from congrArg _ (by rw [Nat.zero_add]; exact set_byte _)) KN))) ?_
    refine GS ?_
    refine TL ?_
    refine RS (OpOk.fact (ok_move rfl) (d := byt (exM n)) (s := 1000061) (by decide) rfl (slice_byt (exM n) (exM_len n).symm (Nat.le_refl _) (by simp only [maxLen]; omega) (by rw [List.drop_zero, List.take_of_length_le (by rw [List.length_map, exM_len n]; exact Nat.le_refl _)]))) ?_
    refine RS (ok_call (RecordsGet_fn (exM n)) (A1 rfl)) ?_
    refine RS (ok_not rfl) ?_; refine RZ (.bool false) (by rfl) ?_
    refine RN ?_
    refine A.no rfl ?_
    refine A.skip ?_
    refine End.normal_block ?_
    refine EN ?_
    refine GE ?_
    refine TL ?_
    refine RM rfl ?_
    refine RBS rfl rfl rfl (nI (n + 1)) (by rw [wrap_i64 (by omega) (by omega)]; exact congrArg (Value.int .i64) (by omega)) ?_
    refine RA rfl ?_
    refine RN ?_
    refine End.normal_then ?_
    refine End.again (n + 1) ?_ ?_ ?_
    ·show _ ≤ _; omega
    ·show _ - _ < _ - _; omega
    ·exact (KC 3 rfl KN)
   ·refine A.skip ?_
    refine End.normal_block ?_
    refine EN ?_
    refine GE ?_
    refine TL ?_
    refine RM rfl ?_
    refine RBS rfl rfl rfl (nI (n + 1)) (by rw [wrap_i64 (by omega) (by omega)]; exact congrArg (Value.int .i64) (by omega)) ?_
    refine RA rfl ?_
    refine RN ?_
    refine End.normal_then ?_
    refine End.again (n + 1) ?_ ?_ ?_
    ·show _ ≤ _; omega
    ·show _ - _ < _ - _; omega
    ·exact (KC 3 rfl KN)
  ·refine A.exit ?_
   refine End.exit_then ?_
   refine End.exit_then ?_
   refine End.exit_here ?_
   refine EN ?_
   refine GS ?_
   refine TL ?_
   refine RM rfl ?_
   refine RQ (ok_litP [_] Try.underlying27 info5 zero27 (by decide) ⟨rfl, rfl, trivial⟩ rfl) ?_; refine RZ (aggV (exD10.map byteV)) (by rfl) ?_
   refine RQ (ok_litS [(0, aggV (exD10.map byteV)), (1, nQ 18446744073709551615), (2, nQ 9223372036854775808)] (celV exD10 18446744073709551615 9223372036854775808) ⟨rfl, rfl, rfl, rfl, rfl, rfl, trivial⟩ (by kernel_rfl)) ?_
   refine RQ (ok_call (RecordsCell_fn exD10 rfl 18446744073709551615 9223372036854775808 (by decide) (by decide)) (A1 rfl)) ?_
   refine RP rfl rfl ?_
   refine RM rfl ?_
   refine RQ (ok_call lives10_fn Args.nil) ?_
   refine RP rfl rfl ?_
   refine RA rfl ?_
   refine RN ?_
   refine A.ret ?_
   exact End.ret1 rfl rfl (by first | exact Le.refl _ | exact Le.old _ _)
end Go.Proofs.Ytbmpjeheaemgmaa
