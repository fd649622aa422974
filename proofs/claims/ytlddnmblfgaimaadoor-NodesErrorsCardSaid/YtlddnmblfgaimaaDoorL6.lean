/-
  OWN TEXTS of this seat, put together, part 6: C13e, C13g, Law9, Law4, Law11, C13h.
-/
import Derived.Test.YtlddnmblfgaimaaDoorL1
import Derived.Test.YtlddnmblfgaimaaDoorL5
import Derived.Test.YtlddnmblfgaimaaDoorL2
import Derived.Test.YtlddnmblfgaimaaDoorL3
namespace Go.Proofs.YtlddnmblfgaimaaDoor
open Go Go.RowKit
set_option linter.unusedVariables false
set_option maxRecDepth 20000
set_option linter.unusedSimpArgs false
theorem emp_e {a : UInt8} {j i : Nat} : ((NodT.emp a j).e i).Z := by unfold NodT.e NodT.emp; simp only; rw [ze_get]; exact EntT.z_iff.2 rfl
theorem emp_r {a : UInt8} {j i : Nat} : ((NodT.emp a j).r i).Z := by unfold NodT.r NodT.emp; simp only; rw [zr_get]; exact RecT.z_iff.2 rfl
theorem emp_ck {a : UInt8} (h : a.toNat ≤ 5) (j : Nat) : (NodT.emp a j).ck = 0 := by
 by_cases h0 : a.toNat = 0
 ·exact NodT.ok_R h0 (fun i _ => emp_e) fun i _ => by rw [RecT.z_iff.1 emp_r]; exact RecT.zero_ok
 ·exact NodT.ok_E (by show ¬ 5 < a.toNat; omega) h0 (fun i _ => emp_r) fun i _ => by rw [EntT.z_iff.1 emp_e]; exact EntT.zero_ok
theorem ft_emp {n : Nat} {a : UInt8} {j : Nat} (h1 : 1 ≤ n) (h2 : n ≤ 4096) (ha : a.toNat ≤ 5) (hp : a.toNat ≤ hg n ∧ j < un n (a.toNat + 1)) : ftN n (NodT.emp a j) = 0 := ft_ok h1 h2 (emp_ck ha j) (isP_nat.2 hp) fun i _ _ => ⟨emp_r, emp_e⟩
theorem ft_emp_no {n : Nat} {a : UInt8} {j : Nat} (h1 : 1 ≤ n) (h2 : n ≤ 4096) (ha : a.toNat ≤ 5) (hp : ¬ (a.toNat ≤ hg n ∧ j < un n (a.toNat + 1))) : ftN n (NodT.emp a j) = 17 := ft_no h1 h2 (emp_ck ha j) fun h => hp (isP_nat.1 h)
/-- A node of level 1 with a record. -/
def oddN : NodT := ⟨1, 0, zerosR.set 3 ⟨1, 0, 0, zD⟩, zerosE⟩
theorem oddN_fit : oddN.Fit := ⟨by decide, rfl, rfl, fun r h => (List.mem_or_eq_of_mem_set h).elim (NodT.zr_fit r) fun e => e ▸ ⟨rfl, by decide, by decide⟩, NodT.ze_fit⟩
theorem oddN_ck : oddN.ck = 1 := NodT.ck_Ez (by decide) (by decide) fun h => absurd (h 3 (by decide)).1 (by decide)
theorem emp12 : (NodT.emp 1 2).bl = [1, 0, 0, 0, 2] ++ List.replicate 132 0 := by kernel_rfl
theorem oddN_set : (NodT.emp 1 0).v.set (0 + 2 + 3 * 35 + 0) (.int .u8 1) = oddN.v := by kernel_rfl
def exL13 : List UInt8 := 1 :: List.replicate 137 0
theorem exL13_len : exL13.length = 138 := rfl

set_option maxHeartbeats 4000000 in
theorem lives13_fn  : FnM Tryd.prog 15 tabS [] (.v (.bool true)) := by
 refine FnM.of Tryd.func15 rfl (by kernel_rfl) Tryd.ntmps15 (by simp) (by decide) (fun w => [(1900000, tab 0 (sizV))]) (fun w => (StartM.m (by simp [tabS]) (by decide) StartM.nil)) fun w₀ hM => ?_
 have htab := tabS_hi hM
 refine GS ?_
 refine TL ?_
 refine RA rfl ?_
 refine RN ?_
 refine GS ?_
 refine TL ?_
 refine RS (ok_call (nEmpty_fn 1 2 (by decide)) (A2 rfl rfl)) ?_
 refine RS (ok_callM (nPut_ok (NodT.emp 1 2) (NodT.emp_fit 1 (show 2 < 4294967296 from by decide)) (emp_ck (by decide) 2)) (Sub.cons rfl KN) tabS_v (A1 rfl)) ?_
 refine RM rfl ?_
 refine RS (ok_extract rfl rfl) ?_
 refine RS (ok_extract rfl rfl) ?_
 refine RA rfl ?_
 refine RA rfl ?_
 refine RN ?_
 refine A.seq ?_
 refine GD ?_
 refine TL ?_
 refine RM rfl ?_
 refine RBS rfl rfl rfl (.bool false) (by rfl) ?_
 refine RM rfl ?_
 refine RQ (ok_move rfl) ?_
 refine RQ (ok_lenB Tryd.underlying44 rfl (le_byt _ _)) ?_; refine RZ (nI (137)) (congrArg nI ((NodT.emp_fit 1 (show 2 < 4294967296 from by decide)).bl_length)) ?_
 refine RQ (ok_bin rfl rfl rfl) ?_; refine RZ (.bool false) (by rfl) ?_
 refine RP rfl rfl ?_
 refine RM rfl ?_
 refine RQ (ok_move rfl) ?_
 refine RQ (ok_str (l := (NodT.emp 1 2).bl) Tryd.underlying44 Tryd.underlying5 Tryd.underlying9 rfl (le_byt _ _)) ?_
 refine RQ (ok_make 132 Tryd.underlying44 info5 (by decide) rfl rfl rfl rfl rfl (by decide)) ?_
 refine RQ (ok_str (l := List.replicate 132 0) Tryd.underlying44 Tryd.underlying5 Tryd.underlying9 rfl (fresh_zeros (by decide))) ?_
 refine RQ (ok_addS (a := [1, 0, 0, 0, 2]) (b := List.replicate 132 0) rfl rfl (by decide)) ?_
 refine RQ (ok_sne rfl rfl) ?_; refine RZ (.bool false) (by rw [emp12]; simp) ?_
 refine RP rfl rfl ?_
 refine RN ?_
 refine A.no rfl ?_
 refine A.skip ?_
 refine EN ?_
 refine GS ?_
 refine TN 0 ?_
 refine RN ?_
 refine ⟨_, _, eff_nameF (c := 138) rfl (n := 107) (d := 35) (k := 1000035) rfl rfl (fun B' => ok_make 138 Tryd.underlying44 info5 (by decide) rfl rfl rfl rfl rfl (by decide)) (by decide) (by decide), fun b35 hb35 => ?_⟩
 have hBb35 := hb35.1
 refine TL ?_
 refine RA rfl ?_
 refine RN ?_
 refine A.sub (KC 3 rfl (KC 1000035 rfl (KC 1900000 rfl KN))) ?_
 refine GS ?_
 refine TF 2 ?_
 refine RM rfl ?_
 refine RS (ok_indexV 0 Tryd.underlying44 info5 rfl rfl rfl (by decide)) ?_
 refine RN ?_
 refine ⟨_, eff_storeS (n := 107) (s := 1000035) info5 rfl rfl rfl hBb35 rfl (by decide) (LV 3 rfl (LeftS.cons (t := 1900000) rfl (Surv.tab (by omega)) LN)), ?_⟩
 refine TL ?_
 refine RN ?_
 refine A.sub (KC 3 rfl (KE 1000035 rfl (show _ = blk b35 5 (exL13.map byteV) from by rfl) (KC 1900000 rfl KN))) ?_
 refine GS ?_
 refine TN 4 ?_
 refine RS (ok_callM (nGet_bad [] (by decide)) (Sub.cons rfl KN) tabS_v (Args.cons rfl (byt_nil_le) Args.nil)) ?_
 refine RM rfl ?_
 refine RS (ok_extractV rfl rfl) ?_
 refine RS (ok_extractV rfl rfl) ?_; refine RZ (.int .i64 6) (congrArg (Value.int .i64) (by decide)) ?_
 refine RN ?_
 refine ⟨_, _, eff_alloc (n := 107) (d := 4) (k := 1000004) zero41 (by decide), fun b4 hb4 => ?_⟩
 have hBb4 := hb4.1
 refine TF 5 ?_
 refine RN ?_
 refine ⟨_, eff_storeA (n := 107) (s := 1000004) (size41.of (rfl)) rfl rfl (by first | exact NodT.one _ | exact RecT.one _ | exact EntT.one _ | exact RecT.all1 _ | exact EntT.all1 _ | exact all_byte _ | exact all_bytes _) hBb4 rfl (by first | rfl | (rw [rfl]; rfl)) (LV 3 rfl (LV 41 rfl (LT 1000035 rfl (LeftS.cons (t := 1900000) rfl (Surv.tab (by omega)) LN)))), ?_⟩
 refine TL ?_
 refine RA rfl ?_
 refine RN ?_
 refine GS ?_
 refine TN 5 ?_
 refine RS (ok_build [.v (byteV 6)] Tryd.underlying44 info5 rfl (by decide) (by decide) rfl ⟨rfl, rfl, trivial⟩ (fun d hd w x h => by simp only [List.mem_cons, List.not_mem_nil, or_false] at hd; rcases hd with rfl; exact v_one rfl h)) ?_
 refine RS (ok_callM (nGet_bad [6] (by decide)) (Sub.cons rfl KN) tabS_v (Args.cons rfl (le_byt [6] 1) Args.nil)) ?_
 refine RM rfl ?_
 refine RS (ok_extractV rfl rfl) ?_
 refine RS (ok_extractV rfl rfl) ?_; refine RZ (.int .i64 1) (congrArg (Value.int .i64) (by decide)) ?_
 refine RN ?_
 refine ⟨_, _, eff_alloc (n := 107) (d := 6) (k := 1000006) zero41 (by decide), fun b6 hb6 => ?_⟩
 have hBb6 := hb6.1
 have hlt_b4_b6 : b4 < b6 := hb6.2 1000004 _ _ _ rfl
 refine TF 6 ?_
 refine RN ?_
 refine ⟨_, eff_storeA (n := 107) (s := 1000006) (size41.of (rfl)) rfl rfl (by first | exact NodT.one _ | exact RecT.one _ | exact EntT.one _ | exact RecT.all1 _ | exact EntT.all1 _ | exact all_byte _ | exact all_bytes _) hBb6 rfl (by first | rfl | (rw [rfl]; rfl)) (LV 3 rfl (LV 5 rfl (LV 46 rfl (LB 1000004 rfl (LT 1000035 rfl (LeftS.cons (t := 1900000) rfl (Surv.tab (by omega)) LN)))))), ?_⟩
 refine TL ?_
 refine RA rfl ?_
 refine RN ?_
 refine GS ?_
 refine TN 5 ?_
 refine RS (ok_build [.v (byteV 0)] Tryd.underlying44 info5 rfl (by decide) (by decide) rfl ⟨rfl, rfl, trivial⟩ (fun d hd w x h => by simp only [List.mem_cons, List.not_mem_nil, or_false] at hd; rcases hd with rfl; exact v_one rfl h)) ?_
 refine RS (ok_callM (nGet_bad [0] (by decide)) (Sub.cons rfl KN) tabS_v (Args.cons rfl (le_byt [0] 1) Args.nil)) ?_
 refine RM rfl ?_
 refine RS (ok_extractV rfl rfl) ?_
 refine RS (ok_extractV rfl rfl) ?_; refine RZ (.int .i64 6) (congrArg (Value.int .i64) (by decide)) ?_
 refine RN ?_
 refine ⟨_, _, eff_alloc (n := 107) (d := 8) (k := 1000008) zero41 (by decide), fun b8 hb8 => ?_⟩
 have hBb8 := hb8.1
 have hlt_b4_b8 : b4 < b8 := hb8.2 1000004 _ _ _ rfl
 have hlt_b6_b8 : b6 < b8 := hb8.2 1000006 _ _ _ rfl
 refine TF 6 ?_
 refine RN ?_
 refine ⟨_, eff_storeA (n := 107) (s := 1000008) (size41.of (rfl)) rfl rfl (by first | exact NodT.one _ | exact RecT.one _ | exact EntT.one _ | exact RecT.all1 _ | exact EntT.all1 _ | exact all_byte _ | exact all_bytes _) hBb8 rfl (by first | rfl | (rw [rfl]; rfl)) (LV 3 rfl (LV 5 rfl (LV 7 rfl (LV 51 rfl (LB 1000004 rfl (LB 1000006 rfl (LT 1000035 rfl (LeftS.cons (t := 1900000) rfl (Surv.tab (by omega)) LN)))))))), ?_⟩
 refine TL ?_
 refine RA rfl ?_
 refine RN ?_
 refine GS ?_
 refine TN 5 ?_
 refine RS (OpOk.fact (ok_move rfl) (d := byt (exL13)) (s := 1000035) (by decide) rfl (slice_byt (exL13) (exL13_len).symm (Nat.le_refl _) (by decide) (by rw [List.drop_zero, List.take_of_length_le (by rw [List.length_map, exL13_len]; exact Nat.le_refl _)]))) ?_
 refine RS (ok_callM (nGet_bad exL13 (by decide)) (Sub.cons rfl KN) tabS_v (A1 rfl)) ?_
 refine RM rfl ?_
 refine RS (ok_extractV rfl rfl) ?_
 refine RS (ok_extractV rfl rfl) ?_; refine RZ (.int .i64 5) (congrArg (Value.int .i64) (by decide)) ?_
 refine RN ?_
 refine ⟨_, _, eff_alloc (n := 107) (d := 10) (k := 1000010) zero41 (by decide), fun b10 hb10 => ?_⟩
 have hBb10 := hb10.1
 have hlt_b4_b10 : b4 < b10 := hb10.2 1000004 _ _ _ rfl
 have hlt_b6_b10 : b6 < b10 := hb10.2 1000006 _ _ _ rfl
 have hlt_b8_b10 : b8 < b10 := hb10.2 1000008 _ _ _ rfl
 refine TF 6 ?_
 refine RN ?_
 refine ⟨_, eff_storeA (n := 107) (s := 1000010) (size41.of (rfl)) rfl rfl (by first | exact NodT.one _ | exact RecT.one _ | exact EntT.one _ | exact RecT.all1 _ | exact EntT.all1 _ | exact all_byte _ | exact all_bytes _) hBb10 rfl (by first | rfl | (rw [rfl]; rfl)) (LV 5 rfl (LV 7 rfl (LV 9 rfl (LV 56 rfl (LB 1000004 rfl (LB 1000006 rfl (LB 1000008 rfl (LT 1000035 rfl (LeftS.cons (t := 1900000) rfl (Surv.tab (by omega)) LN))))))))), ?_⟩
 refine TL ?_
 refine RA rfl ?_
 refine RN ?_
 refine A.sub (KC 5 rfl (KC 7 rfl (KC 9 rfl (KC 11 rfl (KC 1000004 rfl (KC 1000006 rfl (KC 1000008 rfl (KC 1000010 rfl (KC 1000035 rfl (KC 1900000 rfl KN)))))))))) ?_
 refine GS ?_
 refine TN 1 ?_
 refine RS (ok_call (nEmpty_fn 1 0 (by decide)) (A2 rfl rfl)) ?_
 refine RN ?_
 refine ⟨_, _, eff_alloc (n := 107) (d := 12) (k := 1000012) zero41 (by decide), fun b12 hb12 => ?_⟩
 have hBb12 := hb12.1
 have hlt_b4_b12 : b4 < b12 := hb12.2 1000004 _ _ _ rfl
 have hlt_b6_b12 : b6 < b12 := hb12.2 1000006 _ _ _ rfl
 have hlt_b8_b12 : b8 < b12 := hb12.2 1000008 _ _ _ rfl
 have hlt_b10_b12 : b10 < b12 := hb12.2 1000010 _ _ _ rfl
 refine TF 2 ?_
 refine RN ?_
 refine ⟨_, eff_storeA (n := 107) (s := 1000012) (size41.of (rfl)) rfl rfl (by first | exact NodT.one _ | exact RecT.one _ | exact EntT.one _ | exact RecT.all1 _ | exact EntT.all1 _ | exact all_byte _ | exact all_bytes _) hBb12 rfl (by first | rfl | (rw [rfl]; rfl)) (LV 5 rfl (LV 7 rfl (LV 9 rfl (LV 11 rfl (LV 12 rfl (LB 1000004 rfl (LB 1000006 rfl (LB 1000008 rfl (LB 1000010 rfl (LT 1000035 rfl (LeftS.cons (t := 1900000) rfl (Surv.tab (by omega)) LN))))))))))), ?_⟩
 refine TL ?_
 refine RN ?_
 refine GS ?_
 refine TF 3 ?_
 refine RS (ok_field field41_2 (by decide) rfl) ?_
 refine RS (ok_indexN (3) Tryd.underlying36 size35 rfl rfl (rfl) (by decide)) ?_
 refine RS (ok_field field35_0 (by decide) rfl) ?_
 refine RN ?_
 refine ⟨_, eff_storeS (n := 107) (s := 1000012) info5 rfl rfl rfl hBb12 rfl (by decide) (LV 5 rfl (LV 7 rfl (LV 9 rfl (LV 11 rfl (LV 12 rfl (LB 1000004 rfl (LB 1000006 rfl (LB 1000008 rfl (LB 1000010 rfl (LT 1000035 rfl (LeftS.cons (t := 1900000) rfl (Surv.tab (by omega)) LN))))))))))), ?_⟩
 refine TL ?_
 refine RN ?_
 refine A.sub (KC 5 rfl (KC 7 rfl (KC 9 rfl (KC 11 rfl (KC 12 rfl (KC 1000004 rfl (KC 1000006 rfl (KC 1000008 rfl (KC 1000010 rfl (KE 1000012 rfl (show _ = blk b12 41 oddN.v from congrArg _ oddN_set) (KC 1000035 rfl (KC 1900000 rfl KN)))))))))))) ?_
 refine GS ?_
 refine TL ?_
 refine RS (ok_call (nEmpty_fn 6 0 (by decide)) (A2 rfl rfl)) ?_
 refine RS (ok_call (nPut_bad (NodT.emp 6 0) (NodT.emp_fit 6 (show 0 < 4294967296 from by decide)) (by rw [NodT.ck_hi (by decide)]; decide)) (A1 rfl)) ?_
 refine RM rfl ?_
 refine RS (ok_extractV rfl rfl) ?_
 refine RS (ok_extractV rfl rfl) ?_; refine RZ (.int .i64 1) (congrArg (Value.int .i64) (NodT.ck_hi (by decide))) ?_
 refine RA rfl ?_
 refine RA rfl ?_
 refine RN ?_
 refine A.seq ?_
 refine GS ?_
 refine TL ?_
 refine RM rfl ?_
 refine RBS rfl rfl rfl (.bool false) (by rfl) ?_
 refine RM rfl ?_
 refine RQ (ok_move rfl) ?_
 refine RQ (ok_bin rfl rfl rfl) ?_; refine RZ (.bool false) (by rfl) ?_
 refine RP rfl rfl ?_
 refine RM rfl ?_
 refine RQ (ok_move rfl) ?_
 refine RQ (ok_bin rfl rfl rfl) ?_; refine RZ (.bool false) (by rfl) ?_
 refine RP rfl rfl ?_
 refine RM rfl ?_
 refine RQ (ok_move rfl) ?_
 refine RQ (ok_bin rfl rfl rfl) ?_; refine RZ (.bool false) (by rfl) ?_
 refine RP rfl rfl ?_
 refine RM rfl ?_
 refine RQ (ok_move rfl) ?_
 refine RQ (ok_bin rfl rfl rfl) ?_; refine RZ (.bool false) (by rfl) ?_
 refine RP rfl rfl ?_
 refine RM rfl ?_
 refine RQ (ok_loadA (s := 1000012) (by decide) Tryd.underlying41 rfl (size41.of (rfl)) rfl rfl) ?_
 refine RQ (ok_call (nCheck_fn oddN oddN_fit) (A1 rfl)) ?_; refine RZ (.int .i64 1) (congrArg (Value.int .i64) (oddN_ck)) ?_
 refine RQ (ok_bin rfl rfl rfl) ?_; refine RZ (.bool false) (by rfl) ?_
 refine RP rfl rfl ?_
 refine RN ?_
 refine A.sub (KC 88 rfl (KC 1000004 rfl (KC 1000006 rfl (KC 1000008 rfl (KC 1000010 rfl (KC 1000012 rfl (KC 1000035 rfl (KC 1900000 rfl KN)))))))) ?_
 refine A.no rfl ?_
 refine A.skip ?_
 refine EN ?_
 refine GS ?_
 refine TL ?_
 refine RS (ok_call (nEmpty_fn 1 0 (by decide)) (A2 rfl rfl)) ?_
 refine RS (ok_call (nFits_fn 5 (NodT.emp 1 0) (NodT.emp_fit 1 (show 0 < 4294967296 from by decide))) (A2 rfl rfl)) ?_; refine RZ (.int .i64 0) (congrArg (Value.int .i64) (ft_emp (n := 5) (by decide) (by decide) (by decide) (by decide))) ?_
 refine RBS rfl rfl rfl (.bool true) (by rfl) ?_
 refine RM rfl ?_
 refine RQ (ok_call (nEmpty_fn 0 2 (by decide)) (A2 rfl rfl)) ?_
 refine RQ (ok_call (nFits_fn 5 (NodT.emp 0 2) (NodT.emp_fit 0 (show 2 < 4294967296 from by decide))) (A2 rfl rfl)) ?_; refine RZ (.int .i64 17) (congrArg (Value.int .i64) (ft_emp_no (n := 5) (by decide) (by decide) (by decide) (by decide))) ?_
 refine RQ (ok_bin rfl rfl rfl) ?_; refine RZ (.bool true) (by rfl) ?_
 refine RP rfl rfl ?_
 refine RM rfl ?_
 refine RQ (ok_call (nEmpty_fn 1 0 (by decide)) (A2 rfl rfl)) ?_
 refine RQ (ok_call (nFits_fn 4 (NodT.emp 1 0) (NodT.emp_fit 1 (show 0 < 4294967296 from by decide))) (A2 rfl rfl)) ?_; refine RZ (.int .i64 17) (congrArg (Value.int .i64) (ft_emp_no (n := 4) (by decide) (by decide) (by decide) (by decide))) ?_
 refine RQ (ok_bin rfl rfl rfl) ?_; refine RZ (.bool true) (by rfl) ?_
 refine RP rfl rfl ?_
 refine RM rfl ?_
 refine RQ (ok_call (nEmpty_fn 0 0 (by decide)) (A2 rfl rfl)) ?_
 refine RQ (ok_call (nFits_fn 0 (NodT.emp 0 0) (NodT.emp_fit 0 (show 0 < 4294967296 from by decide))) (A2 rfl rfl)) ?_; refine RZ (.int .i64 1) (congrArg (Value.int .i64) (ft_bad (by decide))) ?_
 refine RQ (ok_bin rfl rfl rfl) ?_; refine RZ (.bool true) (by rfl) ?_
 refine RP rfl rfl ?_
 refine RA rfl ?_
 refine RN ?_
 refine A.ret ?_
 exact End.ret1 rfl rfl (by first | exact Le.refl _ | exact Le.old _ _)
/-! Whether all parts of bytes are valid. -/
end Go.Proofs.YtlddnmblfgaimaaDoor
namespace Go.Proofs.YtlddnmblfgaimaaDoor
open Go Go.RowKit
set_option linter.unusedVariables false
set_option maxRecDepth 20000
set_option linter.unusedSimpArgs false
theorem bl_inj {x y : NodT} (hx : x.Fit) (hy : y.Fit) (hkx : x.ck = 0) (hky : y.ck = 0) (h : x.bl = y.bl) : x = y := by rw [← (bl_back hx hkx).1, h, (bl_back hy hky).1]

set_option maxHeartbeats 4000000 in
theorem NodesDigest_A (k l j : Nat) (S D : List UInt8) (hk0 : k < 65536) (hl : l < 256) (hj : j < 65536) (hS : S.length = 4) (hD : D.length = 4) (k' l' j' : Nat) (S' D' : List UInt8) (hk0' : k' < 65536) (hl' : l' < 256) (hj' : j' < 65536) (hS' : S'.length = 4) (hD' : D'.length = 4) (hd : sha (ofN k l j S D).bl = sha (ofN k' l' j' S' D').bl) (hv : ofN k l j S D = ofN k' l' j' S' D') : FnM Tryd.prog 5 tabN [.v (aggV (n13V k l j S D)), .v (aggV (n13V k' l' j' S' D'))] (.v (.bool true)) := by
 obtain ⟨x, hxd⟩ : ∃ x, x = ofN k l j S D := ⟨_, rfl⟩
 have hx : x.Fit := hxd ▸ ofN_fit k l j S D
 have hkx : x.ck = 0 := hxd ▸ ofN_ck k l j S D
 have hftx : ftN (nn k) x = 0 := hxd ▸ ofN_ft k l j S D
 obtain ⟨y, hyd⟩ : ∃ x, x = ofN k' l' j' S' D' := ⟨_, rfl⟩
 have hy : y.Fit := hyd ▸ ofN_fit k' l' j' S' D'
 have hky : y.ck = 0 := hyd ▸ ofN_ck k' l' j' S' D'
 have hfty : ftN (nn k') y = 0 := hyd ▸ ofN_ft k' l' j' S' D'
 rw [← hxd, ← hyd] at hd hv
 refine FnM.of Tryd.func5 rfl (by kernel_rfl) Tryd.ntmps5 (by simp) (by decide) (fun w => [(0, .v (aggV (n13V k l j S D))), (1, .v (aggV (n13V k' l' j' S' D'))), (1900000, tab 0 (sizV)), (1900001, tab 1 (H8.list.map u32V)), (1900002, tab 2 (K64.map u32V))]) (fun w => (StartM.v rfl (StartM.v rfl (StartM.m (by simp [tabN]) (by decide) (StartM.m (by simp [tabN]) (by decide) (StartM.m (by simp [tabN]) (by decide) StartM.nil)))))) fun w₀ hM => ?_
 have htab := tabN_hi hM
 refine GS ?_
 refine TN 0 ?_
 refine RN ?_
 refine ⟨_, _, eff_box (n := 79) (d := 2) (k := 1000002) rfl (by decide), fun b2 hb2 => ?_⟩
 have hBb2 := hb2.1
 refine TN 1 ?_
 refine RN ?_
 refine ⟨_, _, eff_box (n := 79) (d := 3) (k := 1000003) rfl (by decide), fun b3 hb3 => ?_⟩
 have hBb3 := hb3.1
 have hlt_b2_b3 : b2 < b3 := hb3.2 1000002 _ _ _ rfl
 refine TL ?_
 refine RA rfl ?_
 refine RN ?_
 refine GS ?_
 refine TN 5 ?_
 refine RS (ok_loadA (s := 1000002) (by decide) Tryd.underlying27 rfl (size27.of (n13_len hS hD)) rfl rfl) ?_
 refine RS (ok_call (Of13_fn k l j S D hk0 hl hj hS hD) (A1 rfl)) ?_; refine RZ (.tuple #[nI (nn k), aggV x.v]) (by rw [hxd]) ?_
 refine RM rfl ?_
 refine RS (ok_extractV rfl rfl) ?_
 refine RS (ok_extractV rfl rfl) ?_
 refine RN ?_
 refine ⟨_, _, eff_alloc (n := 79) (d := 6) (k := 1000006) zero41 (by decide), fun b6 hb6 => ?_⟩
 have hBb6 := hb6.1
 refine TF 7 ?_
 refine RA rfl ?_
 refine RN ?_
 refine ⟨_, eff_storeA (n := 79) (s := 1000006) (size41.of (hx.len)) rfl rfl (by first | exact NodT.one _ | exact RecT.one _ | exact EntT.one _ | exact RecT.all1 _ | exact EntT.all1 _ | exact all_byte _ | exact all_bytes _) hBb6 rfl (by first | rfl | (rw [hx.len]; rfl)) (LV 3 rfl (LV 6 rfl (LT 1000002 rfl (LT 1000003 rfl (LeftS.cons (t := 1900000) rfl (Surv.tab (by omega)) (LeftS.cons (t := 1900001) rfl (Surv.tab (by omega)) (LeftS.cons (t := 1900002) rfl (Surv.tab (by omega)) LN))))))), ?_⟩
 refine TL ?_
 refine RN ?_
 refine GS ?_
 refine TN 5 ?_
 refine RS (ok_loadA (s := 1000003) (by decide) Tryd.underlying27 rfl (size27.of (n13_len hS' hD')) rfl rfl) ?_
 refine RS (ok_call (Of13_fn k' l' j' S' D' hk0' hl' hj' hS' hD') (A1 rfl)) ?_; refine RZ (.tuple #[nI (nn k'), aggV y.v]) (by rw [hyd]) ?_
 refine RM rfl ?_
 refine RS (ok_extractV rfl rfl) ?_
 refine RS (ok_extractV rfl rfl) ?_
 refine RN ?_
 refine ⟨_, _, eff_alloc (n := 79) (d := 8) (k := 1000008) zero41 (by decide), fun b8 hb8 => ?_⟩
 have hBb8 := hb8.1
 have hlt_b6_b8 : b6 < b8 := hb8.2 1000006 _ _ _ rfl
 refine TF 7 ?_
 refine RA rfl ?_
 refine RN ?_
 refine ⟨_, eff_storeA (n := 79) (s := 1000008) (size41.of (hy.len)) rfl rfl (by first | exact NodT.one _ | exact RecT.one _ | exact EntT.one _ | exact RecT.all1 _ | exact EntT.all1 _ | exact all_byte _ | exact all_bytes _) hBb8 rfl (by first | rfl | (rw [hy.len]; rfl)) (LV 6 rfl (LV 8 rfl (LT 1000002 rfl (LT 1000003 rfl (LB 1000006 rfl (LeftS.cons (t := 1900000) rfl (Surv.tab (by omega)) (LeftS.cons (t := 1900001) rfl (Surv.tab (by omega)) (LeftS.cons (t := 1900002) rfl (Surv.tab (by omega)) LN)))))))), ?_⟩
 refine TL ?_
 refine RN ?_
 refine GS ?_
 refine TN 5 ?_
 refine RS (ok_loadA (s := 1000006) (by decide) Tryd.underlying41 rfl (size41.of (hx.len)) rfl rfl) ?_
 refine RS (ok_callM (nDigest_ok x hx hkx) (Sub.cons rfl (Sub.cons rfl (Sub.cons rfl KN))) tabN_v (A1 rfl)) ?_
 refine RM rfl ?_
 refine RS (ok_extractV rfl rfl) ?_
 refine RS (ok_extractV rfl rfl) ?_
 refine RN ?_
 refine ⟨_, _, eff_alloc (n := 79) (d := 9) (k := 1000009) zero33 (by decide), fun b9 hb9 => ?_⟩
 have hBb9 := hb9.1
 refine TF 6 ?_
 refine RN ?_
 refine ⟨_, eff_storeA (n := 79) (s := 1000009) (size33.of (by rw [List.length_map, sha_length])) rfl rfl (all_bytes _) hBb9 rfl (by rw [List.length_map, sha_length]; rfl) (LV 6 rfl (LV 8 rfl (LV 9 rfl (LV 27 rfl (LT 1000002 rfl (LT 1000003 rfl (LT 1000006 rfl (LT 1000008 rfl (LeftS.cons (t := 1900000) rfl (Surv.tab (by omega)) (LeftS.cons (t := 1900001) rfl (Surv.tab (by omega)) (LeftS.cons (t := 1900002) rfl (Surv.tab (by omega)) LN))))))))))), ?_⟩
 refine TL ?_
 refine RA rfl ?_
 refine RN ?_
 refine A.sub (KC 6 rfl (KC 8 rfl (KC 9 rfl (KC 10 rfl (KC 1000002 rfl (KC 1000003 rfl (KC 1000006 rfl (KC 1000008 rfl (KC 1000009 rfl (KC 1900000 rfl (KC 1900001 rfl (KC 1900002 rfl KN)))))))))))) ?_
 refine GS ?_
 refine TN 5 ?_
 refine RS (ok_loadA (s := 1000008) (by decide) Tryd.underlying41 rfl (size41.of (hy.len)) rfl rfl) ?_
 refine RS (ok_callM (nDigest_ok y hy hky) (Sub.cons rfl (Sub.cons rfl (Sub.cons rfl KN))) tabN_v (A1 rfl)) ?_
 refine RM rfl ?_
 refine RS (ok_extractV rfl rfl) ?_
 refine RS (ok_extractV rfl rfl) ?_
 refine RN ?_
 refine ⟨_, _, eff_alloc (n := 79) (d := 11) (k := 1000011) zero33 (by decide), fun b11 hb11 => ?_⟩
 have hBb11 := hb11.1
 have hlt_b9_b11 : b9 < b11 := hb11.2 1000009 _ _ _ rfl
 refine TF 6 ?_
 refine RN ?_
 refine ⟨_, eff_storeA (n := 79) (s := 1000011) (size33.of (by rw [List.length_map, sha_length])) rfl rfl (all_bytes _) hBb11 rfl (by rw [List.length_map, sha_length]; rfl) (LV 6 rfl (LV 8 rfl (LV 9 rfl (LV 10 rfl (LV 11 rfl (LV 32 rfl (LT 1000002 rfl (LT 1000003 rfl (LT 1000006 rfl (LT 1000008 rfl (LB 1000009 rfl (LeftS.cons (t := 1900000) rfl (Surv.tab (by omega)) (LeftS.cons (t := 1900001) rfl (Surv.tab (by omega)) (LeftS.cons (t := 1900002) rfl (Surv.tab (by omega)) LN)))))))))))))), ?_⟩
 refine TL ?_
 refine RA rfl ?_
 refine RN ?_
 refine A.seq ?_
 refine GD ?_
 refine TL ?_
 refine RM rfl ?_
 refine RBS rfl rfl rfl (.bool false) (by rfl) ?_
 refine RM rfl ?_
 refine RQ (ok_move rfl) ?_
 refine RQ (ok_bin rfl rfl rfl) ?_; refine RZ (.bool false) (by rfl) ?_
 refine RP rfl rfl ?_
 refine RM rfl ?_
 refine RQ (ok_loadA (s := 1000009) (by decide) Tryd.underlying33 rfl (size33.of (by rw [List.length_map, sha_length])) rfl rfl) ?_
 refine RQ (ok_loadA (s := 1000006) (by decide) Tryd.underlying41 rfl (size41.of (hx.len)) rfl rfl) ?_
 refine RQ (ok_call (rDigest_fn x hx (NodT.ck_ok hkx).1) (A1 rfl)) ?_
 refine RQ (ok_neqT (n := 4) true flat33r (by decide) (by kernel_rfl) (by kernel_rfl) rfl rfl (kinB (sha_length _)) (kinB (sha_length _)) (iff_of_true rfl rfl)) ?_; refine RZ (.bool false) (by rfl) ?_
 refine RP rfl rfl ?_
 refine RM rfl ?_
 refine RQ (ok_loadA (s := 1000011) (by decide) Tryd.underlying33 rfl (size33.of (by rw [List.length_map, sha_length])) rfl rfl) ?_
 refine RQ (ok_loadA (s := 1000008) (by decide) Tryd.underlying41 rfl (size41.of (hy.len)) rfl rfl) ?_
 refine RQ (ok_call (rDigest_fn y hy (NodT.ck_ok hky).1) (A1 rfl)) ?_
 refine RQ (ok_neqT (n := 4) true flat33r (by decide) (by kernel_rfl) (by kernel_rfl) rfl rfl (kinB (sha_length _)) (kinB (sha_length _)) (iff_of_true rfl rfl)) ?_; refine RZ (.bool false) (by rfl) ?_
 refine RP rfl rfl ?_
 refine RN ?_
 refine A.sub (KC 6 rfl (KC 8 rfl (KC 9 rfl (KC 11 rfl (KC 50 rfl (KC 1000002 rfl (KC 1000003 rfl (KC 1000006 rfl (KC 1000008 rfl (KC 1000009 rfl (KC 1000011 rfl (KC 1900000 rfl (KC 1900001 rfl (KC 1900002 rfl KN)))))))))))))) ?_
 refine A.no rfl ?_
 refine A.skip ?_
 refine EN ?_
 refine A.seq ?_
 refine GS ?_
 refine TL ?_
 refine RS (ok_loadA (s := 1000009) (by decide) Tryd.underlying33 rfl (size33.of (by rw [List.length_map, sha_length])) rfl rfl) ?_
 refine RS (ok_loadA (s := 1000011) (by decide) Tryd.underlying33 rfl (size33.of (by rw [List.length_map, sha_length])) rfl rfl) ?_
 refine RS (ok_eqlT (n := 4) true flat33r (by decide) (by kernel_rfl) (by kernel_rfl) rfl rfl (kinB (sha_length _)) (kinB (sha_length _)) (iff_of_true rfl (congrArg _ hd))) ?_
 refine RM rfl ?_
 refine RQ (ok_loadA (s := 1000006) (by decide) Tryd.underlying41 rfl (size41.of (hx.len)) rfl rfl) ?_
 refine RQ (ok_loadA (s := 1000008) (by decide) Tryd.underlying41 rfl (size41.of (hy.len)) rfl rfl) ?_
 refine RQ (ok_neqT (n := 6) true flat41 (by decide) (by kernel_rfl) (by kernel_rfl) rfl rfl hx.kin hy.kin (iff_of_true rfl (congrArg _ hv))) ?_; refine RZ (.bool false) (by rfl) ?_
 refine RP rfl rfl ?_
 refine RN ?_
 refine A.no rfl ?_
 refine A.skip ?_
 refine EN ?_
 refine GD ?_
 refine TL ?_
 refine RS (ok_loadA (s := 1000009) (by decide) Tryd.underlying33 rfl (size33.of (by rw [List.length_map, sha_length])) rfl rfl) ?_
 refine RS (ok_loadA (s := 1000011) (by decide) Tryd.underlying33 rfl (size33.of (by rw [List.length_map, sha_length])) rfl rfl) ?_
 refine RS (ok_eqlT (n := 4) true flat33r (by decide) (by kernel_rfl) (by kernel_rfl) rfl rfl (kinB (sha_length _)) (kinB (sha_length _)) (iff_of_true rfl (congrArg _ hd))) ?_
 refine RS (ok_loadA (s := 1000006) (by decide) Tryd.underlying41 rfl (size41.of (hx.len)) rfl rfl) ?_
 refine RS (ok_loadA (s := 1000008) (by decide) Tryd.underlying41 rfl (size41.of (hy.len)) rfl rfl) ?_
 refine RS (ok_eqlT (n := 6) true flat41 (by decide) (by kernel_rfl) (by kernel_rfl) rfl rfl hx.kin hy.kin (iff_of_true rfl (congrArg _ hv))) ?_
 refine RS (ok_eqBool Tryd.underlying4 rfl rfl) ?_; refine RZ (.bool true) (by rfl) ?_
 refine RM rfl ?_
 refine RQ (ok_callM lives13_fn (Sub.cons rfl KN) tabS_v Args.nil) ?_
 refine RP rfl rfl ?_
 refine RA rfl ?_
 refine RN ?_
 refine A.ret ?_
 exact End.ret1 rfl rfl (by first | exact Le.refl _ | exact Le.old _ _)
set_option maxHeartbeats 4000000 in
theorem NodesDigest_B (k l j : Nat) (S D : List UInt8) (hk0 : k < 65536) (hl : l < 256) (hj : j < 65536) (hS : S.length = 4) (hD : D.length = 4) (k' l' j' : Nat) (S' D' : List UInt8) (hk0' : k' < 65536) (hl' : l' < 256) (hj' : j' < 65536) (hS' : S'.length = 4) (hD' : D'.length = 4) (hd : sha (ofN k l j S D).bl = sha (ofN k' l' j' S' D').bl) (hv : ¬ ofN k l j S D = ofN k' l' j' S' D') : FnM Tryd.prog 5 tabN [.v (aggV (n13V k l j S D)), .v (aggV (n13V k' l' j' S' D'))] (.v (.bool true)) := by
 obtain ⟨x, hxd⟩ : ∃ x, x = ofN k l j S D := ⟨_, rfl⟩
 have hx : x.Fit := hxd ▸ ofN_fit k l j S D
 have hkx : x.ck = 0 := hxd ▸ ofN_ck k l j S D
 have hftx : ftN (nn k) x = 0 := hxd ▸ ofN_ft k l j S D
 obtain ⟨y, hyd⟩ : ∃ x, x = ofN k' l' j' S' D' := ⟨_, rfl⟩
 have hy : y.Fit := hyd ▸ ofN_fit k' l' j' S' D'
 have hky : y.ck = 0 := hyd ▸ ofN_ck k' l' j' S' D'
 have hfty : ftN (nn k') y = 0 := hyd ▸ ofN_ft k' l' j' S' D'
 rw [← hxd, ← hyd] at hd hv
 refine FnM.of Tryd.func5 rfl (by kernel_rfl) Tryd.ntmps5 (by simp) (by decide) (fun w => [(0, .v (aggV (n13V k l j S D))), (1, .v (aggV (n13V k' l' j' S' D'))), (1900000, tab 0 (sizV)), (1900001, tab 1 (H8.list.map u32V)), (1900002, tab 2 (K64.map u32V))]) (fun w => (StartM.v rfl (StartM.v rfl (StartM.m (by simp [tabN]) (by decide) (StartM.m (by simp [tabN]) (by decide) (StartM.m (by simp [tabN]) (by decide) StartM.nil)))))) fun w₀ hM => ?_
 have htab := tabN_hi hM
 refine GS ?_
 refine TN 0 ?_
 refine RN ?_
 refine ⟨_, _, eff_box (n := 79) (d := 2) (k := 1000002) rfl (by decide), fun b2 hb2 => ?_⟩
 have hBb2 := hb2.1
 refine TN 1 ?_
 refine RN ?_
 refine ⟨_, _, eff_box (n := 79) (d := 3) (k := 1000003) rfl (by decide), fun b3 hb3 => ?_⟩
 have hBb3 := hb3.1
 have hlt_b2_b3 : b2 < b3 := hb3.2 1000002 _ _ _ rfl
 refine TL ?_
 refine RA rfl ?_
 refine RN ?_
 refine GS ?_
 refine TN 5 ?_
 refine RS (ok_loadA (s := 1000002) (by decide) Tryd.underlying27 rfl (size27.of (n13_len hS hD)) rfl rfl) ?_
 refine RS (ok_call (Of13_fn k l j S D hk0 hl hj hS hD) (A1 rfl)) ?_; refine RZ (.tuple #[nI (nn k), aggV x.v]) (by rw [hxd]) ?_
 refine RM rfl ?_
 refine RS (ok_extractV rfl rfl) ?_
 refine RS (ok_extractV rfl rfl) ?_
 refine RN ?_
 refine ⟨_, _, eff_alloc (n := 79) (d := 6) (k := 1000006) zero41 (by decide), fun b6 hb6 => ?_⟩
 have hBb6 := hb6.1
 refine TF 7 ?_
 refine RA rfl ?_
 refine RN ?_
 refine ⟨_, eff_storeA (n := 79) (s := 1000006) (size41.of (hx.len)) rfl rfl (by first | exact NodT.one _ | exact RecT.one _ | exact EntT.one _ | exact RecT.all1 _ | exact EntT.all1 _ | exact all_byte _ | exact all_bytes _) hBb6 rfl (by first | rfl | (rw [hx.len]; rfl)) (LV 3 rfl (LV 6 rfl (LT 1000002 rfl (LT 1000003 rfl (LeftS.cons (t := 1900000) rfl (Surv.tab (by omega)) (LeftS.cons (t := 1900001) rfl (Surv.tab (by omega)) (LeftS.cons (t := 1900002) rfl (Surv.tab (by omega)) LN))))))), ?_⟩
 refine TL ?_
 refine RN ?_
 refine GS ?_
 refine TN 5 ?_
 refine RS (ok_loadA (s := 1000003) (by decide) Tryd.underlying27 rfl (size27.of (n13_len hS' hD')) rfl rfl) ?_
 refine RS (ok_call (Of13_fn k' l' j' S' D' hk0' hl' hj' hS' hD') (A1 rfl)) ?_; refine RZ (.tuple #[nI (nn k'), aggV y.v]) (by rw [hyd]) ?_
 refine RM rfl ?_
 refine RS (ok_extractV rfl rfl) ?_
 refine RS (ok_extractV rfl rfl) ?_
 refine RN ?_
 refine ⟨_, _, eff_alloc (n := 79) (d := 8) (k := 1000008) zero41 (by decide), fun b8 hb8 => ?_⟩
 have hBb8 := hb8.1
 have hlt_b6_b8 : b6 < b8 := hb8.2 1000006 _ _ _ rfl
 refine TF 7 ?_
 refine RA rfl ?_
 refine RN ?_
 refine ⟨_, eff_storeA (n := 79) (s := 1000008) (size41.of (hy.len)) rfl rfl (by first | exact NodT.one _ | exact RecT.one _ | exact EntT.one _ | exact RecT.all1 _ | exact EntT.all1 _ | exact all_byte _ | exact all_bytes _) hBb8 rfl (by first | rfl | (rw [hy.len]; rfl)) (LV 6 rfl (LV 8 rfl (LT 1000002 rfl (LT 1000003 rfl (LB 1000006 rfl (LeftS.cons (t := 1900000) rfl (Surv.tab (by omega)) (LeftS.cons (t := 1900001) rfl (Surv.tab (by omega)) (LeftS.cons (t := 1900002) rfl (Surv.tab (by omega)) LN)))))))), ?_⟩
 refine TL ?_
 refine RN ?_
 refine GS ?_
 refine TN 5 ?_
 refine RS (ok_loadA (s := 1000006) (by decide) Tryd.underlying41 rfl (size41.of (hx.len)) rfl rfl) ?_
 refine RS (ok_callM (nDigest_ok x hx hkx) (Sub.cons rfl (Sub.cons rfl (Sub.cons rfl KN))) tabN_v (A1 rfl)) ?_
 refine RM rfl ?_
 refine RS (ok_extractV rfl rfl) ?_
 refine RS (ok_extractV rfl rfl) ?_
 refine RN ?_
 refine ⟨_, _, eff_alloc (n := 79) (d := 9) (k := 1000009) zero33 (by decide), fun b9 hb9 => ?_⟩
 have hBb9 := hb9.1
 refine TF 6 ?_
 refine RN ?_
 refine ⟨_, eff_storeA (n := 79) (s := 1000009) (size33.of (by rw [List.length_map, sha_length])) rfl rfl (all_bytes _) hBb9 rfl (by rw [List.length_map, sha_length]; rfl) (LV 6 rfl (LV 8 rfl (LV 9 rfl (LV 27 rfl (LT 1000002 rfl (LT 1000003 rfl (LT 1000006 rfl (LT 1000008 rfl (LeftS.cons (t := 1900000) rfl (Surv.tab (by omega)) (LeftS.cons (t := 1900001) rfl (Surv.tab (by omega)) (LeftS.cons (t := 1900002) rfl (Surv.tab (by omega)) LN))))))))))), ?_⟩
 refine TL ?_
 refine RA rfl ?_
 refine RN ?_
 refine A.sub (KC 6 rfl (KC 8 rfl (KC 9 rfl (KC 10 rfl (KC 1000002 rfl (KC 1000003 rfl (KC 1000006 rfl (KC 1000008 rfl (KC 1000009 rfl (KC 1900000 rfl (KC 1900001 rfl (KC 1900002 rfl KN)))))))))))) ?_
 refine GS ?_
 refine TN 5 ?_
 refine RS (ok_loadA (s := 1000008) (by decide) Tryd.underlying41 rfl (size41.of (hy.len)) rfl rfl) ?_
 refine RS (ok_callM (nDigest_ok y hy hky) (Sub.cons rfl (Sub.cons rfl (Sub.cons rfl KN))) tabN_v (A1 rfl)) ?_
 refine RM rfl ?_
 refine RS (ok_extractV rfl rfl) ?_
 refine RS (ok_extractV rfl rfl) ?_
 refine RN ?_
 refine ⟨_, _, eff_alloc (n := 79) (d := 11) (k := 1000011) zero33 (by decide), fun b11 hb11 => ?_⟩
 have hBb11 := hb11.1
 have hlt_b9_b11 : b9 < b11 := hb11.2 1000009 _ _ _ rfl
 refine TF 6 ?_
 refine RN ?_
 refine ⟨_, eff_storeA (n := 79) (s := 1000011) (size33.of (by rw [List.length_map, sha_length])) rfl rfl (all_bytes _) hBb11 rfl (by rw [List.length_map, sha_length]; rfl) (LV 6 rfl (LV 8 rfl (LV 9 rfl (LV 10 rfl (LV 11 rfl (LV 32 rfl (LT 1000002 rfl (LT 1000003 rfl (LT 1000006 rfl (LT 1000008 rfl (LB 1000009 rfl (LeftS.cons (t := 1900000) rfl (Surv.tab (by omega)) (LeftS.cons (t := 1900001) rfl (Surv.tab (by omega)) (LeftS.cons (t := 1900002) rfl (Surv.tab (by omega)) LN)))))))))))))), ?_⟩
 refine TL ?_
 refine RA rfl ?_
 refine RN ?_
 refine A.seq ?_
 refine GD ?_
 refine TL ?_
 refine RM rfl ?_
 refine RBS rfl rfl rfl (.bool false) (by rfl) ?_
 refine RM rfl ?_
 refine RQ (ok_move rfl) ?_
 refine RQ (ok_bin rfl rfl rfl) ?_; refine RZ (.bool false) (by rfl) ?_
 refine RP rfl rfl ?_
 refine RM rfl ?_
 refine RQ (ok_loadA (s := 1000009) (by decide) Tryd.underlying33 rfl (size33.of (by rw [List.length_map, sha_length])) rfl rfl) ?_
 refine RQ (ok_loadA (s := 1000006) (by decide) Tryd.underlying41 rfl (size41.of (hx.len)) rfl rfl) ?_
 refine RQ (ok_call (rDigest_fn x hx (NodT.ck_ok hkx).1) (A1 rfl)) ?_
 refine RQ (ok_neqT (n := 4) true flat33r (by decide) (by kernel_rfl) (by kernel_rfl) rfl rfl (kinB (sha_length _)) (kinB (sha_length _)) (iff_of_true rfl rfl)) ?_; refine RZ (.bool false) (by rfl) ?_
 refine RP rfl rfl ?_
 refine RM rfl ?_
 refine RQ (ok_loadA (s := 1000011) (by decide) Tryd.underlying33 rfl (size33.of (by rw [List.length_map, sha_length])) rfl rfl) ?_
 refine RQ (ok_loadA (s := 1000008) (by decide) Tryd.underlying41 rfl (size41.of (hy.len)) rfl rfl) ?_
 refine RQ (ok_call (rDigest_fn y hy (NodT.ck_ok hky).1) (A1 rfl)) ?_
 refine RQ (ok_neqT (n := 4) true flat33r (by decide) (by kernel_rfl) (by kernel_rfl) rfl rfl (kinB (sha_length _)) (kinB (sha_length _)) (iff_of_true rfl rfl)) ?_; refine RZ (.bool false) (by rfl) ?_
 refine RP rfl rfl ?_
 refine RN ?_
 refine A.sub (KC 6 rfl (KC 8 rfl (KC 9 rfl (KC 11 rfl (KC 50 rfl (KC 1000002 rfl (KC 1000003 rfl (KC 1000006 rfl (KC 1000008 rfl (KC 1000009 rfl (KC 1000011 rfl (KC 1900000 rfl (KC 1900001 rfl (KC 1900002 rfl KN)))))))))))))) ?_
 refine A.no rfl ?_
 refine A.skip ?_
 refine EN ?_
 refine A.seq ?_
 refine GS ?_
 refine TL ?_
 refine RS (ok_loadA (s := 1000009) (by decide) Tryd.underlying33 rfl (size33.of (by rw [List.length_map, sha_length])) rfl rfl) ?_
 refine RS (ok_loadA (s := 1000011) (by decide) Tryd.underlying33 rfl (size33.of (by rw [List.length_map, sha_length])) rfl rfl) ?_
 refine RS (ok_eqlT (n := 4) true flat33r (by decide) (by kernel_rfl) (by kernel_rfl) rfl rfl (kinB (sha_length _)) (kinB (sha_length _)) (iff_of_true rfl (congrArg _ hd))) ?_
 refine RM rfl ?_
 refine RQ (ok_loadA (s := 1000006) (by decide) Tryd.underlying41 rfl (size41.of (hx.len)) rfl rfl) ?_
 refine RQ (ok_loadA (s := 1000008) (by decide) Tryd.underlying41 rfl (size41.of (hy.len)) rfl rfl) ?_
 refine RQ (ok_neqT (n := 6) false flat41 (by decide) (by kernel_rfl) (by kernel_rfl) rfl rfl hx.kin hy.kin (iff_of_false (by decide) fun h => hv (NodT.v_inj hx hy h))) ?_; refine RZ (.bool true) (by rfl) ?_
 refine RP rfl rfl ?_
 refine RN ?_
 refine A.yes rfl ?_
 refine GD ?_
 refine TL ?_
 refine RS (ok_loadA (s := 1000006) (by decide) Tryd.underlying41 rfl (size41.of (hx.len)) rfl rfl) ?_
 refine RS (ok_call (rBytes_fn x hx) (A1 rfl)) ?_
 refine RS (ok_str (l := x.bl) Tryd.underlying44 Tryd.underlying5 Tryd.underlying9 rfl LA) ?_
 refine RS (ok_loadA (s := 1000008) (by decide) Tryd.underlying41 rfl (size41.of (hy.len)) rfl rfl) ?_
 refine RS (ok_call (rBytes_fn y hy) (A1 rfl)) ?_
 refine RS (ok_str (l := y.bl) Tryd.underlying44 Tryd.underlying5 Tryd.underlying9 rfl LA) ?_
 refine RS (ok_sne rfl rfl) ?_; refine RZ (.bool true) (by simp; exact fun h => hv (bl_inj hx hy hkx hky h)) ?_
 refine RM rfl ?_
 refine RQ (ok_callM lives13_fn (Sub.cons rfl KN) tabS_v Args.nil) ?_
 refine RP rfl rfl ?_
 refine RA rfl ?_
 refine RN ?_
 refine A.ret ?_
 refine End.ret_then ?_
 exact End.ret1 rfl rfl (by first | exact Le.refl _ | exact Le.old _ _)
set_option maxHeartbeats 4000000 in
theorem NodesDigest_C (k l j : Nat) (S D : List UInt8) (hk0 : k < 65536) (hl : l < 256) (hj : j < 65536) (hS : S.length = 4) (hD : D.length = 4) (k' l' j' : Nat) (S' D' : List UInt8) (hk0' : k' < 65536) (hl' : l' < 256) (hj' : j' < 65536) (hS' : S'.length = 4) (hD' : D'.length = 4) (hd : ¬ sha (ofN k l j S D).bl = sha (ofN k' l' j' S' D').bl) (hv : ¬ ofN k l j S D = ofN k' l' j' S' D') : FnM Tryd.prog 5 tabN [.v (aggV (n13V k l j S D)), .v (aggV (n13V k' l' j' S' D'))] (.v (.bool true)) := by
 obtain ⟨x, hxd⟩ : ∃ x, x = ofN k l j S D := ⟨_, rfl⟩
 have hx : x.Fit := hxd ▸ ofN_fit k l j S D
 have hkx : x.ck = 0 := hxd ▸ ofN_ck k l j S D
 have hftx : ftN (nn k) x = 0 := hxd ▸ ofN_ft k l j S D
 obtain ⟨y, hyd⟩ : ∃ x, x = ofN k' l' j' S' D' := ⟨_, rfl⟩
 have hy : y.Fit := hyd ▸ ofN_fit k' l' j' S' D'
 have hky : y.ck = 0 := hyd ▸ ofN_ck k' l' j' S' D'
 have hfty : ftN (nn k') y = 0 := hyd ▸ ofN_ft k' l' j' S' D'
 rw [← hxd, ← hyd] at hd hv
 refine FnM.of Tryd.func5 rfl (by kernel_rfl) Tryd.ntmps5 (by simp) (by decide) (fun w => [(0, .v (aggV (n13V k l j S D))), (1, .v (aggV (n13V k' l' j' S' D'))), (1900000, tab 0 (sizV)), (1900001, tab 1 (H8.list.map u32V)), (1900002, tab 2 (K64.map u32V))]) (fun w => (StartM.v rfl (StartM.v rfl (StartM.m (by simp [tabN]) (by decide) (StartM.m (by simp [tabN]) (by decide) (StartM.m (by simp [tabN]) (by decide) StartM.nil)))))) fun w₀ hM => ?_
 have htab := tabN_hi hM
 refine GS ?_
 refine TN 0 ?_
 refine RN ?_
 refine ⟨_, _, eff_box (n := 79) (d := 2) (k := 1000002) rfl (by decide), fun b2 hb2 => ?_⟩
 have hBb2 := hb2.1
 refine TN 1 ?_
 refine RN ?_
 refine ⟨_, _, eff_box (n := 79) (d := 3) (k := 1000003) rfl (by decide), fun b3 hb3 => ?_⟩
 have hBb3 := hb3.1
 have hlt_b2_b3 : b2 < b3 := hb3.2 1000002 _ _ _ rfl
 refine TL ?_
 refine RA rfl ?_
 refine RN ?_
 refine GS ?_
 refine TN 5 ?_
 refine RS (ok_loadA (s := 1000002) (by decide) Tryd.underlying27 rfl (size27.of (n13_len hS hD)) rfl rfl) ?_
 refine RS (ok_call (Of13_fn k l j S D hk0 hl hj hS hD) (A1 rfl)) ?_; refine RZ (.tuple #[nI (nn k), aggV x.v]) (by rw [hxd]) ?_
 refine RM rfl ?_
 refine RS (ok_extractV rfl rfl) ?_
 refine RS (ok_extractV rfl rfl) ?_
 refine RN ?_
 refine ⟨_, _, eff_alloc (n := 79) (d := 6) (k := 1000006) zero41 (by decide), fun b6 hb6 => ?_⟩
 have hBb6 := hb6.1
 refine TF 7 ?_
 refine RA rfl ?_
 refine RN ?_
 refine ⟨_, eff_storeA (n := 79) (s := 1000006) (size41.of (hx.len)) rfl rfl (by first | exact NodT.one _ | exact RecT.one _ | exact EntT.one _ | exact RecT.all1 _ | exact EntT.all1 _ | exact all_byte _ | exact all_bytes _) hBb6 rfl (by first | rfl | (rw [hx.len]; rfl)) (LV 3 rfl (LV 6 rfl (LT 1000002 rfl (LT 1000003 rfl (LeftS.cons (t := 1900000) rfl (Surv.tab (by omega)) (LeftS.cons (t := 1900001) rfl (Surv.tab (by omega)) (LeftS.cons (t := 1900002) rfl (Surv.tab (by omega)) LN))))))), ?_⟩
 refine TL ?_
 refine RN ?_
 refine GS ?_
 refine TN 5 ?_
 refine RS (ok_loadA (s := 1000003) (by decide) Tryd.underlying27 rfl (size27.of (n13_len hS' hD')) rfl rfl) ?_
 refine RS (ok_call (Of13_fn k' l' j' S' D' hk0' hl' hj' hS' hD') (A1 rfl)) ?_; refine RZ (.tuple #[nI (nn k'), aggV y.v]) (by rw [hyd]) ?_
 refine RM rfl ?_
 refine RS (ok_extractV rfl rfl) ?_
 refine RS (ok_extractV rfl rfl) ?_
 refine RN ?_
 refine ⟨_, _, eff_alloc (n := 79) (d := 8) (k := 1000008) zero41 (by decide), fun b8 hb8 => ?_⟩
 have hBb8 := hb8.1
 have hlt_b6_b8 : b6 < b8 := hb8.2 1000006 _ _ _ rfl
 refine TF 7 ?_
 refine RA rfl ?_
 refine RN ?_
 refine ⟨_, eff_storeA (n := 79) (s := 1000008) (size41.of (hy.len)) rfl rfl (by first | exact NodT.one _ | exact RecT.one _ | exact EntT.one _ | exact RecT.all1 _ | exact EntT.all1 _ | exact all_byte _ | exact all_bytes _) hBb8 rfl (by first | rfl | (rw [hy.len]; rfl)) (LV 6 rfl (LV 8 rfl (LT 1000002 rfl (LT 1000003 rfl (LB 1000006 rfl (LeftS.cons (t := 1900000) rfl (Surv.tab (by omega)) (LeftS.cons (t := 1900001) rfl (Surv.tab (by omega)) (LeftS.cons (t := 1900002) rfl (Surv.tab (by omega)) LN)))))))), ?_⟩
 refine TL ?_
 refine RN ?_
 refine GS ?_
 refine TN 5 ?_
 refine RS (ok_loadA (s := 1000006) (by decide) Tryd.underlying41 rfl (size41.of (hx.len)) rfl rfl) ?_
 refine RS (ok_callM (nDigest_ok x hx hkx) (Sub.cons rfl (Sub.cons rfl (Sub.cons rfl KN))) tabN_v (A1 rfl)) ?_
 refine RM rfl ?_
 refine RS (ok_extractV rfl rfl) ?_
 refine RS (ok_extractV rfl rfl) ?_
 refine RN ?_
 refine ⟨_, _, eff_alloc (n := 79) (d := 9) (k := 1000009) zero33 (by decide), fun b9 hb9 => ?_⟩
 have hBb9 := hb9.1
 refine TF 6 ?_
 refine RN ?_
 refine ⟨_, eff_storeA (n := 79) (s := 1000009) (size33.of (by rw [List.length_map, sha_length])) rfl rfl (all_bytes _) hBb9 rfl (by rw [List.length_map, sha_length]; rfl) (LV 6 rfl (LV 8 rfl (LV 9 rfl (LV 27 rfl (LT 1000002 rfl (LT 1000003 rfl (LT 1000006 rfl (LT 1000008 rfl (LeftS.cons (t := 1900000) rfl (Surv.tab (by omega)) (LeftS.cons (t := 1900001) rfl (Surv.tab (by omega)) (LeftS.cons (t := 1900002) rfl (Surv.tab (by omega)) LN))))))))))), ?_⟩
 refine TL ?_
 refine RA rfl ?_
 refine RN ?_
 refine A.sub (KC 6 rfl (KC 8 rfl (KC 9 rfl (KC 10 rfl (KC 1000002 rfl (KC 1000003 rfl (KC 1000006 rfl (KC 1000008 rfl (KC 1000009 rfl (KC 1900000 rfl (KC 1900001 rfl (KC 1900002 rfl KN)))))))))))) ?_
 refine GS ?_
 refine TN 5 ?_
 refine RS (ok_loadA (s := 1000008) (by decide) Tryd.underlying41 rfl (size41.of (hy.len)) rfl rfl) ?_
 refine RS (ok_callM (nDigest_ok y hy hky) (Sub.cons rfl (Sub.cons rfl (Sub.cons rfl KN))) tabN_v (A1 rfl)) ?_
 refine RM rfl ?_
 refine RS (ok_extractV rfl rfl) ?_
 refine RS (ok_extractV rfl rfl) ?_
 refine RN ?_
 refine ⟨_, _, eff_alloc (n := 79) (d := 11) (k := 1000011) zero33 (by decide), fun b11 hb11 => ?_⟩
 have hBb11 := hb11.1
 have hlt_b9_b11 : b9 < b11 := hb11.2 1000009 _ _ _ rfl
 refine TF 6 ?_
 refine RN ?_
 refine ⟨_, eff_storeA (n := 79) (s := 1000011) (size33.of (by rw [List.length_map, sha_length])) rfl rfl (all_bytes _) hBb11 rfl (by rw [List.length_map, sha_length]; rfl) (LV 6 rfl (LV 8 rfl (LV 9 rfl (LV 10 rfl (LV 11 rfl (LV 32 rfl (LT 1000002 rfl (LT 1000003 rfl (LT 1000006 rfl (LT 1000008 rfl (LB 1000009 rfl (LeftS.cons (t := 1900000) rfl (Surv.tab (by omega)) (LeftS.cons (t := 1900001) rfl (Surv.tab (by omega)) (LeftS.cons (t := 1900002) rfl (Surv.tab (by omega)) LN)))))))))))))), ?_⟩
 refine TL ?_
 refine RA rfl ?_
 refine RN ?_
 refine A.seq ?_
 refine GD ?_
 refine TL ?_
 refine RM rfl ?_
 refine RBS rfl rfl rfl (.bool false) (by rfl) ?_
 refine RM rfl ?_
 refine RQ (ok_move rfl) ?_
 refine RQ (ok_bin rfl rfl rfl) ?_; refine RZ (.bool false) (by rfl) ?_
 refine RP rfl rfl ?_
 refine RM rfl ?_
 refine RQ (ok_loadA (s := 1000009) (by decide) Tryd.underlying33 rfl (size33.of (by rw [List.length_map, sha_length])) rfl rfl) ?_
 refine RQ (ok_loadA (s := 1000006) (by decide) Tryd.underlying41 rfl (size41.of (hx.len)) rfl rfl) ?_
 refine RQ (ok_call (rDigest_fn x hx (NodT.ck_ok hkx).1) (A1 rfl)) ?_
 refine RQ (ok_neqT (n := 4) true flat33r (by decide) (by kernel_rfl) (by kernel_rfl) rfl rfl (kinB (sha_length _)) (kinB (sha_length _)) (iff_of_true rfl rfl)) ?_; refine RZ (.bool false) (by rfl) ?_
 refine RP rfl rfl ?_
 refine RM rfl ?_
 refine RQ (ok_loadA (s := 1000011) (by decide) Tryd.underlying33 rfl (size33.of (by rw [List.length_map, sha_length])) rfl rfl) ?_
 refine RQ (ok_loadA (s := 1000008) (by decide) Tryd.underlying41 rfl (size41.of (hy.len)) rfl rfl) ?_
 refine RQ (ok_call (rDigest_fn y hy (NodT.ck_ok hky).1) (A1 rfl)) ?_
 refine RQ (ok_neqT (n := 4) true flat33r (by decide) (by kernel_rfl) (by kernel_rfl) rfl rfl (kinB (sha_length _)) (kinB (sha_length _)) (iff_of_true rfl rfl)) ?_; refine RZ (.bool false) (by rfl) ?_
 refine RP rfl rfl ?_
 refine RN ?_
 refine A.sub (KC 6 rfl (KC 8 rfl (KC 9 rfl (KC 11 rfl (KC 50 rfl (KC 1000002 rfl (KC 1000003 rfl (KC 1000006 rfl (KC 1000008 rfl (KC 1000009 rfl (KC 1000011 rfl (KC 1900000 rfl (KC 1900001 rfl (KC 1900002 rfl KN)))))))))))))) ?_
 refine A.no rfl ?_
 refine A.skip ?_
 refine EN ?_
 refine A.seq ?_
 refine GS ?_
 refine TL ?_
 refine RS (ok_loadA (s := 1000009) (by decide) Tryd.underlying33 rfl (size33.of (by rw [List.length_map, sha_length])) rfl rfl) ?_
 refine RS (ok_loadA (s := 1000011) (by decide) Tryd.underlying33 rfl (size33.of (by rw [List.length_map, sha_length])) rfl rfl) ?_
 refine RS (ok_eqlT (n := 4) false flat33r (by decide) (by kernel_rfl) (by kernel_rfl) rfl rfl (kinB (sha_length _)) (kinB (sha_length _)) (iff_of_false (by decide) fun h => hd (bytes_inj h))) ?_
 refine RM rfl ?_
 refine RK ?_
 refine RK ?_
 refine RK ?_
 refine RP rfl rfl ?_
 refine RN ?_
 refine A.no rfl ?_
 refine A.skip ?_
 refine EN ?_
 refine GD ?_
 refine TL ?_
 refine RS (ok_loadA (s := 1000009) (by decide) Tryd.underlying33 rfl (size33.of (by rw [List.length_map, sha_length])) rfl rfl) ?_
 refine RS (ok_loadA (s := 1000011) (by decide) Tryd.underlying33 rfl (size33.of (by rw [List.length_map, sha_length])) rfl rfl) ?_
 refine RS (ok_eqlT (n := 4) false flat33r (by decide) (by kernel_rfl) (by kernel_rfl) rfl rfl (kinB (sha_length _)) (kinB (sha_length _)) (iff_of_false (by decide) fun h => hd (bytes_inj h))) ?_
 refine RS (ok_loadA (s := 1000006) (by decide) Tryd.underlying41 rfl (size41.of (hx.len)) rfl rfl) ?_
 refine RS (ok_loadA (s := 1000008) (by decide) Tryd.underlying41 rfl (size41.of (hy.len)) rfl rfl) ?_
 refine RS (ok_eqlT (n := 6) false flat41 (by decide) (by kernel_rfl) (by kernel_rfl) rfl rfl hx.kin hy.kin (iff_of_false (by decide) fun h => hv (NodT.v_inj hx hy h))) ?_
 refine RS (ok_eqBool Tryd.underlying4 rfl rfl) ?_; refine RZ (.bool true) (by rfl) ?_
 refine RM rfl ?_
 refine RQ (ok_callM lives13_fn (Sub.cons rfl KN) tabS_v Args.nil) ?_
 refine RP rfl rfl ?_
 refine RA rfl ?_
 refine RN ?_
 refine A.ret ?_
 exact End.ret1 rfl rfl (by first | exact Le.refl _ | exact Le.old _ _)
theorem NodesDigest_fn (k l j : Nat) (S D : List UInt8) (hk0 : k < 65536) (hl : l < 256) (hj : j < 65536) (hS : S.length = 4) (hD : D.length = 4) (k' l' j' : Nat) (S' D' : List UInt8) (hk0' : k' < 65536) (hl' : l' < 256) (hj' : j' < 65536) (hS' : S'.length = 4) (hD' : D'.length = 4) : FnM Tryd.prog 5 tabN [.v (aggV (n13V k l j S D)), .v (aggV (n13V k' l' j' S' D'))] (.v (.bool true)) := by
 by_cases hd : sha (ofN k l j S D).bl = sha (ofN k' l' j' S' D').bl
 ·by_cases hv : ofN k l j S D = ofN k' l' j' S' D'
  ·exact NodesDigest_A k l j S D hk0 hl hj hS hD k' l' j' S' D' hk0' hl' hj' hS' hD' hd hv
  ·exact NodesDigest_B k l j S D hk0 hl hj hS hD k' l' j' S' D' hk0' hl' hj' hS' hD' hd hv
 ·exact NodesDigest_C k l j S D hk0 hl hj hS hD k' l' j' S' D' hk0' hl' hj' hS' hD' hd (fun h => hd (by rw [h]))
end Go.Proofs.YtlddnmblfgaimaaDoor
namespace Go.Proofs.YtlddnmblfgaimaaDoor
open Go Go.RowKit Go.ChangeShapes Go.WideShapes
section
variable {H : Type} {enc : TypeId × Value → H} {P : Program} {w : World} {base : Nat} {held : Bool}
end
end Go.Proofs.YtlddnmblfgaimaaDoor
namespace Go.Proofs.YtlddnmblfgaimaaDoor
open Go Go.RowKit Go.ChangeShapes Go.WideShapes
section
variable {H : Type} {enc : TypeId × Value → H} {P : Program} {w : World} {base : Nat} {held : Bool}
end
end Go.Proofs.YtlddnmblfgaimaaDoor
namespace Go.Proofs.YtlddnmblfgaimaaDoor
open Go Go.RowKit Go.ChangeShapes Go.WideShapes
section
variable {H : Type} {enc : TypeId × Value → H} {P : Program} {w : World} {base : Nat} {held : Bool}
theorem rec_of_kin {xs : List Value} (h : Kin (fun k m => (Lit.int k m).wf = true) (.u8 :: .u32 :: .u64 :: List.replicate 32 .u8) xs) : ∃ r : RecT, r.Fit ∧ xs = r.v := by
  obtain ⟨n, y, rfl, h1, h2⟩ := h.cons
  obtain ⟨m, y, rfl, h3, h4⟩ := h2.cons
  obtain ⟨q, y, rfl, h5, h6⟩ := h4.cons
  obtain ⟨l, hl, rfl⟩ := h6.bytes
  obtain ⟨a, rfl, ha⟩ := nat_u8 h1
  obtain ⟨s, rfl, hs⟩ := nat_u32 h3
  obtain ⟨c, rfl, hc⟩ := nat_u64 h5
  exact ⟨⟨UInt8.ofNat a, s, c, l⟩, ⟨hl, hs, hc⟩, by rw [RecT.v, recV, byteV_nat a ha]⟩
theorem ent_of_kin {xs : List Value} (h : Kin (fun k m => (Lit.int k m).wf = true) (.u8 :: List.replicate 32 .u8) xs) : ∃ r : EntT, r.Fit ∧ xs = r.v := by
  obtain ⟨n, y, rfl, h1, h2⟩ := h.cons
  obtain ⟨l, hl, rfl⟩ := h2.bytes
  obtain ⟨a, rfl, ha⟩ := nat_u8 h1
  exact ⟨⟨UInt8.ofNat a, l⟩, ⟨hl⟩, by rw [EntT.v, entV, byteV_nat a ha]⟩
theorem rows_of_kin {α : Type} {F : α → Prop} {v : α → List Value} {ks : List IntKind} (ho : ∀ xs, Kin (fun k m => (Lit.int k m).wf = true) ks xs → ∃ r, F r ∧ xs = v r) : ∀ {n : Nat} {xs : List Value}, Kin (fun k m => (Lit.int k m).wf = true) (List.replicate n ks).flatten xs → ∃ R : List α, R.length = n ∧ (∀ r ∈ R, F r) ∧ xs = R.flatMap v
  | 0, xs, h => ⟨[], rfl, fun _ h => by (cases h), h.nil⟩
  | n + 1, xs, h => by
    rw [List.replicate_succ, List.flatten_cons] at h
    obtain ⟨x, y, rfl, h1, h2⟩ := h.append
    obtain ⟨r, hr, rfl⟩ := ho _ h1
    obtain ⟨R, hR, hf, rfl⟩ := rows_of_kin ho h2
    exact ⟨r :: R, by rw [List.length_cons, hR], fun q hq => (List.mem_cons.1 hq).elim (fun e => e ▸ hr) (hf q), by rw [List.flatMap_cons]⟩
theorem arg_X13 {t : TypeId} {v : Value} {d : DataW H} {ps : List MemPlace} (hf : flat P 6 t = some (.u8 :: .u32 :: ((List.replicate 4 (.u8 :: .u32 :: .u64 :: List.replicate 32 .u8)).flatten ++ (List.replicate 4 (.u8 :: List.replicate 32 .u8)).flatten))) (hg : isAggT P t = true) {r : Reach} {b0 : Nat} (hk : Value.okWide P w r b0 t v)
    (h : DataW.Trod enc P w base (fun _ => true) held t v d ps) : ∃ x : NodT, x.Fit ∧ v = aggV x.v := by
  obtain ⟨xs, rfl, hx⟩ := arg_flat 6 hf hg hk h
  obtain ⟨n, y, rfl, h1, h2⟩ := hx.cons
  obtain ⟨m, y, rfl, h3, h4⟩ := h2.cons
  obtain ⟨a, rfl, ha⟩ := nat_u8 h1
  obtain ⟨j, rfl, hj⟩ := nat_u32 h3
  obtain ⟨x, z, rfl, h5, h6⟩ := h4.append
  obtain ⟨R, hR, hfR, rfl⟩ := rows_of_kin (fun _ => rec_of_kin) h5
  obtain ⟨E, hE, hfE, rfl⟩ := rows_of_kin (fun _ => ent_of_kin) h6
  exact ⟨⟨UInt8.ofNat a, j, R, E⟩, ⟨hj, hR, hE, hfR, hfE⟩, by rw [NodT.v, nodV, byteV_nat a ha]; rfl⟩
theorem arg_N13 {t : TypeId} {v : Value} {d : DataW H} {ps : List MemPlace} (hf : flat P 6 t = some (.u16 :: .u8 :: .u16 :: (List.replicate 4 .u8 ++ List.replicate 4 .u8))) (hg : isAggT P t = true) {r : Reach} {b0 : Nat} (hk : Value.okWide P w r b0 t v)
    (h : DataW.Trod enc P w base (fun _ => true) held t v d ps) : ∃ (k l j : Nat) (S D : List UInt8), k < 65536 ∧ l < 256 ∧ j < 65536 ∧ S.length = 4 ∧ D.length = 4 ∧ v = aggV ([.int .u16 ((k : Nat) : Int), .int .u8 ((l : Nat) : Int), .int .u16 ((j : Nat) : Int)] ++ (S.map byteV ++ D.map byteV)) := by
  obtain ⟨xs, rfl, hx⟩ := arg_flat 6 hf hg hk h
  obtain ⟨n, y, rfl, h1, h2⟩ := hx.cons
  obtain ⟨m, y, rfl, h3, h4⟩ := h2.cons
  obtain ⟨q, y, rfl, h5, h6⟩ := h4.cons
  obtain ⟨x, z, rfl, h7, h8⟩ := h6.append
  obtain ⟨S, hS, rfl⟩ := h7.bytes
  obtain ⟨D, hD, rfl⟩ := h8.bytes
  obtain ⟨k, rfl, hk'⟩ := nat_u16 h1
  obtain ⟨l, rfl, hl⟩ := nat_u8 h3
  obtain ⟨j, rfl, hj⟩ := nat_u16 h5
  exact ⟨k, l, j, S, D, hk', hl, hj, hS, hD, rfl⟩
end
end Go.Proofs.YtlddnmblfgaimaaDoor
namespace Go.Proofs.YtlddnmblfgaimaaDoor
open Go Go.RowKit
set_option linter.unusedVariables false
set_option maxRecDepth 20000
set_option linter.unusedSimpArgs false
def usP (x : NodT) (i : Nat) : Bool := if x.l.toNat = 0 then decide ((x.r i).x.toNat ≠ 0) else decide ((x.e i).x.toNat ≠ 0)
theorem usP_case (x : NodT) (i : Nat) : (x.l.toNat = 0 ∧ (x.r i).x.toNat ≠ 0 ∧ usP x i = true) ∨ (x.l.toNat = 0 ∧ (x.r i).x.toNat = 0 ∧ usP x i = false) ∨ (x.l.toNat ≠ 0 ∧ (x.e i).x.toNat ≠ 0 ∧ usP x i = true) ∨ (x.l.toNat ≠ 0 ∧ (x.e i).x.toNat = 0 ∧ usP x i = false) := by
 unfold usP
 by_cases h : x.l.toNat = 0
 ·rw [if_pos h]
  by_cases h' : (x.r i).x.toNat = 0
  ·exact .inr (.inl ⟨h, h', decide_eq_false (fun h2 => h2 h')⟩)
  ·exact .inl ⟨h, h', decide_eq_true h'⟩
 ·rw [if_neg h]
  by_cases h' : (x.e i).x.toNat = 0
  ·exact .inr (.inr (.inr ⟨h, h', decide_eq_false (fun h2 => h2 h')⟩))
  ·exact .inr (.inr (.inl ⟨h, h', decide_eq_true h'⟩))
theorem pos_y {a : UInt8} (h : a.toNat ≠ 0) : Value.bool (decide ((0 : Int) < ((a.toNat : Nat) : Int))) = .bool true := congrArg Value.bool (decide_eq_true (by omega))
theorem pos_n {a : UInt8} (h : a.toNat = 0) : Value.bool (decide ((0 : Int) < ((a.toNat : Nat) : Int))) = .bool false := congrArg Value.bool (decide_eq_false (by omega))
theorem wh_case (w : Int) (x : NodT) : w < 0 ∨ 3 < w ∨ ((0 ≤ w ∧ w < 4) ∧ x.l.toNat = 0) ∨ ((0 ≤ w ∧ w < 4) ∧ x.l.toNat ≠ 0) := by omega
theorem wh_case3 (w : Int) : w < 0 ∨ 3 < w ∨ (0 ≤ w ∧ w < 4) := by omega
theorem cp1_place {x : NodT} {w : Int} {b : Bool} (h : ¬ (0 ≤ w ∧ w < 4)) : cpN x w b = 1 := if_pos h
theorem cp1_ck {x : NodT} {w : Int} {b : Bool} (hk : x.ck = 1) : cpN x w b = 1 := by
 unfold cpN
 split
 ·rfl
 ·rw [if_pos (by rw [hk]; decide)]; exact hk
theorem cp1_kind {x : NodT} {w : Int} (hk : x.ck = 0) : cpN x w false = 1 := by
 unfold cpN
 split
 ·rfl
 ·rw [if_neg (by rw [hk]; decide), if_pos rfl]
theorem cp0 {x : NodT} {w : Int} (h : 0 ≤ w ∧ w < 4) (hk : x.ck = 0) : cpN x w true = 0 := by
 unfold cpN
 rw [if_neg (fun h' => h' h), if_neg (by rw [hk]; decide), if_neg (by decide)]
theorem wr_1 {x : NodT} {w : Int} {r : RecT} (h : cpN x w (decide (x.l.toNat = 0)) = 1) : Value.tuple #[aggV (wrX x w r).v, .int .i64 (wrE x w r)] = .tuple #[aggV (NodT.emp 0 0).v, .int .i64 1] := by
 have h1 : wrE x w r = 1 := by unfold wrE; rw [if_pos (by rw [h]; decide), h]
 have h2 : wrX x w r = NodT.emp 0 0 := by unfold wrX; rw [if_neg (by rw [h1]; decide)]
 rw [h1, h2]
theorem we_1 {x : NodT} {w : Int} {r : EntT} (h : cpN x w (!(decide (x.l.toNat = 0))) = 1) : Value.tuple #[aggV (weX x w r).v, .int .i64 (weE x w r)] = .tuple #[aggV (NodT.emp 0 0).v, .int .i64 1] := by
 have h1 : weE x w r = 1 := by unfold weE; rw [if_pos (by rw [h]; decide), h]
 have h2 : weX x w r = NodT.emp 0 0 := by unfold weX; rw [if_neg (by rw [h1]; decide)]
 rw [h1, h2]
theorem wr_0 {x : NodT} {w : Int} {r : RecT} (h : cpN x w (decide (x.l.toNat = 0)) = 0) (hr : r.ck = 0) : Value.tuple #[aggV (wrX x w r).v, .int .i64 (wrE x w r)] = .tuple #[aggV ({ x with R := x.R.set w.toNat r } : NodT).v, .int .i64 0] := by
 have h1 : wrE x w r = 0 := by unfold wrE; rw [if_neg (by rw [h]; decide), hr]
 have h2 : wrX x w r = { x with R := x.R.set w.toNat r } := by unfold wrX; rw [if_pos h1]
 rw [h1, h2]
theorem we_0 {x : NodT} {w : Int} {r : EntT} (h : cpN x w (!(decide (x.l.toNat = 0))) = 0) (hr : r.ck = 0) : Value.tuple #[aggV (weX x w r).v, .int .i64 (weE x w r)] = .tuple #[aggV ({ x with E := x.E.set w.toNat r } : NodT).v, .int .i64 0] := by
 have h1 : weE x w r = 0 := by unfold weE; rw [if_neg (by rw [h]; decide), hr]
 have h2 : weX x w r = { x with E := x.E.set w.toNat r } := by unfold weX; rw [if_pos h1]
 rw [h1, h2]
theorem dR {x : NodT} (h : x.l.toNat = 0) : decide (x.l.toNat = 0) = true := decide_eq_true h
theorem dE {x : NodT} (h : x.l.toNat ≠ 0) : decide (x.l.toNat = 0) = false := decide_eq_false h
theorem RecT.zero_ck : RecT.zero.ck = 0 := RecT.ck_zero.2 RecT.zero_ok
theorem EntT.zero_ck : EntT.zero.ck = 0 := EntT.ck_zero.2 EntT.zero_ok

set_option maxHeartbeats 4000000 in
theorem NErr_o (x : NodT) (hx : x.Fit) (n wi : Int) (hk : x.ck = 0) : FnM Tryd.prog 6 tabN [.v (aggV x.v), .v (.int .i64 (n)), .v (.int .i64 (wi))] (.v (.bool true)) := by
 refine FnM.of Tryd.func6 rfl (by kernel_rfl) Tryd.ntmps6 (by simp) (by decide) (fun w => [(0, .v (aggV x.v)), (1, .v (.int .i64 (n))), (2, .v (.int .i64 (wi))), (1900000, tab 0 (sizV)), (1900001, tab 1 (H8.list.map u32V)), (1900002, tab 2 (K64.map u32V))]) (fun w => (StartM.v rfl (StartM.v rfl (StartM.v rfl (StartM.m (by simp [tabN]) (by decide) (StartM.m (by simp [tabN]) (by decide) (StartM.m (by simp [tabN]) (by decide) StartM.nil))))))) fun w₀ hM => ?_
 have htab := tabN_hi hM
 refine GS ?_
 refine TN 0 ?_
 refine RN ?_
 refine ⟨_, _, eff_box (n := 179) (d := 3) (k := 1000003) rfl (by decide), fun b3 hb3 => ?_⟩
 have hBb3 := hb3.1
 refine TL ?_
 refine RA rfl ?_
 refine RN ?_
 refine GS ?_
 refine TL ?_
 refine RS (ok_loadA (s := 1000003) (by decide) Tryd.underlying41 rfl (size41.of (hx.len)) rfl rfl) ?_
 refine RS (ok_call (rCheck_fn x hx) (A1 rfl)) ?_; refine RZ (.int .i64 0) (by rw [hk]) ?_
 refine RA rfl ?_
 refine RN ?_
 refine GS ?_
 refine TL ?_
 refine RS (ok_loadA (s := 1000003) (by decide) Tryd.underlying41 rfl (size41.of (hx.len)) rfl rfl) ?_
 refine RS (ok_callM (nPut_ok x hx hk) (Sub.cons rfl KN) tabS_v (A1 rfl)) ?_
 refine RM rfl ?_
 refine RS (ok_extract rfl rfl) ?_
 refine RS (ok_extract rfl rfl) ?_
 refine RA rfl ?_
 refine RA rfl ?_
 refine RN ?_
 refine GS ?_
 refine TN 5 ?_
 refine RS (ok_loadA (s := 1000003) (by decide) Tryd.underlying41 rfl (size41.of (hx.len)) rfl rfl) ?_
 refine RS (ok_callM (nDigest_ok x hx hk) (Sub.cons rfl (Sub.cons rfl (Sub.cons rfl KN))) tabN_v (A1 rfl)) ?_
 refine RM rfl ?_
 refine RS (ok_extractV rfl rfl) ?_
 refine RS (ok_extractV rfl rfl) ?_
 refine RN ?_
 refine ⟨_, _, eff_alloc (n := 179) (d := 10) (k := 1000010) zero33 (by decide), fun b10 hb10 => ?_⟩
 have hBb10 := hb10.1
 refine TF 6 ?_
 refine RN ?_
 refine ⟨_, eff_storeA (n := 179) (s := 1000010) (size33.of (by rw [List.length_map, sha_length])) rfl rfl (all_bytes _) hBb10 rfl (by rw [List.length_map, sha_length]; rfl) (LV 1 rfl (LV 2 rfl (LV 3 rfl (LV 7 rfl (LV 9 rfl (LV 10 rfl (LV 29 rfl (LT 1000003 rfl (LeftS.cons (t := 1900000) rfl (Surv.tab (by omega)) (LeftS.cons (t := 1900001) rfl (Surv.tab (by omega)) (LeftS.cons (t := 1900002) rfl (Surv.tab (by omega)) LN))))))))))), ?_⟩
 refine TL ?_
 refine RA rfl ?_
 refine RN ?_
 refine A.seq ?_
 refine GD ?_
 refine TL ?_
 refine RS (ok_loadA (s := 1000003) (by decide) Tryd.underlying41 rfl (size41.of (hx.len)) rfl rfl) ?_
 refine RS (ok_call (nCheck_fn x hx) (A1 rfl)) ?_; refine RZ (.int .i64 0) (by rw [hk]) ?_
 refine RM rfl ?_
 refine RBS rfl rfl rfl (.bool false) (by first | rfl | (simp; done) | (simp; omega) | (simp [*]; done) | (simp [*]; omega)) ?_
 refine RM rfl ?_
 refine RQ (ok_move rfl) ?_
 refine RQ (ok_move rfl) ?_
 refine RQ (ok_bin rfl rfl rfl) ?_; refine RZ (.bool false) (by first | rfl | (simp; done) | (simp; omega) | (simp [*]; done) | (simp [*]; omega)) ?_
 refine RP rfl rfl ?_
 refine RM rfl ?_
 refine RQ (ok_move rfl) ?_
 refine RQ (ok_move rfl) ?_
 refine RQ (ok_bin rfl rfl rfl) ?_; refine RZ (.bool false) (by first | rfl | (simp; done) | (simp; omega) | (simp [*]; done) | (simp [*]; omega)) ?_
 refine RP rfl rfl ?_
 refine RM rfl ?_
 refine RQ (ok_move rfl) ?_
 refine RQ (ok_loadA (s := 1000003) (by decide) Tryd.underlying41 rfl (size41.of (hx.len)) rfl rfl) ?_
 refine RQ (ok_call (nFits_fn n x hx) (A2 rfl rfl)) ?_
 refine RQ (ok_move rfl) ?_
 refine RQ (ok_loadA (s := 1000003) (by decide) Tryd.underlying41 rfl (size41.of (hx.len)) rfl rfl) ?_
 refine RQ (ok_call (rFits_fn n x hx) (A2 rfl rfl)) ?_
 refine RQ (ok_bin rfl rfl rfl) ?_; refine RZ (.bool false) (by first | rfl | (simp; done) | (simp; omega) | (simp [*]; done) | (simp [*]; omega)) ?_
 refine RP rfl rfl ?_
 refine RM rfl ?_
 refine RQ (ok_move rfl) ?_
 refine RQ (ok_bin rfl rfl rfl) ?_; refine RZ (.bool false) (by first | rfl | (simp; done) | (simp; omega) | (simp [*]; done) | (simp [*]; omega)) ?_
 refine RQ (ok_move rfl) ?_
 refine RK ?_
 refine RK ?_
 refine RK ?_
 refine RK ?_
 refine RunK.skippedU rfl rfl rfl rfl ?_
 refine RunK.skippedU rfl rfl rfl rfl ?_
 refine RunK.skippedU rfl rfl rfl rfl ?_
 refine RK ?_
 refine RQ (ok_pick rfl rfl) ?_
 refine RP rfl rfl ?_
 refine RN ?_
 refine A.sub (KC 2 rfl (KC 3 rfl (KC 7 rfl (KC 66 rfl (KC 1000003 rfl (KC 1000010 rfl (KC 1900000 rfl (KC 1900001 rfl (KC 1900002 rfl KN))))))))) ?_
 refine A.no rfl ?_
 refine A.skip ?_
 refine EN ?_
 refine GS ?_
 refine TL ?_
 refine RA rfl ?_
 refine RN ?_
 refine A.seq ?_
 refine GS ?_
 refine TL ?_
 refine RA rfl ?_
 refine RN ?_
 refine A.block ?_
 refine A.loop (ι := Nat) (fun i => i ≤ 4) (fun i => [(2, .v (.int .i64 (wi))), (3, .v (ptr b3)), (7, .v (.int .i64 0)), (12, .v (nI (cnt (usP x) i))), (13, .v (nI (i))), (1000003, blk b3 41 x.v), (1900000, tab 0 (sizV)), (1900001, tab 1 (H8.list.map u32V)), (1900002, tab 2 (K64.map u32V))]) (fun i => 4 - i) 0 ?_ ?_ ?_
 ·exact Nat.zero_le _
 ·exact (KC 2 rfl (KC 3 rfl (KC 7 rfl (KE 12 rfl (by rfl) (KE 13 rfl (by rfl) (KC 1000003 rfl (KC 1900000 rfl (KC 1900001 rfl (KC 1900002 rfl KN)))))))))
 intro i hG
 refine A.seq ?_
 refine GS ?_
 refine TL ?_
 refine RM rfl ?_
 refine RB rfl rfl rfl ?_
 refine RN ?_
 refine A.cond rfl (fun hc68 => ?_) (fun hc68 => ?_)
 ·have hi : i < 4 := by simp at hc68; omega
  refine A.skip ?_
  refine EN ?_
  refine A.seq ?_
  refine A.block ?_
  rcases usP_case x i with ⟨h0, hs, hy⟩ | ⟨h0, hs, hy⟩ | ⟨h0, hs, hy⟩ | ⟨h0, hs, hy⟩
  ·refine GS ?_
   refine TL ?_
   refine RS (ok_field field41_0 (by decide) rfl) ?_
   refine RS (ok_loadV (s := 1000003) (by decide) Tryd.underlying5 rfl rfl rfl (rfl)) ?_
   refine RBS rfl rfl rfl (.bool true) (by first | rfl | (simp; done) | (simp; omega) | (simp [*]; done) | (simp [*]; omega)) ?_
   refine RM rfl ?_
   refine RQ (ok_move rfl) ?_
   refine RQ (ok_field field41_2 (by decide) rfl) ?_
   refine RQ (ok_indexN (i) Tryd.underlying36 size35 rfl rfl (rfl) (hi)) ?_
   refine RQ (ok_field field35_0 (by decide) rfl) ?_
   refine RQ (ok_loadV (s := 1000003) (by decide) Tryd.underlying5 rfl rfl rfl (hx.rec_x hi)) ?_
   refine RQ (ok_bin rfl rfl rfl) ?_; refine RZ (.bool true) (pos_y hs) ?_
   refine RP rfl rfl ?_
   refine RM rfl ?_
   refine RK ?_
   refine RK ?_
   refine RK ?_
   refine RK ?_
   refine RunK.skippedU rfl rfl rfl rfl ?_
   refine RunK.skippedU rfl rfl rfl rfl ?_
   refine RunK.skippedU rfl rfl rfl rfl ?_
   refine RunK.skippedU rfl rfl rfl rfl ?_
   refine RunK.skippedU rfl rfl rfl rfl ?_
   refine RunK.skippedU rfl rfl rfl rfl ?_
   refine RK ?_
   refine RP rfl rfl ?_
   refine RN ?_
   refine A.sub (KC 2 rfl (KC 3 rfl (KC 7 rfl (KC 12 rfl (KC 13 rfl (KC 94 rfl (KC 1000003 rfl (KC 1900000 rfl (KC 1900001 rfl (KC 1900002 rfl KN)))))))))) ?_
   refine A.yes rfl ?_
   refine GE ?_
   refine TL ?_
   refine RM rfl ?_
   refine RBS rfl rfl rfl (nI (cnt (usP x) (i + 1))) (wrap_eq (by rw [cnt_y (p := usP x) hy]; omega) (by have := cnt_le (usP x) (i + 1); omega)) ?_
   refine RA rfl ?_
   refine RN ?_
   refine End.normal_block ?_
   refine EN ?_
   refine GE ?_
   refine TL ?_
   refine RM rfl ?_
   refine RBS rfl rfl rfl (nI (i + 1)) (wrap_eq (by omega) (by omega)) ?_
   refine RA rfl ?_
   refine RN ?_
   refine End.normal_then ?_
   refine End.again (i + 1) ?_ ?_ ?_
   ·show _ ≤ _; omega
   ·show _ - _ < _ - _; omega
   ·exact (KC 2 rfl (KC 3 rfl (KC 7 rfl (KE 12 rfl (by first | rfl | rw [cnt_n (p := usP x) hy]) (KC 13 rfl (KC 1000003 rfl (KC 1900000 rfl (KC 1900001 rfl (KC 1900002 rfl KN)))))))))
  ·refine GS ?_
   refine TL ?_
   refine RS (ok_field field41_0 (by decide) rfl) ?_
   refine RS (ok_loadV (s := 1000003) (by decide) Tryd.underlying5 rfl rfl rfl (rfl)) ?_
   refine RBS rfl rfl rfl (.bool true) (by first | rfl | (simp; done) | (simp; omega) | (simp [*]; done) | (simp [*]; omega)) ?_
   refine RM rfl ?_
   refine RQ (ok_move rfl) ?_
   refine RQ (ok_field field41_2 (by decide) rfl) ?_
   refine RQ (ok_indexN (i) Tryd.underlying36 size35 rfl rfl (rfl) (hi)) ?_
   refine RQ (ok_field field35_0 (by decide) rfl) ?_
   refine RQ (ok_loadV (s := 1000003) (by decide) Tryd.underlying5 rfl rfl rfl (hx.rec_x hi)) ?_
   refine RQ (ok_bin rfl rfl rfl) ?_; refine RZ (.bool false) (pos_n hs) ?_
   refine RP rfl rfl ?_
   refine RM rfl ?_
   refine RQ (ok_field field41_0 (by decide) rfl) ?_
   refine RQ (ok_loadV (s := 1000003) (by decide) Tryd.underlying5 rfl rfl rfl (rfl)) ?_
   refine RQ (ok_bin rfl rfl rfl) ?_; refine RZ (.bool false) (by first | rfl | (simp; done) | (simp; omega) | (simp [*]; done) | (simp [*]; omega)) ?_
   refine RQ (ok_move rfl) ?_
   refine RK ?_
   refine RK ?_
   refine RK ?_
   refine RK ?_
   refine RK ?_
   refine RK ?_
   refine RQ (ok_pick rfl rfl) ?_
   refine RP rfl rfl ?_
   refine RN ?_
   refine A.sub (KC 2 rfl (KC 3 rfl (KC 7 rfl (KC 12 rfl (KC 13 rfl (KC 94 rfl (KC 1000003 rfl (KC 1900000 rfl (KC 1900001 rfl (KC 1900002 rfl KN)))))))))) ?_
   refine A.no rfl ?_
   refine A.skip ?_
   refine End.normal_block ?_
   refine EN ?_
   refine GE ?_
   refine TL ?_
   refine RM rfl ?_
   refine RBS rfl rfl rfl (nI (i + 1)) (wrap_eq (by omega) (by omega)) ?_
   refine RA rfl ?_
   refine RN ?_
   refine End.normal_then ?_
   refine End.again (i + 1) ?_ ?_ ?_
   ·show _ ≤ _; omega
   ·show _ - _ < _ - _; omega
   ·exact (KC 2 rfl (KC 3 rfl (KC 7 rfl (KE 12 rfl (by first | rfl | rw [cnt_n (p := usP x) hy]) (KC 13 rfl (KC 1000003 rfl (KC 1900000 rfl (KC 1900001 rfl (KC 1900002 rfl KN)))))))))
  ·refine GS ?_
   refine TL ?_
   refine RS (ok_field field41_0 (by decide) rfl) ?_
   refine RS (ok_loadV (s := 1000003) (by decide) Tryd.underlying5 rfl rfl rfl (rfl)) ?_
   refine RBS rfl rfl rfl (.bool false) (by first | rfl | (simp; done) | (simp; omega) | (simp [*]; done) | (simp [*]; omega)) ?_
   refine RM rfl ?_
   refine RK ?_
   refine RK ?_
   refine RK ?_
   refine RK ?_
   refine RK ?_
   refine RK ?_
   refine RP rfl rfl ?_
   refine RM rfl ?_
   refine RQ (ok_field field41_0 (by decide) rfl) ?_
   refine RQ (ok_loadV (s := 1000003) (by decide) Tryd.underlying5 rfl rfl rfl (rfl)) ?_
   refine RQ (ok_bin rfl rfl rfl) ?_; refine RZ (.bool true) (by first | rfl | (simp; done) | (simp; omega) | (simp [*]; done) | (simp [*]; omega)) ?_
   refine RQ (ok_move rfl) ?_
   refine RQ (ok_move rfl) ?_
   refine RQ (ok_field field41_3 (by decide) rfl) ?_
   refine RQ (ok_indexN (i) Tryd.underlying39 size38 rfl rfl (rfl) (hi)) ?_
   refine RQ (ok_field field38_0 (by decide) rfl) ?_
   refine RQ (ok_loadV (s := 1000003) (by decide) Tryd.underlying5 rfl rfl rfl (hx.ent_x hi)) ?_
   refine RQ (ok_bin rfl rfl rfl) ?_; refine RZ (.bool true) (pos_y hs) ?_
   refine RQ (ok_pick rfl rfl) ?_
   refine RP rfl rfl ?_
   refine RN ?_
   refine A.sub (KC 2 rfl (KC 3 rfl (KC 7 rfl (KC 12 rfl (KC 13 rfl (KC 94 rfl (KC 1000003 rfl (KC 1900000 rfl (KC 1900001 rfl (KC 1900002 rfl KN)))))))))) ?_
   refine A.yes rfl ?_
   refine GE ?_
   refine TL ?_
   refine RM rfl ?_
   refine RBS rfl rfl rfl (nI (cnt (usP x) (i + 1))) (wrap_eq (by rw [cnt_y (p := usP x) hy]; omega) (by have := cnt_le (usP x) (i + 1); omega)) ?_
   refine RA rfl ?_
   refine RN ?_
   refine End.normal_block ?_
   refine EN ?_
   refine GE ?_
   refine TL ?_
   refine RM rfl ?_
   refine RBS rfl rfl rfl (nI (i + 1)) (wrap_eq (by omega) (by omega)) ?_
   refine RA rfl ?_
   refine RN ?_
   refine End.normal_then ?_
   refine End.again (i + 1) ?_ ?_ ?_
   ·show _ ≤ _; omega
   ·show _ - _ < _ - _; omega
   ·exact (KC 2 rfl (KC 3 rfl (KC 7 rfl (KE 12 rfl (by first | rfl | rw [cnt_n (p := usP x) hy]) (KC 13 rfl (KC 1000003 rfl (KC 1900000 rfl (KC 1900001 rfl (KC 1900002 rfl KN)))))))))
  ·refine GS ?_
   refine TL ?_
   refine RS (ok_field field41_0 (by decide) rfl) ?_
   refine RS (ok_loadV (s := 1000003) (by decide) Tryd.underlying5 rfl rfl rfl (rfl)) ?_
   refine RBS rfl rfl rfl (.bool false) (by first | rfl | (simp; done) | (simp; omega) | (simp [*]; done) | (simp [*]; omega)) ?_
   refine RM rfl ?_
   refine RK ?_
   refine RK ?_
   refine RK ?_
   refine RK ?_
   refine RK ?_
   refine RK ?_
   refine RP rfl rfl ?_
   refine RM rfl ?_
   refine RQ (ok_field field41_0 (by decide) rfl) ?_
   refine RQ (ok_loadV (s := 1000003) (by decide) Tryd.underlying5 rfl rfl rfl (rfl)) ?_
   refine RQ (ok_bin rfl rfl rfl) ?_; refine RZ (.bool true) (by first | rfl | (simp; done) | (simp; omega) | (simp [*]; done) | (simp [*]; omega)) ?_
   refine RQ (ok_move rfl) ?_
   refine RQ (ok_move rfl) ?_
   refine RQ (ok_field field41_3 (by decide) rfl) ?_
   refine RQ (ok_indexN (i) Tryd.underlying39 size38 rfl rfl (rfl) (hi)) ?_
   refine RQ (ok_field field38_0 (by decide) rfl) ?_
   refine RQ (ok_loadV (s := 1000003) (by decide) Tryd.underlying5 rfl rfl rfl (hx.ent_x hi)) ?_
   refine RQ (ok_bin rfl rfl rfl) ?_; refine RZ (.bool false) (pos_n hs) ?_
   refine RQ (ok_pick rfl rfl) ?_
   refine RP rfl rfl ?_
   refine RN ?_
   refine A.sub (KC 2 rfl (KC 3 rfl (KC 7 rfl (KC 12 rfl (KC 13 rfl (KC 94 rfl (KC 1000003 rfl (KC 1900000 rfl (KC 1900001 rfl (KC 1900002 rfl KN)))))))))) ?_
   refine A.no rfl ?_
   refine A.skip ?_
   refine End.normal_block ?_
   refine EN ?_
   refine GE ?_
   refine TL ?_
   refine RM rfl ?_
   refine RBS rfl rfl rfl (nI (i + 1)) (wrap_eq (by omega) (by omega)) ?_
   refine RA rfl ?_
   refine RN ?_
   refine End.normal_then ?_
   refine End.again (i + 1) ?_ ?_ ?_
   ·show _ ≤ _; omega
   ·show _ - _ < _ - _; omega
   ·exact (KC 2 rfl (KC 3 rfl (KC 7 rfl (KE 12 rfl (by first | rfl | rw [cnt_n (p := usP x) hy]) (KC 13 rfl (KC 1000003 rfl (KC 1900000 rfl (KC 1900001 rfl (KC 1900002 rfl KN)))))))))
 ·have hi2 : i = 4 := by simp at hc68; omega
  refine A.exit ?_
  refine End.exit_then ?_
  refine End.exit_then ?_
  refine End.exit_here ?_
  refine EN ?_
  refine A.seq ?_
  refine GD ?_
  refine TL ?_
  refine RS (ok_loadA (s := 1000003) (by decide) Tryd.underlying41 rfl (size41.of (hx.len)) rfl rfl) ?_
  refine RS (ok_call (nUsed_fn x hx) (A1 rfl)) ?_
  refine RM rfl ?_; refine RZ (nI (usN x)) (by rw [hi2]; rfl) ?_
  refine RBS rfl rfl rfl (.bool false) (by first | rfl | (simp; done) | (simp; omega) | (simp [*]; done) | (simp [*]; omega)) ?_
  refine RM rfl ?_
  refine RQ (ok_field field41_0 (by decide) rfl) ?_
  refine RQ (ok_loadV (s := 1000003) (by decide) Tryd.underlying5 rfl rfl rfl (rfl)) ?_
  refine RQ (ok_field field41_1 (by decide) rfl) ?_
  refine RQ (ok_loadV (s := 1000003) (by decide) Tryd.underlying28 rfl rfl rfl (rfl)) ?_
  refine RQ (ok_call (nEmpty_fn x.l x.j hx.j) (A2 rfl rfl)) ?_
  refine RQ (ok_field field41_0 (by decide) rfl) ?_
  refine RQ (ok_loadV (s := 1000003) (by decide) Tryd.underlying5 rfl rfl rfl (rfl)) ?_
  refine RQ (ok_field field41_1 (by decide) rfl) ?_
  refine RQ (ok_loadV (s := 1000003) (by decide) Tryd.underlying28 rfl rfl rfl (rfl)) ?_
  refine RQ (ok_litS [(0, byteV x.l), (1, nW (x.j))] (NodT.emp x.l x.j).v ⟨rfl, rfl, rfl, rfl, trivial⟩ (buildX _ _)) ?_
  refine RQ (ok_neqT (n := 6) true flat41 (by decide) (by kernel_rfl) (by kernel_rfl) rfl rfl (NodT.emp_fit x.l hx.j).kin (NodT.emp_fit x.l hx.j).kin (iff_of_true rfl rfl)) ?_; refine RZ (.bool false) (by rfl) ?_
  refine RP rfl rfl ?_
  refine RN ?_
  refine A.no rfl ?_
  refine A.skip ?_
  refine EN ?_
  refine A.seq ?_
  rcases wh_case wi x with hw | hw | hw | hw
  ·refine GS ?_
   refine TL ?_
   refine RM rfl ?_
   refine RBS rfl rfl rfl (.bool true) (by first | rfl | (simp; done) | (simp; omega) | (simp [*]; done) | (simp [*]; omega)) ?_
   refine RM rfl ?_
   refine RK ?_
   refine RK ?_
   refine RP rfl rfl ?_
   refine RN ?_
   refine A.sub (KC 2 rfl (KC 3 rfl (KC 7 rfl (KC 119 rfl (KC 1000003 rfl (KC 1900000 rfl (KC 1900001 rfl (KC 1900002 rfl KN)))))))) ?_
   refine A.yes rfl ?_
   refine GE ?_
   refine TL ?_
   refine RA rfl ?_
   refine RN ?_
   refine EN ?_
   refine GS ?_
   refine TL ?_
   refine RM rfl ?_
   refine RM rfl ?_
   refine RA rfl ?_
   refine RA rfl ?_
   refine RN ?_
   refine A.seq ?_
   refine GS ?_
   refine TL ?_
   refine RM rfl ?_
   refine RBS rfl rfl rfl (.bool false) (by first | rfl | (simp; done) | (simp; omega) | (simp [*]; done) | (simp [*]; omega)) ?_
   refine RM rfl ?_
   refine RK ?_
   refine RK ?_
   refine RK ?_
   refine RP rfl rfl ?_
   refine RN ?_
   refine A.no rfl ?_
   refine A.skip ?_
   refine EN ?_
   refine A.seq ?_
   refine GS ?_
   refine TL ?_
   refine RM rfl ?_
   refine RBS rfl rfl rfl (.bool false) (by first | rfl | (simp; done) | (simp; omega) | (simp [*]; done) | (simp [*]; omega)) ?_
   refine RM rfl ?_
   refine RK ?_
   refine RK ?_
   refine RK ?_
   refine RP rfl rfl ?_
   refine RN ?_
   refine A.no rfl ?_
   refine A.skip ?_
   refine EN ?_
   refine GS ?_
   refine TN 7 ?_
   refine RS (ok_loadA (s := 1000003) (by decide) Tryd.underlying41 rfl (size41.of (hx.len)) rfl rfl) ?_
   refine RM rfl ?_
   refine RS (ok_lit [] (RecT.v RecT.zero) (fun _ _ => rfl) (by kernel_rfl)) ?_
   refine RS (ok_call (WithRecord_fn x hx wi RecT.zero RecT.zero_fit) (A3 rfl rfl rfl)) ?_; refine RZ (.tuple #[aggV (NodT.emp 0 0).v, .int .i64 1]) (wr_1 (cp1_place (fun h => absurd h.1 (by omega)))) ?_
   refine RM rfl ?_
   refine RS (ok_extractV rfl rfl) ?_
   refine RS (ok_extractV rfl rfl) ?_
   refine RN ?_
   refine ⟨_, _, eff_alloc (n := 179) (d := 16) (k := 1000016) zero41 (by decide), fun b16 hb16 => ?_⟩
   have hBb16 := hb16.1
   have hlt_b3_b16 : b3 < b16 := hb16.2 1000003 _ _ _ rfl
   refine TF 8 ?_
   refine RN ?_
   refine ⟨_, eff_storeA (n := 179) (s := 1000016) (size41.of (by first | exact (hx.setR wi.toNat RecT.zero_fit).len | rfl)) rfl rfl (NodT.one _) hBb16 rfl (by first | (rw [(hx.setR wi.toNat RecT.zero_fit).len]; rfl) | rfl) (LV 2 rfl (LV 3 rfl (LV 14 rfl (LV 15 rfl (LV 16 rfl (LV 142 rfl (LB 1000003 rfl (LeftS.cons (t := 1900000) rfl (Surv.tab (by omega)) (LeftS.cons (t := 1900001) rfl (Surv.tab (by omega)) (LeftS.cons (t := 1900002) rfl (Surv.tab (by omega)) LN)))))))))), ?_⟩
   refine TL ?_
   refine RA rfl ?_
   refine RN ?_
   refine A.sub (KC 2 rfl (KC 3 rfl (KC 9 rfl (KC 14 rfl (KC 15 rfl (KC 16 rfl (KC 1000003 rfl (KC 1000016 rfl (KC 1900000 rfl (KC 1900001 rfl (KC 1900002 rfl KN))))))))))) ?_
   refine GS ?_
   refine TN 7 ?_
   refine RS (ok_loadA (s := 1000003) (by decide) Tryd.underlying41 rfl (size41.of (hx.len)) rfl rfl) ?_
   refine RM rfl ?_
   refine RS (ok_lit [] (EntT.v EntT.zero) (fun _ _ => rfl) (by kernel_rfl)) ?_
   refine RS (ok_call (WithEntry_fn x hx wi EntT.zero EntT.zero_fit) (A3 rfl rfl rfl)) ?_; refine RZ (.tuple #[aggV (NodT.emp 0 0).v, .int .i64 1]) (we_1 (cp1_place (fun h => absurd h.1 (by omega)))) ?_
   refine RM rfl ?_
   refine RS (ok_extractV rfl rfl) ?_
   refine RS (ok_extractV rfl rfl) ?_
   refine RN ?_
   refine ⟨_, _, eff_alloc (n := 179) (d := 17) (k := 1000017) zero41 (by decide), fun b17 hb17 => ?_⟩
   have hBb17 := hb17.1
   have hlt_b3_b17 : b3 < b17 := hb17.2 1000003 _ _ _ rfl
   have hlt_b16_b17 : b16 < b17 := hb17.2 1000016 _ _ _ rfl
   refine TF 8 ?_
   refine RN ?_
   refine ⟨_, eff_storeA (n := 179) (s := 1000017) (size41.of (by first | exact (hx.setE wi.toNat EntT.zero_fit).len | rfl)) rfl rfl (NodT.one _) hBb17 rfl (by first | (rw [(hx.setE wi.toNat EntT.zero_fit).len]; rfl) | rfl) (LV 9 rfl (LV 14 rfl (LV 15 rfl (LV 16 rfl (LV 17 rfl (LV 149 rfl (LB 1000003 rfl (LB 1000016 rfl (LeftS.cons (t := 1900000) rfl (Surv.tab (by omega)) (LeftS.cons (t := 1900001) rfl (Surv.tab (by omega)) (LeftS.cons (t := 1900002) rfl (Surv.tab (by omega)) LN))))))))))), ?_⟩
   refine TL ?_
   refine RA rfl ?_
   refine RN ?_
   refine GS ?_
   refine TL ?_
   refine RM rfl ?_
   refine RM rfl ?_
   refine RBS rfl rfl rfl (.bool true) (by first | rfl | (simp; done) | (simp; omega) | (simp [*]; done) | (simp [*]; omega)) ?_
   refine RM rfl ?_
   refine RQ (ok_move rfl) ?_
   refine RQ (ok_move rfl) ?_
   refine RQ (ok_bin rfl rfl rfl) ?_; refine RZ (.bool true) (by first | rfl | (simp; done) | (simp; omega) | (simp [*]; done) | (simp [*]; omega)) ?_
   refine RP rfl rfl ?_
   refine RM rfl ?_
   refine RQ (ok_move rfl) ?_
   refine RQ (ok_bin rfl rfl rfl) ?_; refine RZ (.bool false) (by first | rfl | (simp; done) | (simp; omega) | (simp [*]; done) | (simp [*]; omega)) ?_
   refine RQ (ok_move rfl) ?_
   refine RQ (ok_loadA (s := 1000016) (by decide) Tryd.underlying41 rfl (size41.of (rfl)) rfl rfl) ?_
   refine RQ (ok_lit [] (NodT.v (NodT.emp 0 0)) (fun _ _ => rfl) (by kernel_rfl)) ?_
   refine RQ (ok_eqlT (n := 6) true flat41 (by decide) (by kernel_rfl) (by kernel_rfl) rfl rfl (NodT.emp_fit 0 (j := 0) (by decide)).kin (NodT.emp_fit 0 (j := 0) (by decide)).kin (iff_of_true rfl rfl)) ?_; refine RZ (.bool true) (by rfl) ?_
   refine RQ (ok_pick rfl rfl) ?_
   refine RP rfl rfl ?_
   refine RM rfl ?_
   refine RQ (ok_move rfl) ?_
   refine RQ (ok_bin rfl rfl rfl) ?_; refine RZ (.bool false) (by first | rfl | (simp; done) | (simp; omega) | (simp [*]; done) | (simp [*]; omega)) ?_
   refine RQ (ok_move rfl) ?_
   refine RQ (ok_loadA (s := 1000017) (by decide) Tryd.underlying41 rfl (size41.of (rfl)) rfl rfl) ?_
   refine RQ (ok_lit [] (NodT.v (NodT.emp 0 0)) (fun _ _ => rfl) (by kernel_rfl)) ?_
   refine RQ (ok_eqlT (n := 6) true flat41 (by decide) (by kernel_rfl) (by kernel_rfl) rfl rfl (NodT.emp_fit 0 (j := 0) (by decide)).kin (NodT.emp_fit 0 (j := 0) (by decide)).kin (iff_of_true rfl rfl)) ?_; refine RZ (.bool true) (by rfl) ?_
   refine RQ (ok_pick rfl rfl) ?_
   refine RP rfl rfl ?_
   refine RM rfl ?_
   refine RQ (ok_callM lives13_fn (Sub.cons rfl KN) tabS_v Args.nil) ?_
   refine RP rfl rfl ?_
   refine RA rfl ?_
   refine RN ?_
   refine A.sub (KC 6 rfl (KC 1000003 rfl (KC 1000016 rfl (KC 1000017 rfl (KC 1900000 rfl (KC 1900001 rfl (KC 1900002 rfl KN))))))) ?_
   refine A.ret ?_
   exact End.ret1 rfl rfl (by first | exact Le.refl _ | exact Le.old _ _)
  ·refine GS ?_
   refine TL ?_
   refine RM rfl ?_
   refine RBS rfl rfl rfl (.bool false) (by first | rfl | (simp; done) | (simp; omega) | (simp [*]; done) | (simp [*]; omega)) ?_
   refine RM rfl ?_
   refine RQ (ok_move rfl) ?_
   refine RQ (ok_bin rfl rfl rfl) ?_; refine RZ (.bool true) (by first | rfl | (simp; done) | (simp; omega) | (simp [*]; done) | (simp [*]; omega)) ?_
   refine RP rfl rfl ?_
   refine RN ?_
   refine A.sub (KC 2 rfl (KC 3 rfl (KC 7 rfl (KC 119 rfl (KC 1000003 rfl (KC 1900000 rfl (KC 1900001 rfl (KC 1900002 rfl KN)))))))) ?_
   refine A.yes rfl ?_
   refine GE ?_
   refine TL ?_
   refine RA rfl ?_
   refine RN ?_
   refine EN ?_
   refine GS ?_
   refine TL ?_
   refine RM rfl ?_
   refine RM rfl ?_
   refine RA rfl ?_
   refine RA rfl ?_
   refine RN ?_
   refine A.seq ?_
   refine GS ?_
   refine TL ?_
   refine RM rfl ?_
   refine RBS rfl rfl rfl (.bool false) (by first | rfl | (simp; done) | (simp; omega) | (simp [*]; done) | (simp [*]; omega)) ?_
   refine RM rfl ?_
   refine RK ?_
   refine RK ?_
   refine RK ?_
   refine RP rfl rfl ?_
   refine RN ?_
   refine A.no rfl ?_
   refine A.skip ?_
   refine EN ?_
   refine A.seq ?_
   refine GS ?_
   refine TL ?_
   refine RM rfl ?_
   refine RBS rfl rfl rfl (.bool false) (by first | rfl | (simp; done) | (simp; omega) | (simp [*]; done) | (simp [*]; omega)) ?_
   refine RM rfl ?_
   refine RK ?_
   refine RK ?_
   refine RK ?_
   refine RP rfl rfl ?_
   refine RN ?_
   refine A.no rfl ?_
   refine A.skip ?_
   refine EN ?_
   refine GS ?_
   refine TN 7 ?_
   refine RS (ok_loadA (s := 1000003) (by decide) Tryd.underlying41 rfl (size41.of (hx.len)) rfl rfl) ?_
   refine RM rfl ?_
   refine RS (ok_lit [] (RecT.v RecT.zero) (fun _ _ => rfl) (by kernel_rfl)) ?_
   refine RS (ok_call (WithRecord_fn x hx wi RecT.zero RecT.zero_fit) (A3 rfl rfl rfl)) ?_; refine RZ (.tuple #[aggV (NodT.emp 0 0).v, .int .i64 1]) (wr_1 (cp1_place (fun h => absurd h.2 (by omega)))) ?_
   refine RM rfl ?_
   refine RS (ok_extractV rfl rfl) ?_
   refine RS (ok_extractV rfl rfl) ?_
   refine RN ?_
   refine ⟨_, _, eff_alloc (n := 179) (d := 16) (k := 1000016) zero41 (by decide), fun b16 hb16 => ?_⟩
   have hBb16 := hb16.1
   have hlt_b3_b16 : b3 < b16 := hb16.2 1000003 _ _ _ rfl
   refine TF 8 ?_
   refine RN ?_
   refine ⟨_, eff_storeA (n := 179) (s := 1000016) (size41.of (by first | exact (hx.setR wi.toNat RecT.zero_fit).len | rfl)) rfl rfl (NodT.one _) hBb16 rfl (by first | (rw [(hx.setR wi.toNat RecT.zero_fit).len]; rfl) | rfl) (LV 2 rfl (LV 3 rfl (LV 14 rfl (LV 15 rfl (LV 16 rfl (LV 142 rfl (LB 1000003 rfl (LeftS.cons (t := 1900000) rfl (Surv.tab (by omega)) (LeftS.cons (t := 1900001) rfl (Surv.tab (by omega)) (LeftS.cons (t := 1900002) rfl (Surv.tab (by omega)) LN)))))))))), ?_⟩
   refine TL ?_
   refine RA rfl ?_
   refine RN ?_
   refine A.sub (KC 2 rfl (KC 3 rfl (KC 9 rfl (KC 14 rfl (KC 15 rfl (KC 16 rfl (KC 1000003 rfl (KC 1000016 rfl (KC 1900000 rfl (KC 1900001 rfl (KC 1900002 rfl KN))))))))))) ?_
   refine GS ?_
   refine TN 7 ?_
   refine RS (ok_loadA (s := 1000003) (by decide) Tryd.underlying41 rfl (size41.of (hx.len)) rfl rfl) ?_
   refine RM rfl ?_
   refine RS (ok_lit [] (EntT.v EntT.zero) (fun _ _ => rfl) (by kernel_rfl)) ?_
   refine RS (ok_call (WithEntry_fn x hx wi EntT.zero EntT.zero_fit) (A3 rfl rfl rfl)) ?_; refine RZ (.tuple #[aggV (NodT.emp 0 0).v, .int .i64 1]) (we_1 (cp1_place (fun h => absurd h.2 (by omega)))) ?_
   refine RM rfl ?_
   refine RS (ok_extractV rfl rfl) ?_
   refine RS (ok_extractV rfl rfl) ?_
   refine RN ?_
   refine ⟨_, _, eff_alloc (n := 179) (d := 17) (k := 1000017) zero41 (by decide), fun b17 hb17 => ?_⟩
   have hBb17 := hb17.1
   have hlt_b3_b17 : b3 < b17 := hb17.2 1000003 _ _ _ rfl
   have hlt_b16_b17 : b16 < b17 := hb17.2 1000016 _ _ _ rfl
   refine TF 8 ?_
   refine RN ?_
   refine ⟨_, eff_storeA (n := 179) (s := 1000017) (size41.of (by first | exact (hx.setE wi.toNat EntT.zero_fit).len | rfl)) rfl rfl (NodT.one _) hBb17 rfl (by first | (rw [(hx.setE wi.toNat EntT.zero_fit).len]; rfl) | rfl) (LV 9 rfl (LV 14 rfl (LV 15 rfl (LV 16 rfl (LV 17 rfl (LV 149 rfl (LB 1000003 rfl (LB 1000016 rfl (LeftS.cons (t := 1900000) rfl (Surv.tab (by omega)) (LeftS.cons (t := 1900001) rfl (Surv.tab (by omega)) (LeftS.cons (t := 1900002) rfl (Surv.tab (by omega)) LN))))))))))), ?_⟩
   refine TL ?_
   refine RA rfl ?_
   refine RN ?_
   refine GS ?_
   refine TL ?_
   refine RM rfl ?_
   refine RM rfl ?_
   refine RBS rfl rfl rfl (.bool true) (by first | rfl | (simp; done) | (simp; omega) | (simp [*]; done) | (simp [*]; omega)) ?_
   refine RM rfl ?_
   refine RQ (ok_move rfl) ?_
   refine RQ (ok_move rfl) ?_
   refine RQ (ok_bin rfl rfl rfl) ?_; refine RZ (.bool true) (by first | rfl | (simp; done) | (simp; omega) | (simp [*]; done) | (simp [*]; omega)) ?_
   refine RP rfl rfl ?_
   refine RM rfl ?_
   refine RQ (ok_move rfl) ?_
   refine RQ (ok_bin rfl rfl rfl) ?_; refine RZ (.bool false) (by first | rfl | (simp; done) | (simp; omega) | (simp [*]; done) | (simp [*]; omega)) ?_
   refine RQ (ok_move rfl) ?_
   refine RQ (ok_loadA (s := 1000016) (by decide) Tryd.underlying41 rfl (size41.of (rfl)) rfl rfl) ?_
   refine RQ (ok_lit [] (NodT.v (NodT.emp 0 0)) (fun _ _ => rfl) (by kernel_rfl)) ?_
   refine RQ (ok_eqlT (n := 6) true flat41 (by decide) (by kernel_rfl) (by kernel_rfl) rfl rfl (NodT.emp_fit 0 (j := 0) (by decide)).kin (NodT.emp_fit 0 (j := 0) (by decide)).kin (iff_of_true rfl rfl)) ?_; refine RZ (.bool true) (by rfl) ?_
   refine RQ (ok_pick rfl rfl) ?_
   refine RP rfl rfl ?_
   refine RM rfl ?_
   refine RQ (ok_move rfl) ?_
   refine RQ (ok_bin rfl rfl rfl) ?_; refine RZ (.bool false) (by first | rfl | (simp; done) | (simp; omega) | (simp [*]; done) | (simp [*]; omega)) ?_
   refine RQ (ok_move rfl) ?_
   refine RQ (ok_loadA (s := 1000017) (by decide) Tryd.underlying41 rfl (size41.of (rfl)) rfl rfl) ?_
   refine RQ (ok_lit [] (NodT.v (NodT.emp 0 0)) (fun _ _ => rfl) (by kernel_rfl)) ?_
   refine RQ (ok_eqlT (n := 6) true flat41 (by decide) (by kernel_rfl) (by kernel_rfl) rfl rfl (NodT.emp_fit 0 (j := 0) (by decide)).kin (NodT.emp_fit 0 (j := 0) (by decide)).kin (iff_of_true rfl rfl)) ?_; refine RZ (.bool true) (by rfl) ?_
   refine RQ (ok_pick rfl rfl) ?_
   refine RP rfl rfl ?_
   refine RM rfl ?_
   refine RQ (ok_callM lives13_fn (Sub.cons rfl KN) tabS_v Args.nil) ?_
   refine RP rfl rfl ?_
   refine RA rfl ?_
   refine RN ?_
   refine A.sub (KC 6 rfl (KC 1000003 rfl (KC 1000016 rfl (KC 1000017 rfl (KC 1900000 rfl (KC 1900001 rfl (KC 1900002 rfl KN))))))) ?_
   refine A.ret ?_
   exact End.ret1 rfl rfl (by first | exact Le.refl _ | exact Le.old _ _)
  ·refine GS ?_
   refine TL ?_
   refine RM rfl ?_
   refine RBS rfl rfl rfl (.bool false) (by first | rfl | (simp; done) | (simp; omega) | (simp [*]; done) | (simp [*]; omega)) ?_
   refine RM rfl ?_
   refine RQ (ok_move rfl) ?_
   refine RQ (ok_bin rfl rfl rfl) ?_; refine RZ (.bool false) (by first | rfl | (simp; done) | (simp; omega) | (simp [*]; done) | (simp [*]; omega)) ?_
   refine RP rfl rfl ?_
   refine RN ?_
   refine A.sub (KC 2 rfl (KC 3 rfl (KC 7 rfl (KC 119 rfl (KC 1000003 rfl (KC 1900000 rfl (KC 1900001 rfl (KC 1900002 rfl KN)))))))) ?_
   refine A.no rfl ?_
   refine A.skip ?_
   refine EN ?_
   refine GS ?_
   refine TL ?_
   refine RM rfl ?_
   refine RM rfl ?_
   refine RA rfl ?_
   refine RA rfl ?_
   refine RN ?_
   refine A.seq ?_
   refine GS ?_
   refine TL ?_
   refine RM rfl ?_
   refine RBS rfl rfl rfl (.bool true) (by first | rfl | (simp; done) | (simp; omega) | (simp [*]; done) | (simp [*]; omega)) ?_
   refine RM rfl ?_
   refine RQ (ok_field field41_0 (by decide) rfl) ?_
   refine RQ (ok_loadV (s := 1000003) (by decide) Tryd.underlying5 rfl rfl rfl (rfl)) ?_
   refine RQ (ok_bin rfl rfl rfl) ?_; refine RZ (.bool false) (pos_n hw.2) ?_
   refine RP rfl rfl ?_
   refine RN ?_
   refine A.no rfl ?_
   refine A.skip ?_
   refine EN ?_
   refine A.seq ?_
   refine GS ?_
   refine TL ?_
   refine RM rfl ?_
   refine RBS rfl rfl rfl (.bool true) (by first | rfl | (simp; done) | (simp; omega) | (simp [*]; done) | (simp [*]; omega)) ?_
   refine RM rfl ?_
   refine RQ (ok_field field41_0 (by decide) rfl) ?_
   refine RQ (ok_loadV (s := 1000003) (by decide) Tryd.underlying5 rfl rfl rfl (rfl)) ?_
   refine RQ (ok_bin rfl rfl rfl) ?_; refine RZ (.bool true) (by first | rfl | (simp; done) | (simp; omega) | (simp [*]; done) | (simp [*]; omega)) ?_
   refine RP rfl rfl ?_
   refine RN ?_
   refine A.yes rfl ?_
   refine GE ?_
   refine TL ?_
   refine RA rfl ?_
   refine RN ?_
   refine EN ?_
   refine GS ?_
   refine TN 7 ?_
   refine RS (ok_loadA (s := 1000003) (by decide) Tryd.underlying41 rfl (size41.of (hx.len)) rfl rfl) ?_
   refine RM rfl ?_
   refine RS (ok_lit [] (RecT.v RecT.zero) (fun _ _ => rfl) (by kernel_rfl)) ?_
   refine RS (ok_call (WithRecord_fn x hx wi RecT.zero RecT.zero_fit) (A3 rfl rfl rfl)) ?_; refine RZ (.tuple #[aggV ({ x with R := x.R.set wi.toNat RecT.zero } : NodT).v, .int .i64 0]) (wr_0 (by rw [dR hw.2]; exact cp0 hw.1 hk) RecT.zero_ck) ?_
   refine RM rfl ?_
   refine RS (ok_extractV rfl rfl) ?_
   refine RS (ok_extractV rfl rfl) ?_
   refine RN ?_
   refine ⟨_, _, eff_alloc (n := 179) (d := 16) (k := 1000016) zero41 (by decide), fun b16 hb16 => ?_⟩
   have hBb16 := hb16.1
   have hlt_b3_b16 : b3 < b16 := hb16.2 1000003 _ _ _ rfl
   refine TF 8 ?_
   refine RN ?_
   refine ⟨_, eff_storeA (n := 179) (s := 1000016) (size41.of (by first | exact (hx.setR wi.toNat RecT.zero_fit).len | rfl)) rfl rfl (NodT.one _) hBb16 rfl (by first | (rw [(hx.setR wi.toNat RecT.zero_fit).len]; rfl) | rfl) (LV 2 rfl (LV 3 rfl (LV 14 rfl (LV 15 rfl (LV 16 rfl (LV 142 rfl (LB 1000003 rfl (LeftS.cons (t := 1900000) rfl (Surv.tab (by omega)) (LeftS.cons (t := 1900001) rfl (Surv.tab (by omega)) (LeftS.cons (t := 1900002) rfl (Surv.tab (by omega)) LN)))))))))), ?_⟩
   refine TL ?_
   refine RA rfl ?_
   refine RN ?_
   refine A.sub (KC 2 rfl (KC 3 rfl (KC 9 rfl (KC 14 rfl (KC 15 rfl (KC 16 rfl (KC 1000003 rfl (KC 1000016 rfl (KC 1900000 rfl (KC 1900001 rfl (KC 1900002 rfl KN))))))))))) ?_
   refine GS ?_
   refine TN 7 ?_
   refine RS (ok_loadA (s := 1000003) (by decide) Tryd.underlying41 rfl (size41.of (hx.len)) rfl rfl) ?_
   refine RM rfl ?_
   refine RS (ok_lit [] (EntT.v EntT.zero) (fun _ _ => rfl) (by kernel_rfl)) ?_
   refine RS (ok_call (WithEntry_fn x hx wi EntT.zero EntT.zero_fit) (A3 rfl rfl rfl)) ?_; refine RZ (.tuple #[aggV (NodT.emp 0 0).v, .int .i64 1]) (we_1 (by rw [dR hw.2]; exact cp1_kind hk)) ?_
   refine RM rfl ?_
   refine RS (ok_extractV rfl rfl) ?_
   refine RS (ok_extractV rfl rfl) ?_
   refine RN ?_
   refine ⟨_, _, eff_alloc (n := 179) (d := 17) (k := 1000017) zero41 (by decide), fun b17 hb17 => ?_⟩
   have hBb17 := hb17.1
   have hlt_b3_b17 : b3 < b17 := hb17.2 1000003 _ _ _ rfl
   have hlt_b16_b17 : b16 < b17 := hb17.2 1000016 _ _ _ rfl
   refine TF 8 ?_
   refine RN ?_
   refine ⟨_, eff_storeA (n := 179) (s := 1000017) (size41.of (by first | exact (hx.setE wi.toNat EntT.zero_fit).len | rfl)) rfl rfl (NodT.one _) hBb17 rfl (by first | (rw [(hx.setE wi.toNat EntT.zero_fit).len]; rfl) | rfl) (LV 9 rfl (LV 14 rfl (LV 15 rfl (LV 16 rfl (LV 17 rfl (LV 149 rfl (LB 1000003 rfl (LB 1000016 rfl (LeftS.cons (t := 1900000) rfl (Surv.tab (by omega)) (LeftS.cons (t := 1900001) rfl (Surv.tab (by omega)) (LeftS.cons (t := 1900002) rfl (Surv.tab (by omega)) LN))))))))))), ?_⟩
   refine TL ?_
   refine RA rfl ?_
   refine RN ?_
   refine GS ?_
   refine TL ?_
   refine RM rfl ?_
   refine RM rfl ?_
   refine RBS rfl rfl rfl (.bool true) (by first | rfl | (simp; done) | (simp; omega) | (simp [*]; done) | (simp [*]; omega)) ?_
   refine RM rfl ?_
   refine RQ (ok_move rfl) ?_
   refine RQ (ok_move rfl) ?_
   refine RQ (ok_bin rfl rfl rfl) ?_; refine RZ (.bool true) (by first | rfl | (simp; done) | (simp; omega) | (simp [*]; done) | (simp [*]; omega)) ?_
   refine RP rfl rfl ?_
   refine RM rfl ?_
   refine RQ (ok_move rfl) ?_
   refine RQ (ok_bin rfl rfl rfl) ?_; refine RZ (.bool true) (by first | rfl | (simp; done) | (simp; omega) | (simp [*]; done) | (simp [*]; omega)) ?_
   refine RQ (ok_move rfl) ?_
   refine RK ?_
   refine RK ?_
   refine RK ?_
   refine RQ (ok_pick rfl rfl) ?_
   refine RP rfl rfl ?_
   refine RM rfl ?_
   refine RQ (ok_move rfl) ?_
   refine RQ (ok_bin rfl rfl rfl) ?_; refine RZ (.bool false) (by first | rfl | (simp; done) | (simp; omega) | (simp [*]; done) | (simp [*]; omega)) ?_
   refine RQ (ok_move rfl) ?_
   refine RQ (ok_loadA (s := 1000017) (by decide) Tryd.underlying41 rfl (size41.of (rfl)) rfl rfl) ?_
   refine RQ (ok_lit [] (NodT.v (NodT.emp 0 0)) (fun _ _ => rfl) (by kernel_rfl)) ?_
   refine RQ (ok_eqlT (n := 6) true flat41 (by decide) (by kernel_rfl) (by kernel_rfl) rfl rfl (NodT.emp_fit 0 (j := 0) (by decide)).kin (NodT.emp_fit 0 (j := 0) (by decide)).kin (iff_of_true rfl rfl)) ?_; refine RZ (.bool true) (by rfl) ?_
   refine RQ (ok_pick rfl rfl) ?_
   refine RP rfl rfl ?_
   refine RM rfl ?_
   refine RQ (ok_callM lives13_fn (Sub.cons rfl KN) tabS_v Args.nil) ?_
   refine RP rfl rfl ?_
   refine RA rfl ?_
   refine RN ?_
   refine A.sub (KC 6 rfl (KC 1000003 rfl (KC 1000016 rfl (KC 1000017 rfl (KC 1900000 rfl (KC 1900001 rfl (KC 1900002 rfl KN))))))) ?_
   refine A.ret ?_
   exact End.ret1 rfl rfl (by first | exact Le.refl _ | exact Le.old _ _)
  ·refine GS ?_
   refine TL ?_
   refine RM rfl ?_
   refine RBS rfl rfl rfl (.bool false) (by first | rfl | (simp; done) | (simp; omega) | (simp [*]; done) | (simp [*]; omega)) ?_
   refine RM rfl ?_
   refine RQ (ok_move rfl) ?_
   refine RQ (ok_bin rfl rfl rfl) ?_; refine RZ (.bool false) (by first | rfl | (simp; done) | (simp; omega) | (simp [*]; done) | (simp [*]; omega)) ?_
   refine RP rfl rfl ?_
   refine RN ?_
   refine A.sub (KC 2 rfl (KC 3 rfl (KC 7 rfl (KC 119 rfl (KC 1000003 rfl (KC 1900000 rfl (KC 1900001 rfl (KC 1900002 rfl KN)))))))) ?_
   refine A.no rfl ?_
   refine A.skip ?_
   refine EN ?_
   refine GS ?_
   refine TL ?_
   refine RM rfl ?_
   refine RM rfl ?_
   refine RA rfl ?_
   refine RA rfl ?_
   refine RN ?_
   refine A.seq ?_
   refine GS ?_
   refine TL ?_
   refine RM rfl ?_
   refine RBS rfl rfl rfl (.bool true) (by first | rfl | (simp; done) | (simp; omega) | (simp [*]; done) | (simp [*]; omega)) ?_
   refine RM rfl ?_
   refine RQ (ok_field field41_0 (by decide) rfl) ?_
   refine RQ (ok_loadV (s := 1000003) (by decide) Tryd.underlying5 rfl rfl rfl (rfl)) ?_
   refine RQ (ok_bin rfl rfl rfl) ?_; refine RZ (.bool true) (pos_y hw.2) ?_
   refine RP rfl rfl ?_
   refine RN ?_
   refine A.yes rfl ?_
   refine GE ?_
   refine TL ?_
   refine RA rfl ?_
   refine RN ?_
   refine EN ?_
   refine A.seq ?_
   refine GS ?_
   refine TL ?_
   refine RM rfl ?_
   refine RBS rfl rfl rfl (.bool true) (by first | rfl | (simp; done) | (simp; omega) | (simp [*]; done) | (simp [*]; omega)) ?_
   refine RM rfl ?_
   refine RQ (ok_field field41_0 (by decide) rfl) ?_
   refine RQ (ok_loadV (s := 1000003) (by decide) Tryd.underlying5 rfl rfl rfl (rfl)) ?_
   refine RQ (ok_bin rfl rfl rfl) ?_; refine RZ (.bool false) (by first | rfl | (simp; done) | (simp; omega) | (simp [*]; done) | (simp [*]; omega)) ?_
   refine RP rfl rfl ?_
   refine RN ?_
   refine A.no rfl ?_
   refine A.skip ?_
   refine EN ?_
   refine GS ?_
   refine TN 7 ?_
   refine RS (ok_loadA (s := 1000003) (by decide) Tryd.underlying41 rfl (size41.of (hx.len)) rfl rfl) ?_
   refine RM rfl ?_
   refine RS (ok_lit [] (RecT.v RecT.zero) (fun _ _ => rfl) (by kernel_rfl)) ?_
   refine RS (ok_call (WithRecord_fn x hx wi RecT.zero RecT.zero_fit) (A3 rfl rfl rfl)) ?_; refine RZ (.tuple #[aggV (NodT.emp 0 0).v, .int .i64 1]) (wr_1 (by rw [dE hw.2]; exact cp1_kind hk)) ?_
   refine RM rfl ?_
   refine RS (ok_extractV rfl rfl) ?_
   refine RS (ok_extractV rfl rfl) ?_
   refine RN ?_
   refine ⟨_, _, eff_alloc (n := 179) (d := 16) (k := 1000016) zero41 (by decide), fun b16 hb16 => ?_⟩
   have hBb16 := hb16.1
   have hlt_b3_b16 : b3 < b16 := hb16.2 1000003 _ _ _ rfl
   refine TF 8 ?_
   refine RN ?_
   refine ⟨_, eff_storeA (n := 179) (s := 1000016) (size41.of (by first | exact (hx.setR wi.toNat RecT.zero_fit).len | rfl)) rfl rfl (NodT.one _) hBb16 rfl (by first | (rw [(hx.setR wi.toNat RecT.zero_fit).len]; rfl) | rfl) (LV 2 rfl (LV 3 rfl (LV 14 rfl (LV 15 rfl (LV 16 rfl (LV 142 rfl (LB 1000003 rfl (LeftS.cons (t := 1900000) rfl (Surv.tab (by omega)) (LeftS.cons (t := 1900001) rfl (Surv.tab (by omega)) (LeftS.cons (t := 1900002) rfl (Surv.tab (by omega)) LN)))))))))), ?_⟩
   refine TL ?_
   refine RA rfl ?_
   refine RN ?_
   refine A.sub (KC 2 rfl (KC 3 rfl (KC 9 rfl (KC 14 rfl (KC 15 rfl (KC 16 rfl (KC 1000003 rfl (KC 1000016 rfl (KC 1900000 rfl (KC 1900001 rfl (KC 1900002 rfl KN))))))))))) ?_
   refine GS ?_
   refine TN 7 ?_
   refine RS (ok_loadA (s := 1000003) (by decide) Tryd.underlying41 rfl (size41.of (hx.len)) rfl rfl) ?_
   refine RM rfl ?_
   refine RS (ok_lit [] (EntT.v EntT.zero) (fun _ _ => rfl) (by kernel_rfl)) ?_
   refine RS (ok_call (WithEntry_fn x hx wi EntT.zero EntT.zero_fit) (A3 rfl rfl rfl)) ?_; refine RZ (.tuple #[aggV ({ x with E := x.E.set wi.toNat EntT.zero } : NodT).v, .int .i64 0]) (we_0 (by rw [dE hw.2]; exact cp0 hw.1 hk) EntT.zero_ck) ?_
   refine RM rfl ?_
   refine RS (ok_extractV rfl rfl) ?_
   refine RS (ok_extractV rfl rfl) ?_
   refine RN ?_
   refine ⟨_, _, eff_alloc (n := 179) (d := 17) (k := 1000017) zero41 (by decide), fun b17 hb17 => ?_⟩
   have hBb17 := hb17.1
   have hlt_b3_b17 : b3 < b17 := hb17.2 1000003 _ _ _ rfl
   have hlt_b16_b17 : b16 < b17 := hb17.2 1000016 _ _ _ rfl
   refine TF 8 ?_
   refine RN ?_
   refine ⟨_, eff_storeA (n := 179) (s := 1000017) (size41.of (by first | exact (hx.setE wi.toNat EntT.zero_fit).len | rfl)) rfl rfl (NodT.one _) hBb17 rfl (by first | (rw [(hx.setE wi.toNat EntT.zero_fit).len]; rfl) | rfl) (LV 9 rfl (LV 14 rfl (LV 15 rfl (LV 16 rfl (LV 17 rfl (LV 149 rfl (LB 1000003 rfl (LB 1000016 rfl (LeftS.cons (t := 1900000) rfl (Surv.tab (by omega)) (LeftS.cons (t := 1900001) rfl (Surv.tab (by omega)) (LeftS.cons (t := 1900002) rfl (Surv.tab (by omega)) LN))))))))))), ?_⟩
   refine TL ?_
   refine RA rfl ?_
   refine RN ?_
   refine GS ?_
   refine TL ?_
   refine RM rfl ?_
   refine RM rfl ?_
   refine RBS rfl rfl rfl (.bool true) (by first | rfl | (simp; done) | (simp; omega) | (simp [*]; done) | (simp [*]; omega)) ?_
   refine RM rfl ?_
   refine RQ (ok_move rfl) ?_
   refine RQ (ok_move rfl) ?_
   refine RQ (ok_bin rfl rfl rfl) ?_; refine RZ (.bool true) (by first | rfl | (simp; done) | (simp; omega) | (simp [*]; done) | (simp [*]; omega)) ?_
   refine RP rfl rfl ?_
   refine RM rfl ?_
   refine RQ (ok_move rfl) ?_
   refine RQ (ok_bin rfl rfl rfl) ?_; refine RZ (.bool false) (by first | rfl | (simp; done) | (simp; omega) | (simp [*]; done) | (simp [*]; omega)) ?_
   refine RQ (ok_move rfl) ?_
   refine RQ (ok_loadA (s := 1000016) (by decide) Tryd.underlying41 rfl (size41.of (rfl)) rfl rfl) ?_
   refine RQ (ok_lit [] (NodT.v (NodT.emp 0 0)) (fun _ _ => rfl) (by kernel_rfl)) ?_
   refine RQ (ok_eqlT (n := 6) true flat41 (by decide) (by kernel_rfl) (by kernel_rfl) rfl rfl (NodT.emp_fit 0 (j := 0) (by decide)).kin (NodT.emp_fit 0 (j := 0) (by decide)).kin (iff_of_true rfl rfl)) ?_; refine RZ (.bool true) (by rfl) ?_
   refine RQ (ok_pick rfl rfl) ?_
   refine RP rfl rfl ?_
   refine RM rfl ?_
   refine RQ (ok_move rfl) ?_
   refine RQ (ok_bin rfl rfl rfl) ?_; refine RZ (.bool true) (by first | rfl | (simp; done) | (simp; omega) | (simp [*]; done) | (simp [*]; omega)) ?_
   refine RQ (ok_move rfl) ?_
   refine RK ?_
   refine RK ?_
   refine RK ?_
   refine RQ (ok_pick rfl rfl) ?_
   refine RP rfl rfl ?_
   refine RM rfl ?_
   refine RQ (ok_callM lives13_fn (Sub.cons rfl KN) tabS_v Args.nil) ?_
   refine RP rfl rfl ?_
   refine RA rfl ?_
   refine RN ?_
   refine A.sub (KC 6 rfl (KC 1000003 rfl (KC 1000016 rfl (KC 1000017 rfl (KC 1900000 rfl (KC 1900001 rfl (KC 1900002 rfl KN))))))) ?_
   refine A.ret ?_
   exact End.ret1 rfl rfl (by first | exact Le.refl _ | exact Le.old _ _)
set_option maxHeartbeats 4000000 in
theorem NErr_k (x : NodT) (hx : x.Fit) (n wi : Int) (hk : x.ck = 1) : FnM Tryd.prog 6 tabN [.v (aggV x.v), .v (.int .i64 (n)), .v (.int .i64 (wi))] (.v (.bool true)) := by
 refine FnM.of Tryd.func6 rfl (by kernel_rfl) Tryd.ntmps6 (by simp) (by decide) (fun w => [(0, .v (aggV x.v)), (1, .v (.int .i64 (n))), (2, .v (.int .i64 (wi))), (1900000, tab 0 (sizV)), (1900001, tab 1 (H8.list.map u32V)), (1900002, tab 2 (K64.map u32V))]) (fun w => (StartM.v rfl (StartM.v rfl (StartM.v rfl (StartM.m (by simp [tabN]) (by decide) (StartM.m (by simp [tabN]) (by decide) (StartM.m (by simp [tabN]) (by decide) StartM.nil))))))) fun w₀ hM => ?_
 have htab := tabN_hi hM
 refine GS ?_
 refine TN 0 ?_
 refine RN ?_
 refine ⟨_, _, eff_box (n := 179) (d := 3) (k := 1000003) rfl (by decide), fun b3 hb3 => ?_⟩
 have hBb3 := hb3.1
 refine TL ?_
 refine RA rfl ?_
 refine RN ?_
 refine GS ?_
 refine TL ?_
 refine RS (ok_loadA (s := 1000003) (by decide) Tryd.underlying41 rfl (size41.of (hx.len)) rfl rfl) ?_
 refine RS (ok_call (rCheck_fn x hx) (A1 rfl)) ?_; refine RZ (.int .i64 1) (by rw [hk]) ?_
 refine RA rfl ?_
 refine RN ?_
 refine GS ?_
 refine TL ?_
 refine RS (ok_loadA (s := 1000003) (by decide) Tryd.underlying41 rfl (size41.of (hx.len)) rfl rfl) ?_
 refine RS (ok_call (nPut_bad x hx (by rw [hk]; decide)) (A1 rfl)) ?_
 refine RM rfl ?_
 refine RS (ok_extractV rfl rfl) ?_
 refine RS (ok_extractV rfl rfl) ?_; refine RZ (.int .i64 1) (by rw [hk]) ?_
 refine RA rfl ?_
 refine RA rfl ?_
 refine RN ?_
 refine GS ?_
 refine TN 5 ?_
 refine RS (ok_loadA (s := 1000003) (by decide) Tryd.underlying41 rfl (size41.of (hx.len)) rfl rfl) ?_
 refine RS (ok_callM (nDigest_bad x hx (by rw [hk]; decide)) (Sub.cons rfl (Sub.cons rfl (Sub.cons rfl KN))) tabN_v (A1 rfl)) ?_
 refine RM rfl ?_
 refine RS (ok_extractV rfl rfl) ?_
 refine RS (ok_extractV rfl rfl) ?_; refine RZ (.int .i64 1) (by rw [hk]) ?_
 refine RN ?_
 refine ⟨_, _, eff_alloc (n := 179) (d := 10) (k := 1000010) zero33 (by decide), fun b10 hb10 => ?_⟩
 have hBb10 := hb10.1
 refine TF 6 ?_
 refine RN ?_
 refine ⟨_, eff_storeA (n := 179) (s := 1000010) (size33.of (rfl)) rfl rfl (all_bytes _) hBb10 rfl (rfl) (LV 1 rfl (LV 2 rfl (LV 3 rfl (LV 7 rfl (LV 8 rfl (LV 9 rfl (LV 10 rfl (LV 29 rfl (LT 1000003 rfl (LeftS.cons (t := 1900000) rfl (Surv.tab (by omega)) (LeftS.cons (t := 1900001) rfl (Surv.tab (by omega)) (LeftS.cons (t := 1900002) rfl (Surv.tab (by omega)) LN)))))))))))), ?_⟩
 refine TL ?_
 refine RA rfl ?_
 refine RN ?_
 refine A.seq ?_
 refine GD ?_
 refine TL ?_
 refine RS (ok_loadA (s := 1000003) (by decide) Tryd.underlying41 rfl (size41.of (hx.len)) rfl rfl) ?_
 refine RS (ok_call (nCheck_fn x hx) (A1 rfl)) ?_; refine RZ (.int .i64 1) (by rw [hk]) ?_
 refine RM rfl ?_
 refine RBS rfl rfl rfl (.bool false) (by first | rfl | (simp; done) | (simp; omega) | (simp [*]; done) | (simp [*]; omega)) ?_
 refine RM rfl ?_
 refine RQ (ok_move rfl) ?_
 refine RQ (ok_move rfl) ?_
 refine RQ (ok_bin rfl rfl rfl) ?_; refine RZ (.bool false) (by first | rfl | (simp; done) | (simp; omega) | (simp [*]; done) | (simp [*]; omega)) ?_
 refine RP rfl rfl ?_
 refine RM rfl ?_
 refine RQ (ok_move rfl) ?_
 refine RQ (ok_move rfl) ?_
 refine RQ (ok_bin rfl rfl rfl) ?_; refine RZ (.bool false) (by first | rfl | (simp; done) | (simp; omega) | (simp [*]; done) | (simp [*]; omega)) ?_
 refine RP rfl rfl ?_
 refine RM rfl ?_
 refine RQ (ok_move rfl) ?_
 refine RQ (ok_loadA (s := 1000003) (by decide) Tryd.underlying41 rfl (size41.of (hx.len)) rfl rfl) ?_
 refine RQ (ok_call (nFits_fn n x hx) (A2 rfl rfl)) ?_
 refine RQ (ok_move rfl) ?_
 refine RQ (ok_loadA (s := 1000003) (by decide) Tryd.underlying41 rfl (size41.of (hx.len)) rfl rfl) ?_
 refine RQ (ok_call (rFits_fn n x hx) (A2 rfl rfl)) ?_
 refine RQ (ok_bin rfl rfl rfl) ?_; refine RZ (.bool false) (by first | rfl | (simp; done) | (simp; omega) | (simp [*]; done) | (simp [*]; omega)) ?_
 refine RP rfl rfl ?_
 refine RM rfl ?_
 refine RQ (ok_move rfl) ?_
 refine RQ (ok_bin rfl rfl rfl) ?_; refine RZ (.bool true) (by first | rfl | (simp; done) | (simp; omega) | (simp [*]; done) | (simp [*]; omega)) ?_
 refine RQ (ok_move rfl) ?_
 refine RQ (ok_move rfl) ?_
 refine RQ (ok_lenV Tryd.underlying44 rfl) ?_
 refine RQ (ok_bin rfl rfl rfl) ?_; refine RZ (.bool false) (by first | rfl | (simp; done) | (simp; omega) | (simp [*]; done) | (simp [*]; omega)) ?_
 refine RQ (ok_move rfl) ?_
 refine RQ (ok_loadA (s := 1000010) (by decide) Tryd.underlying33 rfl (size33.of (rfl)) rfl rfl) ?_
 refine RQ (ok_litP [] Tryd.underlying33 info5 zero33 (by decide) trivial rfl) ?_; refine RZ (aggV (zD.map byteV)) (by rfl) ?_
 refine RQ (ok_neqT (n := 4) true flat33r (by decide) (by kernel_rfl) (by kernel_rfl) rfl rfl (kinB rfl) (kinB rfl) (iff_of_true rfl rfl)) ?_; refine RZ (.bool false) (by rfl) ?_
 refine RQ (ok_pick rfl rfl) ?_
 refine RQ (ok_pick rfl rfl) ?_
 refine RP rfl rfl ?_
 refine RN ?_
 refine A.sub (KC 2 rfl (KC 3 rfl (KC 7 rfl (KC 66 rfl (KC 1000003 rfl (KC 1000010 rfl (KC 1900000 rfl (KC 1900001 rfl (KC 1900002 rfl KN))))))))) ?_
 refine A.no rfl ?_
 refine A.skip ?_
 refine EN ?_
 refine GS ?_
 refine TL ?_
 refine RA rfl ?_
 refine RN ?_
 refine A.seq ?_
 refine GS ?_
 refine TL ?_
 refine RA rfl ?_
 refine RN ?_
 refine A.block ?_
 refine A.loop (ι := Nat) (fun i => i ≤ 4) (fun i => [(2, .v (.int .i64 (wi))), (3, .v (ptr b3)), (7, .v (.int .i64 1)), (12, .v (nI (cnt (usP x) i))), (13, .v (nI (i))), (1000003, blk b3 41 x.v), (1900000, tab 0 (sizV)), (1900001, tab 1 (H8.list.map u32V)), (1900002, tab 2 (K64.map u32V))]) (fun i => 4 - i) 0 ?_ ?_ ?_
 ·exact Nat.zero_le _
 ·exact (KC 2 rfl (KC 3 rfl (KC 7 rfl (KE 12 rfl (by rfl) (KE 13 rfl (by rfl) (KC 1000003 rfl (KC 1900000 rfl (KC 1900001 rfl (KC 1900002 rfl KN)))))))))
 intro i hG
 refine A.seq ?_
 refine GS ?_
 refine TL ?_
 refine RM rfl ?_
 refine RB rfl rfl rfl ?_
 refine RN ?_
 refine A.cond rfl (fun hc68 => ?_) (fun hc68 => ?_)
 ·have hi : i < 4 := by simp at hc68; omega
  refine A.skip ?_
  refine EN ?_
  refine A.seq ?_
  refine A.block ?_
  rcases usP_case x i with ⟨h0, hs, hy⟩ | ⟨h0, hs, hy⟩ | ⟨h0, hs, hy⟩ | ⟨h0, hs, hy⟩
  ·refine GS ?_
   refine TL ?_
   refine RS (ok_field field41_0 (by decide) rfl) ?_
   refine RS (ok_loadV (s := 1000003) (by decide) Tryd.underlying5 rfl rfl rfl (rfl)) ?_
   refine RBS rfl rfl rfl (.bool true) (by first | rfl | (simp; done) | (simp; omega) | (simp [*]; done) | (simp [*]; omega)) ?_
   refine RM rfl ?_
   refine RQ (ok_move rfl) ?_
   refine RQ (ok_field field41_2 (by decide) rfl) ?_
   refine RQ (ok_indexN (i) Tryd.underlying36 size35 rfl rfl (rfl) (hi)) ?_
   refine RQ (ok_field field35_0 (by decide) rfl) ?_
   refine RQ (ok_loadV (s := 1000003) (by decide) Tryd.underlying5 rfl rfl rfl (hx.rec_x hi)) ?_
   refine RQ (ok_bin rfl rfl rfl) ?_; refine RZ (.bool true) (pos_y hs) ?_
   refine RP rfl rfl ?_
   refine RM rfl ?_
   refine RK ?_
   refine RK ?_
   refine RK ?_
   refine RK ?_
   refine RunK.skippedU rfl rfl rfl rfl ?_
   refine RunK.skippedU rfl rfl rfl rfl ?_
   refine RunK.skippedU rfl rfl rfl rfl ?_
   refine RunK.skippedU rfl rfl rfl rfl ?_
   refine RunK.skippedU rfl rfl rfl rfl ?_
   refine RunK.skippedU rfl rfl rfl rfl ?_
   refine RK ?_
   refine RP rfl rfl ?_
   refine RN ?_
   refine A.sub (KC 2 rfl (KC 3 rfl (KC 7 rfl (KC 12 rfl (KC 13 rfl (KC 94 rfl (KC 1000003 rfl (KC 1900000 rfl (KC 1900001 rfl (KC 1900002 rfl KN)))))))))) ?_
   refine A.yes rfl ?_
   refine GE ?_
   refine TL ?_
   refine RM rfl ?_
   refine RBS rfl rfl rfl (nI (cnt (usP x) (i + 1))) (wrap_eq (by rw [cnt_y (p := usP x) hy]; omega) (by have := cnt_le (usP x) (i + 1); omega)) ?_
   refine RA rfl ?_
   refine RN ?_
   refine End.normal_block ?_
   refine EN ?_
   refine GE ?_
   refine TL ?_
   refine RM rfl ?_
   refine RBS rfl rfl rfl (nI (i + 1)) (wrap_eq (by omega) (by omega)) ?_
   refine RA rfl ?_
   refine RN ?_
   refine End.normal_then ?_
   refine End.again (i + 1) ?_ ?_ ?_
   ·show _ ≤ _; omega
   ·show _ - _ < _ - _; omega
   ·exact (KC 2 rfl (KC 3 rfl (KC 7 rfl (KE 12 rfl (by first | rfl | rw [cnt_n (p := usP x) hy]) (KC 13 rfl (KC 1000003 rfl (KC 1900000 rfl (KC 1900001 rfl (KC 1900002 rfl KN)))))))))
  ·refine GS ?_
   refine TL ?_
   refine RS (ok_field field41_0 (by decide) rfl) ?_
   refine RS (ok_loadV (s := 1000003) (by decide) Tryd.underlying5 rfl rfl rfl (rfl)) ?_
   refine RBS rfl rfl rfl (.bool true) (by first | rfl | (simp; done) | (simp; omega) | (simp [*]; done) | (simp [*]; omega)) ?_
   refine RM rfl ?_
   refine RQ (ok_move rfl) ?_
   refine RQ (ok_field field41_2 (by decide) rfl) ?_
   refine RQ (ok_indexN (i) Tryd.underlying36 size35 rfl rfl (rfl) (hi)) ?_
   refine RQ (ok_field field35_0 (by decide) rfl) ?_
   refine RQ (ok_loadV (s := 1000003) (by decide) Tryd.underlying5 rfl rfl rfl (hx.rec_x hi)) ?_
   refine RQ (ok_bin rfl rfl rfl) ?_; refine RZ (.bool false) (pos_n hs) ?_
   refine RP rfl rfl ?_
   refine RM rfl ?_
   refine RQ (ok_field field41_0 (by decide) rfl) ?_
   refine RQ (ok_loadV (s := 1000003) (by decide) Tryd.underlying5 rfl rfl rfl (rfl)) ?_
   refine RQ (ok_bin rfl rfl rfl) ?_; refine RZ (.bool false) (by first | rfl | (simp; done) | (simp; omega) | (simp [*]; done) | (simp [*]; omega)) ?_
   refine RQ (ok_move rfl) ?_
   refine RK ?_
   refine RK ?_
   refine RK ?_
   refine RK ?_
   refine RK ?_
   refine RK ?_
   refine RQ (ok_pick rfl rfl) ?_
   refine RP rfl rfl ?_
   refine RN ?_
   refine A.sub (KC 2 rfl (KC 3 rfl (KC 7 rfl (KC 12 rfl (KC 13 rfl (KC 94 rfl (KC 1000003 rfl (KC 1900000 rfl (KC 1900001 rfl (KC 1900002 rfl KN)))))))))) ?_
   refine A.no rfl ?_
   refine A.skip ?_
   refine End.normal_block ?_
   refine EN ?_
   refine GE ?_
   refine TL ?_
   refine RM rfl ?_
   refine RBS rfl rfl rfl (nI (i + 1)) (wrap_eq (by omega) (by omega)) ?_
   refine RA rfl ?_
   refine RN ?_
   refine End.normal_then ?_
   refine End.again (i + 1) ?_ ?_ ?_
   ·show _ ≤ _; omega
   ·show _ - _ < _ - _; omega
   ·exact (KC 2 rfl (KC 3 rfl (KC 7 rfl (KE 12 rfl (by first | rfl | rw [cnt_n (p := usP x) hy]) (KC 13 rfl (KC 1000003 rfl (KC 1900000 rfl (KC 1900001 rfl (KC 1900002 rfl KN)))))))))
  ·refine GS ?_
   refine TL ?_
   refine RS (ok_field field41_0 (by decide) rfl) ?_
   refine RS (ok_loadV (s := 1000003) (by decide) Tryd.underlying5 rfl rfl rfl (rfl)) ?_
   refine RBS rfl rfl rfl (.bool false) (by first | rfl | (simp; done) | (simp; omega) | (simp [*]; done) | (simp [*]; omega)) ?_
   refine RM rfl ?_
   refine RK ?_
   refine RK ?_
   refine RK ?_
   refine RK ?_
   refine RK ?_
   refine RK ?_
   refine RP rfl rfl ?_
   refine RM rfl ?_
   refine RQ (ok_field field41_0 (by decide) rfl) ?_
   refine RQ (ok_loadV (s := 1000003) (by decide) Tryd.underlying5 rfl rfl rfl (rfl)) ?_
   refine RQ (ok_bin rfl rfl rfl) ?_; refine RZ (.bool true) (by first | rfl | (simp; done) | (simp; omega) | (simp [*]; done) | (simp [*]; omega)) ?_
   refine RQ (ok_move rfl) ?_
   refine RQ (ok_move rfl) ?_
   refine RQ (ok_field field41_3 (by decide) rfl) ?_
   refine RQ (ok_indexN (i) Tryd.underlying39 size38 rfl rfl (rfl) (hi)) ?_
   refine RQ (ok_field field38_0 (by decide) rfl) ?_
   refine RQ (ok_loadV (s := 1000003) (by decide) Tryd.underlying5 rfl rfl rfl (hx.ent_x hi)) ?_
   refine RQ (ok_bin rfl rfl rfl) ?_; refine RZ (.bool true) (pos_y hs) ?_
   refine RQ (ok_pick rfl rfl) ?_
   refine RP rfl rfl ?_
   refine RN ?_
   refine A.sub (KC 2 rfl (KC 3 rfl (KC 7 rfl (KC 12 rfl (KC 13 rfl (KC 94 rfl (KC 1000003 rfl (KC 1900000 rfl (KC 1900001 rfl (KC 1900002 rfl KN)))))))))) ?_
   refine A.yes rfl ?_
   refine GE ?_
   refine TL ?_
   refine RM rfl ?_
   refine RBS rfl rfl rfl (nI (cnt (usP x) (i + 1))) (wrap_eq (by rw [cnt_y (p := usP x) hy]; omega) (by have := cnt_le (usP x) (i + 1); omega)) ?_
   refine RA rfl ?_
   refine RN ?_
   refine End.normal_block ?_
   refine EN ?_
   refine GE ?_
   refine TL ?_
   refine RM rfl ?_
   refine RBS rfl rfl rfl (nI (i + 1)) (wrap_eq (by omega) (by omega)) ?_
   refine RA rfl ?_
   refine RN ?_
   refine End.normal_then ?_
   refine End.again (i + 1) ?_ ?_ ?_
   ·show _ ≤ _; omega
   ·show _ - _ < _ - _; omega
   ·exact (KC 2 rfl (KC 3 rfl (KC 7 rfl (KE 12 rfl (by first | rfl | rw [cnt_n (p := usP x) hy]) (KC 13 rfl (KC 1000003 rfl (KC 1900000 rfl (KC 1900001 rfl (KC 1900002 rfl KN)))))))))
  ·refine GS ?_
   refine TL ?_
   refine RS (ok_field field41_0 (by decide) rfl) ?_
   refine RS (ok_loadV (s := 1000003) (by decide) Tryd.underlying5 rfl rfl rfl (rfl)) ?_
   refine RBS rfl rfl rfl (.bool false) (by first | rfl | (simp; done) | (simp; omega) | (simp [*]; done) | (simp [*]; omega)) ?_
   refine RM rfl ?_
   refine RK ?_
   refine RK ?_
   refine RK ?_
   refine RK ?_
   refine RK ?_
   refine RK ?_
   refine RP rfl rfl ?_
   refine RM rfl ?_
   refine RQ (ok_field field41_0 (by decide) rfl) ?_
   refine RQ (ok_loadV (s := 1000003) (by decide) Tryd.underlying5 rfl rfl rfl (rfl)) ?_
   refine RQ (ok_bin rfl rfl rfl) ?_; refine RZ (.bool true) (by first | rfl | (simp; done) | (simp; omega) | (simp [*]; done) | (simp [*]; omega)) ?_
   refine RQ (ok_move rfl) ?_
   refine RQ (ok_move rfl) ?_
   refine RQ (ok_field field41_3 (by decide) rfl) ?_
   refine RQ (ok_indexN (i) Tryd.underlying39 size38 rfl rfl (rfl) (hi)) ?_
   refine RQ (ok_field field38_0 (by decide) rfl) ?_
   refine RQ (ok_loadV (s := 1000003) (by decide) Tryd.underlying5 rfl rfl rfl (hx.ent_x hi)) ?_
   refine RQ (ok_bin rfl rfl rfl) ?_; refine RZ (.bool false) (pos_n hs) ?_
   refine RQ (ok_pick rfl rfl) ?_
   refine RP rfl rfl ?_
   refine RN ?_
   refine A.sub (KC 2 rfl (KC 3 rfl (KC 7 rfl (KC 12 rfl (KC 13 rfl (KC 94 rfl (KC 1000003 rfl (KC 1900000 rfl (KC 1900001 rfl (KC 1900002 rfl KN)))))))))) ?_
   refine A.no rfl ?_
   refine A.skip ?_
   refine End.normal_block ?_
   refine EN ?_
   refine GE ?_
   refine TL ?_
   refine RM rfl ?_
   refine RBS rfl rfl rfl (nI (i + 1)) (wrap_eq (by omega) (by omega)) ?_
   refine RA rfl ?_
   refine RN ?_
   refine End.normal_then ?_
   refine End.again (i + 1) ?_ ?_ ?_
   ·show _ ≤ _; omega
   ·show _ - _ < _ - _; omega
   ·exact (KC 2 rfl (KC 3 rfl (KC 7 rfl (KE 12 rfl (by first | rfl | rw [cnt_n (p := usP x) hy]) (KC 13 rfl (KC 1000003 rfl (KC 1900000 rfl (KC 1900001 rfl (KC 1900002 rfl KN)))))))))
 ·have hi2 : i = 4 := by simp at hc68; omega
  refine A.exit ?_
  refine End.exit_then ?_
  refine End.exit_then ?_
  refine End.exit_here ?_
  refine EN ?_
  refine A.seq ?_
  refine GD ?_
  refine TL ?_
  refine RS (ok_loadA (s := 1000003) (by decide) Tryd.underlying41 rfl (size41.of (hx.len)) rfl rfl) ?_
  refine RS (ok_call (nUsed_fn x hx) (A1 rfl)) ?_
  refine RM rfl ?_; refine RZ (nI (usN x)) (by rw [hi2]; rfl) ?_
  refine RBS rfl rfl rfl (.bool false) (by first | rfl | (simp; done) | (simp; omega) | (simp [*]; done) | (simp [*]; omega)) ?_
  refine RM rfl ?_
  refine RQ (ok_field field41_0 (by decide) rfl) ?_
  refine RQ (ok_loadV (s := 1000003) (by decide) Tryd.underlying5 rfl rfl rfl (rfl)) ?_
  refine RQ (ok_field field41_1 (by decide) rfl) ?_
  refine RQ (ok_loadV (s := 1000003) (by decide) Tryd.underlying28 rfl rfl rfl (rfl)) ?_
  refine RQ (ok_call (nEmpty_fn x.l x.j hx.j) (A2 rfl rfl)) ?_
  refine RQ (ok_field field41_0 (by decide) rfl) ?_
  refine RQ (ok_loadV (s := 1000003) (by decide) Tryd.underlying5 rfl rfl rfl (rfl)) ?_
  refine RQ (ok_field field41_1 (by decide) rfl) ?_
  refine RQ (ok_loadV (s := 1000003) (by decide) Tryd.underlying28 rfl rfl rfl (rfl)) ?_
  refine RQ (ok_litS [(0, byteV x.l), (1, nW (x.j))] (NodT.emp x.l x.j).v ⟨rfl, rfl, rfl, rfl, trivial⟩ (buildX _ _)) ?_
  refine RQ (ok_neqT (n := 6) true flat41 (by decide) (by kernel_rfl) (by kernel_rfl) rfl rfl (NodT.emp_fit x.l hx.j).kin (NodT.emp_fit x.l hx.j).kin (iff_of_true rfl rfl)) ?_; refine RZ (.bool false) (by rfl) ?_
  refine RP rfl rfl ?_
  refine RN ?_
  refine A.no rfl ?_
  refine A.skip ?_
  refine EN ?_
  refine A.seq ?_
  rcases wh_case3 wi with hw | hw | hw
  ·refine GS ?_
   refine TL ?_
   refine RM rfl ?_
   refine RBS rfl rfl rfl (.bool true) (by first | rfl | (simp; done) | (simp; omega) | (simp [*]; done) | (simp [*]; omega)) ?_
   refine RM rfl ?_
   refine RK ?_
   refine RK ?_
   refine RP rfl rfl ?_
   refine RN ?_
   refine A.sub (KC 2 rfl (KC 3 rfl (KC 7 rfl (KC 119 rfl (KC 1000003 rfl (KC 1900000 rfl (KC 1900001 rfl (KC 1900002 rfl KN)))))))) ?_
   refine A.yes rfl ?_
   refine GE ?_
   refine TL ?_
   refine RA rfl ?_
   refine RN ?_
   refine EN ?_
   refine GS ?_
   refine TL ?_
   refine RM rfl ?_
   refine RM rfl ?_
   refine RA rfl ?_
   refine RA rfl ?_
   refine RN ?_
   refine A.seq ?_
   refine GS ?_
   refine TL ?_
   refine RM rfl ?_
   refine RBS rfl rfl rfl (.bool false) (by first | rfl | (simp; done) | (simp; omega) | (simp [*]; done) | (simp [*]; omega)) ?_
   refine RM rfl ?_
   refine RK ?_
   refine RK ?_
   refine RK ?_
   refine RP rfl rfl ?_
   refine RN ?_
   refine A.no rfl ?_
   refine A.skip ?_
   refine EN ?_
   refine A.seq ?_
   refine GS ?_
   refine TL ?_
   refine RM rfl ?_
   refine RBS rfl rfl rfl (.bool false) (by first | rfl | (simp; done) | (simp; omega) | (simp [*]; done) | (simp [*]; omega)) ?_
   refine RM rfl ?_
   refine RK ?_
   refine RK ?_
   refine RK ?_
   refine RP rfl rfl ?_
   refine RN ?_
   refine A.no rfl ?_
   refine A.skip ?_
   refine EN ?_
   refine GS ?_
   refine TN 7 ?_
   refine RS (ok_loadA (s := 1000003) (by decide) Tryd.underlying41 rfl (size41.of (hx.len)) rfl rfl) ?_
   refine RM rfl ?_
   refine RS (ok_lit [] (RecT.v RecT.zero) (fun _ _ => rfl) (by kernel_rfl)) ?_
   refine RS (ok_call (WithRecord_fn x hx wi RecT.zero RecT.zero_fit) (A3 rfl rfl rfl)) ?_; refine RZ (.tuple #[aggV (NodT.emp 0 0).v, .int .i64 1]) (wr_1 (cp1_place (fun h => absurd h.1 (by omega)))) ?_
   refine RM rfl ?_
   refine RS (ok_extractV rfl rfl) ?_
   refine RS (ok_extractV rfl rfl) ?_
   refine RN ?_
   refine ⟨_, _, eff_alloc (n := 179) (d := 16) (k := 1000016) zero41 (by decide), fun b16 hb16 => ?_⟩
   have hBb16 := hb16.1
   have hlt_b3_b16 : b3 < b16 := hb16.2 1000003 _ _ _ rfl
   refine TF 8 ?_
   refine RN ?_
   refine ⟨_, eff_storeA (n := 179) (s := 1000016) (size41.of (by first | exact (hx.setR wi.toNat RecT.zero_fit).len | rfl)) rfl rfl (NodT.one _) hBb16 rfl (by first | (rw [(hx.setR wi.toNat RecT.zero_fit).len]; rfl) | rfl) (LV 2 rfl (LV 3 rfl (LV 14 rfl (LV 15 rfl (LV 16 rfl (LV 142 rfl (LB 1000003 rfl (LeftS.cons (t := 1900000) rfl (Surv.tab (by omega)) (LeftS.cons (t := 1900001) rfl (Surv.tab (by omega)) (LeftS.cons (t := 1900002) rfl (Surv.tab (by omega)) LN)))))))))), ?_⟩
   refine TL ?_
   refine RA rfl ?_
   refine RN ?_
   refine A.sub (KC 2 rfl (KC 3 rfl (KC 9 rfl (KC 14 rfl (KC 15 rfl (KC 16 rfl (KC 1000003 rfl (KC 1000016 rfl (KC 1900000 rfl (KC 1900001 rfl (KC 1900002 rfl KN))))))))))) ?_
   refine GS ?_
   refine TN 7 ?_
   refine RS (ok_loadA (s := 1000003) (by decide) Tryd.underlying41 rfl (size41.of (hx.len)) rfl rfl) ?_
   refine RM rfl ?_
   refine RS (ok_lit [] (EntT.v EntT.zero) (fun _ _ => rfl) (by kernel_rfl)) ?_
   refine RS (ok_call (WithEntry_fn x hx wi EntT.zero EntT.zero_fit) (A3 rfl rfl rfl)) ?_; refine RZ (.tuple #[aggV (NodT.emp 0 0).v, .int .i64 1]) (we_1 (cp1_place (fun h => absurd h.1 (by omega)))) ?_
   refine RM rfl ?_
   refine RS (ok_extractV rfl rfl) ?_
   refine RS (ok_extractV rfl rfl) ?_
   refine RN ?_
   refine ⟨_, _, eff_alloc (n := 179) (d := 17) (k := 1000017) zero41 (by decide), fun b17 hb17 => ?_⟩
   have hBb17 := hb17.1
   have hlt_b3_b17 : b3 < b17 := hb17.2 1000003 _ _ _ rfl
   have hlt_b16_b17 : b16 < b17 := hb17.2 1000016 _ _ _ rfl
   refine TF 8 ?_
   refine RN ?_
   refine ⟨_, eff_storeA (n := 179) (s := 1000017) (size41.of (by first | exact (hx.setE wi.toNat EntT.zero_fit).len | rfl)) rfl rfl (NodT.one _) hBb17 rfl (by first | (rw [(hx.setE wi.toNat EntT.zero_fit).len]; rfl) | rfl) (LV 9 rfl (LV 14 rfl (LV 15 rfl (LV 16 rfl (LV 17 rfl (LV 149 rfl (LB 1000003 rfl (LB 1000016 rfl (LeftS.cons (t := 1900000) rfl (Surv.tab (by omega)) (LeftS.cons (t := 1900001) rfl (Surv.tab (by omega)) (LeftS.cons (t := 1900002) rfl (Surv.tab (by omega)) LN))))))))))), ?_⟩
   refine TL ?_
   refine RA rfl ?_
   refine RN ?_
   refine GS ?_
   refine TL ?_
   refine RM rfl ?_
   refine RM rfl ?_
   refine RBS rfl rfl rfl (.bool true) (by first | rfl | (simp; done) | (simp; omega) | (simp [*]; done) | (simp [*]; omega)) ?_
   refine RM rfl ?_
   refine RQ (ok_move rfl) ?_
   refine RQ (ok_move rfl) ?_
   refine RQ (ok_bin rfl rfl rfl) ?_; refine RZ (.bool true) (by first | rfl | (simp; done) | (simp; omega) | (simp [*]; done) | (simp [*]; omega)) ?_
   refine RP rfl rfl ?_
   refine RM rfl ?_
   refine RQ (ok_move rfl) ?_
   refine RQ (ok_bin rfl rfl rfl) ?_; refine RZ (.bool false) (by first | rfl | (simp; done) | (simp; omega) | (simp [*]; done) | (simp [*]; omega)) ?_
   refine RQ (ok_move rfl) ?_
   refine RQ (ok_loadA (s := 1000016) (by decide) Tryd.underlying41 rfl (size41.of (rfl)) rfl rfl) ?_
   refine RQ (ok_lit [] (NodT.v (NodT.emp 0 0)) (fun _ _ => rfl) (by kernel_rfl)) ?_
   refine RQ (ok_eqlT (n := 6) true flat41 (by decide) (by kernel_rfl) (by kernel_rfl) rfl rfl (NodT.emp_fit 0 (j := 0) (by decide)).kin (NodT.emp_fit 0 (j := 0) (by decide)).kin (iff_of_true rfl rfl)) ?_; refine RZ (.bool true) (by rfl) ?_
   refine RQ (ok_pick rfl rfl) ?_
   refine RP rfl rfl ?_
   refine RM rfl ?_
   refine RQ (ok_move rfl) ?_
   refine RQ (ok_bin rfl rfl rfl) ?_; refine RZ (.bool false) (by first | rfl | (simp; done) | (simp; omega) | (simp [*]; done) | (simp [*]; omega)) ?_
   refine RQ (ok_move rfl) ?_
   refine RQ (ok_loadA (s := 1000017) (by decide) Tryd.underlying41 rfl (size41.of (rfl)) rfl rfl) ?_
   refine RQ (ok_lit [] (NodT.v (NodT.emp 0 0)) (fun _ _ => rfl) (by kernel_rfl)) ?_
   refine RQ (ok_eqlT (n := 6) true flat41 (by decide) (by kernel_rfl) (by kernel_rfl) rfl rfl (NodT.emp_fit 0 (j := 0) (by decide)).kin (NodT.emp_fit 0 (j := 0) (by decide)).kin (iff_of_true rfl rfl)) ?_; refine RZ (.bool true) (by rfl) ?_
   refine RQ (ok_pick rfl rfl) ?_
   refine RP rfl rfl ?_
   refine RM rfl ?_
   refine RQ (ok_callM lives13_fn (Sub.cons rfl KN) tabS_v Args.nil) ?_
   refine RP rfl rfl ?_
   refine RA rfl ?_
   refine RN ?_
   refine A.sub (KC 6 rfl (KC 1000003 rfl (KC 1000016 rfl (KC 1000017 rfl (KC 1900000 rfl (KC 1900001 rfl (KC 1900002 rfl KN))))))) ?_
   refine A.ret ?_
   exact End.ret1 rfl rfl (by first | exact Le.refl _ | exact Le.old _ _)
  ·refine GS ?_
   refine TL ?_
   refine RM rfl ?_
   refine RBS rfl rfl rfl (.bool false) (by first | rfl | (simp; done) | (simp; omega) | (simp [*]; done) | (simp [*]; omega)) ?_
   refine RM rfl ?_
   refine RQ (ok_move rfl) ?_
   refine RQ (ok_bin rfl rfl rfl) ?_; refine RZ (.bool true) (by first | rfl | (simp; done) | (simp; omega) | (simp [*]; done) | (simp [*]; omega)) ?_
   refine RP rfl rfl ?_
   refine RN ?_
   refine A.sub (KC 2 rfl (KC 3 rfl (KC 7 rfl (KC 119 rfl (KC 1000003 rfl (KC 1900000 rfl (KC 1900001 rfl (KC 1900002 rfl KN)))))))) ?_
   refine A.yes rfl ?_
   refine GE ?_
   refine TL ?_
   refine RA rfl ?_
   refine RN ?_
   refine EN ?_
   refine GS ?_
   refine TL ?_
   refine RM rfl ?_
   refine RM rfl ?_
   refine RA rfl ?_
   refine RA rfl ?_
   refine RN ?_
   refine A.seq ?_
   refine GS ?_
   refine TL ?_
   refine RM rfl ?_
   refine RBS rfl rfl rfl (.bool false) (by first | rfl | (simp; done) | (simp; omega) | (simp [*]; done) | (simp [*]; omega)) ?_
   refine RM rfl ?_
   refine RK ?_
   refine RK ?_
   refine RK ?_
   refine RP rfl rfl ?_
   refine RN ?_
   refine A.no rfl ?_
   refine A.skip ?_
   refine EN ?_
   refine A.seq ?_
   refine GS ?_
   refine TL ?_
   refine RM rfl ?_
   refine RBS rfl rfl rfl (.bool false) (by first | rfl | (simp; done) | (simp; omega) | (simp [*]; done) | (simp [*]; omega)) ?_
   refine RM rfl ?_
   refine RK ?_
   refine RK ?_
   refine RK ?_
   refine RP rfl rfl ?_
   refine RN ?_
   refine A.no rfl ?_
   refine A.skip ?_
   refine EN ?_
   refine GS ?_
   refine TN 7 ?_
   refine RS (ok_loadA (s := 1000003) (by decide) Tryd.underlying41 rfl (size41.of (hx.len)) rfl rfl) ?_
   refine RM rfl ?_
   refine RS (ok_lit [] (RecT.v RecT.zero) (fun _ _ => rfl) (by kernel_rfl)) ?_
   refine RS (ok_call (WithRecord_fn x hx wi RecT.zero RecT.zero_fit) (A3 rfl rfl rfl)) ?_; refine RZ (.tuple #[aggV (NodT.emp 0 0).v, .int .i64 1]) (wr_1 (cp1_place (fun h => absurd h.2 (by omega)))) ?_
   refine RM rfl ?_
   refine RS (ok_extractV rfl rfl) ?_
   refine RS (ok_extractV rfl rfl) ?_
   refine RN ?_
   refine ⟨_, _, eff_alloc (n := 179) (d := 16) (k := 1000016) zero41 (by decide), fun b16 hb16 => ?_⟩
   have hBb16 := hb16.1
   have hlt_b3_b16 : b3 < b16 := hb16.2 1000003 _ _ _ rfl
   refine TF 8 ?_
   refine RN ?_
   refine ⟨_, eff_storeA (n := 179) (s := 1000016) (size41.of (by first | exact (hx.setR wi.toNat RecT.zero_fit).len | rfl)) rfl rfl (NodT.one _) hBb16 rfl (by first | (rw [(hx.setR wi.toNat RecT.zero_fit).len]; rfl) | rfl) (LV 2 rfl (LV 3 rfl (LV 14 rfl (LV 15 rfl (LV 16 rfl (LV 142 rfl (LB 1000003 rfl (LeftS.cons (t := 1900000) rfl (Surv.tab (by omega)) (LeftS.cons (t := 1900001) rfl (Surv.tab (by omega)) (LeftS.cons (t := 1900002) rfl (Surv.tab (by omega)) LN)))))))))), ?_⟩
   refine TL ?_
   refine RA rfl ?_
   refine RN ?_
   refine A.sub (KC 2 rfl (KC 3 rfl (KC 9 rfl (KC 14 rfl (KC 15 rfl (KC 16 rfl (KC 1000003 rfl (KC 1000016 rfl (KC 1900000 rfl (KC 1900001 rfl (KC 1900002 rfl KN))))))))))) ?_
   refine GS ?_
   refine TN 7 ?_
   refine RS (ok_loadA (s := 1000003) (by decide) Tryd.underlying41 rfl (size41.of (hx.len)) rfl rfl) ?_
   refine RM rfl ?_
   refine RS (ok_lit [] (EntT.v EntT.zero) (fun _ _ => rfl) (by kernel_rfl)) ?_
   refine RS (ok_call (WithEntry_fn x hx wi EntT.zero EntT.zero_fit) (A3 rfl rfl rfl)) ?_; refine RZ (.tuple #[aggV (NodT.emp 0 0).v, .int .i64 1]) (we_1 (cp1_place (fun h => absurd h.2 (by omega)))) ?_
   refine RM rfl ?_
   refine RS (ok_extractV rfl rfl) ?_
   refine RS (ok_extractV rfl rfl) ?_
   refine RN ?_
   refine ⟨_, _, eff_alloc (n := 179) (d := 17) (k := 1000017) zero41 (by decide), fun b17 hb17 => ?_⟩
   have hBb17 := hb17.1
   have hlt_b3_b17 : b3 < b17 := hb17.2 1000003 _ _ _ rfl
   have hlt_b16_b17 : b16 < b17 := hb17.2 1000016 _ _ _ rfl
   refine TF 8 ?_
   refine RN ?_
   refine ⟨_, eff_storeA (n := 179) (s := 1000017) (size41.of (by first | exact (hx.setE wi.toNat EntT.zero_fit).len | rfl)) rfl rfl (NodT.one _) hBb17 rfl (by first | (rw [(hx.setE wi.toNat EntT.zero_fit).len]; rfl) | rfl) (LV 9 rfl (LV 14 rfl (LV 15 rfl (LV 16 rfl (LV 17 rfl (LV 149 rfl (LB 1000003 rfl (LB 1000016 rfl (LeftS.cons (t := 1900000) rfl (Surv.tab (by omega)) (LeftS.cons (t := 1900001) rfl (Surv.tab (by omega)) (LeftS.cons (t := 1900002) rfl (Surv.tab (by omega)) LN))))))))))), ?_⟩
   refine TL ?_
   refine RA rfl ?_
   refine RN ?_
   refine GS ?_
   refine TL ?_
   refine RM rfl ?_
   refine RM rfl ?_
   refine RBS rfl rfl rfl (.bool true) (by first | rfl | (simp; done) | (simp; omega) | (simp [*]; done) | (simp [*]; omega)) ?_
   refine RM rfl ?_
   refine RQ (ok_move rfl) ?_
   refine RQ (ok_move rfl) ?_
   refine RQ (ok_bin rfl rfl rfl) ?_; refine RZ (.bool true) (by first | rfl | (simp; done) | (simp; omega) | (simp [*]; done) | (simp [*]; omega)) ?_
   refine RP rfl rfl ?_
   refine RM rfl ?_
   refine RQ (ok_move rfl) ?_
   refine RQ (ok_bin rfl rfl rfl) ?_; refine RZ (.bool false) (by first | rfl | (simp; done) | (simp; omega) | (simp [*]; done) | (simp [*]; omega)) ?_
   refine RQ (ok_move rfl) ?_
   refine RQ (ok_loadA (s := 1000016) (by decide) Tryd.underlying41 rfl (size41.of (rfl)) rfl rfl) ?_
   refine RQ (ok_lit [] (NodT.v (NodT.emp 0 0)) (fun _ _ => rfl) (by kernel_rfl)) ?_
   refine RQ (ok_eqlT (n := 6) true flat41 (by decide) (by kernel_rfl) (by kernel_rfl) rfl rfl (NodT.emp_fit 0 (j := 0) (by decide)).kin (NodT.emp_fit 0 (j := 0) (by decide)).kin (iff_of_true rfl rfl)) ?_; refine RZ (.bool true) (by rfl) ?_
   refine RQ (ok_pick rfl rfl) ?_
   refine RP rfl rfl ?_
   refine RM rfl ?_
   refine RQ (ok_move rfl) ?_
   refine RQ (ok_bin rfl rfl rfl) ?_; refine RZ (.bool false) (by first | rfl | (simp; done) | (simp; omega) | (simp [*]; done) | (simp [*]; omega)) ?_
   refine RQ (ok_move rfl) ?_
   refine RQ (ok_loadA (s := 1000017) (by decide) Tryd.underlying41 rfl (size41.of (rfl)) rfl rfl) ?_
   refine RQ (ok_lit [] (NodT.v (NodT.emp 0 0)) (fun _ _ => rfl) (by kernel_rfl)) ?_
   refine RQ (ok_eqlT (n := 6) true flat41 (by decide) (by kernel_rfl) (by kernel_rfl) rfl rfl (NodT.emp_fit 0 (j := 0) (by decide)).kin (NodT.emp_fit 0 (j := 0) (by decide)).kin (iff_of_true rfl rfl)) ?_; refine RZ (.bool true) (by rfl) ?_
   refine RQ (ok_pick rfl rfl) ?_
   refine RP rfl rfl ?_
   refine RM rfl ?_
   refine RQ (ok_callM lives13_fn (Sub.cons rfl KN) tabS_v Args.nil) ?_
   refine RP rfl rfl ?_
   refine RA rfl ?_
   refine RN ?_
   refine A.sub (KC 6 rfl (KC 1000003 rfl (KC 1000016 rfl (KC 1000017 rfl (KC 1900000 rfl (KC 1900001 rfl (KC 1900002 rfl KN))))))) ?_
   refine A.ret ?_
   exact End.ret1 rfl rfl (by first | exact Le.refl _ | exact Le.old _ _)
  ·refine GS ?_
   refine TL ?_
   refine RM rfl ?_
   refine RBS rfl rfl rfl (.bool false) (by first | rfl | (simp; done) | (simp; omega) | (simp [*]; done) | (simp [*]; omega)) ?_
   refine RM rfl ?_
   refine RQ (ok_move rfl) ?_
   refine RQ (ok_bin rfl rfl rfl) ?_; refine RZ (.bool false) (by first | rfl | (simp; done) | (simp; omega) | (simp [*]; done) | (simp [*]; omega)) ?_
   refine RP rfl rfl ?_
   refine RN ?_
   refine A.sub (KC 2 rfl (KC 3 rfl (KC 7 rfl (KC 119 rfl (KC 1000003 rfl (KC 1900000 rfl (KC 1900001 rfl (KC 1900002 rfl KN)))))))) ?_
   refine A.no rfl ?_
   refine A.skip ?_
   refine EN ?_
   refine GS ?_
   refine TL ?_
   refine RM rfl ?_
   refine RM rfl ?_
   refine RA rfl ?_
   refine RA rfl ?_
   refine RN ?_
   refine A.seq ?_
   refine GS ?_
   refine TL ?_
   refine RM rfl ?_
   refine RBS rfl rfl rfl (.bool false) (by first | rfl | (simp; done) | (simp; omega) | (simp [*]; done) | (simp [*]; omega)) ?_
   refine RM rfl ?_
   refine RK ?_
   refine RK ?_
   refine RK ?_
   refine RP rfl rfl ?_
   refine RN ?_
   refine A.no rfl ?_
   refine A.skip ?_
   refine EN ?_
   refine A.seq ?_
   refine GS ?_
   refine TL ?_
   refine RM rfl ?_
   refine RBS rfl rfl rfl (.bool false) (by first | rfl | (simp; done) | (simp; omega) | (simp [*]; done) | (simp [*]; omega)) ?_
   refine RM rfl ?_
   refine RK ?_
   refine RK ?_
   refine RK ?_
   refine RP rfl rfl ?_
   refine RN ?_
   refine A.no rfl ?_
   refine A.skip ?_
   refine EN ?_
   refine GS ?_
   refine TN 7 ?_
   refine RS (ok_loadA (s := 1000003) (by decide) Tryd.underlying41 rfl (size41.of (hx.len)) rfl rfl) ?_
   refine RM rfl ?_
   refine RS (ok_lit [] (RecT.v RecT.zero) (fun _ _ => rfl) (by kernel_rfl)) ?_
   refine RS (ok_call (WithRecord_fn x hx wi RecT.zero RecT.zero_fit) (A3 rfl rfl rfl)) ?_; refine RZ (.tuple #[aggV (NodT.emp 0 0).v, .int .i64 1]) (wr_1 (cp1_ck hk)) ?_
   refine RM rfl ?_
   refine RS (ok_extractV rfl rfl) ?_
   refine RS (ok_extractV rfl rfl) ?_
   refine RN ?_
   refine ⟨_, _, eff_alloc (n := 179) (d := 16) (k := 1000016) zero41 (by decide), fun b16 hb16 => ?_⟩
   have hBb16 := hb16.1
   have hlt_b3_b16 : b3 < b16 := hb16.2 1000003 _ _ _ rfl
   refine TF 8 ?_
   refine RN ?_
   refine ⟨_, eff_storeA (n := 179) (s := 1000016) (size41.of (by first | exact (hx.setR wi.toNat RecT.zero_fit).len | rfl)) rfl rfl (NodT.one _) hBb16 rfl (by first | (rw [(hx.setR wi.toNat RecT.zero_fit).len]; rfl) | rfl) (LV 2 rfl (LV 3 rfl (LV 14 rfl (LV 15 rfl (LV 16 rfl (LV 142 rfl (LB 1000003 rfl (LeftS.cons (t := 1900000) rfl (Surv.tab (by omega)) (LeftS.cons (t := 1900001) rfl (Surv.tab (by omega)) (LeftS.cons (t := 1900002) rfl (Surv.tab (by omega)) LN)))))))))), ?_⟩
   refine TL ?_
   refine RA rfl ?_
   refine RN ?_
   refine A.sub (KC 2 rfl (KC 3 rfl (KC 9 rfl (KC 14 rfl (KC 15 rfl (KC 16 rfl (KC 1000003 rfl (KC 1000016 rfl (KC 1900000 rfl (KC 1900001 rfl (KC 1900002 rfl KN))))))))))) ?_
   refine GS ?_
   refine TN 7 ?_
   refine RS (ok_loadA (s := 1000003) (by decide) Tryd.underlying41 rfl (size41.of (hx.len)) rfl rfl) ?_
   refine RM rfl ?_
   refine RS (ok_lit [] (EntT.v EntT.zero) (fun _ _ => rfl) (by kernel_rfl)) ?_
   refine RS (ok_call (WithEntry_fn x hx wi EntT.zero EntT.zero_fit) (A3 rfl rfl rfl)) ?_; refine RZ (.tuple #[aggV (NodT.emp 0 0).v, .int .i64 1]) (we_1 (cp1_ck hk)) ?_
   refine RM rfl ?_
   refine RS (ok_extractV rfl rfl) ?_
   refine RS (ok_extractV rfl rfl) ?_
   refine RN ?_
   refine ⟨_, _, eff_alloc (n := 179) (d := 17) (k := 1000017) zero41 (by decide), fun b17 hb17 => ?_⟩
   have hBb17 := hb17.1
   have hlt_b3_b17 : b3 < b17 := hb17.2 1000003 _ _ _ rfl
   have hlt_b16_b17 : b16 < b17 := hb17.2 1000016 _ _ _ rfl
   refine TF 8 ?_
   refine RN ?_
   refine ⟨_, eff_storeA (n := 179) (s := 1000017) (size41.of (by first | exact (hx.setE wi.toNat EntT.zero_fit).len | rfl)) rfl rfl (NodT.one _) hBb17 rfl (by first | (rw [(hx.setE wi.toNat EntT.zero_fit).len]; rfl) | rfl) (LV 9 rfl (LV 14 rfl (LV 15 rfl (LV 16 rfl (LV 17 rfl (LV 149 rfl (LB 1000003 rfl (LB 1000016 rfl (LeftS.cons (t := 1900000) rfl (Surv.tab (by omega)) (LeftS.cons (t := 1900001) rfl (Surv.tab (by omega)) (LeftS.cons (t := 1900002) rfl (Surv.tab (by omega)) LN))))))))))), ?_⟩
   refine TL ?_
   refine RA rfl ?_
   refine RN ?_
   refine GS ?_
   refine TL ?_
   refine RM rfl ?_
   refine RM rfl ?_
   refine RBS rfl rfl rfl (.bool true) (by first | rfl | (simp; done) | (simp; omega) | (simp [*]; done) | (simp [*]; omega)) ?_
   refine RM rfl ?_
   refine RQ (ok_move rfl) ?_
   refine RQ (ok_move rfl) ?_
   refine RQ (ok_bin rfl rfl rfl) ?_; refine RZ (.bool true) (by first | rfl | (simp; done) | (simp; omega) | (simp [*]; done) | (simp [*]; omega)) ?_
   refine RP rfl rfl ?_
   refine RM rfl ?_
   refine RQ (ok_move rfl) ?_
   refine RQ (ok_bin rfl rfl rfl) ?_; refine RZ (.bool false) (by first | rfl | (simp; done) | (simp; omega) | (simp [*]; done) | (simp [*]; omega)) ?_
   refine RQ (ok_move rfl) ?_
   refine RQ (ok_loadA (s := 1000016) (by decide) Tryd.underlying41 rfl (size41.of (rfl)) rfl rfl) ?_
   refine RQ (ok_lit [] (NodT.v (NodT.emp 0 0)) (fun _ _ => rfl) (by kernel_rfl)) ?_
   refine RQ (ok_eqlT (n := 6) true flat41 (by decide) (by kernel_rfl) (by kernel_rfl) rfl rfl (NodT.emp_fit 0 (j := 0) (by decide)).kin (NodT.emp_fit 0 (j := 0) (by decide)).kin (iff_of_true rfl rfl)) ?_; refine RZ (.bool true) (by rfl) ?_
   refine RQ (ok_pick rfl rfl) ?_
   refine RP rfl rfl ?_
   refine RM rfl ?_
   refine RQ (ok_move rfl) ?_
   refine RQ (ok_bin rfl rfl rfl) ?_; refine RZ (.bool false) (by first | rfl | (simp; done) | (simp; omega) | (simp [*]; done) | (simp [*]; omega)) ?_
   refine RQ (ok_move rfl) ?_
   refine RQ (ok_loadA (s := 1000017) (by decide) Tryd.underlying41 rfl (size41.of (rfl)) rfl rfl) ?_
   refine RQ (ok_lit [] (NodT.v (NodT.emp 0 0)) (fun _ _ => rfl) (by kernel_rfl)) ?_
   refine RQ (ok_eqlT (n := 6) true flat41 (by decide) (by kernel_rfl) (by kernel_rfl) rfl rfl (NodT.emp_fit 0 (j := 0) (by decide)).kin (NodT.emp_fit 0 (j := 0) (by decide)).kin (iff_of_true rfl rfl)) ?_; refine RZ (.bool true) (by rfl) ?_
   refine RQ (ok_pick rfl rfl) ?_
   refine RP rfl rfl ?_
   refine RM rfl ?_
   refine RQ (ok_callM lives13_fn (Sub.cons rfl KN) tabS_v Args.nil) ?_
   refine RP rfl rfl ?_
   refine RA rfl ?_
   refine RN ?_
   refine A.sub (KC 6 rfl (KC 1000003 rfl (KC 1000016 rfl (KC 1000017 rfl (KC 1900000 rfl (KC 1900001 rfl (KC 1900002 rfl KN))))))) ?_
   refine A.ret ?_
   exact End.ret1 rfl rfl (by first | exact Le.refl _ | exact Le.old _ _)
theorem NodesErrors_fn (x : NodT) (hx : x.Fit) (n wi : Int) : FnM Tryd.prog 6 tabN [.v (aggV x.v), .v (.int .i64 (n)), .v (.int .i64 (wi))] (.v (.bool true)) :=
 x.ck_one.elim (NErr_o x hx n wi) (NErr_k x hx n wi)
end Go.Proofs.YtlddnmblfgaimaaDoor
