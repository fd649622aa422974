/-
  OWN TEXTS of this seat, put together, part 6: C13f, Law9, Law4, Law11, C13h, C13i, Vars, C13k.
-/
import Derived.Test.YtlddnmblfgaimaaDoorM1
import Derived.Test.YtlddnmblfgaimaaDoorM5
import Derived.Test.YtlddnmblfgaimaaDoorM2
import Derived.Test.YtlddnmblfgaimaaDoorM3
import Derived.Test.YtlddnmblfgaimaaDoorM4
namespace Go.Proofs.YtlddnmblfgaimaaDoor
open Go Go.RowKit
set_option linter.unusedVariables false
set_option maxRecDepth 20000
set_option linter.unusedSimpArgs false
theorem nGet_put (x : NodT) (hx : x.Fit) (hk : x.ck = 0) : FnM Tryd.prog 14 tabS [byt x.bl] (.v (.tuple #[aggV x.v, .int .i64 0])) := by
 obtain ⟨h1, h2⟩ := bl_back hx hk
 have h := nGet_ok x.bl h2
 rwa [h1] at h
theorem whole_bad {l : List UInt8} (h : szN l = 0) (hg : geN l ≠ 0) : Fn Tryd.prog 17 [byt l] (.v (.int .i64 (0))) := by
 by_cases h0 : (pX l).toNat = 0
 ·obtain ⟨h1, h2⟩ := lenR h h0
  rw [geN_R h h0] at hg
  have hw : whV 45 l = 0 := if_neg fun hb => hg (fst4_no fun i hi => RecT.ck_zero.2 fun hbad => hb i hi ((badR_iff (prt_len h2 hi)).1 hbad))
  rw [← hw]; exact whole_fn l 45 (by decide) (by decide) (by omega)
 ·obtain ⟨h1, h2⟩ := lenE h h0
  rw [geN_E h h0] at hg
  have hw : whV 33 l = 0 := if_neg fun hb => hg (fst4_no fun i hi => EntT.ck_zero.2 fun hbad => hb i hi ((badE_iff (prt_len h2 hi)).1 hbad))
  rw [← hw]; exact whole_fn l 33 (by decide) (by decide) (by omega)
theorem geN_one {l : List UInt8} (h : szN l = 0) (hg : geN l ≠ 0) : geN l = 1 := by
 by_cases h0 : (pX l).toNat = 0
 ·rw [geN_R h h0] at hg ⊢; exact (fst4_one fun i => (rN l i).ck_one).resolve_left hg
 ·rw [geN_E h h0] at hg ⊢; exact (fst4_one fun i => (eN l i).ck_one).resolve_left hg

set_option maxHeartbeats 4000000 in
theorem NodesBack_fn (k l j : Nat) (S D : List UInt8) (hk0 : k < 65536) (hl : l < 256) (hj : j < 65536) (hS : S.length = 4) (hD : D.length = 4)  : FnM Tryd.prog 3 tabS [.v (aggV (n13V k l j S D))] (.v (.bool true)) := by
 obtain ⟨x, hxd⟩ : ∃ x, x = ofN k l j S D := ⟨_, rfl⟩
 have hx : x.Fit := hxd ▸ ofN_fit k l j S D
 have hkx : x.ck = 0 := hxd ▸ ofN_ck k l j S D
 have hftx : ftN (nn k) x = 0 := hxd ▸ ofN_ft k l j S D
 refine FnM.of Tryd.func3 rfl (by kernel_rfl) Tryd.ntmps3 (by simp) (by decide) (fun w => [(0, .v (aggV (n13V k l j S D))), (1900000, tab 0 (sizV))]) (fun w => (StartM.v rfl (StartM.m (by simp [tabS]) (by decide) StartM.nil))) fun w₀ hM => ?_
 have htab := tabS_hi hM
 refine GS ?_
 refine TN 0 ?_
 refine RN ?_
 refine ⟨_, _, eff_box (n := 87) (d := 1) (k := 1000001) rfl (by decide), fun b1 hb1 => ?_⟩
 have hBb1 := hb1.1
 refine TL ?_
 refine RA rfl ?_
 refine RN ?_
 refine GS ?_
 refine TN 5 ?_
 refine RS (ok_loadA (s := 1000001) (by decide) Tryd.underlying27 rfl (size27.of (n13_len hS hD)) rfl rfl) ?_
 refine RS (ok_call (Of13_fn k l j S D hk0 hl hj hS hD) (A1 rfl)) ?_; refine RZ (.tuple #[nI (nn k), aggV x.v]) (by rw [hxd]) ?_
 refine RM rfl ?_
 refine RS (ok_extractV rfl rfl) ?_
 refine RS (ok_extractV rfl rfl) ?_
 refine RN ?_
 refine ⟨_, _, eff_alloc (n := 87) (d := 4) (k := 1000004) zero41 (by decide), fun b4 hb4 => ?_⟩
 have hBb4 := hb4.1
 refine TF 7 ?_
 refine RA rfl ?_
 refine RN ?_
 refine ⟨_, eff_storeA (n := 87) (s := 1000004) (size41.of (hx.len)) rfl rfl (by first | exact NodT.one _ | exact RecT.one _ | exact EntT.one _ | exact RecT.all1 _ | exact EntT.all1 _ | exact all_byte _ | exact all_bytes _) hBb4 rfl (by first | rfl | (rw [hx.len]; rfl)) (LV 3 rfl (LV 4 rfl (LT 1000001 rfl (LeftS.cons (t := 1900000) rfl (Surv.tab (by omega)) LN)))), ?_⟩
 refine TL ?_
 refine RN ?_
 refine GS ?_
 refine TN 1 ?_
 refine RS (ok_loadA (s := 1000004) (by decide) Tryd.underlying41 rfl (size41.of (hx.len)) rfl rfl) ?_
 refine RN ?_
 refine ⟨_, _, eff_name (n := 87) (d := 16) (k := 1000016) rfl rfl (fun B' => ok_callMB (nPut_okB x hx hkx) newD_mono (Sub.cons rfl KN) tabS_v (A1 rfl)) (by decide) (by decide), fun b16 hb16 => ?_⟩
 have hBb16 := hb16.1
 have hlt_b1_b16 : b1 < b16 := hb16.2 1000001 _ _ _ rfl
 have hlt_b4_b16 : b4 < b16 := hb16.2 1000004 _ _ _ rfl
 refine TL ?_
 refine RM rfl ?_
 refine RS (ok_extractV rfl rfl) ?_
 refine RS (ok_extractV rfl rfl) ?_
 refine RA rfl ?_
 refine RA rfl ?_
 refine RN ?_
 refine A.seq ?_
 refine GD ?_
 refine TL ?_
 refine RM rfl ?_
 refine RBS rfl rfl rfl (.bool false) (by rfl) ?_
 refine RM rfl ?_
 refine RQ (ok_move rfl) ?_
 refine RQ (ok_lenV Tryd.underlying44 rfl) ?_
 refine RQ (ok_bin rfl rfl rfl) ?_; refine RZ (.bool false) (by have := sz_le x.l.toNat; simp; omega) ?_
 refine RP rfl rfl ?_
 refine RM rfl ?_
 refine RQ (ok_loadA (s := 1000004) (by decide) Tryd.underlying41 rfl (size41.of (hx.len)) rfl rfl) ?_
 refine RQ (ok_call (nCheck_fn x hx) (A1 rfl)) ?_; refine RZ (.int .i64 0) (by rw [hkx]) ?_
 refine RQ (ok_bin rfl rfl rfl) ?_; refine RZ (.bool false) (by rfl) ?_
 refine RP rfl rfl ?_
 refine RM rfl ?_
 refine RQ (OpOk.fact (ok_move rfl) (d := byt (x.bl)) (s := 1000016) (by decide) rfl (slice_byt (x.bl) (hx.bl_length).symm (Nat.le_refl _) (by have := sz_le x.l.toNat; simp only [maxLen]; omega) (by rw [List.drop_zero, List.take_of_length_le (by rw [List.length_map, hx.bl_length]; exact Nat.le_refl _)]))) ?_
 refine RQ (ok_str (l := x.bl) Tryd.underlying44 Tryd.underlying5 Tryd.underlying9 rfl LA) ?_
 refine RQ (ok_loadA (s := 1000004) (by decide) Tryd.underlying41 rfl (size41.of (hx.len)) rfl rfl) ?_
 refine RQ (ok_call (rBytes_fn x hx) (A1 rfl)) ?_
 refine RQ (ok_str (l := x.bl) Tryd.underlying44 Tryd.underlying5 Tryd.underlying9 rfl LA) ?_
 refine RQ (ok_sne rfl rfl) ?_; refine RZ (.bool false) (by simp) ?_
 refine RP rfl rfl ?_
 refine RM rfl ?_
 refine RQ (ok_move rfl) ?_
 refine RQ (ok_capV Tryd.underlying44 rfl) ?_
 refine RQ (ok_move rfl) ?_
 refine RQ (ok_lenV Tryd.underlying44 rfl) ?_
 refine RQ (ok_bin rfl rfl rfl) ?_; refine RZ (.bool false) (by simp) ?_
 refine RP rfl rfl ?_
 refine RM rfl ?_
 refine RQ (ok_move rfl) ?_
 refine RQ (ok_loadA (s := 1000004) (by decide) Tryd.underlying41 rfl (size41.of (hx.len)) rfl rfl) ?_
 refine RQ (ok_call (nFits_fn (nn k) x hx) (A2 rfl rfl)) ?_; refine RZ (.int .i64 0) (by rw [hftx]) ?_
 refine RQ (ok_bin rfl rfl rfl) ?_; refine RZ (.bool false) (by rfl) ?_
 refine RP rfl rfl ?_
 refine RN ?_
 refine A.sub (KC 4 rfl (KC 5 rfl (KC 51 rfl (KC 1000001 rfl (KC 1000004 rfl (KC 1000016 rfl (KC 1900000 rfl KN))))))) ?_
 refine A.no rfl ?_
 refine A.skip ?_
 refine EN ?_
 refine GS ?_
 refine TN 5 ?_
 refine RS (OpOk.fact (ok_move rfl) (d := byt (x.bl)) (s := 1000016) (by decide) rfl (slice_byt (x.bl) (hx.bl_length).symm (Nat.le_refl _) (by have := sz_le x.l.toNat; simp only [maxLen]; omega) (by rw [List.drop_zero, List.take_of_length_le (by rw [List.length_map, hx.bl_length]; exact Nat.le_refl _)]))) ?_
 refine RS (ok_callM (nGet_put x hx hkx) (Sub.cons rfl KN) tabS_v (A1 rfl)) ?_
 refine RM rfl ?_
 refine RS (ok_extractV rfl rfl) ?_
 refine RS (ok_extractV rfl rfl) ?_
 refine RN ?_
 refine ⟨_, _, eff_alloc (n := 87) (d := 7) (k := 1000007) zero41 (by decide), fun b7 hb7 => ?_⟩
 have hBb7 := hb7.1
 have hlt_b4_b7 : b4 < b7 := hb7.2 1000004 _ _ _ rfl
 refine TF 6 ?_
 refine RN ?_
 refine ⟨_, eff_storeA (n := 87) (s := 1000007) (size41.of (hx.len)) rfl rfl (by first | exact NodT.one _ | exact RecT.one _ | exact EntT.one _ | exact RecT.all1 _ | exact EntT.all1 _ | exact all_byte _ | exact all_bytes _) hBb7 rfl (by first | rfl | (rw [hx.len]; rfl)) (LV 4 rfl (LV 5 rfl (LV 7 rfl (LV 56 rfl (LT 1000001 rfl (LB 1000004 rfl (LT 1000016 rfl (LeftS.cons (t := 1900000) rfl (Surv.tab (by omega)) LN)))))))), ?_⟩
 refine TL ?_
 refine RA rfl ?_
 refine RN ?_
 refine A.seq ?_
 refine GS ?_
 refine TL ?_
 refine RM rfl ?_
 refine RBS rfl rfl rfl (.bool false) (by rfl) ?_
 refine RM rfl ?_
 refine RQ (ok_loadA (s := 1000007) (by decide) Tryd.underlying41 rfl (size41.of (hx.len)) rfl rfl) ?_
 refine RQ (ok_loadA (s := 1000004) (by decide) Tryd.underlying41 rfl (size41.of (hx.len)) rfl rfl) ?_
 refine RQ (ok_neqT (n := 6) true flat41 (by decide) (by kernel_rfl) (by kernel_rfl) rfl rfl hx.kin hx.kin (iff_of_true rfl rfl)) ?_; refine RZ (.bool false) (by rfl) ?_
 refine RP rfl rfl ?_
 refine RN ?_
 refine A.no rfl ?_
 refine A.skip ?_
 refine EN ?_
 refine GS ?_
 refine TF 5 ?_
 refine RM rfl ?_
 refine RS (ok_indexV 0 Tryd.underlying44 info5 rfl rfl rfl (by have := sz_le x.l.toNat; omega)) ?_
 refine RS (ok_loadV (s := 1000016) (by decide) Tryd.underlying5 rfl rfl rfl (rfl)) ?_
 refine RB rfl rfl rfl ?_
 refine RS (ok_indexV 0 Tryd.underlying44 info5 rfl rfl rfl (by have := sz_le x.l.toNat; omega)) ?_
 refine RN ?_
 refine ⟨_, eff_storeS (n := 87) (s := 1000016) info5 rfl rfl rfl hBb16 rfl (by rw [List.length_map, hx.bl_length]; have := sz_le x.l.toNat; omega) (LV 4 rfl (LT 1000001 rfl (LT 1000004 rfl (LT 1000007 rfl (LeftS.cons (t := 1900000) rfl (Surv.tab (by omega)) LN))))), ?_⟩
 refine TL ?_
 refine RN ?_
 refine GS ?_
 refine TL ?_
 refine RS (ok_loadA (s := 1000004) (by decide) Tryd.underlying41 rfl (size41.of (hx.len)) rfl rfl) ?_
 refine RS (ok_callM (nPut_ok x hx hkx) (Sub.cons rfl KN) tabS_v (A1 rfl)) ?_
 refine RM rfl ?_
 refine RS (ok_extract rfl rfl) ?_
 refine RS (ok_extract rfl rfl) ?_
 refine RA rfl ?_
 refine RA rfl ?_
 refine RN ?_
 refine A.sub (KC 4 rfl (KC 6 rfl (KC 8 rfl (KC 1000001 rfl (KC 1000004 rfl (KC 1000007 rfl (KC 1000016 rfl (KC 1900000 rfl KN)))))))) ?_
 refine GD ?_
 refine TL ?_
 refine RM rfl ?_
 refine RBS rfl rfl rfl (.bool true) (by rfl) ?_
 refine RM rfl ?_
 refine RQ (ok_move rfl) ?_
 refine RQ (ok_str (l := x.bl) Tryd.underlying44 Tryd.underlying5 Tryd.underlying9 rfl LA) ?_
 refine RQ (ok_loadA (s := 1000004) (by decide) Tryd.underlying41 rfl (size41.of (hx.len)) rfl rfl) ?_
 refine RQ (ok_call (rBytes_fn x hx) (A1 rfl)) ?_
 refine RQ (ok_str (l := x.bl) Tryd.underlying44 Tryd.underlying5 Tryd.underlying9 rfl LA) ?_
 refine RQ (ok_seq rfl rfl) ?_; refine RZ (.bool true) (by simp) ?_
 refine RP rfl rfl ?_
 refine RM rfl ?_
 refine RQ (ok_callM lives13_fn (Sub.cons rfl KN) tabS_v Args.nil) ?_
 refine RP rfl rfl ?_
 refine RA rfl ?_
 refine RN ?_
 refine A.ret ?_
 exact End.ret1 rfl rfl (by first | exact Le.refl _ | exact Le.old _ _)
theorem NodesGet_long (l : List UInt8) (h : 200 < l.length) : FnM Tryd.prog 4 tabS [byt l] (.v (.bool true)) := by
 refine FnM.of Tryd.func4 rfl (by kernel_rfl) Tryd.ntmps4 (by simp) (by decide) (fun w => [(0, old w.heap.size (byt l)), (1900000, tab 0 (sizV))]) (fun w => (StartM.old rfl (StartM.m (by simp [tabS]) (by decide) StartM.nil))) fun w₀ hM => ?_
 have htab := tabS_hi hM
 refine GS ?_
 refine TL ?_
 refine RA rfl ?_
 refine RN ?_
 refine A.seq ?_
 refine GS ?_
 refine TL ?_
 refine RM rfl ?_
 refine RS (ok_lenB Tryd.underlying44 rfl LA) ?_
 refine RBS rfl rfl rfl (.bool true) (by first | rfl | (simp; done) | (simp; omega) | (simp [*]; done) | (simp [*]; omega)) ?_
 refine RN ?_
 refine A.yes rfl ?_
 refine GS ?_
 refine TL ?_
 refine RS (ok_callM lives13_fn (Sub.cons rfl KN) tabS_v Args.nil) ?_
 refine RA rfl ?_
 refine RN ?_
 refine A.ret ?_
 refine End.ret_then ?_
 exact End.ret1 rfl rfl (by first | exact Le.refl _ | exact Le.old _ _)
set_option maxHeartbeats 2000000 in
theorem NodesGet_ok (l : List UInt8) (hs : l.length ≤ 200) (h : geN l = 0) : FnM Tryd.prog 4 tabS [byt l] (.v (.bool true)) := by
 refine FnM.of Tryd.func4 rfl (by kernel_rfl) Tryd.ntmps4 (by simp) (by decide) (fun w => [(0, old w.heap.size (byt l)), (1900000, tab 0 (sizV))]) (fun w => (StartM.old rfl (StartM.m (by simp [tabS]) (by decide) StartM.nil))) fun w₀ hM => ?_
 have htab := tabS_hi hM
 refine GS ?_
 refine TL ?_
 refine RA rfl ?_
 refine RN ?_
 refine A.seq ?_
 refine GS ?_
 refine TL ?_
 refine RM rfl ?_
 refine RS (ok_lenB Tryd.underlying44 rfl LA) ?_
 refine RBS rfl rfl rfl (.bool false) (by simp; omega) ?_
 refine RN ?_
 refine A.no rfl ?_
 refine A.skip ?_
 refine EN ?_
 refine GS ?_
 refine TN 5 ?_
 refine RM rfl ?_
 refine RS (ok_callM (nGet_ok l h) (Sub.cons rfl KN) tabS_v (Args.cons rfl (Le.old _ _) Args.nil)) ?_
 refine RM rfl ?_
 refine RS (ok_extractV rfl rfl) ?_
 refine RS (ok_extractV rfl rfl) ?_
 refine RN ?_
 refine ⟨_, _, eff_alloc (n := 81) (d := 3) (k := 1000003) zero41 (by decide), fun b3 hb3 => ?_⟩
 have hBb3 := hb3.1
 refine TF 6 ?_
 refine RN ?_
 refine ⟨_, eff_storeA (n := 81) (s := 1000003) (size41.of ((gtN_fit (geN_szN h)).len)) rfl rfl (by first | exact NodT.one _ | exact RecT.one _ | exact EntT.one _ | exact RecT.all1 _ | exact EntT.all1 _ | exact all_byte _ | exact all_bytes _) hBb3 rfl (by first | rfl | (rw [(gtN_fit (geN_szN h)).len]; rfl)) (LO 0 rfl (LV 3 rfl (LV 17 rfl (LeftS.cons (t := 1900000) rfl (Surv.tab (by omega)) LN)))), ?_⟩
 refine TL ?_
 refine RA rfl ?_
 refine RN ?_
 refine A.seq ?_
 refine GS ?_
 refine TL ?_
 refine RM rfl ?_
 refine RBS rfl rfl rfl (.bool true) (by rfl) ?_
 refine RN ?_
 refine A.yes rfl ?_
 refine GS ?_
 refine TL ?_
 refine RS (ok_loadA (s := 1000003) (by decide) Tryd.underlying41 rfl (size41.of ((gtN_fit (geN_szN h)).len)) rfl rfl) ?_
 refine RS (ok_callM (nPut_ok (gtN l) (gtN_fit (geN_szN h)) (gtN_ck h)) (Sub.cons rfl KN) tabS_v (A1 rfl)) ?_
 refine RM rfl ?_
 refine RS (ok_extract rfl rfl) ?_
 refine RS (ok_extract rfl rfl) ?_
 refine RA rfl ?_
 refine RA rfl ?_
 refine RN ?_
 refine GS ?_
 refine TL ?_
 refine RM rfl ?_
 refine RBS rfl rfl rfl (.bool true) (by rfl) ?_
 refine RM rfl ?_
 refine RQ (ok_move rfl) ?_
 refine RQ (ok_str (l := (gtN l).bl) Tryd.underlying44 Tryd.underlying5 Tryd.underlying9 rfl LA) ?_
 refine RQ (ok_move rfl) ?_
 refine RQ (ok_str (l := l) Tryd.underlying44 Tryd.underlying5 Tryd.underlying9 rfl LA) ?_
 refine RQ (ok_seq rfl rfl) ?_; refine RZ (.bool true) (by rw [gtN_bl (geN_szN h)]; simp) ?_
 refine RP rfl rfl ?_
 refine RM rfl ?_
 refine RQ (ok_loadA (s := 1000003) (by decide) Tryd.underlying41 rfl (size41.of ((gtN_fit (geN_szN h)).len)) rfl rfl) ?_
 refine RQ (ok_call (rCheck_fn (gtN l) (gtN_fit (geN_szN h))) (A1 rfl)) ?_; refine RZ (.int .i64 0) (by rw [gtN_ck h]) ?_
 refine RQ (ok_bin rfl rfl rfl) ?_; refine RZ (.bool true) (by rfl) ?_
 refine RP rfl rfl ?_
 refine RM rfl ?_
 refine RQ (ok_callM lives13_fn (Sub.cons rfl KN) tabS_v Args.nil) ?_
 refine RP rfl rfl ?_
 refine RA rfl ?_
 refine RN ?_
 refine A.sub (KC 2 rfl (KC 1000003 rfl (KC 1900000 rfl KN))) ?_
 refine A.ret ?_
 refine End.ret_then ?_
 exact End.ret1 rfl rfl (by first | exact Le.refl _ | exact Le.old _ _)
set_option maxHeartbeats 2000000 in
theorem NodesGet_A (l : List UInt8) (hs : l.length ≤ 200) (h : geN l ≠ 0) (hn : l.length = 0) (hg : geN l = 6) : FnM Tryd.prog 4 tabS [byt l] (.v (.bool true)) := by
 refine FnM.of Tryd.func4 rfl (by kernel_rfl) Tryd.ntmps4 (by simp) (by decide) (fun w => [(0, old w.heap.size (byt l)), (1900000, tab 0 (sizV))]) (fun w => (StartM.old rfl (StartM.m (by simp [tabS]) (by decide) StartM.nil))) fun w₀ hM => ?_
 have htab := tabS_hi hM
 refine GS ?_
 refine TL ?_
 refine RA rfl ?_
 refine RN ?_
 refine A.seq ?_
 refine GS ?_
 refine TL ?_
 refine RM rfl ?_
 refine RS (ok_lenB Tryd.underlying44 rfl LA) ?_
 refine RBS rfl rfl rfl (.bool false) (by simp; omega) ?_
 refine RN ?_
 refine A.no rfl ?_
 refine A.skip ?_
 refine EN ?_
 refine GS ?_
 refine TN 5 ?_
 refine RM rfl ?_
 refine RS (ok_callM (nGet_bad l h) (Sub.cons rfl KN) tabS_v (Args.cons rfl (Le.old _ _) Args.nil)) ?_
 refine RM rfl ?_
 refine RS (ok_extractV rfl rfl) ?_
 refine RS (ok_extractV rfl rfl) ?_; refine RZ (.int .i64 6) (by rw [hg]) ?_
 refine RN ?_
 refine ⟨_, _, eff_alloc (n := 81) (d := 3) (k := 1000003) zero41 (by decide), fun b3 hb3 => ?_⟩
 have hBb3 := hb3.1
 refine TF 6 ?_
 refine RN ?_
 refine ⟨_, eff_storeA (n := 81) (s := 1000003) (size41.of (rfl)) rfl rfl (by first | exact NodT.one _ | exact RecT.one _ | exact EntT.one _ | exact RecT.all1 _ | exact EntT.all1 _ | exact all_byte _ | exact all_bytes _) hBb3 rfl (by first | rfl | (rw [rfl]; rfl)) (LO 0 rfl (LV 3 rfl (LV 17 rfl (LeftS.cons (t := 1900000) rfl (Surv.tab (by omega)) LN)))), ?_⟩
 refine TL ?_
 refine RA rfl ?_
 refine RN ?_
 refine A.seq ?_
 refine GS ?_
 refine TL ?_
 refine RM rfl ?_
 refine RBS rfl rfl rfl (.bool false) (by rfl) ?_
 refine RN ?_
 refine A.no rfl ?_
 refine A.skip ?_
 refine EN ?_
 refine GS ?_
 refine TL ?_
 refine RA rfl ?_
 refine RN ?_
 refine A.seq ?_
 refine GS ?_
 refine TL ?_
 refine RM rfl ?_
 refine RS (ok_lenB Tryd.underlying44 rfl LA) ?_
 refine RBS rfl rfl rfl (.bool true) (by simp [hn]) ?_
 refine RN ?_
 refine A.yes rfl ?_
 refine GE ?_
 refine TL ?_
 refine RA rfl ?_
 refine RN ?_
 refine EN ?_
 refine GS ?_
 refine TL ?_
 refine RM rfl ?_
 refine RM rfl ?_
 refine RBS rfl rfl rfl (.bool true) (by rfl) ?_
 refine RM rfl ?_
 refine RQ (ok_loadA (s := 1000003) (by decide) Tryd.underlying41 rfl (size41.of (rfl)) rfl rfl) ?_
 refine RQ (ok_lit [] (NodT.v (NodT.emp 0 0)) (fun _ _ => rfl) (by kernel_rfl)) ?_
 refine RQ (ok_eqlT (n := 6) true flat41 (by decide) (by kernel_rfl) (by kernel_rfl) rfl rfl (NodT.emp_fit 0 (j := 0) (by decide)).kin (NodT.emp_fit 0 (j := 0) (by decide)).kin (iff_of_true rfl rfl)) ?_
 refine RP rfl rfl ?_
 refine RM rfl ?_
 refine RQ (ok_callM lives13_fn (Sub.cons rfl KN) tabS_v Args.nil) ?_
 refine RP rfl rfl ?_
 refine RA rfl ?_
 refine RN ?_
 refine A.sub (KC 2 rfl (KC 1000003 rfl (KC 1900000 rfl KN))) ?_
 refine A.ret ?_
 exact End.ret1 rfl rfl (by first | exact Le.refl _ | exact Le.old _ _)
set_option maxHeartbeats 2000000 in
theorem NodesGet_B (l : List UInt8) (hs : l.length ≤ 200) (h : geN l ≠ 0) (hn : ¬ l.length = 0) (h5 : 5 < (pX l).toNat) (hg : geN l = 1) : FnM Tryd.prog 4 tabS [byt l] (.v (.bool true)) := by
 refine FnM.of Tryd.func4 rfl (by kernel_rfl) Tryd.ntmps4 (by simp) (by decide) (fun w => [(0, old w.heap.size (byt l)), (1900000, tab 0 (sizV))]) (fun w => (StartM.old rfl (StartM.m (by simp [tabS]) (by decide) StartM.nil))) fun w₀ hM => ?_
 have htab := tabS_hi hM
 refine GS ?_
 refine TL ?_
 refine RA rfl ?_
 refine RN ?_
 refine A.seq ?_
 refine GS ?_
 refine TL ?_
 refine RM rfl ?_
 refine RS (ok_lenB Tryd.underlying44 rfl LA) ?_
 refine RBS rfl rfl rfl (.bool false) (by simp; omega) ?_
 refine RN ?_
 refine A.no rfl ?_
 refine A.skip ?_
 refine EN ?_
 refine GS ?_
 refine TN 5 ?_
 refine RM rfl ?_
 refine RS (ok_callM (nGet_bad l h) (Sub.cons rfl KN) tabS_v (Args.cons rfl (Le.old _ _) Args.nil)) ?_
 refine RM rfl ?_
 refine RS (ok_extractV rfl rfl) ?_
 refine RS (ok_extractV rfl rfl) ?_; refine RZ (.int .i64 1) (by rw [hg]) ?_
 refine RN ?_
 refine ⟨_, _, eff_alloc (n := 81) (d := 3) (k := 1000003) zero41 (by decide), fun b3 hb3 => ?_⟩
 have hBb3 := hb3.1
 refine TF 6 ?_
 refine RN ?_
 refine ⟨_, eff_storeA (n := 81) (s := 1000003) (size41.of (rfl)) rfl rfl (by first | exact NodT.one _ | exact RecT.one _ | exact EntT.one _ | exact RecT.all1 _ | exact EntT.all1 _ | exact all_byte _ | exact all_bytes _) hBb3 rfl (by first | rfl | (rw [rfl]; rfl)) (LO 0 rfl (LV 3 rfl (LV 17 rfl (LeftS.cons (t := 1900000) rfl (Surv.tab (by omega)) LN)))), ?_⟩
 refine TL ?_
 refine RA rfl ?_
 refine RN ?_
 refine A.seq ?_
 refine GS ?_
 refine TL ?_
 refine RM rfl ?_
 refine RBS rfl rfl rfl (.bool false) (by rfl) ?_
 refine RN ?_
 refine A.no rfl ?_
 refine A.skip ?_
 refine EN ?_
 refine GS ?_
 refine TL ?_
 refine RA rfl ?_
 refine RN ?_
 refine A.seq ?_
 refine GS ?_
 refine TL ?_
 refine RM rfl ?_
 refine RS (ok_lenB Tryd.underlying44 rfl LA) ?_
 refine RBS rfl rfl rfl (.bool false) (by simpa using hn) ?_
 refine RN ?_
 refine A.no rfl ?_
 refine GS ?_
 refine TL ?_
 refine RM rfl ?_
 refine RS (ok_index (d := byteD (pX l)) Tryd.underlying44 info5 rfl LA rfl (by decide) (px_get hn)) ?_
 refine RS (ok_load Tryd.underlying5 rfl rfl) ?_
 refine RBS rfl rfl rfl (.bool false) (by simp; omega) ?_
 refine RN ?_
 refine A.no rfl ?_
 refine A.skip ?_
 refine EN ?_
 refine GS ?_
 refine TL ?_
 refine RM rfl ?_
 refine RM rfl ?_
 refine RBS rfl rfl rfl (.bool true) (by rfl) ?_
 refine RM rfl ?_
 refine RQ (ok_loadA (s := 1000003) (by decide) Tryd.underlying41 rfl (size41.of (rfl)) rfl rfl) ?_
 refine RQ (ok_lit [] (NodT.v (NodT.emp 0 0)) (fun _ _ => rfl) (by kernel_rfl)) ?_
 refine RQ (ok_eqlT (n := 6) true flat41 (by decide) (by kernel_rfl) (by kernel_rfl) rfl rfl (NodT.emp_fit 0 (j := 0) (by decide)).kin (NodT.emp_fit 0 (j := 0) (by decide)).kin (iff_of_true rfl rfl)) ?_
 refine RP rfl rfl ?_
 refine RM rfl ?_
 refine RQ (ok_callM lives13_fn (Sub.cons rfl KN) tabS_v Args.nil) ?_
 refine RP rfl rfl ?_
 refine RA rfl ?_
 refine RN ?_
 refine A.sub (KC 2 rfl (KC 1000003 rfl (KC 1900000 rfl KN))) ?_
 refine A.ret ?_
 exact End.ret1 rfl rfl (by first | exact Le.refl _ | exact Le.old _ _)
set_option maxHeartbeats 2000000 in
theorem NodesGet_C (l : List UInt8) (hs : l.length ≤ 200) (h : geN l ≠ 0) (hn : ¬ l.length = 0) (h5 : (pX l).toNat ≤ 5) (hlt : l.length < NodT.sz (pX l).toNat) (hg : geN l = 6) : FnM Tryd.prog 4 tabS [byt l] (.v (.bool true)) := by
 refine FnM.of Tryd.func4 rfl (by kernel_rfl) Tryd.ntmps4 (by simp) (by decide) (fun w => [(0, old w.heap.size (byt l)), (1900000, tab 0 (sizV))]) (fun w => (StartM.old rfl (StartM.m (by simp [tabS]) (by decide) StartM.nil))) fun w₀ hM => ?_
 have htab := tabS_hi hM
 refine GS ?_
 refine TL ?_
 refine RA rfl ?_
 refine RN ?_
 refine A.seq ?_
 refine GS ?_
 refine TL ?_
 refine RM rfl ?_
 refine RS (ok_lenB Tryd.underlying44 rfl LA) ?_
 refine RBS rfl rfl rfl (.bool false) (by simp; omega) ?_
 refine RN ?_
 refine A.no rfl ?_
 refine A.skip ?_
 refine EN ?_
 refine GS ?_
 refine TN 5 ?_
 refine RM rfl ?_
 refine RS (ok_callM (nGet_bad l h) (Sub.cons rfl KN) tabS_v (Args.cons rfl (Le.old _ _) Args.nil)) ?_
 refine RM rfl ?_
 refine RS (ok_extractV rfl rfl) ?_
 refine RS (ok_extractV rfl rfl) ?_; refine RZ (.int .i64 6) (by rw [hg]) ?_
 refine RN ?_
 refine ⟨_, _, eff_alloc (n := 81) (d := 3) (k := 1000003) zero41 (by decide), fun b3 hb3 => ?_⟩
 have hBb3 := hb3.1
 refine TF 6 ?_
 refine RN ?_
 refine ⟨_, eff_storeA (n := 81) (s := 1000003) (size41.of (rfl)) rfl rfl (by first | exact NodT.one _ | exact RecT.one _ | exact EntT.one _ | exact RecT.all1 _ | exact EntT.all1 _ | exact all_byte _ | exact all_bytes _) hBb3 rfl (by first | rfl | (rw [rfl]; rfl)) (LO 0 rfl (LV 3 rfl (LV 17 rfl (LeftS.cons (t := 1900000) rfl (Surv.tab (by omega)) LN)))), ?_⟩
 refine TL ?_
 refine RA rfl ?_
 refine RN ?_
 refine A.seq ?_
 refine GS ?_
 refine TL ?_
 refine RM rfl ?_
 refine RBS rfl rfl rfl (.bool false) (by rfl) ?_
 refine RN ?_
 refine A.no rfl ?_
 refine A.skip ?_
 refine EN ?_
 refine GS ?_
 refine TL ?_
 refine RA rfl ?_
 refine RN ?_
 refine A.seq ?_
 refine GS ?_
 refine TL ?_
 refine RM rfl ?_
 refine RS (ok_lenB Tryd.underlying44 rfl LA) ?_
 refine RBS rfl rfl rfl (.bool false) (by simpa using hn) ?_
 refine RN ?_
 refine A.no rfl ?_
 refine GS ?_
 refine TL ?_
 refine RM rfl ?_
 refine RS (ok_index (d := byteD (pX l)) Tryd.underlying44 info5 rfl LA rfl (by decide) (px_get hn)) ?_
 refine RS (ok_load Tryd.underlying5 rfl rfl) ?_
 refine RBS rfl rfl rfl (.bool true) (by simp; omega) ?_
 refine RN ?_
 refine A.yes rfl ?_
 refine GS ?_
 refine TL ?_
 refine RA rfl ?_
 refine RN ?_
 refine A.seq ?_
 refine GS ?_
 refine TL ?_
 refine RM rfl ?_
 refine RS (ok_index (d := byteD (pX l)) Tryd.underlying44 info5 rfl LA rfl (by decide) (px_get hn)) ?_
 refine RS (ok_load Tryd.underlying5 rfl rfl) ?_
 refine RB rfl rfl rfl ?_
 refine RN ?_
 refine A.sub (KC 0 rfl (KC 3 rfl (KC 4 rfl (KC 7 rfl (KC 8 rfl (KC 52 rfl (KC 1000003 rfl (KC 1900000 rfl KN)))))))) ?_
 refine A.cond rfl (fun hc52 => ?_) (fun hc52 => ?_)
 ·have h0 : (pX l).toNat = 0 := by simp at hc52; omega
  have hsz : NodT.sz (pX l).toNat = 185 := by unfold NodT.sz; rw [if_pos h0]
  refine GE ?_
  refine TL ?_
  refine RA rfl ?_
  refine RN ?_
  refine EN ?_
  refine A.seq ?_
  refine GS ?_
  refine TL ?_
  refine RM rfl ?_
  refine RS (ok_lenB Tryd.underlying44 rfl LA) ?_
  refine RM rfl ?_
  refine RBS rfl rfl rfl (.bool true) (by rw [hsz] at hlt; simp; omega) ?_
  refine RN ?_
  refine A.yes rfl ?_
  refine GE ?_
  refine TL ?_
  refine RA rfl ?_
  refine RN ?_
  refine EN ?_
  refine A.seq ?_
  refine GS ?_
  refine TL ?_
  refine RM rfl ?_
  refine RS (ok_lenB Tryd.underlying44 rfl LA) ?_
  refine RM rfl ?_
  refine RBS rfl rfl rfl (.bool false) (by rw [hsz] at hlt; simp; omega) ?_
  refine RN ?_
  refine A.no rfl ?_
  refine A.skip ?_
  refine EN ?_
  refine GS ?_
  refine TL ?_
  refine RM rfl ?_
  refine RS (ok_lenB Tryd.underlying44 rfl LA) ?_
  refine RM rfl ?_
  refine RBS rfl rfl rfl (.bool false) (by rw [hsz] at hlt; simp; omega) ?_
  refine RM rfl ?_
  refine RK ?_
  refine RK ?_
  refine RK ?_
  refine RP rfl rfl ?_
  refine RN ?_
  refine A.no rfl ?_
  refine A.skip ?_
  refine EN ?_
  refine GS ?_
  refine TL ?_
  refine RM rfl ?_
  refine RM rfl ?_
  refine RBS rfl rfl rfl (.bool true) (by rfl) ?_
  refine RM rfl ?_
  refine RQ (ok_loadA (s := 1000003) (by decide) Tryd.underlying41 rfl (size41.of (rfl)) rfl rfl) ?_
  refine RQ (ok_lit [] (NodT.v (NodT.emp 0 0)) (fun _ _ => rfl) (by kernel_rfl)) ?_
  refine RQ (ok_eqlT (n := 6) true flat41 (by decide) (by kernel_rfl) (by kernel_rfl) rfl rfl (NodT.emp_fit 0 (j := 0) (by decide)).kin (NodT.emp_fit 0 (j := 0) (by decide)).kin (iff_of_true rfl rfl)) ?_
  refine RP rfl rfl ?_
  refine RM rfl ?_
  refine RQ (ok_callM lives13_fn (Sub.cons rfl KN) tabS_v Args.nil) ?_
  refine RP rfl rfl ?_
  refine RA rfl ?_
  refine RN ?_
  refine A.sub (KC 2 rfl (KC 1000003 rfl (KC 1900000 rfl KN))) ?_
  refine A.ret ?_
  exact End.ret1 rfl rfl (by first | exact Le.refl _ | exact Le.old _ _)
 ·have h0 : ¬ (pX l).toNat = 0 := by simp at hc52; omega
  have hsz : NodT.sz (pX l).toNat = 137 := by unfold NodT.sz; rw [if_neg h0]
  refine A.skip ?_
  refine EN ?_
  refine A.seq ?_
  refine GS ?_
  refine TL ?_
  refine RM rfl ?_
  refine RS (ok_lenB Tryd.underlying44 rfl LA) ?_
  refine RM rfl ?_
  refine RBS rfl rfl rfl (.bool true) (by rw [hsz] at hlt; simp; omega) ?_
  refine RN ?_
  refine A.yes rfl ?_
  refine GE ?_
  refine TL ?_
  refine RA rfl ?_
  refine RN ?_
  refine EN ?_
  refine A.seq ?_
  refine GS ?_
  refine TL ?_
  refine RM rfl ?_
  refine RS (ok_lenB Tryd.underlying44 rfl LA) ?_
  refine RM rfl ?_
  refine RBS rfl rfl rfl (.bool false) (by rw [hsz] at hlt; simp; omega) ?_
  refine RN ?_
  refine A.no rfl ?_
  refine A.skip ?_
  refine EN ?_
  refine GS ?_
  refine TL ?_
  refine RM rfl ?_
  refine RS (ok_lenB Tryd.underlying44 rfl LA) ?_
  refine RM rfl ?_
  refine RBS rfl rfl rfl (.bool false) (by rw [hsz] at hlt; simp; omega) ?_
  refine RM rfl ?_
  refine RK ?_
  refine RK ?_
  refine RK ?_
  refine RP rfl rfl ?_
  refine RN ?_
  refine A.no rfl ?_
  refine A.skip ?_
  refine EN ?_
  refine GS ?_
  refine TL ?_
  refine RM rfl ?_
  refine RM rfl ?_
  refine RBS rfl rfl rfl (.bool true) (by rfl) ?_
  refine RM rfl ?_
  refine RQ (ok_loadA (s := 1000003) (by decide) Tryd.underlying41 rfl (size41.of (rfl)) rfl rfl) ?_
  refine RQ (ok_lit [] (NodT.v (NodT.emp 0 0)) (fun _ _ => rfl) (by kernel_rfl)) ?_
  refine RQ (ok_eqlT (n := 6) true flat41 (by decide) (by kernel_rfl) (by kernel_rfl) rfl rfl (NodT.emp_fit 0 (j := 0) (by decide)).kin (NodT.emp_fit 0 (j := 0) (by decide)).kin (iff_of_true rfl rfl)) ?_
  refine RP rfl rfl ?_
  refine RM rfl ?_
  refine RQ (ok_callM lives13_fn (Sub.cons rfl KN) tabS_v Args.nil) ?_
  refine RP rfl rfl ?_
  refine RA rfl ?_
  refine RN ?_
  refine A.sub (KC 2 rfl (KC 1000003 rfl (KC 1900000 rfl KN))) ?_
  refine A.ret ?_
  exact End.ret1 rfl rfl (by first | exact Le.refl _ | exact Le.old _ _)
set_option maxHeartbeats 2000000 in
theorem NodesGet_D (l : List UInt8) (hs : l.length ≤ 200) (h : geN l ≠ 0) (hn : ¬ l.length = 0) (h5 : (pX l).toNat ≤ 5) (hgt : NodT.sz (pX l).toNat < l.length) (hg : geN l = 5) : FnM Tryd.prog 4 tabS [byt l] (.v (.bool true)) := by
 refine FnM.of Tryd.func4 rfl (by kernel_rfl) Tryd.ntmps4 (by simp) (by decide) (fun w => [(0, old w.heap.size (byt l)), (1900000, tab 0 (sizV))]) (fun w => (StartM.old rfl (StartM.m (by simp [tabS]) (by decide) StartM.nil))) fun w₀ hM => ?_
 have htab := tabS_hi hM
 refine GS ?_
 refine TL ?_
 refine RA rfl ?_
 refine RN ?_
 refine A.seq ?_
 refine GS ?_
 refine TL ?_
 refine RM rfl ?_
 refine RS (ok_lenB Tryd.underlying44 rfl LA) ?_
 refine RBS rfl rfl rfl (.bool false) (by simp; omega) ?_
 refine RN ?_
 refine A.no rfl ?_
 refine A.skip ?_
 refine EN ?_
 refine GS ?_
 refine TN 5 ?_
 refine RM rfl ?_
 refine RS (ok_callM (nGet_bad l h) (Sub.cons rfl KN) tabS_v (Args.cons rfl (Le.old _ _) Args.nil)) ?_
 refine RM rfl ?_
 refine RS (ok_extractV rfl rfl) ?_
 refine RS (ok_extractV rfl rfl) ?_; refine RZ (.int .i64 5) (by rw [hg]) ?_
 refine RN ?_
 refine ⟨_, _, eff_alloc (n := 81) (d := 3) (k := 1000003) zero41 (by decide), fun b3 hb3 => ?_⟩
 have hBb3 := hb3.1
 refine TF 6 ?_
 refine RN ?_
 refine ⟨_, eff_storeA (n := 81) (s := 1000003) (size41.of (rfl)) rfl rfl (by first | exact NodT.one _ | exact RecT.one _ | exact EntT.one _ | exact RecT.all1 _ | exact EntT.all1 _ | exact all_byte _ | exact all_bytes _) hBb3 rfl (by first | rfl | (rw [rfl]; rfl)) (LO 0 rfl (LV 3 rfl (LV 17 rfl (LeftS.cons (t := 1900000) rfl (Surv.tab (by omega)) LN)))), ?_⟩
 refine TL ?_
 refine RA rfl ?_
 refine RN ?_
 refine A.seq ?_
 refine GS ?_
 refine TL ?_
 refine RM rfl ?_
 refine RBS rfl rfl rfl (.bool false) (by rfl) ?_
 refine RN ?_
 refine A.no rfl ?_
 refine A.skip ?_
 refine EN ?_
 refine GS ?_
 refine TL ?_
 refine RA rfl ?_
 refine RN ?_
 refine A.seq ?_
 refine GS ?_
 refine TL ?_
 refine RM rfl ?_
 refine RS (ok_lenB Tryd.underlying44 rfl LA) ?_
 refine RBS rfl rfl rfl (.bool false) (by simpa using hn) ?_
 refine RN ?_
 refine A.no rfl ?_
 refine GS ?_
 refine TL ?_
 refine RM rfl ?_
 refine RS (ok_index (d := byteD (pX l)) Tryd.underlying44 info5 rfl LA rfl (by decide) (px_get hn)) ?_
 refine RS (ok_load Tryd.underlying5 rfl rfl) ?_
 refine RBS rfl rfl rfl (.bool true) (by simp; omega) ?_
 refine RN ?_
 refine A.yes rfl ?_
 refine GS ?_
 refine TL ?_
 refine RA rfl ?_
 refine RN ?_
 refine A.seq ?_
 refine GS ?_
 refine TL ?_
 refine RM rfl ?_
 refine RS (ok_index (d := byteD (pX l)) Tryd.underlying44 info5 rfl LA rfl (by decide) (px_get hn)) ?_
 refine RS (ok_load Tryd.underlying5 rfl rfl) ?_
 refine RB rfl rfl rfl ?_
 refine RN ?_
 refine A.sub (KC 0 rfl (KC 3 rfl (KC 4 rfl (KC 7 rfl (KC 8 rfl (KC 52 rfl (KC 1000003 rfl (KC 1900000 rfl KN)))))))) ?_
 refine A.cond rfl (fun hc52 => ?_) (fun hc52 => ?_)
 ·have h0 : (pX l).toNat = 0 := by simp at hc52; omega
  have hsz : NodT.sz (pX l).toNat = 185 := by unfold NodT.sz; rw [if_pos h0]
  refine GE ?_
  refine TL ?_
  refine RA rfl ?_
  refine RN ?_
  refine EN ?_
  refine A.seq ?_
  refine GS ?_
  refine TL ?_
  refine RM rfl ?_
  refine RS (ok_lenB Tryd.underlying44 rfl LA) ?_
  refine RM rfl ?_
  refine RBS rfl rfl rfl (.bool false) (by rw [hsz] at hgt; simp; omega) ?_
  refine RN ?_
  refine A.no rfl ?_
  refine A.skip ?_
  refine EN ?_
  refine A.seq ?_
  refine GS ?_
  refine TL ?_
  refine RM rfl ?_
  refine RS (ok_lenB Tryd.underlying44 rfl LA) ?_
  refine RM rfl ?_
  refine RBS rfl rfl rfl (.bool true) (by rw [hsz] at hgt; simp; omega) ?_
  refine RN ?_
  refine A.yes rfl ?_
  refine GE ?_
  refine TL ?_
  refine RA rfl ?_
  refine RN ?_
  refine EN ?_
  refine GS ?_
  refine TL ?_
  refine RM rfl ?_
  refine RS (ok_lenB Tryd.underlying44 rfl LA) ?_
  refine RM rfl ?_
  refine RBS rfl rfl rfl (.bool false) (by rw [hsz] at hgt; simp; omega) ?_
  refine RM rfl ?_
  refine RK ?_
  refine RK ?_
  refine RK ?_
  refine RP rfl rfl ?_
  refine RN ?_
  refine A.no rfl ?_
  refine A.skip ?_
  refine EN ?_
  refine GS ?_
  refine TL ?_
  refine RM rfl ?_
  refine RM rfl ?_
  refine RBS rfl rfl rfl (.bool true) (by rfl) ?_
  refine RM rfl ?_
  refine RQ (ok_loadA (s := 1000003) (by decide) Tryd.underlying41 rfl (size41.of (rfl)) rfl rfl) ?_
  refine RQ (ok_lit [] (NodT.v (NodT.emp 0 0)) (fun _ _ => rfl) (by kernel_rfl)) ?_
  refine RQ (ok_eqlT (n := 6) true flat41 (by decide) (by kernel_rfl) (by kernel_rfl) rfl rfl (NodT.emp_fit 0 (j := 0) (by decide)).kin (NodT.emp_fit 0 (j := 0) (by decide)).kin (iff_of_true rfl rfl)) ?_
  refine RP rfl rfl ?_
  refine RM rfl ?_
  refine RQ (ok_callM lives13_fn (Sub.cons rfl KN) tabS_v Args.nil) ?_
  refine RP rfl rfl ?_
  refine RA rfl ?_
  refine RN ?_
  refine A.sub (KC 2 rfl (KC 1000003 rfl (KC 1900000 rfl KN))) ?_
  refine A.ret ?_
  exact End.ret1 rfl rfl (by first | exact Le.refl _ | exact Le.old _ _)
 ·have h0 : ¬ (pX l).toNat = 0 := by simp at hc52; omega
  have hsz : NodT.sz (pX l).toNat = 137 := by unfold NodT.sz; rw [if_neg h0]
  refine A.skip ?_
  refine EN ?_
  refine A.seq ?_
  refine GS ?_
  refine TL ?_
  refine RM rfl ?_
  refine RS (ok_lenB Tryd.underlying44 rfl LA) ?_
  refine RM rfl ?_
  refine RBS rfl rfl rfl (.bool false) (by rw [hsz] at hgt; simp; omega) ?_
  refine RN ?_
  refine A.no rfl ?_
  refine A.skip ?_
  refine EN ?_
  refine A.seq ?_
  refine GS ?_
  refine TL ?_
  refine RM rfl ?_
  refine RS (ok_lenB Tryd.underlying44 rfl LA) ?_
  refine RM rfl ?_
  refine RBS rfl rfl rfl (.bool true) (by rw [hsz] at hgt; simp; omega) ?_
  refine RN ?_
  refine A.yes rfl ?_
  refine GE ?_
  refine TL ?_
  refine RA rfl ?_
  refine RN ?_
  refine EN ?_
  refine GS ?_
  refine TL ?_
  refine RM rfl ?_
  refine RS (ok_lenB Tryd.underlying44 rfl LA) ?_
  refine RM rfl ?_
  refine RBS rfl rfl rfl (.bool false) (by rw [hsz] at hgt; simp; omega) ?_
  refine RM rfl ?_
  refine RK ?_
  refine RK ?_
  refine RK ?_
  refine RP rfl rfl ?_
  refine RN ?_
  refine A.no rfl ?_
  refine A.skip ?_
  refine EN ?_
  refine GS ?_
  refine TL ?_
  refine RM rfl ?_
  refine RM rfl ?_
  refine RBS rfl rfl rfl (.bool true) (by rfl) ?_
  refine RM rfl ?_
  refine RQ (ok_loadA (s := 1000003) (by decide) Tryd.underlying41 rfl (size41.of (rfl)) rfl rfl) ?_
  refine RQ (ok_lit [] (NodT.v (NodT.emp 0 0)) (fun _ _ => rfl) (by kernel_rfl)) ?_
  refine RQ (ok_eqlT (n := 6) true flat41 (by decide) (by kernel_rfl) (by kernel_rfl) rfl rfl (NodT.emp_fit 0 (j := 0) (by decide)).kin (NodT.emp_fit 0 (j := 0) (by decide)).kin (iff_of_true rfl rfl)) ?_
  refine RP rfl rfl ?_
  refine RM rfl ?_
  refine RQ (ok_callM lives13_fn (Sub.cons rfl KN) tabS_v Args.nil) ?_
  refine RP rfl rfl ?_
  refine RA rfl ?_
  refine RN ?_
  refine A.sub (KC 2 rfl (KC 1000003 rfl (KC 1900000 rfl KN))) ?_
  refine A.ret ?_
  exact End.ret1 rfl rfl (by first | exact Le.refl _ | exact Le.old _ _)
set_option maxHeartbeats 2000000 in
theorem NodesGet_E (l : List UInt8) (hs : l.length ≤ 200) (h : geN l ≠ 0) (hn : ¬ l.length = 0) (h5 : (pX l).toNat ≤ 5) (heq : l.length = NodT.sz (pX l).toNat) (hz : szN l = 0) (hg : geN l = 1) : FnM Tryd.prog 4 tabS [byt l] (.v (.bool true)) := by
 refine FnM.of Tryd.func4 rfl (by kernel_rfl) Tryd.ntmps4 (by simp) (by decide) (fun w => [(0, old w.heap.size (byt l)), (1900000, tab 0 (sizV))]) (fun w => (StartM.old rfl (StartM.m (by simp [tabS]) (by decide) StartM.nil))) fun w₀ hM => ?_
 have htab := tabS_hi hM
 refine GS ?_
 refine TL ?_
 refine RA rfl ?_
 refine RN ?_
 refine A.seq ?_
 refine GS ?_
 refine TL ?_
 refine RM rfl ?_
 refine RS (ok_lenB Tryd.underlying44 rfl LA) ?_
 refine RBS rfl rfl rfl (.bool false) (by simp; omega) ?_
 refine RN ?_
 refine A.no rfl ?_
 refine A.skip ?_
 refine EN ?_
 refine GS ?_
 refine TN 5 ?_
 refine RM rfl ?_
 refine RS (ok_callM (nGet_bad l h) (Sub.cons rfl KN) tabS_v (Args.cons rfl (Le.old _ _) Args.nil)) ?_
 refine RM rfl ?_
 refine RS (ok_extractV rfl rfl) ?_
 refine RS (ok_extractV rfl rfl) ?_; refine RZ (.int .i64 1) (by rw [hg]) ?_
 refine RN ?_
 refine ⟨_, _, eff_alloc (n := 81) (d := 3) (k := 1000003) zero41 (by decide), fun b3 hb3 => ?_⟩
 have hBb3 := hb3.1
 refine TF 6 ?_
 refine RN ?_
 refine ⟨_, eff_storeA (n := 81) (s := 1000003) (size41.of (rfl)) rfl rfl (by first | exact NodT.one _ | exact RecT.one _ | exact EntT.one _ | exact RecT.all1 _ | exact EntT.all1 _ | exact all_byte _ | exact all_bytes _) hBb3 rfl (by first | rfl | (rw [rfl]; rfl)) (LO 0 rfl (LV 3 rfl (LV 17 rfl (LeftS.cons (t := 1900000) rfl (Surv.tab (by omega)) LN)))), ?_⟩
 refine TL ?_
 refine RA rfl ?_
 refine RN ?_
 refine A.seq ?_
 refine GS ?_
 refine TL ?_
 refine RM rfl ?_
 refine RBS rfl rfl rfl (.bool false) (by rfl) ?_
 refine RN ?_
 refine A.no rfl ?_
 refine A.skip ?_
 refine EN ?_
 refine GS ?_
 refine TL ?_
 refine RA rfl ?_
 refine RN ?_
 refine A.seq ?_
 refine GS ?_
 refine TL ?_
 refine RM rfl ?_
 refine RS (ok_lenB Tryd.underlying44 rfl LA) ?_
 refine RBS rfl rfl rfl (.bool false) (by simpa using hn) ?_
 refine RN ?_
 refine A.no rfl ?_
 refine GS ?_
 refine TL ?_
 refine RM rfl ?_
 refine RS (ok_index (d := byteD (pX l)) Tryd.underlying44 info5 rfl LA rfl (by decide) (px_get hn)) ?_
 refine RS (ok_load Tryd.underlying5 rfl rfl) ?_
 refine RBS rfl rfl rfl (.bool true) (by simp; omega) ?_
 refine RN ?_
 refine A.yes rfl ?_
 refine GS ?_
 refine TL ?_
 refine RA rfl ?_
 refine RN ?_
 refine A.seq ?_
 refine GS ?_
 refine TL ?_
 refine RM rfl ?_
 refine RS (ok_index (d := byteD (pX l)) Tryd.underlying44 info5 rfl LA rfl (by decide) (px_get hn)) ?_
 refine RS (ok_load Tryd.underlying5 rfl rfl) ?_
 refine RB rfl rfl rfl ?_
 refine RN ?_
 refine A.sub (KC 0 rfl (KC 3 rfl (KC 4 rfl (KC 7 rfl (KC 8 rfl (KC 52 rfl (KC 1000003 rfl (KC 1900000 rfl KN)))))))) ?_
 refine A.cond rfl (fun hc52 => ?_) (fun hc52 => ?_)
 ·have h0 : (pX l).toNat = 0 := by simp at hc52; omega
  have hsz : NodT.sz (pX l).toNat = 185 := by unfold NodT.sz; rw [if_pos h0]
  refine GE ?_
  refine TL ?_
  refine RA rfl ?_
  refine RN ?_
  refine EN ?_
  refine A.seq ?_
  refine GS ?_
  refine TL ?_
  refine RM rfl ?_
  refine RS (ok_lenB Tryd.underlying44 rfl LA) ?_
  refine RM rfl ?_
  refine RBS rfl rfl rfl (.bool false) (by rw [hsz] at heq; simp; omega) ?_
  refine RN ?_
  refine A.no rfl ?_
  refine A.skip ?_
  refine EN ?_
  refine A.seq ?_
  refine GS ?_
  refine TL ?_
  refine RM rfl ?_
  refine RS (ok_lenB Tryd.underlying44 rfl LA) ?_
  refine RM rfl ?_
  refine RBS rfl rfl rfl (.bool false) (by rw [hsz] at heq; simp; omega) ?_
  refine RN ?_
  refine A.no rfl ?_
  refine A.skip ?_
  refine EN ?_
  refine GS ?_
  refine TL ?_
  refine RM rfl ?_
  refine RS (ok_lenB Tryd.underlying44 rfl LA) ?_
  refine RM rfl ?_
  refine RBS rfl rfl rfl (.bool true) (by rw [hsz] at heq; simp; omega) ?_
  refine RM rfl ?_
  refine RQ (ok_move rfl) ?_
  refine RQ (ok_call (whole_bad hz h) (Args.cons rfl LA Args.nil)) ?_
  refine RQ (ok_bin rfl rfl rfl) ?_; refine RZ (.bool false) (by rfl) ?_
  refine RP rfl rfl ?_
  refine RN ?_
  refine A.no rfl ?_
  refine A.skip ?_
  refine EN ?_
  refine GS ?_
  refine TL ?_
  refine RM rfl ?_
  refine RM rfl ?_
  refine RBS rfl rfl rfl (.bool true) (by rfl) ?_
  refine RM rfl ?_
  refine RQ (ok_loadA (s := 1000003) (by decide) Tryd.underlying41 rfl (size41.of (rfl)) rfl rfl) ?_
  refine RQ (ok_lit [] (NodT.v (NodT.emp 0 0)) (fun _ _ => rfl) (by kernel_rfl)) ?_
  refine RQ (ok_eqlT (n := 6) true flat41 (by decide) (by kernel_rfl) (by kernel_rfl) rfl rfl (NodT.emp_fit 0 (j := 0) (by decide)).kin (NodT.emp_fit 0 (j := 0) (by decide)).kin (iff_of_true rfl rfl)) ?_
  refine RP rfl rfl ?_
  refine RM rfl ?_
  refine RQ (ok_callM lives13_fn (Sub.cons rfl KN) tabS_v Args.nil) ?_
  refine RP rfl rfl ?_
  refine RA rfl ?_
  refine RN ?_
  refine A.sub (KC 2 rfl (KC 1000003 rfl (KC 1900000 rfl KN))) ?_
  refine A.ret ?_
  exact End.ret1 rfl rfl (by first | exact Le.refl _ | exact Le.old _ _)
 ·have h0 : ¬ (pX l).toNat = 0 := by simp at hc52; omega
  have hsz : NodT.sz (pX l).toNat = 137 := by unfold NodT.sz; rw [if_neg h0]
  refine A.skip ?_
  refine EN ?_
  refine A.seq ?_
  refine GS ?_
  refine TL ?_
  refine RM rfl ?_
  refine RS (ok_lenB Tryd.underlying44 rfl LA) ?_
  refine RM rfl ?_
  refine RBS rfl rfl rfl (.bool false) (by rw [hsz] at heq; simp; omega) ?_
  refine RN ?_
  refine A.no rfl ?_
  refine A.skip ?_
  refine EN ?_
  refine A.seq ?_
  refine GS ?_
  refine TL ?_
  refine RM rfl ?_
  refine RS (ok_lenB Tryd.underlying44 rfl LA) ?_
  refine RM rfl ?_
  refine RBS rfl rfl rfl (.bool false) (by rw [hsz] at heq; simp; omega) ?_
  refine RN ?_
  refine A.no rfl ?_
  refine A.skip ?_
  refine EN ?_
  refine GS ?_
  refine TL ?_
  refine RM rfl ?_
  refine RS (ok_lenB Tryd.underlying44 rfl LA) ?_
  refine RM rfl ?_
  refine RBS rfl rfl rfl (.bool true) (by rw [hsz] at heq; simp; omega) ?_
  refine RM rfl ?_
  refine RQ (ok_move rfl) ?_
  refine RQ (ok_call (whole_bad hz h) (Args.cons rfl LA Args.nil)) ?_
  refine RQ (ok_bin rfl rfl rfl) ?_; refine RZ (.bool false) (by rfl) ?_
  refine RP rfl rfl ?_
  refine RN ?_
  refine A.no rfl ?_
  refine A.skip ?_
  refine EN ?_
  refine GS ?_
  refine TL ?_
  refine RM rfl ?_
  refine RM rfl ?_
  refine RBS rfl rfl rfl (.bool true) (by rfl) ?_
  refine RM rfl ?_
  refine RQ (ok_loadA (s := 1000003) (by decide) Tryd.underlying41 rfl (size41.of (rfl)) rfl rfl) ?_
  refine RQ (ok_lit [] (NodT.v (NodT.emp 0 0)) (fun _ _ => rfl) (by kernel_rfl)) ?_
  refine RQ (ok_eqlT (n := 6) true flat41 (by decide) (by kernel_rfl) (by kernel_rfl) rfl rfl (NodT.emp_fit 0 (j := 0) (by decide)).kin (NodT.emp_fit 0 (j := 0) (by decide)).kin (iff_of_true rfl rfl)) ?_
  refine RP rfl rfl ?_
  refine RM rfl ?_
  refine RQ (ok_callM lives13_fn (Sub.cons rfl KN) tabS_v Args.nil) ?_
  refine RP rfl rfl ?_
  refine RA rfl ?_
  refine RN ?_
  refine A.sub (KC 2 rfl (KC 1000003 rfl (KC 1900000 rfl KN))) ?_
  refine A.ret ?_
  exact End.ret1 rfl rfl (by first | exact Le.refl _ | exact Le.old _ _)
theorem NodesGet_fn (l : List UInt8) : FnM Tryd.prog 4 tabS [byt l] (.v (.bool true)) := by
 by_cases hs : l.length ≤ 200
 ·by_cases h : geN l = 0
  ·exact NodesGet_ok l hs h
  ·by_cases hz : szN l = 0
   ·obtain ⟨h1, h2, h3⟩ := szN_ok hz
    exact NodesGet_E l hs h (by omega) h2 h3 hz (geN_one hz h)
   ·have hg := geN_sz hz
    unfold szN at hg
    by_cases hn : l.length = 0
    ·rw [if_pos hn] at hg; exact NodesGet_A l hs h hn hg
    rw [if_neg hn] at hg
    by_cases h5 : 5 < (pX l).toNat
    ·rw [if_pos h5] at hg; exact NodesGet_B l hs h hn h5 hg
    rw [if_neg h5] at hg
    by_cases h6 : l.length < NodT.sz (pX l).toNat
    ·rw [if_pos h6] at hg; exact NodesGet_C l hs h hn (by omega) h6 hg
    rw [if_neg h6] at hg
    by_cases h7 : NodT.sz (pX l).toNat < l.length
    ·rw [if_pos h7] at hg; exact NodesGet_D l hs h hn (by omega) h7 hg
    rw [if_neg h7] at hg; exact absurd hg h
 ·exact NodesGet_long l (by omega)
end Go.Proofs.YtlddnmblfgaimaaDoor
namespace Go.Proofs.YtlddnmblfgaimaaDoor
open Go Go.RowKit Go.ChangeShapes Go.WideShapes
section
variable {H : Type} {enc : TypeId × Value → H} {P : Program} {w : World} {base : Nat} {held : Bool}
theorem arg_nB {t : TypeId} {v : Value} {d : DataW H} {ps : List MemPlace} (ht : P.underlying t = some (.int .u8)) {r : Reach} {b0 : Nat} (hk : Value.okWide P w r b0 t v)
    (h : DataW.Trod enc P w base (fun _ => true) held t v d ps) : ∃ n : Nat, n < 256 ∧ v = .int .u8 ((n : Nat) : Int) := by
  obtain ⟨n, rfl, hw⟩ := arg_num ht hk h
  obtain ⟨a, rfl, ha⟩ := nat_u8 hw
  exact ⟨a, ha, rfl⟩
end
end Go.Proofs.YtlddnmblfgaimaaDoor
namespace Go.Proofs.YtlddnmblfgaimaaDoor
open Go Go.RowKit Go.ChangeShapes Go.WideShapes
section
variable {H : Type} {enc : TypeId × Value → H} {P : Program} {w : World} {base : Nat} {held : Bool}
end
end Go.Proofs.YtlddnmblfgaimaaDoor
namespace Go.Proofs.YtlddnmblfgaimaaDoor
open Go Go.RowKit Go.ChangeShapes Go.WideShapes
section
variable {H : Type} {enc : TypeId × Value → H} {P : Program} {w : World} {base : Nat} {held : Bool}
theorem rec_of_kin {xs : List Value} (h : Kin (fun k m => (Lit.int k m).wf = true) (.u8 :: .u32 :: .u64 :: List.replicate 32 .u8) xs) : ∃ r : RecT, r.Fit ∧ xs = r.v := by
  obtain ⟨n, y, rfl, h1, h2⟩ := h.cons
  obtain ⟨m, y, rfl, h3, h4⟩ := h2.cons
  obtain ⟨q, y, rfl, h5, h6⟩ := h4.cons
  obtain ⟨l, hl, rfl⟩ := h6.bytes
  obtain ⟨a, rfl, ha⟩ := nat_u8 h1
  obtain ⟨s, rfl, hs⟩ := nat_u32 h3
  obtain ⟨c, rfl, hc⟩ := nat_u64 h5
  exact ⟨⟨UInt8.ofNat a, s, c, l⟩, ⟨hl, hs, hc⟩, by rw [RecT.v, recV, byteV_nat a ha]⟩
theorem ent_of_kin {xs : List Value} (h : Kin (fun k m => (Lit.int k m).wf = true) (.u8 :: List.replicate 32 .u8) xs) : ∃ r : EntT, r.Fit ∧ xs = r.v := by
  obtain ⟨n, y, rfl, h1, h2⟩ := h.cons
  obtain ⟨l, hl, rfl⟩ := h2.bytes
  obtain ⟨a, rfl, ha⟩ := nat_u8 h1
  exact ⟨⟨UInt8.ofNat a, l⟩, ⟨hl⟩, by rw [EntT.v, entV, byteV_nat a ha]⟩
theorem arg_P13 {t : TypeId} {v : Value} {d : DataW H} {ps : List MemPlace} (hf : flat P 6 t = some ((.u8 :: .u32 :: .u64 :: List.replicate 32 .u8) ++ (.u8 :: List.replicate 32 .u8))) (hg : isAggT P t = true) {r : Reach} {b0 : Nat} (hk : Value.okWide P w r b0 t v)
    (h : DataW.Trod enc P w base (fun _ => true) held t v d ps) : ∃ (q : RecT) (e : EntT), q.Fit ∧ e.Fit ∧ v = aggV (q.v ++ e.v) := by
  obtain ⟨xs, rfl, hx⟩ := arg_flat 6 hf hg hk h
  obtain ⟨x, z, rfl, h5, h6⟩ := hx.append
  obtain ⟨q, hq, rfl⟩ := rec_of_kin h5
  obtain ⟨e, he, rfl⟩ := ent_of_kin h6
  exact ⟨q, e, hq, he, rfl⟩
theorem arg_N13 {t : TypeId} {v : Value} {d : DataW H} {ps : List MemPlace} (hf : flat P 6 t = some (.u16 :: .u8 :: .u16 :: (List.replicate 4 .u8 ++ List.replicate 4 .u8))) (hg : isAggT P t = true) {r : Reach} {b0 : Nat} (hk : Value.okWide P w r b0 t v)
    (h : DataW.Trod enc P w base (fun _ => true) held t v d ps) : ∃ (k l j : Nat) (S D : List UInt8), k < 65536 ∧ l < 256 ∧ j < 65536 ∧ S.length = 4 ∧ D.length = 4 ∧ v = aggV ([.int .u16 ((k : Nat) : Int), .int .u8 ((l : Nat) : Int), .int .u16 ((j : Nat) : Int)] ++ (S.map byteV ++ D.map byteV)) := by
  obtain ⟨xs, rfl, hx⟩ := arg_flat 6 hf hg hk h
  obtain ⟨n, y, rfl, h1, h2⟩ := hx.cons
  obtain ⟨m, y, rfl, h3, h4⟩ := h2.cons
  obtain ⟨q, y, rfl, h5, h6⟩ := h4.cons
  obtain ⟨x, z, rfl, h7, h8⟩ := h6.append
  obtain ⟨S, hS, rfl⟩ := h7.bytes
  obtain ⟨D, hD, rfl⟩ := h8.bytes
  obtain ⟨k, rfl, hk'⟩ := nat_u16 h1
  obtain ⟨l, rfl, hl⟩ := nat_u8 h3
  obtain ⟨j, rfl, hj⟩ := nat_u16 h5
  exact ⟨k, l, j, S, D, hk', hl, hj, hS, hD, rfl⟩
end
end Go.Proofs.YtlddnmblfgaimaaDoor
namespace Go.Proofs.YtlddnmblfgaimaaDoor
open Go Go.RowKit
set_option linter.unusedVariables false
set_option maxRecDepth 20000
set_option linter.unusedSimpArgs false
theorem pos_y {a : UInt8} (h : a.toNat ≠ 0) : Value.bool (decide ((0 : Int) < ((a.toNat : Nat) : Int))) = .bool true := congrArg Value.bool (decide_eq_true (by omega))
theorem pos_n {a : UInt8} (h : a.toNat = 0) : Value.bool (decide ((0 : Int) < ((a.toNat : Nat) : Int))) = .bool false := congrArg Value.bool (decide_eq_false (by omega))
theorem cp1_place {x : NodT} {w : Int} {b : Bool} (h : ¬ (0 ≤ w ∧ w < 4)) : cpN x w b = 1 := if_pos h
theorem cp1_kind {x : NodT} {w : Int} (hk : x.ck = 0) : cpN x w false = 1 := by
 unfold cpN
 split
 ·rfl
 ·rw [if_neg (by rw [hk]; decide), if_pos rfl]
theorem cp0 {x : NodT} {w : Int} (h : 0 ≤ w ∧ w < 4) (hk : x.ck = 0) : cpN x w true = 0 := by
 unfold cpN
 rw [if_neg (fun h' => h' h), if_neg (by rw [hk]; decide), if_neg (by decide)]
theorem wr_1 {x : NodT} {w : Int} {r : RecT} (h : cpN x w (decide (x.l.toNat = 0)) = 1) : Value.tuple #[aggV (wrX x w r).v, .int .i64 (wrE x w r)] = .tuple #[aggV (NodT.emp 0 0).v, .int .i64 1] := by
 have h1 : wrE x w r = 1 := by unfold wrE; rw [if_pos (by rw [h]; decide), h]
 have h2 : wrX x w r = NodT.emp 0 0 := by unfold wrX; rw [if_neg (by rw [h1]; decide)]
 rw [h1, h2]
theorem wr_0 {x : NodT} {w : Int} {r : RecT} (h : cpN x w (decide (x.l.toNat = 0)) = 0) (hr : r.ck = 0) : Value.tuple #[aggV (wrX x w r).v, .int .i64 (wrE x w r)] = .tuple #[aggV ({ x with R := x.R.set w.toNat r } : NodT).v, .int .i64 0] := by
 have h1 : wrE x w r = 0 := by unfold wrE; rw [if_neg (by rw [h]; decide), hr]
 have h2 : wrX x w r = { x with R := x.R.set w.toNat r } := by unfold wrX; rw [if_pos h1]
 rw [h1, h2]
theorem we_0 {x : NodT} {w : Int} {r : EntT} (h : cpN x w (!(decide (x.l.toNat = 0))) = 0) (hr : r.ck = 0) : Value.tuple #[aggV (weX x w r).v, .int .i64 (weE x w r)] = .tuple #[aggV ({ x with E := x.E.set w.toNat r } : NodT).v, .int .i64 0] := by
 have h1 : weE x w r = 0 := by unfold weE; rw [if_neg (by rw [h]; decide), hr]
 have h2 : weX x w r = { x with E := x.E.set w.toNat r } := by unfold weX; rw [if_pos h1]
 rw [h1, h2]
theorem wr_b {x : NodT} {w : Int} {r : RecT} (h : cpN x w (decide (x.l.toNat = 0)) = 0) (hr : r.ck ≠ 0) : Value.tuple #[aggV (wrX x w r).v, .int .i64 (wrE x w r)] = .tuple #[aggV (NodT.emp 0 0).v, .int .i64 1] := by
 have h1 : wrE x w r = 1 := by unfold wrE; rw [if_neg (by rw [h]; decide)]; exact r.ck_one.resolve_left hr
 have h2 : wrX x w r = NodT.emp 0 0 := by unfold wrX; rw [if_neg (by rw [h1]; decide)]
 rw [h1, h2]
theorem we_b {x : NodT} {w : Int} {r : EntT} (h : cpN x w (!(decide (x.l.toNat = 0))) = 0) (hr : r.ck ≠ 0) : Value.tuple #[aggV (weX x w r).v, .int .i64 (weE x w r)] = .tuple #[aggV (NodT.emp 0 0).v, .int .i64 1] := by
 have h1 : weE x w r = 1 := by unfold weE; rw [if_neg (by rw [h]; decide)]; exact r.ck_one.resolve_left hr
 have h2 : weX x w r = NodT.emp 0 0 := by unfold weX; rw [if_neg (by rw [h1]; decide)]
 rw [h1, h2]
theorem dR {x : NodT} (h : x.l.toNat = 0) : decide (x.l.toNat = 0) = true := decide_eq_true h
theorem dE {x : NodT} (h : x.l.toNat ≠ 0) : decide (x.l.toNat = 0) = false := decide_eq_false h
end Go.Proofs.YtlddnmblfgaimaaDoor
namespace Go.Proofs.YtlddnmblfgaimaaDoor
open Go Go.RowKit
set_option linter.unusedVariables false
set_option maxRecDepth 20000
set_option linter.unusedSimpArgs false
theorem field67_0 : FieldIs Tryd.prog 67 0 0 35 := by unfold FieldIs; kernel_rfl
theorem field67_1 : FieldIs Tryd.prog 67 1 35 33 := by unfold FieldIs; kernel_rfl
theorem prt_l {r : RecT} {e : EntT} (hr : r.Fit) (he : e.Fit) : (r.v ++ e.v).length = 68 := by rw [List.length_append, hr.len, he.len]
theorem prt_r {r : RecT} {e : EntT} (hr : r.Fit) : (r.v ++ e.v).take 35 = r.v := List.take_left' hr.len
theorem prt_e {r : RecT} {e : EntT} (hr : r.Fit) (he : e.Fit) : ((r.v ++ e.v).drop 35).take 33 = e.v := by rw [List.drop_left' hr.len, List.take_of_length_le (Nat.le_of_eq he.len)]
theorem getD_set4 {α : Type} {L : List α} (hL : L.length = 4) {m : Nat} (hm : m < 4) (a z : α) (i : Nat) : (L.set m a).getD i z = if m = i then a else L.getD i z := by
 rw [List.getD_eq_getElem?_getD, List.getElem?_set]
 by_cases h : m = i
 ·rw [if_pos h, if_pos h, if_pos (by omega)]; rfl
 ·rw [if_neg h, if_neg h, List.getD_eq_getElem?_getD]
section
variable {x : NodT} (hx : x.Fit) {m : Nat} (hm : m < 4)
include hx hm
theorem setR_r (r : RecT) (i : Nat) : ({ x with R := x.R.set m r } : NodT).r i = if m = i then r else x.r i := getD_set4 hx.lr hm r RecT.zero i
theorem setE_e (r : EntT) (i : Nat) : ({ x with E := x.E.set m r } : NodT).e i = if m = i then r else x.e i := getD_set4 hx.le hm r EntT.zero i
theorem setR_ck (h0 : x.l.toNat = 0) (hk : x.ck = 0) (r : RecT) : ({ x with R := x.R.set m r } : NodT).ck = r.ck := by
 obtain ⟨hz, hb⟩ := (NodT.ck_ok hk).2.1 h0
 rw [NodT.ck_R (x := { x with R := x.R.set m r }) h0 hz]
 have h1 : ∀ i, i < 4 → i ≠ m → (({ x with R := x.R.set m r } : NodT).r i).ck = 0 := fun i hi hne => by rw [setR_r hx hm, if_neg (fun h => hne h.symm)]; exact RecT.ck_zero.2 (hb i hi)
 have h2 : (({ x with R := x.R.set m r } : NodT).r m).ck = r.ck := by rw [setR_r hx hm, if_pos rfl]
 by_cases hr : r.ck = 0
 ·rw [hr]; exact fst4_no fun i hi => if h : i = m then by rw [h, h2, hr] else h1 i hi h
 ·rw [← h2]; exact (fst4_at (f := fun i => (({ x with R := x.R.set m r } : NodT).r i).ck) hm (fun i hi => h1 i (by omega) (by omega)) (by show _ ≠ _; rw [h2]; exact hr)).symm
theorem setE_ck (h0 : x.l.toNat ≠ 0) (hk : x.ck = 0) (r : EntT) : ({ x with E := x.E.set m r } : NodT).ck = r.ck := by
 obtain ⟨hz, hb⟩ := (NodT.ck_ok hk).2.2 h0
 have h5 := (NodT.ck_ok hk).1
 rw [NodT.ck_E (x := { x with E := x.E.set m r }) (show ¬ 5 < x.l.toNat by omega) h0 hz]
 have h1 : ∀ i, i < 4 → i ≠ m → (({ x with E := x.E.set m r } : NodT).e i).ck = 0 := fun i hi hne => by rw [setE_e hx hm, if_neg (fun h => hne h.symm)]; exact EntT.ck_zero.2 (hb i hi)
 have h2 : (({ x with E := x.E.set m r } : NodT).e m).ck = r.ck := by rw [setE_e hx hm, if_pos rfl]
 by_cases hr : r.ck = 0
 ·rw [hr]; exact fst4_no fun i hi => if h : i = m then by rw [h, h2, hr] else h1 i hi h
 ·rw [← h2]; exact (fst4_at (f := fun i => (({ x with E := x.E.set m r } : NodT).e i).ck) hm (fun i hi => h1 i (by omega) (by omega)) (by show _ ≠ _; rw [h2]; exact hr)).symm
theorem back_E (h0 : x.l.toNat = 0) (hk : x.ck = 0) (r : RecT) (e : EntT) : ({ x with R := x.R.set m r, E := (x.E.set m e).set m EntT.zero } : NodT) = { x with R := x.R.set m r } := by
 have : (x.E.set m e).set m EntT.zero = x.E := ext4 (by simpa using hx.le) hx.le EntT.zero fun i hi => by
  rw [List.set_set, getD_set4 hx.le hm]
  split
  ·rename_i h; rw [← h]; exact (EntT.z_iff.1 (((NodT.ck_ok hk).2.1 h0).1 m hm)).symm
  ·rfl
 rw [this]
theorem back_R (h0 : x.l.toNat ≠ 0) (hk : x.ck = 0) (r : RecT) (e : EntT) : ({ x with R := (x.R.set m r).set m RecT.zero, E := x.E.set m e } : NodT) = { x with E := x.E.set m e } := by
 have : (x.R.set m r).set m RecT.zero = x.R := ext4 (by simpa using hx.lr) hx.lr RecT.zero fun i hi => by
  rw [List.set_set, getD_set4 hx.lr hm]
  split
  ·rename_i h; rw [← h]; exact (RecT.z_iff.1 (((NodT.ck_ok hk).2.2 h0).1 m hm)).symm
  ·rfl
 rw [this]
end

set_option maxHeartbeats 4000000 in
theorem NWith_Ro (k l j : Nat) (S D : List UInt8) (hk0 : k < 65536) (hl : l < 256) (hj : j < 65536) (hS : S.length = 4) (hD : D.length = 4) (a : Nat) (ha : a < 256) (r : RecT) (e : EntT) (hr : r.Fit) (he : e.Fit) (h0 : (ofN k l j S D).l.toNat = 0) (hq : r.ck = 0) : FnM Tryd.prog 7 tabS [.v (aggV (n13V k l j S D)), .v (nB a), .v (aggV (r.v ++ e.v))] (.v (.bool true)) := by
 obtain ⟨x, hxd⟩ : ∃ x, x = ofN k l j S D := ⟨_, rfl⟩
 have hx : x.Fit := hxd ▸ ofN_fit k l j S D
 have hkx : x.ck = 0 := hxd ▸ ofN_ck k l j S D
 have hftx : ftN (nn k) x = 0 := hxd ▸ ofN_ft k l j S D
 rw [← hxd] at h0
 obtain ⟨m, hm⟩ : ∃ m, m = a % 4 := ⟨_, rfl⟩
 have hm4 : m < 4 := by omega
 have hmw : (0 : Int) ≤ (m : Int) ∧ (m : Int) < 4 := by omega
 refine FnM.of Tryd.func7 rfl (by kernel_rfl) Tryd.ntmps7 (by simp) (by decide) (fun w => [(0, .v (aggV (n13V k l j S D))), (1, .v (nB a)), (2, .v (aggV (r.v ++ e.v))), (1900000, tab 0 (sizV))]) (fun w => (StartM.v rfl (StartM.v rfl (StartM.v rfl (StartM.m (by simp [tabS]) (by decide) StartM.nil))))) fun w₀ hM => ?_
 have htab := tabS_hi hM
 refine GS ?_
 refine TN 0 ?_
 refine RN ?_
 refine ⟨_, _, eff_box (n := 110) (d := 3) (k := 1000003) rfl (by decide), fun b3 hb3 => ?_⟩
 have hBb3 := hb3.1
 refine TN 1 ?_
 refine RN ?_
 refine ⟨_, _, eff_box (n := 110) (d := 5) (k := 1000005) rfl (by decide), fun b5 hb5 => ?_⟩
 have hBb5 := hb5.1
 refine TL ?_
 refine RA rfl ?_
 refine RN ?_
 refine GS ?_
 refine TN 5 ?_
 refine RS (ok_loadA (s := 1000003) (by decide) Tryd.underlying27 rfl (size27.of (n13_len hS hD)) rfl rfl) ?_
 refine RS (ok_call (Of13_fn k l j S D hk0 hl hj hS hD) (A1 rfl)) ?_; refine RZ (.tuple #[nI (nn k), aggV x.v]) (by rw [hxd]) ?_
 refine RM rfl ?_
 refine RS (ok_extractV rfl rfl) ?_
 refine RS (ok_extractV rfl rfl) ?_
 refine RN ?_
 refine ⟨_, _, eff_alloc (n := 110) (d := 8) (k := 1000008) zero41 (by decide), fun b8 hb8 => ?_⟩
 have hBb8 := hb8.1
 refine TF 7 ?_
 refine RA rfl ?_
 refine RN ?_
 refine ⟨_, eff_storeA (n := 110) (s := 1000008) (size41.of (hx.len)) rfl rfl (by first | exact NodT.one _ | exact RecT.one _ | exact EntT.one _ | exact RecT.all1 _ | exact EntT.all1 _ | exact all_byte _ | exact all_bytes _) hBb8 rfl (by first | rfl | (rw [hx.len]; rfl)) (LV 1 rfl (LV 3 rfl (LV 5 rfl (LV 7 rfl (LV 8 rfl (LT 1000003 rfl (LT 1000005 rfl (LeftS.cons (t := 1900000) rfl (Surv.tab (by omega)) LN)))))))), ?_⟩
 refine TL ?_
 refine RN ?_
 refine GS ?_
 refine TL ?_
 refine RM rfl ?_
 refine RS (ok_rem rfl rfl (by decide)) ?_; refine RZ (nB (a % 4)) (by rw [tmod_lit _ (by decide)]; rfl) ?_
 refine RS (ok_conv Tryd.underlying5 Tryd.underlying3 rfl) ?_; refine RZ (nI (m)) (by rw [hm]; exact wrap_eq rfl (by omega)) ?_
 refine RA rfl ?_
 refine RN ?_
 refine GS ?_
 refine TN 1 ?_
 refine RS (ok_loadA (s := 1000008) (by decide) Tryd.underlying41 rfl (size41.of (hx.len)) rfl rfl) ?_
 refine RN ?_
 refine ⟨_, _, eff_alloc (n := 110) (d := 10) (k := 1000010) zero41 (by decide), fun b10 hb10 => ?_⟩
 have hBb10 := hb10.1
 have hlt_b8_b10 : b8 < b10 := hb10.2 1000008 _ _ _ rfl
 refine TF 2 ?_
 refine RN ?_
 refine ⟨_, eff_storeA (n := 110) (s := 1000010) (size41.of (hx.len)) rfl rfl (by first | exact NodT.one _ | exact RecT.one _ | exact EntT.one _ | exact RecT.all1 _ | exact EntT.all1 _ | exact all_byte _ | exact all_bytes _) hBb10 rfl (by first | rfl | (rw [hx.len]; rfl)) (LV 3 rfl (LV 5 rfl (LV 7 rfl (LV 8 rfl (LV 9 rfl (LV 10 rfl (LT 1000003 rfl (LT 1000005 rfl (LB 1000008 rfl (LeftS.cons (t := 1900000) rfl (Surv.tab (by omega)) LN)))))))))), ?_⟩
 refine TL ?_
 refine RN ?_
 refine GS ?_
 refine TF 5 ?_
 refine RM rfl ?_
 refine RS (ok_field field67_0 (by decide) rfl) ?_
 refine RS (ok_loadP (s := 1000005) (by decide) Tryd.underlying35 rfl size35 rfl rfl (by rw [prt_l hr he]; decide) (prt_r hr)) ?_
 refine RS (ok_field field41_2 (by decide) rfl) ?_
 refine RS (ok_indexN (m) Tryd.underlying36 size35 rfl rfl (rfl) (hm4)) ?_
 refine RN ?_
 refine ⟨_, eff_storeP (n := 110) (s := 1000010) (size35.of (by first | exact hr.len | exact RecT.zero_fit.len)) rfl rfl (RecT.one _) hBb10 rfl (by first | (rw [hx.len, hr.len]; omega) | (rw [((hx.setR m hr).setE m he).len, RecT.zero_fit.len]; omega)) (LV 3 rfl (LV 5 rfl (LV 7 rfl (LV 8 rfl (LV 9 rfl (LV 10 rfl (LT 1000003 rfl (LT 1000005 rfl (LB 1000008 rfl (LeftS.cons (t := 1900000) rfl (Surv.tab (by omega)) LN)))))))))), ?_⟩
 refine TL ?_
 refine RN ?_
 refine A.sub (KC 3 rfl (KC 5 rfl (KC 7 rfl (KC 8 rfl (KC 9 rfl (KC 10 rfl (KC 1000003 rfl (KC 1000005 rfl (KC 1000008 rfl (KE 1000010 rfl (show _ = blk b10 41 ({ x with R := x.R.set m r } : NodT).v from congrArg _ (hx.set_rec hm4 hr)) (KC 1900000 rfl KN))))))))))) ?_
 refine GS ?_
 refine TF 5 ?_
 refine RM rfl ?_
 refine RS (ok_field field67_1 (by decide) rfl) ?_
 refine RS (ok_loadP (s := 1000005) (by decide) Tryd.underlying38 rfl size38 rfl rfl (by rw [prt_l hr he]; decide) (prt_e hr he)) ?_
 refine RS (ok_field field41_3 (by decide) rfl) ?_
 refine RS (ok_indexN (m) Tryd.underlying39 size38 rfl rfl (rfl) (hm4)) ?_
 refine RN ?_
 refine ⟨_, eff_storeP (n := 110) (s := 1000010) (size38.of (by first | exact he.len | exact EntT.zero_fit.len)) rfl rfl (EntT.one _) hBb10 rfl (by first | (rw [(hx.setR m hr).len, he.len]; omega) | (rw [((hx.setR m hr).setE m he).len, EntT.zero_fit.len]; omega)) (LV 3 rfl (LV 5 rfl (LV 7 rfl (LV 8 rfl (LV 9 rfl (LV 10 rfl (LT 1000003 rfl (LT 1000005 rfl (LB 1000008 rfl (LeftS.cons (t := 1900000) rfl (Surv.tab (by omega)) LN)))))))))), ?_⟩
 refine TL ?_
 refine RN ?_
 refine A.sub (KC 3 rfl (KC 5 rfl (KC 7 rfl (KC 8 rfl (KC 9 rfl (KC 10 rfl (KC 1000003 rfl (KC 1000005 rfl (KC 1000008 rfl (KE 1000010 rfl (show _ = blk b10 41 ({ x with R := x.R.set m r, E := x.E.set m e } : NodT).v from congrArg _ ((hx.setR m hr).set_ent hm4 he)) (KC 1900000 rfl KN))))))))))) ?_
 refine A.seq ?_
 refine GS ?_
 refine TL ?_
 refine RS (ok_field field41_0 (by decide) rfl) ?_
 refine RS (ok_loadV (s := 1000008) (by decide) Tryd.underlying5 rfl rfl rfl (rfl)) ?_
 refine RBS rfl rfl rfl (.bool true) (by first | rfl | (simp; done) | (simp; omega) | (simp [*]; done) | (simp [*]; omega)) ?_
 refine RN ?_
 refine A.yes rfl ?_
 refine GE ?_
 refine TF 4 ?_
 refine RM rfl ?_
 refine RS (ok_lit [] (EntT.v EntT.zero) (fun _ _ => rfl) (by kernel_rfl)) ?_
 refine RS (ok_field field41_3 (by decide) rfl) ?_
 refine RS (ok_indexN (m) Tryd.underlying39 size38 rfl rfl (rfl) (hm4)) ?_
 refine RN ?_
 refine ⟨_, eff_storeP (n := 110) (s := 1000010) (size38.of (by first | exact he.len | exact EntT.zero_fit.len)) rfl rfl (EntT.one _) hBb10 rfl (by first | (rw [(hx.setR m hr).len, he.len]; omega) | (rw [((hx.setR m hr).setE m he).len, EntT.zero_fit.len]; omega)) (LV 3 rfl (LV 5 rfl (LV 7 rfl (LV 8 rfl (LV 9 rfl (LV 10 rfl (LT 1000003 rfl (LT 1000005 rfl (LB 1000008 rfl (LeftS.cons (t := 1900000) rfl (Surv.tab (by omega)) LN)))))))))), ?_⟩
 refine TL ?_
 refine RN ?_
 refine End.sub (KC 3 rfl (KC 5 rfl (KC 7 rfl (KC 8 rfl (KC 9 rfl (KC 10 rfl (KC 1000003 rfl (KC 1000005 rfl (KC 1000008 rfl (KE 1000010 rfl (show _ = blk b10 41 ({ x with R := x.R.set m r } : NodT).v from congrArg _ ((((hx.setR m hr).setE m he).set_ent hm4 EntT.zero_fit).trans (congrArg NodT.v (back_E hx hm4 h0 hkx r e)))) (KC 1900000 rfl KN))))))))))) ?_
 refine EN ?_
 refine GS ?_
 refine TN 8 ?_
 refine RS (ok_loadA (s := 1000008) (by decide) Tryd.underlying41 rfl (size41.of (hx.len)) rfl rfl) ?_
 refine RM rfl ?_
 refine RS (ok_field field67_0 (by decide) rfl) ?_
 refine RS (ok_loadP (s := 1000005) (by decide) Tryd.underlying35 rfl size35 rfl rfl (by rw [prt_l hr he]; decide) (prt_r hr)) ?_
 refine RS (ok_call (WithRecord_fn x hx (m : Int) r hr) (A3 rfl rfl rfl)) ?_; refine RZ (.tuple #[aggV ({ x with R := x.R.set m r } : NodT).v, .int .i64 0]) (wr_0 (w := (m : Int)) (by rw [dR h0]; exact cp0 hmw hkx) hq) ?_
 refine RM rfl ?_
 refine RS (ok_extractV rfl rfl) ?_
 refine RS (ok_extractV rfl rfl) ?_
 refine RN ?_
 refine ⟨_, _, eff_alloc (n := 110) (d := 11) (k := 1000011) zero41 (by decide), fun b11 hb11 => ?_⟩
 have hBb11 := hb11.1
 have hlt_b8_b11 : b8 < b11 := hb11.2 1000008 _ _ _ rfl
 have hlt_b10_b11 : b10 < b11 := hb11.2 1000010 _ _ _ rfl
 refine TF 9 ?_
 refine RN ?_
 refine ⟨_, eff_storeA (n := 110) (s := 1000011) (size41.of (by first | exact (hx.setR m hr).len | rfl)) rfl rfl (NodT.one _) hBb11 rfl (by first | (rw [(hx.setR m hr).len]; rfl) | rfl) (LV 3 rfl (LV 5 rfl (LV 7 rfl (LV 8 rfl (LV 9 rfl (LV 10 rfl (LV 11 rfl (LV 53 rfl (LT 1000003 rfl (LT 1000005 rfl (LB 1000008 rfl (LB 1000010 rfl (LeftS.cons (t := 1900000) rfl (Surv.tab (by omega)) LN))))))))))))), ?_⟩
 refine TL ?_
 refine RA rfl ?_
 refine RN ?_
 refine A.seq ?_
 refine GS ?_
 refine TL ?_
 refine RS (ok_field field41_0 (by decide) rfl) ?_
 refine RS (ok_loadV (s := 1000008) (by decide) Tryd.underlying5 rfl rfl rfl (rfl)) ?_
 refine RBS rfl rfl rfl (.bool false) (pos_n h0) ?_
 refine RN ?_
 refine A.no rfl ?_
 refine A.skip ?_
 refine EN ?_
 refine GS ?_
 refine TL ?_
 refine RS (ok_loadA (s := 1000010) (by decide) Tryd.underlying41 rfl (size41.of ((hx.setR m hr).len)) rfl rfl) ?_
 refine RS (ok_call (rCheck_fn ({ x with R := x.R.set m r } : NodT) (hx.setR m hr)) (A1 rfl)) ?_; refine RZ (.int .i64 0) (by rw [(setR_ck hx hm4 h0 hkx r), hq]) ?_
 refine RA rfl ?_
 refine RN ?_
 refine A.seq ?_
 refine GS ?_
 refine TL ?_
 refine RM rfl ?_
 refine RM rfl ?_
 refine RBS rfl rfl rfl (.bool false) (by first | rfl | (simp; done) | (simp; omega) | (simp [*]; done) | (simp [*]; omega)) ?_
 refine RN ?_
 refine A.no rfl ?_
 refine A.skip ?_
 refine EN ?_
 refine A.seq ?_
 refine GS ?_
 refine TL ?_
 refine RM rfl ?_
 refine RBS rfl rfl rfl (.bool false) (by first | rfl | (simp; done) | (simp; omega) | (simp [*]; done) | (simp [*]; omega)) ?_
 refine RN ?_
 refine A.no rfl ?_
 refine A.skip ?_
 refine EN ?_
 refine GS ?_
 refine TN 5 ?_
 refine RS (ok_loadA (s := 1000003) (by decide) Tryd.underlying27 rfl (size27.of (n13_len hS hD)) rfl rfl) ?_
 refine RS (ok_call (Of13_fn k l j S D hk0 hl hj hS hD) (A1 rfl)) ?_; refine RZ (.tuple #[nI (nn k), aggV x.v]) (by rw [hxd]) ?_
 refine RM rfl ?_
 refine RS (ok_extractV rfl rfl) ?_
 refine RS (ok_extractV rfl rfl) ?_
 refine RN ?_
 refine ⟨_, _, eff_alloc (n := 110) (d := 15) (k := 1000015) zero41 (by decide), fun b15 hb15 => ?_⟩
 have hBb15 := hb15.1
 have hlt_b8_b15 : b8 < b15 := hb15.2 1000008 _ _ _ rfl
 have hlt_b10_b15 : b10 < b15 := hb15.2 1000010 _ _ _ rfl
 have hlt_b11_b15 : b11 < b15 := hb15.2 1000011 _ _ _ rfl
 refine TF 7 ?_
 refine RA rfl ?_
 refine RN ?_
 refine ⟨_, eff_storeA (n := 110) (s := 1000015) (size41.of (hx.len)) rfl rfl (by first | exact NodT.one _ | exact RecT.one _ | exact EntT.one _ | exact RecT.all1 _ | exact EntT.all1 _ | exact all_byte _ | exact all_bytes _) hBb15 rfl (by first | rfl | (rw [hx.len]; rfl)) (LV 7 rfl (LV 8 rfl (LV 10 rfl (LV 11 rfl (LV 15 rfl (LT 1000003 rfl (LT 1000005 rfl (LB 1000008 rfl (LB 1000010 rfl (LB 1000011 rfl (LeftS.cons (t := 1900000) rfl (Surv.tab (by omega)) LN))))))))))), ?_⟩
 refine TL ?_
 refine RN ?_
 refine A.sub (KC 7 rfl (KC 8 rfl (KC 10 rfl (KC 11 rfl (KC 15 rfl (KC 1000003 rfl (KC 1000005 rfl (KC 1000008 rfl (KC 1000010 rfl (KC 1000011 rfl (KC 1000015 rfl (KC 1900000 rfl KN)))))))))))) ?_
 refine GD ?_
 refine TL ?_
 refine RS (ok_loadA (s := 1000011) (by decide) Tryd.underlying41 rfl (size41.of ((hx.setR m hr).len)) rfl rfl) ?_
 refine RS (ok_loadA (s := 1000010) (by decide) Tryd.underlying41 rfl (size41.of ((hx.setR m hr).len)) rfl rfl) ?_
 refine RS (ok_eqlT (n := 6) true flat41 (by decide) (by kernel_rfl) (by kernel_rfl) rfl rfl (hx.setR m hr).kin (hx.setR m hr).kin (iff_of_true rfl rfl)) ?_; refine RZ (.bool true) (by rfl) ?_
 refine RM rfl ?_
 refine RQ (ok_loadA (s := 1000008) (by decide) Tryd.underlying41 rfl (size41.of (hx.len)) rfl rfl) ?_
 refine RQ (ok_loadA (s := 1000015) (by decide) Tryd.underlying41 rfl (size41.of (hx.len)) rfl rfl) ?_
 refine RQ (ok_eqlT (n := 6) true flat41 (by decide) (by kernel_rfl) (by kernel_rfl) rfl rfl hx.kin hx.kin (iff_of_true rfl rfl)) ?_; refine RZ (.bool true) (by rfl) ?_
 refine RP rfl rfl ?_
 refine RM rfl ?_
 refine RQ (ok_move rfl) ?_
 refine RQ (ok_loadA (s := 1000011) (by decide) Tryd.underlying41 rfl (size41.of ((hx.setR m hr).len)) rfl rfl) ?_
 refine RQ (ok_call (nFits_fn (nn k) ({ x with R := x.R.set m r } : NodT) (hx.setR m hr)) (A2 rfl rfl)) ?_
 refine RQ (ok_move rfl) ?_
 refine RQ (ok_loadA (s := 1000010) (by decide) Tryd.underlying41 rfl (size41.of ((hx.setR m hr).len)) rfl rfl) ?_
 refine RQ (ok_call (rFits_fn (nn k) ({ x with R := x.R.set m r } : NodT) (hx.setR m hr)) (A2 rfl rfl)) ?_
 refine RQ (ok_bin rfl rfl rfl) ?_; refine RZ (.bool true) (by first | rfl | (simp; done) | (simp; omega) | (simp [*]; done) | (simp [*]; omega)) ?_
 refine RP rfl rfl ?_
 refine RM rfl ?_
 refine RQ (ok_callM lives13_fn (Sub.cons rfl KN) tabS_v Args.nil) ?_
 refine RP rfl rfl ?_
 refine RA rfl ?_
 refine RN ?_
 refine A.ret ?_
 exact End.ret1 rfl rfl (by first | exact Le.refl _ | exact Le.old _ _)
set_option maxHeartbeats 4000000 in
theorem NWith_Rb (k l j : Nat) (S D : List UInt8) (hk0 : k < 65536) (hl : l < 256) (hj : j < 65536) (hS : S.length = 4) (hD : D.length = 4) (a : Nat) (ha : a < 256) (r : RecT) (e : EntT) (hr : r.Fit) (he : e.Fit) (h0 : (ofN k l j S D).l.toNat = 0) (hq : r.ck ≠ 0) : FnM Tryd.prog 7 tabS [.v (aggV (n13V k l j S D)), .v (nB a), .v (aggV (r.v ++ e.v))] (.v (.bool true)) := by
 obtain ⟨x, hxd⟩ : ∃ x, x = ofN k l j S D := ⟨_, rfl⟩
 have hx : x.Fit := hxd ▸ ofN_fit k l j S D
 have hkx : x.ck = 0 := hxd ▸ ofN_ck k l j S D
 have hftx : ftN (nn k) x = 0 := hxd ▸ ofN_ft k l j S D
 rw [← hxd] at h0
 obtain ⟨m, hm⟩ : ∃ m, m = a % 4 := ⟨_, rfl⟩
 have hm4 : m < 4 := by omega
 have hmw : (0 : Int) ≤ (m : Int) ∧ (m : Int) < 4 := by omega
 refine FnM.of Tryd.func7 rfl (by kernel_rfl) Tryd.ntmps7 (by simp) (by decide) (fun w => [(0, .v (aggV (n13V k l j S D))), (1, .v (nB a)), (2, .v (aggV (r.v ++ e.v))), (1900000, tab 0 (sizV))]) (fun w => (StartM.v rfl (StartM.v rfl (StartM.v rfl (StartM.m (by simp [tabS]) (by decide) StartM.nil))))) fun w₀ hM => ?_
 have htab := tabS_hi hM
 refine GS ?_
 refine TN 0 ?_
 refine RN ?_
 refine ⟨_, _, eff_box (n := 110) (d := 3) (k := 1000003) rfl (by decide), fun b3 hb3 => ?_⟩
 have hBb3 := hb3.1
 refine TN 1 ?_
 refine RN ?_
 refine ⟨_, _, eff_box (n := 110) (d := 5) (k := 1000005) rfl (by decide), fun b5 hb5 => ?_⟩
 have hBb5 := hb5.1
 refine TL ?_
 refine RA rfl ?_
 refine RN ?_
 refine GS ?_
 refine TN 5 ?_
 refine RS (ok_loadA (s := 1000003) (by decide) Tryd.underlying27 rfl (size27.of (n13_len hS hD)) rfl rfl) ?_
 refine RS (ok_call (Of13_fn k l j S D hk0 hl hj hS hD) (A1 rfl)) ?_; refine RZ (.tuple #[nI (nn k), aggV x.v]) (by rw [hxd]) ?_
 refine RM rfl ?_
 refine RS (ok_extractV rfl rfl) ?_
 refine RS (ok_extractV rfl rfl) ?_
 refine RN ?_
 refine ⟨_, _, eff_alloc (n := 110) (d := 8) (k := 1000008) zero41 (by decide), fun b8 hb8 => ?_⟩
 have hBb8 := hb8.1
 refine TF 7 ?_
 refine RA rfl ?_
 refine RN ?_
 refine ⟨_, eff_storeA (n := 110) (s := 1000008) (size41.of (hx.len)) rfl rfl (by first | exact NodT.one _ | exact RecT.one _ | exact EntT.one _ | exact RecT.all1 _ | exact EntT.all1 _ | exact all_byte _ | exact all_bytes _) hBb8 rfl (by first | rfl | (rw [hx.len]; rfl)) (LV 1 rfl (LV 3 rfl (LV 5 rfl (LV 7 rfl (LV 8 rfl (LT 1000003 rfl (LT 1000005 rfl (LeftS.cons (t := 1900000) rfl (Surv.tab (by omega)) LN)))))))), ?_⟩
 refine TL ?_
 refine RN ?_
 refine GS ?_
 refine TL ?_
 refine RM rfl ?_
 refine RS (ok_rem rfl rfl (by decide)) ?_; refine RZ (nB (a % 4)) (by rw [tmod_lit _ (by decide)]; rfl) ?_
 refine RS (ok_conv Tryd.underlying5 Tryd.underlying3 rfl) ?_; refine RZ (nI (m)) (by rw [hm]; exact wrap_eq rfl (by omega)) ?_
 refine RA rfl ?_
 refine RN ?_
 refine GS ?_
 refine TN 1 ?_
 refine RS (ok_loadA (s := 1000008) (by decide) Tryd.underlying41 rfl (size41.of (hx.len)) rfl rfl) ?_
 refine RN ?_
 refine ⟨_, _, eff_alloc (n := 110) (d := 10) (k := 1000010) zero41 (by decide), fun b10 hb10 => ?_⟩
 have hBb10 := hb10.1
 have hlt_b8_b10 : b8 < b10 := hb10.2 1000008 _ _ _ rfl
 refine TF 2 ?_
 refine RN ?_
 refine ⟨_, eff_storeA (n := 110) (s := 1000010) (size41.of (hx.len)) rfl rfl (by first | exact NodT.one _ | exact RecT.one _ | exact EntT.one _ | exact RecT.all1 _ | exact EntT.all1 _ | exact all_byte _ | exact all_bytes _) hBb10 rfl (by first | rfl | (rw [hx.len]; rfl)) (LV 3 rfl (LV 5 rfl (LV 7 rfl (LV 8 rfl (LV 9 rfl (LV 10 rfl (LT 1000003 rfl (LT 1000005 rfl (LB 1000008 rfl (LeftS.cons (t := 1900000) rfl (Surv.tab (by omega)) LN)))))))))), ?_⟩
 refine TL ?_
 refine RN ?_
 refine GS ?_
 refine TF 5 ?_
 refine RM rfl ?_
 refine RS (ok_field field67_0 (by decide) rfl) ?_
 refine RS (ok_loadP (s := 1000005) (by decide) Tryd.underlying35 rfl size35 rfl rfl (by rw [prt_l hr he]; decide) (prt_r hr)) ?_
 refine RS (ok_field field41_2 (by decide) rfl) ?_
 refine RS (ok_indexN (m) Tryd.underlying36 size35 rfl rfl (rfl) (hm4)) ?_
 refine RN ?_
 refine ⟨_, eff_storeP (n := 110) (s := 1000010) (size35.of (by first | exact hr.len | exact RecT.zero_fit.len)) rfl rfl (RecT.one _) hBb10 rfl (by first | (rw [hx.len, hr.len]; omega) | (rw [((hx.setR m hr).setE m he).len, RecT.zero_fit.len]; omega)) (LV 3 rfl (LV 5 rfl (LV 7 rfl (LV 8 rfl (LV 9 rfl (LV 10 rfl (LT 1000003 rfl (LT 1000005 rfl (LB 1000008 rfl (LeftS.cons (t := 1900000) rfl (Surv.tab (by omega)) LN)))))))))), ?_⟩
 refine TL ?_
 refine RN ?_
 refine A.sub (KC 3 rfl (KC 5 rfl (KC 7 rfl (KC 8 rfl (KC 9 rfl (KC 10 rfl (KC 1000003 rfl (KC 1000005 rfl (KC 1000008 rfl (KE 1000010 rfl (show _ = blk b10 41 ({ x with R := x.R.set m r } : NodT).v from congrArg _ (hx.set_rec hm4 hr)) (KC 1900000 rfl KN))))))))))) ?_
 refine GS ?_
 refine TF 5 ?_
 refine RM rfl ?_
 refine RS (ok_field field67_1 (by decide) rfl) ?_
 refine RS (ok_loadP (s := 1000005) (by decide) Tryd.underlying38 rfl size38 rfl rfl (by rw [prt_l hr he]; decide) (prt_e hr he)) ?_
 refine RS (ok_field field41_3 (by decide) rfl) ?_
 refine RS (ok_indexN (m) Tryd.underlying39 size38 rfl rfl (rfl) (hm4)) ?_
 refine RN ?_
 refine ⟨_, eff_storeP (n := 110) (s := 1000010) (size38.of (by first | exact he.len | exact EntT.zero_fit.len)) rfl rfl (EntT.one _) hBb10 rfl (by first | (rw [(hx.setR m hr).len, he.len]; omega) | (rw [((hx.setR m hr).setE m he).len, EntT.zero_fit.len]; omega)) (LV 3 rfl (LV 5 rfl (LV 7 rfl (LV 8 rfl (LV 9 rfl (LV 10 rfl (LT 1000003 rfl (LT 1000005 rfl (LB 1000008 rfl (LeftS.cons (t := 1900000) rfl (Surv.tab (by omega)) LN)))))))))), ?_⟩
 refine TL ?_
 refine RN ?_
 refine A.sub (KC 3 rfl (KC 5 rfl (KC 7 rfl (KC 8 rfl (KC 9 rfl (KC 10 rfl (KC 1000003 rfl (KC 1000005 rfl (KC 1000008 rfl (KE 1000010 rfl (show _ = blk b10 41 ({ x with R := x.R.set m r, E := x.E.set m e } : NodT).v from congrArg _ ((hx.setR m hr).set_ent hm4 he)) (KC 1900000 rfl KN))))))))))) ?_
 refine A.seq ?_
 refine GS ?_
 refine TL ?_
 refine RS (ok_field field41_0 (by decide) rfl) ?_
 refine RS (ok_loadV (s := 1000008) (by decide) Tryd.underlying5 rfl rfl rfl (rfl)) ?_
 refine RBS rfl rfl rfl (.bool true) (by first | rfl | (simp; done) | (simp; omega) | (simp [*]; done) | (simp [*]; omega)) ?_
 refine RN ?_
 refine A.yes rfl ?_
 refine GE ?_
 refine TF 4 ?_
 refine RM rfl ?_
 refine RS (ok_lit [] (EntT.v EntT.zero) (fun _ _ => rfl) (by kernel_rfl)) ?_
 refine RS (ok_field field41_3 (by decide) rfl) ?_
 refine RS (ok_indexN (m) Tryd.underlying39 size38 rfl rfl (rfl) (hm4)) ?_
 refine RN ?_
 refine ⟨_, eff_storeP (n := 110) (s := 1000010) (size38.of (by first | exact he.len | exact EntT.zero_fit.len)) rfl rfl (EntT.one _) hBb10 rfl (by first | (rw [(hx.setR m hr).len, he.len]; omega) | (rw [((hx.setR m hr).setE m he).len, EntT.zero_fit.len]; omega)) (LV 3 rfl (LV 5 rfl (LV 7 rfl (LV 8 rfl (LV 9 rfl (LV 10 rfl (LT 1000003 rfl (LT 1000005 rfl (LB 1000008 rfl (LeftS.cons (t := 1900000) rfl (Surv.tab (by omega)) LN)))))))))), ?_⟩
 refine TL ?_
 refine RN ?_
 refine End.sub (KC 3 rfl (KC 5 rfl (KC 7 rfl (KC 8 rfl (KC 9 rfl (KC 10 rfl (KC 1000003 rfl (KC 1000005 rfl (KC 1000008 rfl (KE 1000010 rfl (show _ = blk b10 41 ({ x with R := x.R.set m r } : NodT).v from congrArg _ ((((hx.setR m hr).setE m he).set_ent hm4 EntT.zero_fit).trans (congrArg NodT.v (back_E hx hm4 h0 hkx r e)))) (KC 1900000 rfl KN))))))))))) ?_
 refine EN ?_
 refine GS ?_
 refine TN 8 ?_
 refine RS (ok_loadA (s := 1000008) (by decide) Tryd.underlying41 rfl (size41.of (hx.len)) rfl rfl) ?_
 refine RM rfl ?_
 refine RS (ok_field field67_0 (by decide) rfl) ?_
 refine RS (ok_loadP (s := 1000005) (by decide) Tryd.underlying35 rfl size35 rfl rfl (by rw [prt_l hr he]; decide) (prt_r hr)) ?_
 refine RS (ok_call (WithRecord_fn x hx (m : Int) r hr) (A3 rfl rfl rfl)) ?_; refine RZ (.tuple #[aggV (NodT.emp 0 0).v, .int .i64 1]) (wr_b (w := (m : Int)) (by rw [dR h0]; exact cp0 hmw hkx) hq) ?_
 refine RM rfl ?_
 refine RS (ok_extractV rfl rfl) ?_
 refine RS (ok_extractV rfl rfl) ?_
 refine RN ?_
 refine ⟨_, _, eff_alloc (n := 110) (d := 11) (k := 1000011) zero41 (by decide), fun b11 hb11 => ?_⟩
 have hBb11 := hb11.1
 have hlt_b8_b11 : b8 < b11 := hb11.2 1000008 _ _ _ rfl
 have hlt_b10_b11 : b10 < b11 := hb11.2 1000010 _ _ _ rfl
 refine TF 9 ?_
 refine RN ?_
 refine ⟨_, eff_storeA (n := 110) (s := 1000011) (size41.of (by first | exact (NodT.emp_fit 0 (j := 0) (by decide)).len | rfl)) rfl rfl (NodT.one _) hBb11 rfl (by first | (rw [(NodT.emp_fit 0 (j := 0) (by decide)).len]; rfl) | rfl) (LV 3 rfl (LV 5 rfl (LV 7 rfl (LV 8 rfl (LV 9 rfl (LV 10 rfl (LV 11 rfl (LV 53 rfl (LT 1000003 rfl (LT 1000005 rfl (LB 1000008 rfl (LB 1000010 rfl (LeftS.cons (t := 1900000) rfl (Surv.tab (by omega)) LN))))))))))))), ?_⟩
 refine TL ?_
 refine RA rfl ?_
 refine RN ?_
 refine A.seq ?_
 refine GS ?_
 refine TL ?_
 refine RS (ok_field field41_0 (by decide) rfl) ?_
 refine RS (ok_loadV (s := 1000008) (by decide) Tryd.underlying5 rfl rfl rfl (rfl)) ?_
 refine RBS rfl rfl rfl (.bool false) (pos_n h0) ?_
 refine RN ?_
 refine A.no rfl ?_
 refine A.skip ?_
 refine EN ?_
 refine GS ?_
 refine TL ?_
 refine RS (ok_loadA (s := 1000010) (by decide) Tryd.underlying41 rfl (size41.of ((hx.setR m hr).len)) rfl rfl) ?_
 refine RS (ok_call (rCheck_fn ({ x with R := x.R.set m r } : NodT) (hx.setR m hr)) (A1 rfl)) ?_; refine RZ (.int .i64 1) (by rw [(setR_ck hx hm4 h0 hkx r), r.ck_one.resolve_left hq]) ?_
 refine RA rfl ?_
 refine RN ?_
 refine A.seq ?_
 refine GS ?_
 refine TL ?_
 refine RM rfl ?_
 refine RM rfl ?_
 refine RBS rfl rfl rfl (.bool false) (by first | rfl | (simp; done) | (simp; omega) | (simp [*]; done) | (simp [*]; omega)) ?_
 refine RN ?_
 refine A.no rfl ?_
 refine A.skip ?_
 refine EN ?_
 refine A.seq ?_
 refine GS ?_
 refine TL ?_
 refine RM rfl ?_
 refine RBS rfl rfl rfl (.bool true) (by first | rfl | (simp; done) | (simp; omega) | (simp [*]; done) | (simp [*]; omega)) ?_
 refine RN ?_
 refine A.yes rfl ?_
 refine GS ?_
 refine TL ?_
 refine RS (ok_loadA (s := 1000011) (by decide) Tryd.underlying41 rfl (size41.of (rfl)) rfl rfl) ?_
 refine RS (ok_lit [] (NodT.v (NodT.emp 0 0)) (fun _ _ => rfl) (by kernel_rfl)) ?_
 refine RS (ok_eqlT (n := 6) true flat41 (by decide) (by kernel_rfl) (by kernel_rfl) rfl rfl (NodT.emp_fit 0 (j := 0) (by decide)).kin (NodT.emp_fit 0 (j := 0) (by decide)).kin (iff_of_true rfl rfl)) ?_; refine RZ (.bool true) (by rfl) ?_
 refine RM rfl ?_
 refine RQ (ok_callM lives13_fn (Sub.cons rfl KN) tabS_v Args.nil) ?_
 refine RP rfl rfl ?_
 refine RA rfl ?_
 refine RN ?_
 refine A.sub (KC 6 rfl (KC 1000003 rfl (KC 1000005 rfl (KC 1000008 rfl (KC 1000010 rfl (KC 1000011 rfl (KC 1900000 rfl KN))))))) ?_
 refine A.ret ?_
 refine End.ret_then ?_
 exact End.ret1 rfl rfl (by first | exact Le.refl _ | exact Le.old _ _)
set_option maxHeartbeats 4000000 in
theorem NWith_Eo (k l j : Nat) (S D : List UInt8) (hk0 : k < 65536) (hl : l < 256) (hj : j < 65536) (hS : S.length = 4) (hD : D.length = 4) (a : Nat) (ha : a < 256) (r : RecT) (e : EntT) (hr : r.Fit) (he : e.Fit) (h0 : (ofN k l j S D).l.toNat ≠ 0) (hq : e.ck = 0) : FnM Tryd.prog 7 tabS [.v (aggV (n13V k l j S D)), .v (nB a), .v (aggV (r.v ++ e.v))] (.v (.bool true)) := by
 obtain ⟨x, hxd⟩ : ∃ x, x = ofN k l j S D := ⟨_, rfl⟩
 have hx : x.Fit := hxd ▸ ofN_fit k l j S D
 have hkx : x.ck = 0 := hxd ▸ ofN_ck k l j S D
 have hftx : ftN (nn k) x = 0 := hxd ▸ ofN_ft k l j S D
 rw [← hxd] at h0
 obtain ⟨m, hm⟩ : ∃ m, m = a % 4 := ⟨_, rfl⟩
 have hm4 : m < 4 := by omega
 have hmw : (0 : Int) ≤ (m : Int) ∧ (m : Int) < 4 := by omega
 refine FnM.of Tryd.func7 rfl (by kernel_rfl) Tryd.ntmps7 (by simp) (by decide) (fun w => [(0, .v (aggV (n13V k l j S D))), (1, .v (nB a)), (2, .v (aggV (r.v ++ e.v))), (1900000, tab 0 (sizV))]) (fun w => (StartM.v rfl (StartM.v rfl (StartM.v rfl (StartM.m (by simp [tabS]) (by decide) StartM.nil))))) fun w₀ hM => ?_
 have htab := tabS_hi hM
 refine GS ?_
 refine TN 0 ?_
 refine RN ?_
 refine ⟨_, _, eff_box (n := 110) (d := 3) (k := 1000003) rfl (by decide), fun b3 hb3 => ?_⟩
 have hBb3 := hb3.1
 refine TN 1 ?_
 refine RN ?_
 refine ⟨_, _, eff_box (n := 110) (d := 5) (k := 1000005) rfl (by decide), fun b5 hb5 => ?_⟩
 have hBb5 := hb5.1
 refine TL ?_
 refine RA rfl ?_
 refine RN ?_
 refine GS ?_
 refine TN 5 ?_
 refine RS (ok_loadA (s := 1000003) (by decide) Tryd.underlying27 rfl (size27.of (n13_len hS hD)) rfl rfl) ?_
 refine RS (ok_call (Of13_fn k l j S D hk0 hl hj hS hD) (A1 rfl)) ?_; refine RZ (.tuple #[nI (nn k), aggV x.v]) (by rw [hxd]) ?_
 refine RM rfl ?_
 refine RS (ok_extractV rfl rfl) ?_
 refine RS (ok_extractV rfl rfl) ?_
 refine RN ?_
 refine ⟨_, _, eff_alloc (n := 110) (d := 8) (k := 1000008) zero41 (by decide), fun b8 hb8 => ?_⟩
 have hBb8 := hb8.1
 refine TF 7 ?_
 refine RA rfl ?_
 refine RN ?_
 refine ⟨_, eff_storeA (n := 110) (s := 1000008) (size41.of (hx.len)) rfl rfl (by first | exact NodT.one _ | exact RecT.one _ | exact EntT.one _ | exact RecT.all1 _ | exact EntT.all1 _ | exact all_byte _ | exact all_bytes _) hBb8 rfl (by first | rfl | (rw [hx.len]; rfl)) (LV 1 rfl (LV 3 rfl (LV 5 rfl (LV 7 rfl (LV 8 rfl (LT 1000003 rfl (LT 1000005 rfl (LeftS.cons (t := 1900000) rfl (Surv.tab (by omega)) LN)))))))), ?_⟩
 refine TL ?_
 refine RN ?_
 refine GS ?_
 refine TL ?_
 refine RM rfl ?_
 refine RS (ok_rem rfl rfl (by decide)) ?_; refine RZ (nB (a % 4)) (by rw [tmod_lit _ (by decide)]; rfl) ?_
 refine RS (ok_conv Tryd.underlying5 Tryd.underlying3 rfl) ?_; refine RZ (nI (m)) (by rw [hm]; exact wrap_eq rfl (by omega)) ?_
 refine RA rfl ?_
 refine RN ?_
 refine GS ?_
 refine TN 1 ?_
 refine RS (ok_loadA (s := 1000008) (by decide) Tryd.underlying41 rfl (size41.of (hx.len)) rfl rfl) ?_
 refine RN ?_
 refine ⟨_, _, eff_alloc (n := 110) (d := 10) (k := 1000010) zero41 (by decide), fun b10 hb10 => ?_⟩
 have hBb10 := hb10.1
 have hlt_b8_b10 : b8 < b10 := hb10.2 1000008 _ _ _ rfl
 refine TF 2 ?_
 refine RN ?_
 refine ⟨_, eff_storeA (n := 110) (s := 1000010) (size41.of (hx.len)) rfl rfl (by first | exact NodT.one _ | exact RecT.one _ | exact EntT.one _ | exact RecT.all1 _ | exact EntT.all1 _ | exact all_byte _ | exact all_bytes _) hBb10 rfl (by first | rfl | (rw [hx.len]; rfl)) (LV 3 rfl (LV 5 rfl (LV 7 rfl (LV 8 rfl (LV 9 rfl (LV 10 rfl (LT 1000003 rfl (LT 1000005 rfl (LB 1000008 rfl (LeftS.cons (t := 1900000) rfl (Surv.tab (by omega)) LN)))))))))), ?_⟩
 refine TL ?_
 refine RN ?_
 refine GS ?_
 refine TF 5 ?_
 refine RM rfl ?_
 refine RS (ok_field field67_0 (by decide) rfl) ?_
 refine RS (ok_loadP (s := 1000005) (by decide) Tryd.underlying35 rfl size35 rfl rfl (by rw [prt_l hr he]; decide) (prt_r hr)) ?_
 refine RS (ok_field field41_2 (by decide) rfl) ?_
 refine RS (ok_indexN (m) Tryd.underlying36 size35 rfl rfl (rfl) (hm4)) ?_
 refine RN ?_
 refine ⟨_, eff_storeP (n := 110) (s := 1000010) (size35.of (by first | exact hr.len | exact RecT.zero_fit.len)) rfl rfl (RecT.one _) hBb10 rfl (by first | (rw [hx.len, hr.len]; omega) | (rw [((hx.setR m hr).setE m he).len, RecT.zero_fit.len]; omega)) (LV 3 rfl (LV 5 rfl (LV 7 rfl (LV 8 rfl (LV 9 rfl (LV 10 rfl (LT 1000003 rfl (LT 1000005 rfl (LB 1000008 rfl (LeftS.cons (t := 1900000) rfl (Surv.tab (by omega)) LN)))))))))), ?_⟩
 refine TL ?_
 refine RN ?_
 refine A.sub (KC 3 rfl (KC 5 rfl (KC 7 rfl (KC 8 rfl (KC 9 rfl (KC 10 rfl (KC 1000003 rfl (KC 1000005 rfl (KC 1000008 rfl (KE 1000010 rfl (show _ = blk b10 41 ({ x with R := x.R.set m r } : NodT).v from congrArg _ (hx.set_rec hm4 hr)) (KC 1900000 rfl KN))))))))))) ?_
 refine GS ?_
 refine TF 5 ?_
 refine RM rfl ?_
 refine RS (ok_field field67_1 (by decide) rfl) ?_
 refine RS (ok_loadP (s := 1000005) (by decide) Tryd.underlying38 rfl size38 rfl rfl (by rw [prt_l hr he]; decide) (prt_e hr he)) ?_
 refine RS (ok_field field41_3 (by decide) rfl) ?_
 refine RS (ok_indexN (m) Tryd.underlying39 size38 rfl rfl (rfl) (hm4)) ?_
 refine RN ?_
 refine ⟨_, eff_storeP (n := 110) (s := 1000010) (size38.of (by first | exact he.len | exact EntT.zero_fit.len)) rfl rfl (EntT.one _) hBb10 rfl (by first | (rw [(hx.setR m hr).len, he.len]; omega) | (rw [((hx.setR m hr).setE m he).len, EntT.zero_fit.len]; omega)) (LV 3 rfl (LV 5 rfl (LV 7 rfl (LV 8 rfl (LV 9 rfl (LV 10 rfl (LT 1000003 rfl (LT 1000005 rfl (LB 1000008 rfl (LeftS.cons (t := 1900000) rfl (Surv.tab (by omega)) LN)))))))))), ?_⟩
 refine TL ?_
 refine RN ?_
 refine A.sub (KC 3 rfl (KC 5 rfl (KC 7 rfl (KC 8 rfl (KC 9 rfl (KC 10 rfl (KC 1000003 rfl (KC 1000005 rfl (KC 1000008 rfl (KE 1000010 rfl (show _ = blk b10 41 ({ x with R := x.R.set m r, E := x.E.set m e } : NodT).v from congrArg _ ((hx.setR m hr).set_ent hm4 he)) (KC 1900000 rfl KN))))))))))) ?_
 refine A.seq ?_
 refine GS ?_
 refine TL ?_
 refine RS (ok_field field41_0 (by decide) rfl) ?_
 refine RS (ok_loadV (s := 1000008) (by decide) Tryd.underlying5 rfl rfl rfl (rfl)) ?_
 refine RBS rfl rfl rfl (.bool false) (by first | rfl | (simp; done) | (simp; omega) | (simp [*]; done) | (simp [*]; omega)) ?_
 refine RN ?_
 refine A.no rfl ?_
 refine GE ?_
 refine TF 4 ?_
 refine RM rfl ?_
 refine RS (ok_lit [] (RecT.v RecT.zero) (fun _ _ => rfl) (by kernel_rfl)) ?_
 refine RS (ok_field field41_2 (by decide) rfl) ?_
 refine RS (ok_indexN (m) Tryd.underlying36 size35 rfl rfl (rfl) (hm4)) ?_
 refine RN ?_
 refine ⟨_, eff_storeP (n := 110) (s := 1000010) (size35.of (by first | exact hr.len | exact RecT.zero_fit.len)) rfl rfl (RecT.one _) hBb10 rfl (by first | (rw [hx.len, hr.len]; omega) | (rw [((hx.setR m hr).setE m he).len, RecT.zero_fit.len]; omega)) (LV 3 rfl (LV 5 rfl (LV 7 rfl (LV 8 rfl (LV 9 rfl (LV 10 rfl (LT 1000003 rfl (LT 1000005 rfl (LB 1000008 rfl (LeftS.cons (t := 1900000) rfl (Surv.tab (by omega)) LN)))))))))), ?_⟩
 refine TL ?_
 refine RN ?_
 refine End.sub (KC 3 rfl (KC 5 rfl (KC 7 rfl (KC 8 rfl (KC 9 rfl (KC 10 rfl (KC 1000003 rfl (KC 1000005 rfl (KC 1000008 rfl (KE 1000010 rfl (show _ = blk b10 41 ({ x with E := x.E.set m e } : NodT).v from congrArg _ ((((hx.setR m hr).setE m he).set_rec hm4 RecT.zero_fit).trans (congrArg NodT.v (back_R hx hm4 h0 hkx r e)))) (KC 1900000 rfl KN))))))))))) ?_
 refine EN ?_
 refine GS ?_
 refine TN 8 ?_
 refine RS (ok_loadA (s := 1000008) (by decide) Tryd.underlying41 rfl (size41.of (hx.len)) rfl rfl) ?_
 refine RM rfl ?_
 refine RS (ok_field field67_0 (by decide) rfl) ?_
 refine RS (ok_loadP (s := 1000005) (by decide) Tryd.underlying35 rfl size35 rfl rfl (by rw [prt_l hr he]; decide) (prt_r hr)) ?_
 refine RS (ok_call (WithRecord_fn x hx (m : Int) r hr) (A3 rfl rfl rfl)) ?_; refine RZ (.tuple #[aggV (NodT.emp 0 0).v, .int .i64 1]) (wr_1 (w := (m : Int)) (by rw [dE h0]; exact cp1_kind hkx)) ?_
 refine RM rfl ?_
 refine RS (ok_extractV rfl rfl) ?_
 refine RS (ok_extractV rfl rfl) ?_
 refine RN ?_
 refine ⟨_, _, eff_alloc (n := 110) (d := 11) (k := 1000011) zero41 (by decide), fun b11 hb11 => ?_⟩
 have hBb11 := hb11.1
 have hlt_b8_b11 : b8 < b11 := hb11.2 1000008 _ _ _ rfl
 have hlt_b10_b11 : b10 < b11 := hb11.2 1000010 _ _ _ rfl
 refine TF 9 ?_
 refine RN ?_
 refine ⟨_, eff_storeA (n := 110) (s := 1000011) (size41.of (by first | exact (hx.setE m he).len | rfl)) rfl rfl (NodT.one _) hBb11 rfl (by first | (rw [(hx.setE m he).len]; rfl) | rfl) (LV 3 rfl (LV 5 rfl (LV 7 rfl (LV 8 rfl (LV 9 rfl (LV 10 rfl (LV 11 rfl (LV 53 rfl (LT 1000003 rfl (LT 1000005 rfl (LB 1000008 rfl (LB 1000010 rfl (LeftS.cons (t := 1900000) rfl (Surv.tab (by omega)) LN))))))))))))), ?_⟩
 refine TL ?_
 refine RA rfl ?_
 refine RN ?_
 refine A.seq ?_
 refine GS ?_
 refine TL ?_
 refine RS (ok_field field41_0 (by decide) rfl) ?_
 refine RS (ok_loadV (s := 1000008) (by decide) Tryd.underlying5 rfl rfl rfl (rfl)) ?_
 refine RBS rfl rfl rfl (.bool true) (pos_y h0) ?_
 refine RN ?_
 refine A.yes rfl ?_
 refine A.seq ?_
 refine GS ?_
 refine TL ?_
 refine RM rfl ?_
 refine RBS rfl rfl rfl (.bool false) (by first | rfl | (simp; done) | (simp; omega) | (simp [*]; done) | (simp [*]; omega)) ?_
 refine RM rfl ?_
 refine RQ (ok_loadA (s := 1000011) (by decide) Tryd.underlying41 rfl (size41.of (rfl)) rfl rfl) ?_
 refine RQ (ok_lit [] (NodT.v (NodT.emp 0 0)) (fun _ _ => rfl) (by kernel_rfl)) ?_
 refine RQ (ok_neqT (n := 6) true flat41 (by decide) (by kernel_rfl) (by kernel_rfl) rfl rfl (NodT.emp_fit 0 (j := 0) (by decide)).kin (NodT.emp_fit 0 (j := 0) (by decide)).kin (iff_of_true rfl rfl)) ?_; refine RZ (.bool false) (by rfl) ?_
 refine RP rfl rfl ?_
 refine RN ?_
 refine A.no rfl ?_
 refine A.skip ?_
 refine EN ?_
 refine GE ?_
 refine TF 8 ?_
 refine RS (ok_loadA (s := 1000008) (by decide) Tryd.underlying41 rfl (size41.of (hx.len)) rfl rfl) ?_
 refine RM rfl ?_
 refine RS (ok_field field67_1 (by decide) rfl) ?_
 refine RS (ok_loadP (s := 1000005) (by decide) Tryd.underlying38 rfl size38 rfl rfl (by rw [prt_l hr he]; decide) (prt_e hr he)) ?_
 refine RS (ok_call (WithEntry_fn x hx (m : Int) e he) (A3 rfl rfl rfl)) ?_; refine RZ (.tuple #[aggV ({ x with E := x.E.set m e } : NodT).v, .int .i64 0]) (we_0 (w := (m : Int)) (by rw [dE h0]; exact cp0 hmw hkx) hq) ?_
 refine RM rfl ?_
 refine RS (ok_extractV rfl rfl) ?_
 refine RS (ok_extractV rfl rfl) ?_
 refine RN ?_
 refine ⟨_, eff_storeA (n := 110) (s := 1000011) (size41.of (by first | exact (hx.setE m he).len | rfl)) rfl rfl (NodT.one _) hBb11 rfl (by first | (rw [(hx.setE m he).len]; rfl) | rfl) (LV 3 rfl (LV 7 rfl (LV 8 rfl (LV 10 rfl (LV 11 rfl (LV 71 rfl (LT 1000003 rfl (LT 1000005 rfl (LB 1000008 rfl (LB 1000010 rfl (LeftS.cons (t := 1900000) rfl (Surv.tab (by omega)) LN))))))))))), ?_⟩
 refine TL ?_
 refine RA rfl ?_
 refine RN ?_
 refine End.sub (KC 3 rfl (KC 7 rfl (KC 8 rfl (KC 10 rfl (KC 11 rfl (KC 12 rfl (KC 1000003 rfl (KC 1000005 rfl (KC 1000008 rfl (KC 1000010 rfl (KC 1000011 rfl (KC 1900000 rfl KN)))))))))))) ?_
 refine EN ?_
 refine GS ?_
 refine TL ?_
 refine RS (ok_loadA (s := 1000010) (by decide) Tryd.underlying41 rfl (size41.of ((hx.setE m he).len)) rfl rfl) ?_
 refine RS (ok_call (rCheck_fn ({ x with E := x.E.set m e } : NodT) (hx.setE m he)) (A1 rfl)) ?_; refine RZ (.int .i64 0) (by rw [(setE_ck hx hm4 h0 hkx e), hq]) ?_
 refine RA rfl ?_
 refine RN ?_
 refine A.seq ?_
 refine GS ?_
 refine TL ?_
 refine RM rfl ?_
 refine RM rfl ?_
 refine RBS rfl rfl rfl (.bool false) (by first | rfl | (simp; done) | (simp; omega) | (simp [*]; done) | (simp [*]; omega)) ?_
 refine RN ?_
 refine A.no rfl ?_
 refine A.skip ?_
 refine EN ?_
 refine A.seq ?_
 refine GS ?_
 refine TL ?_
 refine RM rfl ?_
 refine RBS rfl rfl rfl (.bool false) (by first | rfl | (simp; done) | (simp; omega) | (simp [*]; done) | (simp [*]; omega)) ?_
 refine RN ?_
 refine A.no rfl ?_
 refine A.skip ?_
 refine EN ?_
 refine GS ?_
 refine TN 5 ?_
 refine RS (ok_loadA (s := 1000003) (by decide) Tryd.underlying27 rfl (size27.of (n13_len hS hD)) rfl rfl) ?_
 refine RS (ok_call (Of13_fn k l j S D hk0 hl hj hS hD) (A1 rfl)) ?_; refine RZ (.tuple #[nI (nn k), aggV x.v]) (by rw [hxd]) ?_
 refine RM rfl ?_
 refine RS (ok_extractV rfl rfl) ?_
 refine RS (ok_extractV rfl rfl) ?_
 refine RN ?_
 refine ⟨_, _, eff_alloc (n := 110) (d := 15) (k := 1000015) zero41 (by decide), fun b15 hb15 => ?_⟩
 have hBb15 := hb15.1
 have hlt_b8_b15 : b8 < b15 := hb15.2 1000008 _ _ _ rfl
 have hlt_b10_b15 : b10 < b15 := hb15.2 1000010 _ _ _ rfl
 have hlt_b11_b15 : b11 < b15 := hb15.2 1000011 _ _ _ rfl
 refine TF 7 ?_
 refine RA rfl ?_
 refine RN ?_
 refine ⟨_, eff_storeA (n := 110) (s := 1000015) (size41.of (hx.len)) rfl rfl (by first | exact NodT.one _ | exact RecT.one _ | exact EntT.one _ | exact RecT.all1 _ | exact EntT.all1 _ | exact all_byte _ | exact all_bytes _) hBb15 rfl (by first | rfl | (rw [hx.len]; rfl)) (LV 7 rfl (LV 8 rfl (LV 10 rfl (LV 11 rfl (LV 15 rfl (LT 1000003 rfl (LT 1000005 rfl (LB 1000008 rfl (LB 1000010 rfl (LB 1000011 rfl (LeftS.cons (t := 1900000) rfl (Surv.tab (by omega)) LN))))))))))), ?_⟩
 refine TL ?_
 refine RN ?_
 refine GD ?_
 refine TL ?_
 refine RS (ok_loadA (s := 1000011) (by decide) Tryd.underlying41 rfl (size41.of ((hx.setE m he).len)) rfl rfl) ?_
 refine RS (ok_loadA (s := 1000010) (by decide) Tryd.underlying41 rfl (size41.of ((hx.setE m he).len)) rfl rfl) ?_
 refine RS (ok_eqlT (n := 6) true flat41 (by decide) (by kernel_rfl) (by kernel_rfl) rfl rfl (hx.setE m he).kin (hx.setE m he).kin (iff_of_true rfl rfl)) ?_; refine RZ (.bool true) (by rfl) ?_
 refine RM rfl ?_
 refine RQ (ok_loadA (s := 1000008) (by decide) Tryd.underlying41 rfl (size41.of (hx.len)) rfl rfl) ?_
 refine RQ (ok_loadA (s := 1000015) (by decide) Tryd.underlying41 rfl (size41.of (hx.len)) rfl rfl) ?_
 refine RQ (ok_eqlT (n := 6) true flat41 (by decide) (by kernel_rfl) (by kernel_rfl) rfl rfl hx.kin hx.kin (iff_of_true rfl rfl)) ?_; refine RZ (.bool true) (by rfl) ?_
 refine RP rfl rfl ?_
 refine RM rfl ?_
 refine RQ (ok_move rfl) ?_
 refine RQ (ok_loadA (s := 1000011) (by decide) Tryd.underlying41 rfl (size41.of ((hx.setE m he).len)) rfl rfl) ?_
 refine RQ (ok_call (nFits_fn (nn k) ({ x with E := x.E.set m e } : NodT) (hx.setE m he)) (A2 rfl rfl)) ?_
 refine RQ (ok_move rfl) ?_
 refine RQ (ok_loadA (s := 1000010) (by decide) Tryd.underlying41 rfl (size41.of ((hx.setE m he).len)) rfl rfl) ?_
 refine RQ (ok_call (rFits_fn (nn k) ({ x with E := x.E.set m e } : NodT) (hx.setE m he)) (A2 rfl rfl)) ?_
 refine RQ (ok_bin rfl rfl rfl) ?_; refine RZ (.bool true) (by first | rfl | (simp; done) | (simp; omega) | (simp [*]; done) | (simp [*]; omega)) ?_
 refine RP rfl rfl ?_
 refine RM rfl ?_
 refine RQ (ok_callM lives13_fn (Sub.cons rfl KN) tabS_v Args.nil) ?_
 refine RP rfl rfl ?_
 refine RA rfl ?_
 refine RN ?_
 refine A.sub (KC 6 rfl (KC 1000003 rfl (KC 1000005 rfl (KC 1000008 rfl (KC 1000010 rfl (KC 1000011 rfl (KC 1000015 rfl (KC 1900000 rfl KN)))))))) ?_
 refine A.ret ?_
 exact End.ret1 rfl rfl (by first | exact Le.refl _ | exact Le.old _ _)
set_option maxHeartbeats 4000000 in
theorem NWith_Eb (k l j : Nat) (S D : List UInt8) (hk0 : k < 65536) (hl : l < 256) (hj : j < 65536) (hS : S.length = 4) (hD : D.length = 4) (a : Nat) (ha : a < 256) (r : RecT) (e : EntT) (hr : r.Fit) (he : e.Fit) (h0 : (ofN k l j S D).l.toNat ≠ 0) (hq : e.ck ≠ 0) : FnM Tryd.prog 7 tabS [.v (aggV (n13V k l j S D)), .v (nB a), .v (aggV (r.v ++ e.v))] (.v (.bool true)) := by
 obtain ⟨x, hxd⟩ : ∃ x, x = ofN k l j S D := ⟨_, rfl⟩
 have hx : x.Fit := hxd ▸ ofN_fit k l j S D
 have hkx : x.ck = 0 := hxd ▸ ofN_ck k l j S D
 have hftx : ftN (nn k) x = 0 := hxd ▸ ofN_ft k l j S D
 rw [← hxd] at h0
 obtain ⟨m, hm⟩ : ∃ m, m = a % 4 := ⟨_, rfl⟩
 have hm4 : m < 4 := by omega
 have hmw : (0 : Int) ≤ (m : Int) ∧ (m : Int) < 4 := by omega
 refine FnM.of Tryd.func7 rfl (by kernel_rfl) Tryd.ntmps7 (by simp) (by decide) (fun w => [(0, .v (aggV (n13V k l j S D))), (1, .v (nB a)), (2, .v (aggV (r.v ++ e.v))), (1900000, tab 0 (sizV))]) (fun w => (StartM.v rfl (StartM.v rfl (StartM.v rfl (StartM.m (by simp [tabS]) (by decide) StartM.nil))))) fun w₀ hM => ?_
 have htab := tabS_hi hM
 refine GS ?_
 refine TN 0 ?_
 refine RN ?_
 refine ⟨_, _, eff_box (n := 110) (d := 3) (k := 1000003) rfl (by decide), fun b3 hb3 => ?_⟩
 have hBb3 := hb3.1
 refine TN 1 ?_
 refine RN ?_
 refine ⟨_, _, eff_box (n := 110) (d := 5) (k := 1000005) rfl (by decide), fun b5 hb5 => ?_⟩
 have hBb5 := hb5.1
 refine TL ?_
 refine RA rfl ?_
 refine RN ?_
 refine GS ?_
 refine TN 5 ?_
 refine RS (ok_loadA (s := 1000003) (by decide) Tryd.underlying27 rfl (size27.of (n13_len hS hD)) rfl rfl) ?_
 refine RS (ok_call (Of13_fn k l j S D hk0 hl hj hS hD) (A1 rfl)) ?_; refine RZ (.tuple #[nI (nn k), aggV x.v]) (by rw [hxd]) ?_
 refine RM rfl ?_
 refine RS (ok_extractV rfl rfl) ?_
 refine RS (ok_extractV rfl rfl) ?_
 refine RN ?_
 refine ⟨_, _, eff_alloc (n := 110) (d := 8) (k := 1000008) zero41 (by decide), fun b8 hb8 => ?_⟩
 have hBb8 := hb8.1
 refine TF 7 ?_
 refine RA rfl ?_
 refine RN ?_
 refine ⟨_, eff_storeA (n := 110) (s := 1000008) (size41.of (hx.len)) rfl rfl (by first | exact NodT.one _ | exact RecT.one _ | exact EntT.one _ | exact RecT.all1 _ | exact EntT.all1 _ | exact all_byte _ | exact all_bytes _) hBb8 rfl (by first | rfl | (rw [hx.len]; rfl)) (LV 1 rfl (LV 3 rfl (LV 5 rfl (LV 7 rfl (LV 8 rfl (LT 1000003 rfl (LT 1000005 rfl (LeftS.cons (t := 1900000) rfl (Surv.tab (by omega)) LN)))))))), ?_⟩
 refine TL ?_
 refine RN ?_
 refine GS ?_
 refine TL ?_
 refine RM rfl ?_
 refine RS (ok_rem rfl rfl (by decide)) ?_; refine RZ (nB (a % 4)) (by rw [tmod_lit _ (by decide)]; rfl) ?_
 refine RS (ok_conv Tryd.underlying5 Tryd.underlying3 rfl) ?_; refine RZ (nI (m)) (by rw [hm]; exact wrap_eq rfl (by omega)) ?_
 refine RA rfl ?_
 refine RN ?_
 refine GS ?_
 refine TN 1 ?_
 refine RS (ok_loadA (s := 1000008) (by decide) Tryd.underlying41 rfl (size41.of (hx.len)) rfl rfl) ?_
 refine RN ?_
 refine ⟨_, _, eff_alloc (n := 110) (d := 10) (k := 1000010) zero41 (by decide), fun b10 hb10 => ?_⟩
 have hBb10 := hb10.1
 have hlt_b8_b10 : b8 < b10 := hb10.2 1000008 _ _ _ rfl
 refine TF 2 ?_
 refine RN ?_
 refine ⟨_, eff_storeA (n := 110) (s := 1000010) (size41.of (hx.len)) rfl rfl (by first | exact NodT.one _ | exact RecT.one _ | exact EntT.one _ | exact RecT.all1 _ | exact EntT.all1 _ | exact all_byte _ | exact all_bytes _) hBb10 rfl (by first | rfl | (rw [hx.len]; rfl)) (LV 3 rfl (LV 5 rfl (LV 7 rfl (LV 8 rfl (LV 9 rfl (LV 10 rfl (LT 1000003 rfl (LT 1000005 rfl (LB 1000008 rfl (LeftS.cons (t := 1900000) rfl (Surv.tab (by omega)) LN)))))))))), ?_⟩
 refine TL ?_
 refine RN ?_
 refine GS ?_
 refine TF 5 ?_
 refine RM rfl ?_
 refine RS (ok_field field67_0 (by decide) rfl) ?_
 refine RS (ok_loadP (s := 1000005) (by decide) Tryd.underlying35 rfl size35 rfl rfl (by rw [prt_l hr he]; decide) (prt_r hr)) ?_
 refine RS (ok_field field41_2 (by decide) rfl) ?_
 refine RS (ok_indexN (m) Tryd.underlying36 size35 rfl rfl (rfl) (hm4)) ?_
 refine RN ?_
 refine ⟨_, eff_storeP (n := 110) (s := 1000010) (size35.of (by first | exact hr.len | exact RecT.zero_fit.len)) rfl rfl (RecT.one _) hBb10 rfl (by first | (rw [hx.len, hr.len]; omega) | (rw [((hx.setR m hr).setE m he).len, RecT.zero_fit.len]; omega)) (LV 3 rfl (LV 5 rfl (LV 7 rfl (LV 8 rfl (LV 9 rfl (LV 10 rfl (LT 1000003 rfl (LT 1000005 rfl (LB 1000008 rfl (LeftS.cons (t := 1900000) rfl (Surv.tab (by omega)) LN)))))))))), ?_⟩
 refine TL ?_
 refine RN ?_
 refine A.sub (KC 3 rfl (KC 5 rfl (KC 7 rfl (KC 8 rfl (KC 9 rfl (KC 10 rfl (KC 1000003 rfl (KC 1000005 rfl (KC 1000008 rfl (KE 1000010 rfl (show _ = blk b10 41 ({ x with R := x.R.set m r } : NodT).v from congrArg _ (hx.set_rec hm4 hr)) (KC 1900000 rfl KN))))))))))) ?_
 refine GS ?_
 refine TF 5 ?_
 refine RM rfl ?_
 refine RS (ok_field field67_1 (by decide) rfl) ?_
 refine RS (ok_loadP (s := 1000005) (by decide) Tryd.underlying38 rfl size38 rfl rfl (by rw [prt_l hr he]; decide) (prt_e hr he)) ?_
 refine RS (ok_field field41_3 (by decide) rfl) ?_
 refine RS (ok_indexN (m) Tryd.underlying39 size38 rfl rfl (rfl) (hm4)) ?_
 refine RN ?_
 refine ⟨_, eff_storeP (n := 110) (s := 1000010) (size38.of (by first | exact he.len | exact EntT.zero_fit.len)) rfl rfl (EntT.one _) hBb10 rfl (by first | (rw [(hx.setR m hr).len, he.len]; omega) | (rw [((hx.setR m hr).setE m he).len, EntT.zero_fit.len]; omega)) (LV 3 rfl (LV 5 rfl (LV 7 rfl (LV 8 rfl (LV 9 rfl (LV 10 rfl (LT 1000003 rfl (LT 1000005 rfl (LB 1000008 rfl (LeftS.cons (t := 1900000) rfl (Surv.tab (by omega)) LN)))))))))), ?_⟩
 refine TL ?_
 refine RN ?_
 refine A.sub (KC 3 rfl (KC 5 rfl (KC 7 rfl (KC 8 rfl (KC 9 rfl (KC 10 rfl (KC 1000003 rfl (KC 1000005 rfl (KC 1000008 rfl (KE 1000010 rfl (show _ = blk b10 41 ({ x with R := x.R.set m r, E := x.E.set m e } : NodT).v from congrArg _ ((hx.setR m hr).set_ent hm4 he)) (KC 1900000 rfl KN))))))))))) ?_
 refine A.seq ?_
 refine GS ?_
 refine TL ?_
 refine RS (ok_field field41_0 (by decide) rfl) ?_
 refine RS (ok_loadV (s := 1000008) (by decide) Tryd.underlying5 rfl rfl rfl (rfl)) ?_
 refine RBS rfl rfl rfl (.bool false) (by first | rfl | (simp; done) | (simp; omega) | (simp [*]; done) | (simp [*]; omega)) ?_
 refine RN ?_
 refine A.no rfl ?_
 refine GE ?_
 refine TF 4 ?_
 refine RM rfl ?_
 refine RS (ok_lit [] (RecT.v RecT.zero) (fun _ _ => rfl) (by kernel_rfl)) ?_
 refine RS (ok_field field41_2 (by decide) rfl) ?_
 refine RS (ok_indexN (m) Tryd.underlying36 size35 rfl rfl (rfl) (hm4)) ?_
 refine RN ?_
 refine ⟨_, eff_storeP (n := 110) (s := 1000010) (size35.of (by first | exact hr.len | exact RecT.zero_fit.len)) rfl rfl (RecT.one _) hBb10 rfl (by first | (rw [hx.len, hr.len]; omega) | (rw [((hx.setR m hr).setE m he).len, RecT.zero_fit.len]; omega)) (LV 3 rfl (LV 5 rfl (LV 7 rfl (LV 8 rfl (LV 9 rfl (LV 10 rfl (LT 1000003 rfl (LT 1000005 rfl (LB 1000008 rfl (LeftS.cons (t := 1900000) rfl (Surv.tab (by omega)) LN)))))))))), ?_⟩
 refine TL ?_
 refine RN ?_
 refine End.sub (KC 3 rfl (KC 5 rfl (KC 7 rfl (KC 8 rfl (KC 9 rfl (KC 10 rfl (KC 1000003 rfl (KC 1000005 rfl (KC 1000008 rfl (KE 1000010 rfl (show _ = blk b10 41 ({ x with E := x.E.set m e } : NodT).v from congrArg _ ((((hx.setR m hr).setE m he).set_rec hm4 RecT.zero_fit).trans (congrArg NodT.v (back_R hx hm4 h0 hkx r e)))) (KC 1900000 rfl KN))))))))))) ?_
 refine EN ?_
 refine GS ?_
 refine TN 8 ?_
 refine RS (ok_loadA (s := 1000008) (by decide) Tryd.underlying41 rfl (size41.of (hx.len)) rfl rfl) ?_
 refine RM rfl ?_
 refine RS (ok_field field67_0 (by decide) rfl) ?_
 refine RS (ok_loadP (s := 1000005) (by decide) Tryd.underlying35 rfl size35 rfl rfl (by rw [prt_l hr he]; decide) (prt_r hr)) ?_
 refine RS (ok_call (WithRecord_fn x hx (m : Int) r hr) (A3 rfl rfl rfl)) ?_; refine RZ (.tuple #[aggV (NodT.emp 0 0).v, .int .i64 1]) (wr_1 (w := (m : Int)) (by rw [dE h0]; exact cp1_kind hkx)) ?_
 refine RM rfl ?_
 refine RS (ok_extractV rfl rfl) ?_
 refine RS (ok_extractV rfl rfl) ?_
 refine RN ?_
 refine ⟨_, _, eff_alloc (n := 110) (d := 11) (k := 1000011) zero41 (by decide), fun b11 hb11 => ?_⟩
 have hBb11 := hb11.1
 have hlt_b8_b11 : b8 < b11 := hb11.2 1000008 _ _ _ rfl
 have hlt_b10_b11 : b10 < b11 := hb11.2 1000010 _ _ _ rfl
 refine TF 9 ?_
 refine RN ?_
 refine ⟨_, eff_storeA (n := 110) (s := 1000011) (size41.of (by first | exact (NodT.emp_fit 0 (j := 0) (by decide)).len | rfl)) rfl rfl (NodT.one _) hBb11 rfl (by first | (rw [(NodT.emp_fit 0 (j := 0) (by decide)).len]; rfl) | rfl) (LV 3 rfl (LV 5 rfl (LV 7 rfl (LV 8 rfl (LV 9 rfl (LV 10 rfl (LV 11 rfl (LV 53 rfl (LT 1000003 rfl (LT 1000005 rfl (LB 1000008 rfl (LB 1000010 rfl (LeftS.cons (t := 1900000) rfl (Surv.tab (by omega)) LN))))))))))))), ?_⟩
 refine TL ?_
 refine RA rfl ?_
 refine RN ?_
 refine A.seq ?_
 refine GS ?_
 refine TL ?_
 refine RS (ok_field field41_0 (by decide) rfl) ?_
 refine RS (ok_loadV (s := 1000008) (by decide) Tryd.underlying5 rfl rfl rfl (rfl)) ?_
 refine RBS rfl rfl rfl (.bool true) (pos_y h0) ?_
 refine RN ?_
 refine A.yes rfl ?_
 refine A.seq ?_
 refine GS ?_
 refine TL ?_
 refine RM rfl ?_
 refine RBS rfl rfl rfl (.bool false) (by first | rfl | (simp; done) | (simp; omega) | (simp [*]; done) | (simp [*]; omega)) ?_
 refine RM rfl ?_
 refine RQ (ok_loadA (s := 1000011) (by decide) Tryd.underlying41 rfl (size41.of (rfl)) rfl rfl) ?_
 refine RQ (ok_lit [] (NodT.v (NodT.emp 0 0)) (fun _ _ => rfl) (by kernel_rfl)) ?_
 refine RQ (ok_neqT (n := 6) true flat41 (by decide) (by kernel_rfl) (by kernel_rfl) rfl rfl (NodT.emp_fit 0 (j := 0) (by decide)).kin (NodT.emp_fit 0 (j := 0) (by decide)).kin (iff_of_true rfl rfl)) ?_; refine RZ (.bool false) (by rfl) ?_
 refine RP rfl rfl ?_
 refine RN ?_
 refine A.no rfl ?_
 refine A.skip ?_
 refine EN ?_
 refine GE ?_
 refine TF 8 ?_
 refine RS (ok_loadA (s := 1000008) (by decide) Tryd.underlying41 rfl (size41.of (hx.len)) rfl rfl) ?_
 refine RM rfl ?_
 refine RS (ok_field field67_1 (by decide) rfl) ?_
 refine RS (ok_loadP (s := 1000005) (by decide) Tryd.underlying38 rfl size38 rfl rfl (by rw [prt_l hr he]; decide) (prt_e hr he)) ?_
 refine RS (ok_call (WithEntry_fn x hx (m : Int) e he) (A3 rfl rfl rfl)) ?_; refine RZ (.tuple #[aggV (NodT.emp 0 0).v, .int .i64 1]) (we_b (w := (m : Int)) (by rw [dE h0]; exact cp0 hmw hkx) hq) ?_
 refine RM rfl ?_
 refine RS (ok_extractV rfl rfl) ?_
 refine RS (ok_extractV rfl rfl) ?_
 refine RN ?_
 refine ⟨_, eff_storeA (n := 110) (s := 1000011) (size41.of (by first | exact (NodT.emp_fit 0 (j := 0) (by decide)).len | rfl)) rfl rfl (NodT.one _) hBb11 rfl (by first | (rw [(NodT.emp_fit 0 (j := 0) (by decide)).len]; rfl) | rfl) (LV 3 rfl (LV 7 rfl (LV 8 rfl (LV 10 rfl (LV 11 rfl (LV 71 rfl (LT 1000003 rfl (LT 1000005 rfl (LB 1000008 rfl (LB 1000010 rfl (LeftS.cons (t := 1900000) rfl (Surv.tab (by omega)) LN))))))))))), ?_⟩
 refine TL ?_
 refine RA rfl ?_
 refine RN ?_
 refine End.sub (KC 3 rfl (KC 7 rfl (KC 8 rfl (KC 10 rfl (KC 11 rfl (KC 12 rfl (KC 1000003 rfl (KC 1000005 rfl (KC 1000008 rfl (KC 1000010 rfl (KC 1000011 rfl (KC 1900000 rfl KN)))))))))))) ?_
 refine EN ?_
 refine GS ?_
 refine TL ?_
 refine RS (ok_loadA (s := 1000010) (by decide) Tryd.underlying41 rfl (size41.of ((hx.setE m he).len)) rfl rfl) ?_
 refine RS (ok_call (rCheck_fn ({ x with E := x.E.set m e } : NodT) (hx.setE m he)) (A1 rfl)) ?_; refine RZ (.int .i64 1) (by rw [(setE_ck hx hm4 h0 hkx e), e.ck_one.resolve_left hq]) ?_
 refine RA rfl ?_
 refine RN ?_
 refine A.seq ?_
 refine GS ?_
 refine TL ?_
 refine RM rfl ?_
 refine RM rfl ?_
 refine RBS rfl rfl rfl (.bool false) (by first | rfl | (simp; done) | (simp; omega) | (simp [*]; done) | (simp [*]; omega)) ?_
 refine RN ?_
 refine A.no rfl ?_
 refine A.skip ?_
 refine EN ?_
 refine A.seq ?_
 refine GS ?_
 refine TL ?_
 refine RM rfl ?_
 refine RBS rfl rfl rfl (.bool true) (by first | rfl | (simp; done) | (simp; omega) | (simp [*]; done) | (simp [*]; omega)) ?_
 refine RN ?_
 refine A.yes rfl ?_
 refine GS ?_
 refine TL ?_
 refine RS (ok_loadA (s := 1000011) (by decide) Tryd.underlying41 rfl (size41.of (rfl)) rfl rfl) ?_
 refine RS (ok_lit [] (NodT.v (NodT.emp 0 0)) (fun _ _ => rfl) (by kernel_rfl)) ?_
 refine RS (ok_eqlT (n := 6) true flat41 (by decide) (by kernel_rfl) (by kernel_rfl) rfl rfl (NodT.emp_fit 0 (j := 0) (by decide)).kin (NodT.emp_fit 0 (j := 0) (by decide)).kin (iff_of_true rfl rfl)) ?_; refine RZ (.bool true) (by rfl) ?_
 refine RM rfl ?_
 refine RQ (ok_callM lives13_fn (Sub.cons rfl KN) tabS_v Args.nil) ?_
 refine RP rfl rfl ?_
 refine RA rfl ?_
 refine RN ?_
 refine A.ret ?_
 refine End.ret_then ?_
 exact End.ret1 rfl rfl (by first | exact Le.refl _ | exact Le.old _ _)
theorem NodesWith_fn (k l j : Nat) (S D : List UInt8) (hk0 : k < 65536) (hl : l < 256) (hj : j < 65536) (hS : S.length = 4) (hD : D.length = 4) (a : Nat) (ha : a < 256) (r : RecT) (e : EntT) (hr : r.Fit) (he : e.Fit) : FnM Tryd.prog 7 tabS [.v (aggV (n13V k l j S D)), .v (nB a), .v (aggV (r.v ++ e.v))] (.v (.bool true)) := by
 by_cases h0 : (ofN k l j S D).l.toNat = 0
 ·by_cases hq : r.ck = 0
  ·exact NWith_Ro k l j S D hk0 hl hj hS hD a ha r e hr he h0 hq
  ·exact NWith_Rb k l j S D hk0 hl hj hS hD a ha r e hr he h0 hq
 ·by_cases hq : e.ck = 0
  ·exact NWith_Eo k l j S D hk0 hl hj hS hD a ha r e hr he h0 hq
  ·exact NWith_Eb k l j S D hk0 hl hj hS hD a ha r e hr he h0 hq
end Go.Proofs.YtlddnmblfgaimaaDoor
namespace Go.Proofs.YtlddnmblfgaimaaDoor
open Go Go.RowKit
/-- A variable that the region makes: the operation that makes it, its slot, its type, its zero value, the operation that gives it its value. -/
structure VarN where
  a : Nat
  t : Nat
  T : TypeId
  zs : List Value
  s : Nat
  ys : List Value
inductive FromV (ops : Array Oper) (vals : List (Option Value)) (E0 : Env) (o : Oper) : Env → Prop
  | nil : FromV ops vals E0 o []
  | all : FromV ops vals E0 o E0
  | op {t : Nat} {v : Value} {E : Env} (j : Nat) (he : (o.after.any fun e => Region.binds .any e && e.on == j) = true) (hd : (ops[j]?).bind (·.dst) = some t) (hv : vals[j]? = some (some v)) (hr : FromV ops vals E0 o E) : FromV ops vals E0 o ((t, .v v) :: E)
inductive FromW (ops : Array Oper) (vals : List (Option Value)) (E0 : Env) : Env → Prop
  | all : FromW ops vals E0 E0
  | op {t : Nat} {v : Value} {E : Env} (j : Nat) (hd : (ops[j]?).bind (·.dst) = some t) (hv : vals[j]? = some (some v)) (hr : FromW ops vals E0 E) : FromW ops vals E0 ((t, .v v) :: E)
inductive KopOk (P : Program) (ops : Array Oper) (vals : List (Option Value)) (vs : List VarN) (E0 : Env) (i : Nat) : Oper → Prop
  | pure {o : Oper} {t : Nat} {v : Value} (E : Env) (hv : vals[i]? = some (some v)) (hd : o.dst = some t) (h0 : E0.look t = none ∨ E0.look t = some (.v v)) (hf : FromV ops vals E0 o E) (hok : ∀ B', OpOk P B' o E (.v v)) : KopOk P ops vals vs E0 i o
  | alloc {t : Tmp} {T ty : TypeId} {pos : String} {after : Array Edge} {V : VarN} (j : Nat) (hV : vs[j]? = some V) (ha : V.a = i) (hT : V.T = T) (ht : V.t = t) (hz : ZeroIs P T V.zs) (h0 : E0.look t = none) : KopOk P ops vals vs E0 i ⟨some t, .alloc T, ty, pos, after, none⟩
  | store {t T ty : TypeId} {x : Operand} {pos : String} {after : Array Edge} {V : VarN} (j : Nat) (E : Env) (hV : vs[j]? = some V) (hs : V.s = i) (hT : V.T = T) (ht : V.t = t) (he : (after.any fun e => Region.binds .any e && e.on == V.a) = true) (hf : FromV ops vals E0 ⟨none, .store T (.tmp t) x, ty, pos, after, none⟩ E) (hx : E.at x = some (.v (aggV V.ys)))
      (hsz : SizeIs P T V.ys.length) (hl : V.zs.length = V.ys.length) (h1 : V.ys.all (·.oneCell') = true) : KopOk P ops vals vs E0 i ⟨none, .store T (.tmp t) x, ty, pos, after, none⟩
inductive Kops (P : Program) (ops : Array Oper) (vals : List (Option Value)) (vs : List VarN) (E0 : Env) : Nat → List Oper → Prop
  | nil {i : Nat} : Kops P ops vals vs E0 i []
  | cons {i : Nat} {o : Oper} {rest : List Oper} (h : KopOk P ops vals vs E0 i o) (hr : Kops P ops vals vs E0 (i + 1) rest) : Kops P ops vals vs E0 i (o :: rest)
def varsOk (ops : Array Oper) (vals : List (Option Value)) (vs : List VarN) : Bool := (List.range vs.length).all fun j => match vs[j]? with
  | none => false
  | some V => ((ops[V.a]?).bind (·.dst) == some V.t) && (match vals[V.a]? with | some none => true | _ => false) && (match vals[V.s]? with | some none => true | _ => false) && decide (V.a < ops.size) && decide (V.s < ops.size) && V.a != V.s && (List.range vs.length).all fun j' => match vs[j']? with
    | none => false
    | some V' => j == j' || (V.a != V'.a && V.s != V'.s && V.a != V'.s && V.s != V'.a)
section
variable {P : Program} {n B : Nat} {ops : Array Oper} {κ : Cx} {Q : Exit → Act → World → Prop} {vals : List (Option Value)} {vs : List VarN} {E0 : Env}
theorem Kops.nth {k : Nat} {l : List Oper} (h : Kops P ops vals vs E0 k l) : ∀ {i : Nat} {o : Oper}, l[i]? = some o → KopOk P ops vals vs E0 (k + i) o := by
  induction h with
  | nil => intro i o hi; simp at hi
  | @cons k o0 rest h _ ih =>
    intro i o hi
    cases i with
    | zero => simp at hi; subst hi; exact h
    | succ i =>
      have := ih (i := i) (by simpa using hi)
      rwa [show k + (i + 1) = k + 1 + i from by omega]
theorem varsOk_get (h : varsOk ops vals vs = true) {j : Nat} {V : VarN} (hj : vs[j]? = some V) : (ops[V.a]?).bind (·.dst) = some V.t ∧ vals[V.a]? = some none ∧ vals[V.s]? = some none ∧ V.a < ops.size ∧ V.s < ops.size ∧ V.a ≠ V.s ∧ ∀ j' V', vs[j']? = some V' → j ≠ j' → V.a ≠ V'.a ∧ V.s ≠ V'.s ∧ V.a ≠ V'.s ∧ V.s ≠ V'.a := by
  have hlt : j < vs.length := (List.getElem?_eq_some_iff.1 hj).1
  have h1 := List.all_eq_true.1 h j (List.mem_range.2 hlt)
  simp only [hj, Bool.and_eq_true] at h1
  obtain ⟨⟨⟨⟨⟨⟨h2, h3⟩, h4⟩, h5⟩, h6⟩, h7⟩, h8⟩ := h1
  refine ⟨by simpa using h2, ?_, ?_, by simpa using h5, by simpa using h6, by simpa using h7, fun j' V' hj' hne => ?_⟩
  · cases hx : vals[V.a]? with
    | none => rw [hx] at h3; cases h3
    | some x => rw [hx] at h3; cases x with
      | none => rfl
      | some _ => cases h3
  · cases hx : vals[V.s]? with
    | none => rw [hx] at h4; cases h4
    | some x => rw [hx] at h4; cases x with
      | none => rfl
      | some _ => cases h4
  · have h9 := List.all_eq_true.1 h8 j' (List.mem_range.2 (List.getElem?_eq_some_iff.1 hj').1)
    simp only [hj', Bool.or_eq_true, beq_iff_eq, Bool.and_eq_true, bne_iff_ne, ne_eq] at h9
    rcases h9 with h9 | h9
    · exact absurd h9 hne
    · exact ⟨h9.1.1.1, h9.1.1.2, h9.1.2, h9.2⟩
structure InvV (κ : Cx) (n B : Nat) (ops : Array Oper) (vals : List (Option Value)) (vs : List VarN) (E0 : Env) (w1 : World) (listed : Array Bool) (a : Act) (w : World) : Prop where
  base : B ≤ w1.heap.size
  bel : Below w1.heap.size w1 w
  defers : a.defers = κ.df
  size : a.tmps.size = n
  facts : ∀ t d, E0.look t = some d → d.OfB w1.heap.size w (a.tmps.getD t undef)
  lsize : listed.size = ops.size
  got : ∀ (i : Nat) (o : Oper) (t : Nat) (v : Value), ops[i]? = some o → listed.getD i false = true → o.dst = some t → vals[i]? = some (some v) → a.tmps.getD t undef = v
  cl : ∀ (j : Nat) (V : VarN), vs[j]? = some V → listed.getD V.s false = true → listed.getD V.a false = true
  var : ∃ bs : Nat → Nat, (∀ (j : Nat) (V : VarN), vs[j]? = some V → listed.getD V.a false = true → w1.heap.size ≤ bs j ∧ bs j < w.heap.size ∧ a.tmps.getD V.t undef = .pointer (some ⟨bs j, 0, none⟩) ∧ w.heap[bs j]? = some (.cells (if listed.getD V.s false = true then V.ys else V.zs).toArray V.T (0, 0))) ∧
    ∀ (j j' : Nat) (V V' : VarN), vs[j]? = some V → vs[j']? = some V' → listed.getD V.a false = true → listed.getD V'.a false = true → j ≠ j' → bs j ≠ bs j'
theorem InvV.st {w1 : World} {listed : Array Bool} {a : Act} {w : World} (I : InvV κ n B ops vals vs E0 w1 listed a w) : St κ n B E0 a w :=
  ⟨Nat.le_trans I.base I.bel.size, I.defers, I.size, fun t d hl => D.OfB.up (I.facts t d hl) I.bel.size⟩
theorem setD_self {listed : Array Bool} {i : Nat} (h : i < listed.size) : (listed.setIfInBounds i true).getD i false = true := by simp [h]
theorem wp_vars (hn0 : n ≤ vbase) (hfit : fits n ops = true) (hd : downsN ops = true) (hv : varsOk ops vals vs = true) (hn : Kops P ops vals vs E0 0 ops.toList) {w1 : World}
    (hQ : ∀ l a' w', InvV κ n B ops vals vs E0 w1 l a' w' → (∀ i, i < ops.size → l.getD i false = true) → Q .normal a' w') :
    ∀ (fuel : Nat) (listed : Array Bool) (a : Act) (w : World), unlisted ops listed ≤ fuel → InvV κ n B ops vals vs E0 w1 listed a w → wpAnyIn (FR κ.rd) 0 P .any ops Q fuel listed a w := by
  have hmin : ∀ (listed : Array Bool), listed.size = ops.size → Region.ready .any ops listed = [] → ∀ i, i < ops.size → listed.getD i false = true := by
    intro listed hl hr i
    induction i using Nat.strongRecOn with
    | _ i ih =>
      intro hi
      rcases hb : listed.getD i false with _ | _
      · exfalso
        have hdi := (downs_get hd (Array.getElem?_eq_getElem hi)).2.1
        have : i ∈ Region.ready .any ops listed := by
          rw [mem_ready]
          refine ⟨?_, ops[i], Array.getElem?_eq_getElem hi, fun e he hbd => ih e.on (hdi e he hbd) (Nat.lt_trans (hdi e he hbd) hi)⟩
          have : i < listed.size := by rw [hl]; exact hi
          simp [this] at hb ⊢
          exact hb
        rw [hr] at this
        cases this
      · rfl
  intro fuel
  induction fuel with
  | zero =>
    intro listed a w hc I
    have hr : Region.ready .any ops listed = [] := by
      rcases hr : Region.ready .any ops listed with _ | ⟨i, l⟩
      · rfl
      · exfalso
        have hi : i ∈ Region.ready .any ops listed := by rw [hr]; exact List.mem_cons_self
        obtain ⟨hu, o, ho, _⟩ := mem_ready.1 hi
        have hpos : 0 < unlisted ops listed := List.countP_pos_iff.2 ⟨i, List.mem_range.2 (Array.getElem?_eq_some_iff.1 ho).1, by simp only [hu]; rfl⟩
        omega
    exact ⟨hr, hQ listed a w I (hmin listed I.lsize hr)⟩
  | succ fuel ih =>
    intro listed a w hc I
    refine ⟨fun hr => hQ listed a w I (hmin listed I.lsize hr), fun i hi => ?_⟩
    obtain ⟨hu, o, ho, hall⟩ := mem_ready.1 hi
    have hlt : i < ops.size := (Array.getElem?_eq_some_iff.1 ho).1
    have hli : i < listed.size := by rw [I.lsize]; exact hlt
    have huf : listed.getD i false = false := by
      have h1 : listed.getD i true = false := hu
      simp [hli] at h1 ⊢
      exact h1
    have hk := hn.nth (i := i) (o := o) (by simpa using ho)
    rw [Nat.zero_add] at hk
    obtain ⟨hg, _, hdis⟩ := downs_get hd ho
    have hst : ∀ {E : Env}, FromV ops vals E0 o E → ∀ t d, E.look t = some d → d.OfB w1.heap.size w (a.tmps.getD t undef) := fun {E} h => by
      induction h with
      | nil => intro t d hl; cases hl
      | all => exact I.facts
      | @op s v E j he hdj hvj _ ih =>
        intro t d hl
        by_cases hts : s = t
        · subst hts; rw [look_here] at hl; injection hl with hl; subst hl
          obtain ⟨e, he1, he2⟩ := Array.any_eq_true'.1 he
          simp only [Bool.and_eq_true, beq_iff_eq] at he2
          have hl := hall e he1 he2.1
          rw [he2.2] at hl
          cases hq : ops[j]? with
          | none => rw [hq] at hdj; cases hdj
          | some q =>
            rw [hq] at hdj
            exact I.got j q _ _ hq hl hdj hvj
        · rw [look_past _ _ hts] at hl; exact ih t d hl
    have hE : ∀ {E : Env}, FromV ops vals E0 o E → St κ n B E a w := fun h => ⟨Nat.le_trans I.base I.bel.size, I.defers, I.size, fun t d hl => D.OfB.up (hst h t d hl) I.bel.size⟩
    refine wpOpR_step ho fun K hK => ?_
    rw [if_pos (by simp [Region.wanted, hg])]
    have hcl : unlisted ops (listed.setIfInBounds i true) ≤ fuel := by
      have : unlisted ops (listed.setIfInBounds i true) < unlisted ops listed := by
        refine countP_lt (x := i) (fun y hy => ?_) (List.mem_range.2 hlt) (by simp only [hu]; rfl) ?_
        · by_cases hyi : i = y
          · subst hyi
            simp [hli] at hy
          · rw [getD_set_ne true hyi] at hy; exact hy
        · simp [hli]
      omega
    have hset : ∀ j, (listed.setIfInBounds i true).getD j false = true → j = i ∨ listed.getD j false = true := fun j hj => by
      by_cases hji : i = j
      · exact .inl hji.symm
      · rw [getD_set_ne false hji] at hj; exact .inr hj
    have hfar : ∀ j, j ≠ i → (listed.setIfInBounds i true).getD j false = listed.getD j false := fun j hj => getD_set_ne false (fun h => hj h.symm)
    obtain ⟨bs, hb1, hb2⟩ := I.var
    cases hk with
    | @pure _ t v E hvi hdt h0 hf hok =>
      have htn : t < n := (fits_mem hfit (o := o) (by simpa using Array.mem_of_getElem? ho)).2 t hdt
      have hnot : ∀ (j : Nat) (V : VarN), vs[j]? = some V → V.a ≠ i ∧ V.s ≠ i ∧ V.t ≠ t := fun j V hj => by
        obtain ⟨h1, h2, h3, _⟩ := varsOk_get hv hj
        have hai : V.a ≠ i := fun e => by rw [e, hvi] at h2; cases h2
        refine ⟨hai, fun e => (by rw [e, hvi] at h3; cases h3), fun e => ?_⟩
        cases hq : ops[V.a]? with
        | none => rw [hq] at h1; cases h1
        | some q =>
          rw [hq] at h1
          exact hdis V.a q hq hai (by rw [hdt]; simp) (by rw [hdt, show q.dst = some V.t from h1, e])
      have hs := hE hf
      refine wp_of_out hdt ((hok w.heap.size a.eval w (Nat.le_refl _) (hs.virt hn0) fun x _ u hu => hs.at_ x _ hu).mono ?_)
      rintro x w' ⟨hgr, hx⟩
      have hx : x = v := hx
      subst hx
      refine hK _ _ (ih _ _ _ hcl ⟨I.base, I.bel.trans (Below.mono hgr I.bel.size), I.defers, by simp [Act.put, I.size], fun s d hs' => ?_, by simp [I.lsize], fun j q s u hj hl hds hvs => ?_, fun j V hj hl => ?_, bs, fun j V hj hl => ?_, fun j j' V V' hj hj' hl hl' => ?_⟩)
      · by_cases hts : t = s
        · subst hts
          rw [getD_put_here _ _ (by rw [I.size]; exact htn)]
          rcases h0 with h | h
          · rw [h] at hs'; cases hs'
          · rw [h] at hs'; injection hs' with hs'; subst hs'; rfl
        · rw [getD_put_past _ _ hts]; exact (I.facts s d hs').keep (Below.mono hgr I.bel.size)
      · rcases hset j hl with rfl | hl
        · rw [ho] at hj; injection hj with hj; subst hj
          rw [hdt] at hds; injection hds with hds; subst hds
          rw [hvi] at hvs; injection hvs with hvs; injection hvs with hvs; subst hvs
          rw [getD_put_here _ _ (by rw [I.size]; exact htn)]
        · by_cases hji : j = i
          · subst hji
            rw [ho] at hj; injection hj with hj; subst hj
            rw [hdt] at hds; injection hds with hds; subst hds
            rw [hvi] at hvs; injection hvs with hvs; injection hvs with hvs; subst hvs
            rw [getD_put_here _ _ (by rw [I.size]; exact htn)]
          · have hne : t ≠ s := fun he => hdis j q hj hji (by rw [hdt]; simp) (by rw [hdt, hds, he])
            rw [getD_put_past _ _ hne]
            exact I.got j q s u hj hl hds hvs
      · obtain ⟨h1, h2, _⟩ := hnot j V hj
        rw [hfar _ h2] at hl
        rw [hfar _ h1]; exact I.cl j V hj hl
      · obtain ⟨h1, h2, h3⟩ := hnot j V hj
        rw [hfar _ h1] at hl
        obtain ⟨g1, g2, g3, g4⟩ := hb1 j V hj hl
        rw [hfar _ h2]
        exact ⟨g1, Nat.lt_of_lt_of_le g2 hgr.size, by rw [getD_put_past _ _ (fun e => h3 e.symm)]; exact g3, by rw [hgr.block _ g2]; exact g4⟩
      · rw [hfar _ (hnot j V hj).1] at hl
        rw [hfar _ (hnot j' V' hj').1] at hl'
        exact hb2 j j' V V' hj hj' hl hl'
    | @alloc t T ty pos after V j0 hV ha hT ht hz h0 =>
      subst ha hT ht
      have hds := (varsOk_get hv hV).2.2.2.2.2.2
      have hns : V.s ≠ V.a := fun e => (varsOk_get hv hV).2.2.2.2.2.1 e.symm
      have htn : V.t < n := (fits_mem hfit (o := ⟨some V.t, .alloc V.T, ty, pos, after, none⟩) (by simpa using Array.mem_of_getElem? ho)).2 V.t rfl
      have hrun : (execOp a.eval ⟨some V.t, .alloc V.T, ty, pos, after, none⟩).run P w = .ok (.value (.pointer (some ⟨w.heap.size, 0, none⟩))) (w.alloc (.cells V.zs.toArray V.T)) := by
        obtain ⟨i, z, hi, hz, hc⟩ := hz.get
        simp [execOp, Instr.alloc, zeroValue, typeInfo, hi, hz, newVar, newRow, hc]
      refine opR (not_defer hrun) ?_
      unfold Oper.wp
      rw [hrun, Oper.upon_value]
      have hgr : Grow w (w.alloc (.cells V.zs.toArray V.T)) := Grow.alloc w _
      have hlt1 : w.heap.size < (w.alloc (.cells V.zs.toArray V.T)).heap.size := by simp
      have hother : ∀ (j : Nat) (V' : VarN), vs[j]? = some V' → j ≠ j0 → V'.a ≠ V.a ∧ V'.s ≠ V.a ∧ V'.t ≠ V.t := fun j V' hj hne => by
        obtain ⟨h1, h2, h3, h4⟩ := hds j V' hj (fun e => hne e.symm)
        refine ⟨fun e => h1 e.symm, fun e => h3 e.symm, fun e => ?_⟩
        obtain ⟨g1, _⟩ := varsOk_get hv hj
        cases hq : ops[V'.a]? with
        | none => rw [hq] at g1; cases g1
        | some q =>
          rw [hq] at g1
          exact hdis V'.a q hq (fun e => h1 e.symm) (by simp) (by rw [show q.dst = some V'.t from g1, e])
      have hsu : listed.getD V.s false = false := by
        rcases hb : listed.getD V.s false with _ | _
        · rfl
        · rw [I.cl j0 V hV hb] at huf; cases huf
      refine hK _ _ (ih _ _ _ hcl ⟨I.base, I.bel.trans (Below.mono hgr I.bel.size), I.defers, by simp [Act.put, I.size], fun s d hs' => ?_, by simp [I.lsize], fun j q s u hj hl hds hvs => ?_, fun j V' hj hl => ?_, fun j => if j = j0 then w.heap.size else bs j, fun j V' hj hl => ?_, fun j j' V' V'' hj hj' hl hl' hne => ?_⟩)
      · have hts : V.t ≠ s := fun e => by subst e; rw [h0] at hs'; cases hs'
        rw [getD_put_past _ _ hts]; exact (I.facts s d hs').keep (Below.mono hgr I.bel.size)
      · have hji : j ≠ V.a := fun e => by
          subst e
          rw [(varsOk_get hv hV).2.1] at hvs; cases hvs
        rw [hfar _ hji] at hl
        have hne : V.t ≠ s := fun he => hdis j q hj hji (by simp) (by rw [hds, he])
        rw [getD_put_past _ _ hne]
        exact I.got j q s u hj hl hds hvs
      · by_cases hj0 : j = j0
        · subst hj0; rw [hV] at hj; injection hj with hj; subst hj
          exact setD_self hli
        · obtain ⟨h1, h2, _⟩ := hother j V' hj hj0
          rw [hfar _ h2] at hl
          rw [hfar _ h1]; exact I.cl j V' hj hl
      · by_cases hj0 : j = j0
        · subst hj0; rw [hV] at hj; injection hj with hj; subst hj
          dsimp only
          rw [if_pos rfl, hfar _ hns, hsu]
          exact ⟨I.bel.size, hlt1, by rw [getD_put_here _ _ (by rw [I.size]; exact htn)], by simpa using heap_alloc_new w _⟩
        · obtain ⟨h1, h2, h3⟩ := hother j V' hj hj0
          rw [hfar _ h1] at hl
          obtain ⟨g1, g2, g3, g4⟩ := hb1 j V' hj hl
          dsimp only
          rw [if_neg hj0, hfar _ h2]
          exact ⟨g1, Nat.lt_of_lt_of_le g2 hgr.size, by rw [getD_put_past _ _ (fun e => h3 e.symm)]; exact g3, by rw [hgr.block _ g2]; exact g4⟩
      · show (if j = j0 then w.heap.size else bs j) ≠ if j' = j0 then w.heap.size else bs j'
        by_cases hj0 : j = j0
        · rw [if_pos hj0, if_neg (fun e => hne (by rw [hj0, e]))]
          rw [hfar _ (hother j' V'' hj' (fun e => hne (by rw [hj0, e]))).1] at hl'
          have := (hb1 j' V'' hj' hl').2.1
          omega
        · rw [if_neg hj0]
          rw [hfar _ (hother j V' hj hj0).1] at hl
          by_cases hj0' : j' = j0
          · rw [if_pos hj0']
            have := (hb1 j V' hj hl).2.1
            omega
          · rw [if_neg hj0']
            rw [hfar _ (hother j' V'' hj' hj0').1] at hl'
            exact hb2 j j' V' V'' hj hj' hl hl' hne
    | @store t T ty x pos after V j0 E hV hs hT ht he hf hx hsz hl0 h1 =>
      subst hs hT ht
      have hds := (varsOk_get hv hV).2.2.2.2.2.2
      have hna : V.a ≠ V.s := (varsOk_get hv hV).2.2.2.2.2.1
      have hla : listed.getD V.a false = true := by
        obtain ⟨e, he1, he2⟩ := Array.any_eq_true'.1 he
        simp only [Bool.and_eq_true, beq_iff_eq] at he2
        have hl := hall e he1 he2.1
        rwa [he2.2] at hl
      obtain ⟨g1, g2, g3, g4⟩ := hb1 j0 V hV hla
      rw [huf] at g4
      simp only [Bool.false_eq_true, if_false] at g4
      have hp' : a.eval (.tmp V.t) = .pointer (some ⟨bs j0, 0, none⟩) := g3
      have hx' : a.eval x = aggV V.ys := (hE hf).at_ x _ hx
      have hrun : (execOp a.eval ⟨none, .store V.T (.tmp V.t) x, ty, pos, after, none⟩).run P w = .ok .skip (w.setRow (bs j0) V.ys.toArray) := by
        have := run_storeVar_row (P := P) w (bs j0) V.T V.T V.zs.toArray V.ys.toArray g4 (by simpa [SizeIs] using hsz) (by simpa using hl0) (by simpa using h1)
        simp [execOp, hp', hx', Instr.storeAt, Instr.sureAddr, aggV, this]
      refine opR (by nofun) ?_
      unfold Oper.wp
      rw [hrun, Oper.upon_skip]
      have hput : a.put (none : Option Tmp) undef = a := rfl
      try rw [hput]
      have hwr := Wrote.setRow (B := w1.heap.size) g1 g4 V.ys.toArray
      have hbw : Below w1.heap.size w (w.setRow (bs j0) V.ys.toArray) := hwr.below I.bel.size
      have hsame : ∀ k, k ≠ bs j0 → (w.setRow (bs j0) V.ys.toArray).heap[k]? = w.heap[k]? := fun k hk => setRow_other w (bs j0) k V.ys.toArray hk
      have hhere : (w.setRow (bs j0) V.ys.toArray).heap[bs j0]? = some (.cells V.ys.toArray V.T (0, 0)) := by simp [World.setRow, Array.getElem?_modify, g4]
      have hsz' : (w.setRow (bs j0) V.ys.toArray).heap.size = w.heap.size := by simp [World.setRow]
      have hother : ∀ (j : Nat) (V' : VarN), vs[j]? = some V' → j ≠ j0 → V'.a ≠ V.s ∧ V'.s ≠ V.s := fun j V' hj hne => by
        obtain ⟨h1, h2, h3, h4⟩ := hds j V' hj (fun e => hne e.symm)
        exact ⟨fun e => h4 e.symm, fun e => h2 e.symm⟩
      refine hK _ _ (ih _ _ _ hcl ⟨I.base, I.bel.trans hbw, I.defers, I.size, fun s d hs' => (I.facts s d hs').keep hbw, by simp [I.lsize], fun j q s u hj hl hds hvs => ?_, fun j V' hj hl => ?_, bs, fun j V' hj hl => ?_, fun j j' V' V'' hj hj' hl hl' hne => ?_⟩)
      · have hji : j ≠ V.s := fun e => by
          subst e
          rw [(varsOk_get hv hV).2.2.1] at hvs; cases hvs
        rw [hfar _ hji] at hl
        exact I.got j q s u hj hl hds hvs
      · by_cases hj0 : j = j0
        · subst hj0; rw [hV] at hj; injection hj with hj; subst hj
          rw [hfar _ hna]; exact hla
        · obtain ⟨h1, h2⟩ := hother j V' hj hj0
          rw [hfar _ h2] at hl
          rw [hfar _ h1]; exact I.cl j V' hj hl
      · by_cases hj0 : j = j0
        · subst hj0; rw [hV] at hj; injection hj with hj; subst hj
          rw [setD_self hli, if_pos rfl]
          exact ⟨g1, by rw [hsz']; exact g2, g3, hhere⟩
        · obtain ⟨h1, h2⟩ := hother j V' hj hj0
          rw [hfar _ h1] at hl
          obtain ⟨k1, k2, k3, k4⟩ := hb1 j V' hj hl
          rw [hfar _ h2]
          exact ⟨k1, by rw [hsz']; exact k2, k3, by rw [hsame _ (hb2 j j0 V' V hj hV hl hla hj0)]; exact k4⟩
      · have e1 : ∀ {j : Nat} {V' : VarN}, vs[j]? = some V' → (listed.setIfInBounds V.s true).getD V'.a false = true → listed.getD V'.a false = true := fun {j V'} hj hl => by
          by_cases hj0 : j = j0
          · subst hj0; rw [hV] at hj; injection hj with hj; subst hj; exact hla
          · rwa [hfar _ (hother j V' hj hj0).1] at hl
        exact hb2 j j' V' V'' hj hj' (e1 hj hl) (e1 hj' hl') hne
/-- The environment that the new variables give. -/
def varEnv (bs : Nat → Nat) : Nat → List VarN → Env → Env
  | _, [], E => E
  | j, V :: r, E => (V.t, .v (.pointer (some ⟨bs j, 0, none⟩))) :: (1000000 + V.t, blk (bs j) V.T V.ys) :: varEnv bs (j + 1) r E
theorem varEnv_look {bs : Nat → Nat} {E : Env} {t : Nat} {d : D} : ∀ {l : List VarN} {j : Nat}, (varEnv bs j l E).look t = some d → (∃ k V, l[k]? = some V ∧ ((t = V.t ∧ d = .v (.pointer (some ⟨bs (j + k), 0, none⟩))) ∨ (t = 1000000 + V.t ∧ d = blk (bs (j + k)) V.T V.ys))) ∨ E.look t = some d
  | [], _, h => .inr h
  | V :: r, j, h => by
    unfold varEnv at h
    by_cases h1 : V.t = t
    · subst h1; rw [look_here] at h; injection h with h
      exact .inl ⟨0, V, rfl, .inl ⟨rfl, h.symm⟩⟩
    · rw [look_past _ _ h1] at h
      by_cases h2 : 1000000 + V.t = t
      · subst h2; rw [look_here] at h; injection h with h
        exact .inl ⟨0, V, rfl, .inr ⟨rfl, h.symm⟩⟩
      · rw [look_past _ _ h2] at h
        rcases varEnv_look h with ⟨k, V', h3, h4⟩ | h3
        · exact .inl ⟨k + 1, V', by simpa using h3, by rw [show j + (k + 1) = j + 1 + k from by omega]; exact h4⟩
        · exact .inr h3
theorem A.regsV {w₀ : World} {y : Code} {E1 : Env} {id : Nat} (vals : List (Option Value)) (vs : List VarN) (hm : P.follows .mixedOrders = true) (hfit : fits n ops = true) (hd : downsN ops = true) (hv : varsOk ops vals vs = true) (hn : Kops P ops vals vs E0 0 ops.toList) (hf : FromW ops vals E0 E1)
    (h : ∀ bs : Nat → Nat, (∀ j, j < vs.length → NewB w₀.heap.size E0 (bs j)) → (∀ j j', j < vs.length → j' < vs.length → j ≠ j' → bs j ≠ bs j') → A κ P w₀ n y (varEnv bs 0 vs E1) Q) : A κ P w₀ n (.seq (.region id ops true) y) E0 Q := A.seq fun a w hg hst => by
  have hdr : Below w₀.heap.size w w.drew := (Below.refl _ w).drew
  have hn0 := fits_base hfit
  have hst' := hst.grow (Grow.refl w).drew
  have hfin : ∀ l a' w', InvV κ n w₀.heap.size ops vals vs E0 w.drew l a' w' → (∀ i, i < ops.size → l.getD i false = true) → Exit.then (y.wpIn (FR κ.rd) 0 P Q) Q .normal a' w' := fun l a' w' I hall => by
    have key : ∀ t d, E1.look t = some d → d.Of w' (a'.tmps.getD t undef) := by
      clear h
      induction hf with
      | all => exact I.st.of
      | @op s v E j hdj hvj _ ih =>
        intro t d hl
        by_cases hts : s = t
        · subst hts; rw [look_here] at hl; injection hl with hl; subst hl
          cases hq : ops[j]? with
          | none => rw [hq] at hdj; cases hdj
          | some q =>
            rw [hq] at hdj
            exact I.got j q _ _ hq (hall j (Array.getElem?_eq_some_iff.1 hq).1) hdj hvj
        · rw [look_past _ _ hts] at hl; exact ih t d hl
    obtain ⟨bs, hb1, hb2⟩ := I.var
    have hla : ∀ (j : Nat) (V : VarN), vs[j]? = some V → l.getD V.a false = true := fun j V hj => hall _ (varsOk_get hv hj).2.2.2.1
    have hls : ∀ (j : Nat) (V : VarN), vs[j]? = some V → l.getD V.s false = true := fun j V hj => hall _ (varsOk_get hv hj).2.2.2.2.1
    refine h bs (fun j hj => ?_) (fun j j' hj hj' hne => hb2 j j' _ _ (List.getElem?_eq_getElem hj) (List.getElem?_eq_getElem hj') (hla _ _ (List.getElem?_eq_getElem hj)) (hla _ _ (List.getElem?_eq_getElem hj')) hne) a' w' (hg.trans (hdr.trans (Below.mono I.bel I.base))) ⟨Nat.le_trans I.base I.bel.size, I.defers, I.size, fun t d hl => ?_⟩
    · have hk := (hb1 j _ (List.getElem?_eq_getElem hj) (hla _ _ (List.getElem?_eq_getElem hj))).1
      exact ⟨Nat.le_trans I.base hk, fun s b' e xs hs => Nat.lt_of_lt_of_le (hst'.of s _ hs).1 hk⟩
    · rcases varEnv_look hl with ⟨k, V, hk, hd'⟩ | hl
      · rw [Nat.zero_add] at hd'
        obtain ⟨g1, g2, g3, g4⟩ := hb1 k V hk (hla k V hk)
        rw [hls k V hk, if_pos rfl] at g4
        rcases hd' with ⟨rfl, rfl⟩ | ⟨rfl, rfl⟩
        · exact g3
        · exact ⟨g2, g4⟩
      · exact key t d hl
  refine wpIn_region_any hm (wp_vars hn0 hfit hd hv hn hfin _ _ _ _ ?_ ⟨hst'.base, Below.refl _ _, hst'.defers, hst'.size, fun t d hl => hst'.of t d hl, by simp, fun i o t v hi hl => ?_, fun j V hj hl => ?_, fun _ => 0, fun j V hj hl => ?_, fun j j' V V' hj _ hl => ?_⟩)
  · refine Nat.le_trans List.countP_le_length ?_
    simp
  · simp [(Array.getElem?_eq_some_iff.1 hi).1] at hl
  · simp [(varsOk_get hv hj).2.2.2.2.1] at hl
  · simp [(varsOk_get hv hj).2.2.2.1] at hl
  · simp [(varsOk_get hv hj).2.2.2.1] at hl
/-! ### The same, operation by operation -/
theorem FromV.more {vals : List (Option Value)} {o : Oper} {E : Env} {pre : List (Option Value)} (hp : ∀ (j : Nat) (v : Option Value), pre[j]? = some v → vals[j]? = some v) (h : FromV ops pre E0 o E) : FromV ops vals E0 o E := by
  induction h with
  | nil => exact .nil
  | all => exact .all
  | op j he hd hv _ ih => exact .op j he hd (hp _ _ hv) ih
/-- From here on; pre is what the operations before have yielded. -/
def KopsK (P : Program) (ops : Array Oper) (vs : List VarN) (E0 : Env) (rest : List Oper) (pre : List (Option Value)) (C : List (Option Value) → Prop) : Prop :=
  ∃ vals : List (Option Value), (∀ (j : Nat) (v : Option Value), pre[j]? = some v → vals[j]? = some v) ∧ Kops P ops vals vs E0 pre.length rest ∧ C vals
theorem pre_snoc {α : Type} {pre vals : List α} {v : α} (h : ∀ (j : Nat) (u : α), (pre ++ [v])[j]? = some u → vals[j]? = some u) : (∀ (j : Nat) (u : α), pre[j]? = some u → vals[j]? = some u) ∧ vals[pre.length]? = some v :=
  ⟨fun j u hu => h j u (by rw [List.getElem?_append_left (List.getElem?_eq_some_iff.1 hu).1]; exact hu), h _ _ (by simp)⟩
theorem KopsK.nil {pre : List (Option Value)} {C : List (Option Value) → Prop} (h : C pre) : KopsK P ops vs E0 [] pre C := ⟨pre, fun _ _ h => h, .nil, h⟩
theorem KopsK.pure {o : Oper} {rest : List Oper} {pre : List (Option Value)} {C : List (Option Value) → Prop} {t : Nat} {v : Value} (E : Env) (hd : o.dst = some t) (h0 : E0.look t = none ∨ E0.look t = some (.v v)) (hf : FromV ops pre E0 o E) (hok : ∀ B', OpOk P B' o E (.v v))
    (hr : KopsK P ops vs E0 rest (pre ++ [some v]) C) : KopsK P ops vs E0 (o :: rest) pre C := by
  obtain ⟨vals, h1, h2, h3⟩ := hr
  obtain ⟨h4, h5⟩ := pre_snoc h1
  exact ⟨vals, h4, .cons (.pure E h5 hd h0 (hf.more h4) hok) (by simpa using h2), h3⟩
theorem KopsK.alloc {rest : List Oper} {pre : List (Option Value)} {C : List (Option Value) → Prop} {t : Tmp} {T ty : TypeId} {pos : String} {after : Array Edge} {V : VarN} (j : Nat) (hV : vs[j]? = some V) (ha : V.a = pre.length) (hT : V.T = T) (ht : V.t = t) (hz : ZeroIs P T V.zs) (h0 : E0.look t = none)
    (hr : KopsK P ops vs E0 rest (pre ++ [none]) C) : KopsK P ops vs E0 (⟨some t, .alloc T, ty, pos, after, none⟩ :: rest) pre C := by
  obtain ⟨vals, h1, h2, h3⟩ := hr
  obtain ⟨h4, _⟩ := pre_snoc h1
  exact ⟨vals, h4, .cons (.alloc j hV ha hT ht hz h0) (by simpa using h2), h3⟩
theorem KopsK.store {rest : List Oper} {pre : List (Option Value)} {C : List (Option Value) → Prop} {t T ty : TypeId} {x : Operand} {pos : String} {after : Array Edge} {V : VarN} (j : Nat) (E : Env) (hV : vs[j]? = some V) (hs : V.s = pre.length) (hT : V.T = T) (ht : V.t = t) (he : (after.any fun e => Region.binds .any e && e.on == V.a) = true)
    (hf : FromV ops pre E0 ⟨none, .store T (.tmp t) x, ty, pos, after, none⟩ E) (hx : E.at x = some (.v (aggV V.ys))) (hsz : SizeIs P T V.ys.length) (hl : V.zs.length = V.ys.length) (h1 : V.ys.all (·.oneCell') = true)
    (hr : KopsK P ops vs E0 rest (pre ++ [none]) C) : KopsK P ops vs E0 (⟨none, .store T (.tmp t) x, ty, pos, after, none⟩ :: rest) pre C := by
  obtain ⟨vals, g1, g2, g3⟩ := hr
  obtain ⟨g4, _⟩ := pre_snoc g1
  exact ⟨vals, g4, .cons (.store j E hV hs hT ht he (hf.more g4) hx hsz hl h1) (by simpa using g2), g3⟩
theorem A.regsK {w₀ : World} {y : Code} {id : Nat} (vs : List VarN) (hm : P.follows .mixedOrders = true) (hfit : fits n ops = true) (hd : downsN ops = true)
    (h : KopsK P ops vs E0 ops.toList [] fun vals => varsOk ops vals vs = true ∧ ∃ E1, FromW ops vals E0 E1 ∧ ∀ bs : Nat → Nat, (∀ j, j < vs.length → NewB w₀.heap.size E0 (bs j)) → (∀ j j', j < vs.length → j' < vs.length → j ≠ j' → bs j ≠ bs j') → A κ P w₀ n y (varEnv bs 0 vs E1) Q) : A κ P w₀ n (.seq (.region id ops true) y) E0 Q := by
  obtain ⟨vals, _, h2, h3, E1, h4, h5⟩ := h
  exact A.regsV vals vs hm hfit hd h3 h2 h4 h5
end
end Go.Proofs.YtlddnmblfgaimaaDoor
namespace Go.Proofs.YtlddnmblfgaimaaDoor
open Go Go.RowKit
set_option linter.unusedVariables false
set_option maxRecDepth 20000
set_option linter.unusedSimpArgs false
abbrev x01 : NodT := NodT.emp 0 1
theorem x01_fit : x01.Fit := NodT.emp_fit 0 (j := 1) (by decide)
theorem x01_ck : x01.ck = 0 := emp_ck (by decide) 1
def kY : NodT := { x01 with R := x01.R.set 0 (recOf 1 9) }
def kZ : NodT := { x01 with R := x01.R.set 1 (recOf 2 9) }
theorem kY_fit : kY.Fit := x01_fit.setR 0 (recOf_fit 1 9)
theorem kZ_fit : kZ.Fit := x01_fit.setR 1 (recOf_fit 2 9)
theorem rec_ck (a b : UInt8) : (recOf a b).ck = 0 := RecT.ck_zero.2 (recOf_ok a b)
theorem kY_ck : kY.ck = 0 := (setR_ck x01_fit (m := 0) (by decide) rfl x01_ck (recOf 1 9)).trans (rec_ck 1 9)
theorem kZ_ck : kZ.ck = 0 := (setR_ck x01_fit (m := 1) (by decide) rfl x01_ck (recOf 2 9)).trans (rec_ck 2 9)
def r3 : RecT := ⟨3, 0, 0, zD⟩
def rc : RecT := ⟨0, 0, 1, zD⟩
theorem r3_fit : r3.Fit := ⟨rfl, by decide, by decide⟩
theorem rc_fit : rc.Fit := ⟨rfl, by decide, by decide⟩
theorem r3_ck : r3.ck ≠ 0 := fun h => RecT.ck_zero.1 h (.inl (by decide))
theorem rc_ck : rc.ck ≠ 0 := fun h => RecT.ck_zero.1 h (.inr ⟨by decide, fun h => absurd h.2.1 (by decide)⟩)
theorem build3 : Tryd.prog.built 35 [(0, .int .u8 3)] = some r3.v.toArray := by kernel_rfl
theorem buildK1 : Tryd.prog.built 31 [(1, .int .u64 1)] = some (#[.int .u32 0, .int .u64 1] : Array Value) := by kernel_rfl
theorem buildC : Tryd.prog.built 35 [(1, aggV [.int .u32 0, .int .u64 1])] = some rc.v.toArray := by kernel_rfl
theorem kY_is {n : Nat} (h : 0 ≤ hg n ∧ 1 < un n 1) : IsP n kY.l.toNat kY.j := isP_nat.2 h
theorem kZ_is {n : Nat} (h : 0 ≤ hg n ∧ 1 < un n 1) : IsP n kZ.l.toNat kZ.j := isP_nat.2 h
theorem x01_z (i : Nat) : (x01.r i).Z ∧ (x01.e i).Z := ⟨emp_r, emp_e⟩
theorem kY_r (i : Nat) : kY.r i = if 0 = i then recOf 1 9 else x01.r i := setR_r x01_fit (m := 0) (by decide) _ i
theorem kZ_r (i : Nat) : kZ.r i = if 1 = i then recOf 2 9 else x01.r i := setR_r x01_fit (m := 1) (by decide) _ i
theorem pts5 : pts 5 0 1 = 1 := by decide
theorem pts6 : pts 6 0 1 = 2 := by decide
theorem y5 : ftN ((5 : Nat) : Int) kY = 0 := ft_ok (n := 5) (by decide) (by decide) kY_ck (kY_is (by decide)) fun i h h4 => by
 have h1 : 1 ≤ i := by rw [← pts5]; exact h
 exact ⟨by rw [kY_r, if_neg (by omega)]; exact (x01_z i).1, (x01_z i).2⟩
theorem z5 : ftN ((5 : Nat) : Int) kZ = 17 := ft_part (n := 5) (by decide) (by decide) kZ_ck (kZ_is (by decide)) fun h => by
 have h1 := (h 1 (by show pts 5 0 1 ≤ 1; rw [pts5]; exact Nat.le_refl _) (by decide)).1
 rw [kZ_r, if_pos rfl] at h1
 exact absurd h1.1 (by decide)
theorem z6 : ftN ((6 : Nat) : Int) kZ = 0 := ft_ok (n := 6) (by decide) (by decide) kZ_ck (kZ_is (by decide)) fun i h h4 => by
 have h1 : 2 ≤ i := by rw [← pts6]; exact h
 exact ⟨by rw [kZ_r, if_neg (by omega)]; exact (x01_z i).1, (x01_z i).2⟩
theorem kY_us : usN kY = 1 := by decide
theorem x01_us : usN x01 = 0 := by decide
theorem l8 {l : Nat} (h : l < 6) : (UInt8.ofNat l).toNat = l := by rw [UInt8.toNat_ofNat', Nat.mod_eq_of_lt (by omega)]
theorem hg4096 : hg 4096 = 5 := by decide
theorem known_in {l : Nat} (h : l < 6) : ftN ((4096 : Nat) : Int) (NodT.emp (UInt8.ofNat l) (un 4096 (l + 1) - 1)) = 0 := ft_emp (by decide) (by decide) (by rw [l8 h]; omega) (by rw [l8 h, hg4096]; have := un_pos (n := 4096) (by decide) (l + 1); omega)
theorem known_out {l j : Nat} (h : l < 6) (hj : un 4096 (l + 1) ≤ j) : ftN ((4096 : Nat) : Int) (NodT.emp (UInt8.ofNat l) j) = 17 := ft_emp_no (by decide) (by decide) (by rw [l8 h]; omega) (by rw [l8 h]; omega)
theorem un4096 (k : Nat) : un 4096 k ≤ 4096 := un_le (by decide) k

set_option maxHeartbeats 4000000 in
theorem NodesKnown_fn  : FnM Tryd.prog 8 tabS [] (.v (.bool true)) := by
 refine FnM.of Tryd.func8 rfl (by kernel_rfl) Tryd.ntmps8 (by simp) (by decide) (fun w => [(1900000, tab 0 (sizV))]) (fun w => (StartM.m (by simp [tabS]) (by decide) StartM.nil)) fun w₀ hM => ?_
 have htab := tabS_hi hM
 refine GS ?_
 refine TL ?_
 refine RA rfl ?_
 refine RN ?_
 refine A.seq ?_
 refine GS ?_
 refine TL ?_
 refine RA rfl ?_
 refine RN ?_
 refine A.block ?_
 refine A.loop (ι := Nat) (fun l => l ≤ 6) (fun l => [(1, .v (nI (l))), (1900000, tab 0 (sizV))]) (fun l => 6 - l) 0 ?_ ?_ ?_
 ·exact Nat.zero_le _
 ·exact (KE 1 rfl (by rfl) (KC 1900000 rfl KN))
 intro l hG
 refine A.seq ?_
 refine GS ?_
 refine TL ?_
 refine RM rfl ?_
 refine RB rfl rfl rfl ?_
 refine RN ?_
 refine A.cond rfl (fun hc15 => ?_) (fun hc15 => ?_)
 ·have hi : l < 6 := by simp at hc15; omega
  refine A.skip ?_
  refine EN ?_
  refine A.seq ?_
  refine A.block ?_
  refine GS ?_
  refine TL ?_
  refine RM rfl ?_
  refine RS (ok_call (rCount_fn 4096 (by decide) (by decide) l (by rw [hg4096]; omega)) (A2 rfl rfl)) ?_
  refine RA rfl ?_
  refine RN ?_
  refine GS ?_
  refine TL ?_
  refine RM rfl ?_
  refine RS (ok_conv Tryd.underlying3 Tryd.underlying5 rfl) ?_; refine RZ (byteV (UInt8.ofNat l)) (by rw [wrap_u8_nat]; rfl) ?_
  refine RM rfl ?_
  refine RBS rfl rfl rfl (nI (un 4096 (l + 1) - 1)) (wrap_eq (by have := un_pos (n := 4096) (by decide) (l + 1); omega) (by have := un4096 (l + 1); omega)) ?_
  refine RS (ok_conv Tryd.underlying3 Tryd.underlying28 rfl) ?_; refine RZ (nW (un 4096 (l + 1) - 1)) (congrArg _ (wrap_u32 (by omega) (by have := un4096 (l + 1); omega))) ?_
  refine RS (ok_call (nEmpty_fn (UInt8.ofNat l) (un 4096 (l + 1) - 1) (by have := un4096 (l + 1); omega)) (A2 rfl rfl)) ?_
  refine RS (ok_call (nFits_fn ((4096 : Nat) : Int) (NodT.emp (UInt8.ofNat l) (un 4096 (l + 1) - 1)) (NodT.emp_fit (UInt8.ofNat l) (show (un 4096 (l + 1) - 1) < 4294967296 from by have := un4096 (l + 1); omega))) (A2 rfl rfl)) ?_; refine RZ (.int .i64 0) (congrArg (Value.int .i64) (known_in hi)) ?_
  refine RBS rfl rfl rfl (.bool false) (by rfl) ?_
  refine RM rfl ?_
  refine RQ (ok_move rfl) ?_
  refine RQ (ok_conv Tryd.underlying3 Tryd.underlying5 rfl) ?_; refine RZ (byteV (UInt8.ofNat l)) (by rw [wrap_u8_nat]; rfl) ?_
  refine RQ (ok_move rfl) ?_
  refine RQ (ok_conv Tryd.underlying3 Tryd.underlying28 rfl) ?_; refine RZ (nW (un 4096 (l + 1))) (congrArg _ (wrap_u32 (by omega) (by have := un4096 (l + 1); omega))) ?_
  refine RQ (ok_call (nEmpty_fn (UInt8.ofNat l) (un 4096 (l + 1)) (by have := un4096 (l + 1); omega)) (A2 rfl rfl)) ?_
  refine RQ (ok_call (nFits_fn ((4096 : Nat) : Int) (NodT.emp (UInt8.ofNat l) (un 4096 (l + 1))) (NodT.emp_fit (UInt8.ofNat l) (show (un 4096 (l + 1)) < 4294967296 from by have := un4096 (l + 1); omega))) (A2 rfl rfl)) ?_; refine RZ (.int .i64 17) (congrArg (Value.int .i64) (known_out hi (Nat.le_refl _))) ?_
  refine RQ (ok_bin rfl rfl rfl) ?_; refine RZ (.bool false) (by rfl) ?_
  refine RP rfl rfl ?_
  refine RM rfl ?_
  refine RQ (ok_move rfl) ?_
  refine RQ (ok_conv Tryd.underlying3 Tryd.underlying5 rfl) ?_; refine RZ (byteV (UInt8.ofNat l)) (by rw [wrap_u8_nat]; rfl) ?_
  refine RQ (ok_call (nEmpty_fn (UInt8.ofNat l) 4294967295 (by have := un4096 (l + 1); omega)) (A2 rfl rfl)) ?_
  refine RQ (ok_call (nFits_fn ((4096 : Nat) : Int) (NodT.emp (UInt8.ofNat l) 4294967295) (NodT.emp_fit (UInt8.ofNat l) (show 4294967295 < 4294967296 from by have := un4096 (l + 1); omega))) (A2 rfl rfl)) ?_; refine RZ (.int .i64 17) (congrArg (Value.int .i64) (known_out hi (by have := un4096 (l + 1); omega))) ?_
  refine RQ (ok_bin rfl rfl rfl) ?_; refine RZ (.bool false) (by rfl) ?_
  refine RP rfl rfl ?_
  refine RN ?_
  refine A.sub (KC 1 rfl (KC 43 rfl (KC 1900000 rfl KN))) ?_
  refine A.no rfl ?_
  refine A.skip ?_
  refine End.normal_block ?_
  refine EN ?_
  refine GE ?_
  refine TL ?_
  refine RM rfl ?_
  refine RBS rfl rfl rfl (nI (l + 1)) (wrap_eq (by omega) (by omega)) ?_
  refine RA rfl ?_
  refine RN ?_
  refine End.normal_then ?_
  refine End.again (l + 1) ?_ ?_ ?_
  ·show _ ≤ _; omega
  ·show _ - _ < _ - _; omega
  ·exact (KC 1 rfl (KC 1900000 rfl KN))
 ·skip
  refine A.exit ?_
  refine End.exit_then ?_
  refine End.exit_then ?_
  refine End.exit_here ?_
  refine EN ?_
  refine GS ?_
  refine TN 1 ?_
  refine RS (ok_call (nEmpty_fn 0 1 (by decide)) (A2 rfl rfl)) ?_
  refine RN ?_
  refine ⟨_, _, eff_alloc (n := 122) (d := 3) (k := 1000003) zero41 (by decide), fun b3 hb3 => ?_⟩
  have hBb3 := hb3.1
  refine TF 2 ?_
  refine RN ?_
  refine ⟨_, eff_storeA (n := 122) (s := 1000003) (size41.of (x01_fit.len)) rfl rfl (NodT.one _) hBb3 rfl (by rw [x01_fit.len]; rfl) (LV 3 rfl (LeftS.cons (t := 1900000) rfl (Surv.tab (by omega)) LN)), ?_⟩
  refine TL ?_
  refine RN ?_
  refine A.regsK [⟨6, 4, 41, NodT.v (NodT.emp 0 0), 7, kY.v⟩] (by kernel_rfl) (by kernel_rfl) (by kernel_rfl) ?_
  refine KopsK.pure (_) rfl (.inl rfl) FromV.all (fun B' => (ok_loadA (s := 1000003) (by decide) Tryd.underlying41 rfl (size41.of (x01_fit.len)) rfl rfl)) ?_
  refine KopsK.pure (_) rfl (.inl rfl) FromV.all (fun B' => (ok_call (lRecord_fn 1 9) (A2 rfl rfl))) ?_
  refine KopsK.pure ((46, .v _) :: (47, .v _) :: _) rfl (.inl rfl) (FromV.op 0 (by kernel_rfl) rfl rfl (FromV.op 1 (by kernel_rfl) rfl rfl FromV.all)) (fun B' => (OpOk.asV (.tuple #[aggV kY.v, .int .i64 0]) (wr_0 (x := x01) (w := 0) (r := recOf 1 9) (cp0 (x := x01) ⟨by decide, by decide⟩ x01_ck) (rec_ck 1 9)) (ok_call (WithRecord_fn x01 x01_fit 0 (recOf 1 9) (recOf_fit 1 9)) (A3 rfl rfl rfl)))) ?_
  refine KopsK.pure ((48, .v _) :: _) rfl (.inl rfl) (FromV.op 2 (by kernel_rfl) rfl rfl FromV.all) (fun B' => (ok_move rfl)) ?_
  refine KopsK.pure ((45, .v _) :: _) rfl (.inl rfl) (FromV.op 3 (by kernel_rfl) rfl rfl FromV.all) (fun B' => (ok_extractV rfl rfl)) ?_
  refine KopsK.pure ((45, .v _) :: _) rfl (.inl rfl) (FromV.op 3 (by kernel_rfl) rfl rfl FromV.all) (fun B' => (ok_extractV rfl rfl)) ?_
  refine KopsK.alloc 0 rfl rfl rfl rfl zero41 rfl ?_
  refine KopsK.store 0 ((49, .v _) :: _) rfl rfl rfl rfl (by kernel_rfl) (FromV.op 4 (by kernel_rfl) rfl rfl FromV.all) rfl (size41.of (kY_fit.len)) (by rw [kY_fit.len]; rfl) (NodT.one _) ?_
  refine KopsK.pure ((50, .v _) :: _) rfl (.inl rfl) (FromV.op 5 (by kernel_rfl) rfl rfl FromV.all) (fun B' => (ok_assign rfl)) ?_
  refine KopsK.nil ⟨by kernel_rfl, _, (FromW.op (t := 5) 8 rfl rfl FromW.all), fun bs hbs hds => ?_⟩
  have hb4 := hbs 0 (by simp)
  dsimp only [varEnv]
  generalize bs 0 = b4 at *
  have hBb4 := hb4.1
  have hlt_b3_b4 : b3 < b4 := hb4.2 1000003 _ _ _ rfl
  refine A.sub (KC 3 rfl (KC 4 rfl (KC 5 rfl (KC 1000003 rfl (KC 1000004 rfl (KC 1900000 rfl KN)))))) ?_
  refine A.regsK [⟨6, 6, 41, NodT.v (NodT.emp 0 0), 7, kZ.v⟩] (by kernel_rfl) (by kernel_rfl) (by kernel_rfl) ?_
  refine KopsK.pure (_) rfl (.inl rfl) FromV.all (fun B' => (ok_loadA (s := 1000003) (by decide) Tryd.underlying41 rfl (size41.of (x01_fit.len)) rfl rfl)) ?_
  refine KopsK.pure (_) rfl (.inl rfl) FromV.all (fun B' => (ok_call (lRecord_fn 2 9) (A2 rfl rfl))) ?_
  refine KopsK.pure ((52, .v _) :: (53, .v _) :: _) rfl (.inl rfl) (FromV.op 0 (by kernel_rfl) rfl rfl (FromV.op 1 (by kernel_rfl) rfl rfl FromV.all)) (fun B' => (OpOk.asV (.tuple #[aggV kZ.v, .int .i64 0]) (wr_0 (x := x01) (w := 1) (r := recOf 2 9) (cp0 (x := x01) ⟨by decide, by decide⟩ x01_ck) (rec_ck 2 9)) (ok_call (WithRecord_fn x01 x01_fit 1 (recOf 2 9) (recOf_fit 2 9)) (A3 rfl rfl rfl)))) ?_
  refine KopsK.pure ((54, .v _) :: _) rfl (.inl rfl) (FromV.op 2 (by kernel_rfl) rfl rfl FromV.all) (fun B' => (ok_move rfl)) ?_
  refine KopsK.pure ((51, .v _) :: _) rfl (.inl rfl) (FromV.op 3 (by kernel_rfl) rfl rfl FromV.all) (fun B' => (ok_extractV rfl rfl)) ?_
  refine KopsK.pure ((51, .v _) :: _) rfl (.inl rfl) (FromV.op 3 (by kernel_rfl) rfl rfl FromV.all) (fun B' => (ok_extractV rfl rfl)) ?_
  refine KopsK.alloc 0 rfl rfl rfl rfl zero41 rfl ?_
  refine KopsK.store 0 ((55, .v _) :: _) rfl rfl rfl rfl (by kernel_rfl) (FromV.op 4 (by kernel_rfl) rfl rfl FromV.all) rfl (size41.of (kZ_fit.len)) (by rw [kZ_fit.len]; rfl) (NodT.one _) ?_
  refine KopsK.pure ((56, .v _) :: _) rfl (.inl rfl) (FromV.op 5 (by kernel_rfl) rfl rfl FromV.all) (fun B' => (ok_assign rfl)) ?_
  refine KopsK.nil ⟨by kernel_rfl, _, (FromW.op (t := 7) 8 rfl rfl FromW.all), fun bs hbs hds => ?_⟩
  have hb6 := hbs 0 (by simp)
  dsimp only [varEnv]
  generalize bs 0 = b6 at *
  have hBb6 := hb6.1
  have hlt_b3_b6 : b3 < b6 := hb6.2 1000003 _ _ _ rfl
  have hlt_b4_b6 : b4 < b6 := hb6.2 1000004 _ _ _ rfl
  refine A.sub (KC 3 rfl (KC 4 rfl (KC 5 rfl (KC 6 rfl (KC 7 rfl (KC 1000003 rfl (KC 1000004 rfl (KC 1000006 rfl (KC 1900000 rfl KN))))))))) ?_
  refine GS ?_
  refine TN 6 ?_
  refine RS (ok_loadA (s := 1000003) (by decide) Tryd.underlying41 rfl (size41.of (x01_fit.len)) rfl rfl) ?_
  refine RS (ok_litS [(0, .int .u8 3)] r3.v ⟨rfl, rfl, trivial⟩ build3) ?_
  refine RS (ok_call (WithRecord_fn x01 x01_fit 1 r3 r3_fit) (A3 rfl rfl rfl)) ?_; refine RZ (.tuple #[aggV (NodT.emp 0 0).v, .int .i64 1]) (wr_b (x := x01) (w := 1) (cp0 (x := x01) ⟨by decide, by decide⟩ x01_ck) r3_ck) ?_
  refine RM rfl ?_
  refine RS (ok_extractV rfl rfl) ?_
  refine RS (ok_extractV rfl rfl) ?_
  refine RN ?_
  refine ⟨_, _, eff_alloc (n := 122) (d := 8) (k := 1000008) zero41 (by decide), fun b8 hb8 => ?_⟩
  have hBb8 := hb8.1
  have hlt_b3_b8 : b3 < b8 := hb8.2 1000003 _ _ _ rfl
  have hlt_b4_b8 : b4 < b8 := hb8.2 1000004 _ _ _ rfl
  have hlt_b6_b8 : b6 < b8 := hb8.2 1000006 _ _ _ rfl
  refine TF 7 ?_
  refine RN ?_
  refine ⟨_, eff_storeA (n := 122) (s := 1000008) (size41.of (rfl)) rfl rfl (by first | exact NodT.one _ | exact RecT.one _ | exact EntT.one _ | exact RecT.all1 _ | exact EntT.all1 _ | exact all_byte _ | exact all_bytes _) hBb8 rfl (by first | rfl | (rw [rfl]; rfl)) (LV 3 rfl (LV 4 rfl (LV 5 rfl (LV 6 rfl (LV 7 rfl (LV 62 rfl (LB 1000003 rfl (LB 1000004 rfl (LB 1000006 rfl (LeftS.cons (t := 1900000) rfl (Surv.tab (by omega)) LN)))))))))), ?_⟩
  refine TL ?_
  refine RA rfl ?_
  refine RN ?_
  refine GS ?_
  refine TN 7 ?_
  refine RS (ok_loadA (s := 1000003) (by decide) Tryd.underlying41 rfl (size41.of (x01_fit.len)) rfl rfl) ?_
  refine RS (ok_litS [(1, .int .u64 1)] [.int .u32 0, .int .u64 1] ⟨rfl, rfl, trivial⟩ buildK1) ?_
  refine RS (ok_litS [(1, aggV [.int .u32 0, .int .u64 1])] rc.v ⟨rfl, rfl, trivial⟩ buildC) ?_
  refine RS (ok_call (WithRecord_fn x01 x01_fit 1 rc rc_fit) (A3 rfl rfl rfl)) ?_; refine RZ (.tuple #[aggV (NodT.emp 0 0).v, .int .i64 1]) (wr_b (x := x01) (w := 1) (cp0 (x := x01) ⟨by decide, by decide⟩ x01_ck) rc_ck) ?_
  refine RM rfl ?_
  refine RS (ok_extractV rfl rfl) ?_
  refine RS (ok_extractV rfl rfl) ?_
  refine RN ?_
  refine ⟨_, _, eff_alloc (n := 122) (d := 10) (k := 1000010) zero41 (by decide), fun b10 hb10 => ?_⟩
  have hBb10 := hb10.1
  have hlt_b3_b10 : b3 < b10 := hb10.2 1000003 _ _ _ rfl
  have hlt_b4_b10 : b4 < b10 := hb10.2 1000004 _ _ _ rfl
  have hlt_b6_b10 : b6 < b10 := hb10.2 1000006 _ _ _ rfl
  have hlt_b8_b10 : b8 < b10 := hb10.2 1000008 _ _ _ rfl
  refine TF 8 ?_
  refine RN ?_
  refine ⟨_, eff_storeA (n := 122) (s := 1000010) (size41.of (rfl)) rfl rfl (by first | exact NodT.one _ | exact RecT.one _ | exact EntT.one _ | exact RecT.all1 _ | exact EntT.all1 _ | exact all_byte _ | exact all_bytes _) hBb10 rfl (by first | rfl | (rw [rfl]; rfl)) (LV 3 rfl (LV 4 rfl (LV 5 rfl (LV 6 rfl (LV 7 rfl (LV 9 rfl (LV 69 rfl (LB 1000003 rfl (LB 1000004 rfl (LB 1000006 rfl (LB 1000008 rfl (LeftS.cons (t := 1900000) rfl (Surv.tab (by omega)) LN)))))))))))), ?_⟩
  refine TL ?_
  refine RA rfl ?_
  refine RN ?_
  refine GS ?_
  refine TN 6 ?_
  refine RS (ok_loadA (s := 1000003) (by decide) Tryd.underlying41 rfl (size41.of (x01_fit.len)) rfl rfl) ?_
  refine RS (ok_lit [] (RecT.v RecT.zero) (fun _ _ => rfl) (by kernel_rfl)) ?_
  refine RS (ok_call (WithRecord_fn x01 x01_fit 4 RecT.zero RecT.zero_fit) (A3 rfl rfl rfl)) ?_; refine RZ (.tuple #[aggV (NodT.emp 0 0).v, .int .i64 1]) (wr_1 (x := x01) (w := 4) (cp1_place (by decide))) ?_
  refine RM rfl ?_
  refine RS (ok_extractV rfl rfl) ?_
  refine RS (ok_extractV rfl rfl) ?_
  refine RN ?_
  refine ⟨_, _, eff_alloc (n := 122) (d := 12) (k := 1000012) zero41 (by decide), fun b12 hb12 => ?_⟩
  have hBb12 := hb12.1
  have hlt_b3_b12 : b3 < b12 := hb12.2 1000003 _ _ _ rfl
  have hlt_b4_b12 : b4 < b12 := hb12.2 1000004 _ _ _ rfl
  have hlt_b6_b12 : b6 < b12 := hb12.2 1000006 _ _ _ rfl
  have hlt_b8_b12 : b8 < b12 := hb12.2 1000008 _ _ _ rfl
  have hlt_b10_b12 : b10 < b12 := hb12.2 1000010 _ _ _ rfl
  refine TF 7 ?_
  refine RN ?_
  refine ⟨_, eff_storeA (n := 122) (s := 1000012) (size41.of (rfl)) rfl rfl (by first | exact NodT.one _ | exact RecT.one _ | exact EntT.one _ | exact RecT.all1 _ | exact EntT.all1 _ | exact all_byte _ | exact all_bytes _) hBb12 rfl (by first | rfl | (rw [rfl]; rfl)) (LV 3 rfl (LV 4 rfl (LV 5 rfl (LV 6 rfl (LV 7 rfl (LV 9 rfl (LV 11 rfl (LV 75 rfl (LB 1000003 rfl (LB 1000004 rfl (LB 1000006 rfl (LB 1000008 rfl (LB 1000010 rfl (LeftS.cons (t := 1900000) rfl (Surv.tab (by omega)) LN)))))))))))))), ?_⟩
  refine TL ?_
  refine RA rfl ?_
  refine RN ?_
  refine A.sub (KC 3 rfl (KC 4 rfl (KC 5 rfl (KC 6 rfl (KC 7 rfl (KC 9 rfl (KC 11 rfl (KC 13 rfl (KC 1000003 rfl (KC 1000004 rfl (KC 1000006 rfl (KC 1000008 rfl (KC 1000010 rfl (KC 1000012 rfl (KC 1900000 rfl KN))))))))))))))) ?_
  refine GS ?_
  refine TL ?_
  refine RM rfl ?_
  refine RBS rfl rfl rfl (.bool true) (by rfl) ?_
  refine RM rfl ?_
  refine RQ (ok_move rfl) ?_
  refine RQ (ok_bin rfl rfl rfl) ?_; refine RZ (.bool true) (by rfl) ?_
  refine RP rfl rfl ?_
  refine RM rfl ?_
  refine RQ (ok_move rfl) ?_
  refine RQ (ok_bin rfl rfl rfl) ?_; refine RZ (.bool true) (by rfl) ?_
  refine RP rfl rfl ?_
  refine RM rfl ?_
  refine RQ (ok_move rfl) ?_
  refine RQ (ok_bin rfl rfl rfl) ?_; refine RZ (.bool true) (by rfl) ?_
  refine RP rfl rfl ?_
  refine RM rfl ?_
  refine RQ (ok_move rfl) ?_
  refine RQ (ok_bin rfl rfl rfl) ?_; refine RZ (.bool true) (by rfl) ?_
  refine RP rfl rfl ?_
  refine RM rfl ?_
  refine RQ (ok_loadA (s := 1000004) (by decide) Tryd.underlying41 rfl (size41.of (kY_fit.len)) rfl rfl) ?_
  refine RQ (ok_call (nFits_fn ((5 : Nat) : Int) kY kY_fit) (A2 rfl rfl)) ?_; refine RZ (.int .i64 0) (congrArg (Value.int .i64) (y5)) ?_
  refine RQ (ok_bin rfl rfl rfl) ?_; refine RZ (.bool true) (by rfl) ?_
  refine RP rfl rfl ?_
  refine RM rfl ?_
  refine RQ (ok_loadA (s := 1000006) (by decide) Tryd.underlying41 rfl (size41.of (kZ_fit.len)) rfl rfl) ?_
  refine RQ (ok_call (nFits_fn ((5 : Nat) : Int) kZ kZ_fit) (A2 rfl rfl)) ?_; refine RZ (.int .i64 17) (congrArg (Value.int .i64) (z5)) ?_
  refine RQ (ok_bin rfl rfl rfl) ?_; refine RZ (.bool true) (by rfl) ?_
  refine RP rfl rfl ?_
  refine RM rfl ?_
  refine RQ (ok_loadA (s := 1000006) (by decide) Tryd.underlying41 rfl (size41.of (kZ_fit.len)) rfl rfl) ?_
  refine RQ (ok_call (nFits_fn ((6 : Nat) : Int) kZ kZ_fit) (A2 rfl rfl)) ?_; refine RZ (.int .i64 0) (congrArg (Value.int .i64) (z6)) ?_
  refine RQ (ok_bin rfl rfl rfl) ?_; refine RZ (.bool true) (by rfl) ?_
  refine RP rfl rfl ?_
  refine RM rfl ?_
  refine RQ (ok_loadA (s := 1000004) (by decide) Tryd.underlying41 rfl (size41.of (kY_fit.len)) rfl rfl) ?_
  refine RQ (ok_call (nUsed_fn kY kY_fit) (A1 rfl)) ?_; refine RZ (nI (1)) (congrArg nI kY_us) ?_
  refine RQ (ok_bin rfl rfl rfl) ?_; refine RZ (.bool true) (by rfl) ?_
  refine RP rfl rfl ?_
  refine RM rfl ?_
  refine RQ (ok_loadA (s := 1000003) (by decide) Tryd.underlying41 rfl (size41.of (x01_fit.len)) rfl rfl) ?_
  refine RQ (ok_call (nUsed_fn x01 x01_fit) (A1 rfl)) ?_; refine RZ (nI (0)) (congrArg nI x01_us) ?_
  refine RQ (ok_bin rfl rfl rfl) ?_; refine RZ (.bool true) (by rfl) ?_
  refine RP rfl rfl ?_
  refine RM rfl ?_
  refine RQ (ok_callM lives13_fn (Sub.cons rfl KN) tabS_v Args.nil) ?_
  refine RP rfl rfl ?_
  refine RA rfl ?_
  refine RN ?_
  refine A.sub (KC 0 rfl (KC 1000003 rfl (KC 1000004 rfl (KC 1000006 rfl (KC 1000008 rfl (KC 1000010 rfl (KC 1000012 rfl (KC 1900000 rfl KN)))))))) ?_
  refine A.ret ?_
  exact End.ret1 rfl rfl (by first | exact Le.refl _ | exact Le.old _ _)
end Go.Proofs.YtlddnmblfgaimaaDoor
