/-
 The laws of caissonlaw08, part three: NoncesErrors.
-/
import Derived.Test.YtmedljdbamnoiaaShort
import Derived.Test.YtmedljdbamnoiaaC08d
namespace Go.Proofs.Ytmedljdbamnoiaa
open Go Go.RowKit
set_option linter.unusedVariables false
theorem Extend_any (cs : List Nat) (m l r : Nat) (hV : Valid cs m l r) (hl : l < 18446744073709551616) : Fn Try.prog 19 [hdD (vlst (rowQ cs)) (alR m l r)] (tup [anyS 4, anyD]) := by
 rcases Nat.lt_or_ge (l - m) r with h | h
 ·exact (Extend_nonce cs m l r hV hl h).le (any_tup rfl rfl)
 ·exact (Extend_ok cs m l r hV hl h).fn fun B => any_new (xs := fun b => .slice (some ⟨b, 0, none⟩) (cs.length) (cs.length) :: alR (m + r) l r) (fun _ => rfl) (fun _ => rfl) (fun _ => rfl)
theorem Crash_any (cs : List Nat) (m l r : Nat) (hV : Valid cs m l r) : Fn Try.prog 20 [hdD (vlst (rowQ cs)) (alR m l r)] (tup [anyS 4, anyD]) :=
 (Crash_ok cs m l r hV).fn fun B => any_new (xs := fun b => .slice (some ⟨b, 0, none⟩) (cs.length) (cs.length) :: alR m l r) (fun _ => rfl) (fun _ => rfl) (fun _ => rfl)
theorem valid_rep {n l r : Nat} (h1 : 1 ≤ n) (h2 : n ≤ 8) : Valid (List.replicate n 0) 0 l r ↔ Valid [0] 0 l r := by
 unfold Valid
 simp
 omega

theorem NE_long (cs : List Nat) (m l r : Nat) (hl : l < 18446744073709551616) (n : Int) (h : 20 < cs.length) : Fn Try.prog 4 [hdD (vlst (rowQ cs)) (alR m l r), .v (.int .i64 n)] (.v (.bool true)) := by
 refine Fn.of Try.func4 rfl (by kernel_rfl) Try.ntmps4 (by simp) (fun w => [(0, old w.heap.size (hdD (vlst (rowQ cs)) (alR m l r))), (1, .v (.int .i64 n))]) (fun w => (Start.old rfl (Start.v rfl Start.nil))) fun w₀ => ?_
 refine A.nameHd (t := 0) (k := 1000200) rfl fun v hv => ?_
 refine GS ?_
 refine TN 0 ?_
 refine RN ?_
 refine ⟨_, _, eff_box (n := 152) (d := 2) (k := 1000002) rfl (by decide), fun b2 hb2 => ?_⟩
 have hBb2 := hb2.1
 refine TL ?_
 refine RA rfl ?_
 refine RN ?_
 refine A.seq ?_
 refine GS ?_
 refine TL ?_
 refine RS (ok_field field36_0 (by decide) rfl) ?_
 refine RS (OpOk.valO (ok_loadV (s := 1000002) (by decide) Try.underlying34 rfl rfl rfl (rfl)) (k := 1000200) (by decide) rfl) ?_
 refine RS (ok_lenU cs.length Try.underlying34 rfl LA (rowQ_length cs)) ?_
 refine RBS rfl rfl rfl (.bool true) (by first | (simp; done) | (simp; omega)) ?_
 refine RN ?_
 refine A.yes rfl ?_
 refine GS ?_
 refine TL ?_
 refine RS (ok_call lives8_fn Args.nil) ?_
 refine RA rfl ?_
 refine RN ?_
 refine A.ret ?_
 refine End.ret_then ?_
 exact End.ret1 rfl rfl (by first | exact Le.refl _ | exact Le.old _ _)
set_option maxHeartbeats 2000000 in
theorem NE_A1_L (cs : List Nat) (m l r : Nat) (hl : l < 18446744073709551616) (h20 : cs.length ≤ 20) (n : Int) (hn : n < 1) (hV : Valid cs m l r) (h3 : 0 ≤ n) (h4 : n < cs.length)  : Fn Try.prog 4 [hdD (vlst (rowQ cs)) (alR m l r), .v (.int .i64 n)] (.v (.bool true)) := by
 have hle8 : cs.length ≤ 8 := hV.2.1
 have hle1 : 1 ≤ cs.length := hV.1
 refine Fn.of Try.func4 rfl (by kernel_rfl) Try.ntmps4 (by simp) (fun w => [(0, old w.heap.size (hdD (vlst (rowQ cs)) (alR m l r))), (1, .v (.int .i64 n))]) (fun w => (Start.old rfl (Start.v rfl Start.nil))) fun w₀ => ?_
 refine A.nameHd (t := 0) (k := 1000200) rfl fun v hv => ?_
 refine GS ?_
 refine TN 0 ?_
 refine RN ?_
 refine ⟨_, _, eff_box (n := 152) (d := 2) (k := 1000002) rfl (by decide), fun b2 hb2 => ?_⟩
 have hBb2 := hb2.1
 refine TL ?_
 refine RA rfl ?_
 refine RN ?_
 refine A.seq ?_
 refine GS ?_
 refine TL ?_
 refine RS (ok_field field36_0 (by decide) rfl) ?_
 refine RS (OpOk.valO (ok_loadV (s := 1000002) (by decide) Try.underlying34 rfl rfl rfl (rfl)) (k := 1000200) (by decide) rfl) ?_
 refine RS (ok_lenU cs.length Try.underlying34 rfl LA (rowQ_length cs)) ?_
 refine RBS rfl rfl rfl (.bool false) (by first | (simp; done) | (simp; omega)) ?_
 refine RN ?_
 refine A.no rfl ?_
 refine A.skip ?_
 refine EN ?_
 refine GS ?_
 refine TL ?_
 refine RS (ok_field field36_0 (by decide) rfl) ?_
 refine RS (OpOk.valO (ok_loadV (s := 1000002) (by decide) Try.underlying34 rfl rfl rfl (rfl)) (k := 1000200) (by decide) rfl) ?_
 refine RS (ok_field field36_1 (by decide) rfl) ?_
 refine RS (ok_loadV (s := 1000002) (by decide) Try.underlying23 rfl rfl rfl (rfl)) ?_
 refine RS (ok_field field36_2 (by decide) rfl) ?_
 refine RS (ok_loadV (s := 1000002) (by decide) Try.underlying23 rfl rfl rfl (rfl)) ?_
 refine RS (ok_field field36_3 (by decide) rfl) ?_
 refine RS (ok_loadV (s := 1000002) (by decide) Try.underlying23 rfl rfl rfl (rfl)) ?_
 refine RS (ok_call (refCheck_ok cs m l r hV) (Args.cons rfl (Le.old _ _) (A3 rfl rfl rfl))) ?_
 refine RA rfl ?_
 refine RN ?_
 refine GS ?_
 refine TN 9 ?_
 refine RM rfl ?_
 refine RS (ok_field field36_2 (by decide) rfl) ?_
 refine RS (ok_loadV (s := 1000002) (by decide) Try.underlying23 rfl rfl rfl (rfl)) ?_
 refine RS (ok_field field36_3 (by decide) rfl) ?_
 refine RS (ok_loadV (s := 1000002) (by decide) Try.underlying23 rfl rfl rfl (rfl)) ?_
 refine RS (ok_call (New_A n l r (by omega)) (A3 rfl rfl rfl)) ?_
 refine RM rfl ?_
 refine RS (ok_extractV rfl rfl) ?_
 refine RS (ok_extractV rfl rfl) ?_
 refine RN ?_
 refine ⟨_, _, eff_alloc (n := 152) (d := 6) (k := 1000006) zero36 (by decide), fun b6 hb6 => ?_⟩
 have hBb6 := hb6.1
 have hlt_b2_b6 : b2 < b6 := hb6.2 1000002 _ _ _ rfl
 refine TF 10 ?_
 refine RN ?_
 refine ⟨_, eff_storeA (n := 152) (s := 1000006) (size36.of (rfl)) rfl rfl (rfl) hBb6 rfl (rfl) (LV 1 rfl (LV 2 rfl (LV 5 rfl (LV 6 rfl (LV 39 rfl (LB 1000002 rfl (LO 1000200 rfl LN))))))), ?_⟩
 refine TL ?_
 refine RA rfl ?_
 refine RN ?_
 refine A.sub (KC 1 rfl (KC 2 rfl (KC 5 rfl (KC 6 rfl (KC 7 rfl (KC 1000002 rfl (KC 1000006 rfl (KC 1000200 rfl KN)))))))) ?_
 refine A.seq ?_
 refine GS ?_
 refine TL ?_
 refine RS (OpOk.hdO (ok_loadA (s := 1000002) (by decide) Try.underlying36 rfl (size36.of (rfl)) rfl rfl) hv (k := 1000200) (by decide) rfl) ?_
 refine RS (ok_call (Check_ok cs m l r hV) (Args.cons rfl (Le.old _ _) Args.nil)) ?_
 refine RM rfl ?_
 refine RBS rfl rfl rfl (.bool false) (by rfl) ?_
 refine RN ?_
 refine A.no rfl ?_
 refine A.skip ?_
 refine EN ?_
 refine A.seq ?_
 refine GS ?_
 refine TL ?_
 refine RM rfl ?_
 refine RBS rfl rfl rfl (.bool true) (by first | (simp; done) | (simp; omega)) ?_
 refine RM rfl ?_
 refine RK ?_
 refine RK ?_
 refine RP rfl rfl ?_
 refine RM rfl ?_
 refine RK ?_
 refine RK ?_
 refine RK ?_
 refine RK ?_
 refine RK ?_
 refine RK ?_
 refine RK ?_
 refine RP rfl rfl ?_
 refine RN ?_
 refine A.yes rfl ?_
 refine GS ?_
 refine TL ?_
 refine RM rfl ?_
 refine RBS rfl rfl rfl (.bool false) (by rfl) ?_
 refine RM rfl ?_
 refine RQ (ok_field field36_0 (by decide) rfl) ?_
 refine RQ (ok_loadV (s := 1000006) (by decide) Try.underlying34 rfl rfl rfl (rfl)) ?_
 refine RQ (ok_lenV Try.underlying34 rfl) ?_
 refine RQ (ok_bin rfl rfl rfl) ?_; refine RZ (.bool false) (by rfl) ?_
 refine RP rfl rfl ?_
 refine RN ?_
 refine A.sub (KC 1 rfl (KC 2 rfl (KC 5 rfl (KC 66 rfl (KC 1000002 rfl (KC 1000006 rfl (KC 1000200 rfl KN))))))) ?_
 refine A.no rfl ?_
 refine A.skip ?_
 refine EN ?_
 refine A.seq ?_
 refine GS ?_
 refine TL ?_
 refine RM rfl ?_
 refine RBS rfl rfl rfl (.bool true) (by rfl) ?_
 refine RM rfl ?_
 refine RQ (ok_move rfl) ?_
 refine RQ (ok_bin rfl rfl rfl) ?_; refine RZ (.bool true) (by first | (simp; done) | (simp; omega)) ?_
 refine RP rfl rfl ?_
 refine RM rfl ?_
 refine RQ (ok_move rfl) ?_
 refine RQ (ok_field field36_0 (by decide) rfl) ?_
 refine RQ (OpOk.valO (ok_loadV (s := 1000002) (by decide) Try.underlying34 rfl rfl rfl (rfl)) (k := 1000200) (by decide) rfl) ?_
 refine RQ (ok_lenU cs.length Try.underlying34 rfl LA (rowQ_length cs)) ?_
 refine RQ (ok_bin rfl rfl rfl) ?_; refine RZ (.bool true) (by first | (simp; done) | (simp; omega)) ?_
 refine RP rfl rfl ?_
 refine RN ?_
 refine A.yes rfl ?_
 refine GS ?_
 refine TL ?_
 refine RS (ok_call lives8_fn Args.nil) ?_
 refine RA rfl ?_
 refine RN ?_
 refine A.ret ?_
 refine End.ret_then ?_
 exact End.ret1 rfl rfl (by first | exact Le.refl _ | exact Le.old _ _)
set_option maxHeartbeats 2000000 in
theorem NE_A1_X1 (cs : List Nat) (m l r : Nat) (hl : l < 18446744073709551616) (h20 : cs.length ≤ 20) (n : Int) (hn : n < 1) (hV : Valid cs m l r) (h3 : n < 0)  : Fn Try.prog 4 [hdD (vlst (rowQ cs)) (alR m l r), .v (.int .i64 n)] (.v (.bool true)) := by
 have hle8 : cs.length ≤ 8 := hV.2.1
 have hle1 : 1 ≤ cs.length := hV.1
 have hno : ¬ (0 ≤ n ∧ n < (cs.length : Int) ∧ Valid cs m l r) := fun h => by omega
 refine Fn.of Try.func4 rfl (by kernel_rfl) Try.ntmps4 (by simp) (fun w => [(0, old w.heap.size (hdD (vlst (rowQ cs)) (alR m l r))), (1, .v (.int .i64 n))]) (fun w => (Start.old rfl (Start.v rfl Start.nil))) fun w₀ => ?_
 refine A.nameHd (t := 0) (k := 1000200) rfl fun v hv => ?_
 refine GS ?_
 refine TN 0 ?_
 refine RN ?_
 refine ⟨_, _, eff_box (n := 152) (d := 2) (k := 1000002) rfl (by decide), fun b2 hb2 => ?_⟩
 have hBb2 := hb2.1
 refine TL ?_
 refine RA rfl ?_
 refine RN ?_
 refine A.seq ?_
 refine GS ?_
 refine TL ?_
 refine RS (ok_field field36_0 (by decide) rfl) ?_
 refine RS (OpOk.valO (ok_loadV (s := 1000002) (by decide) Try.underlying34 rfl rfl rfl (rfl)) (k := 1000200) (by decide) rfl) ?_
 refine RS (ok_lenU cs.length Try.underlying34 rfl LA (rowQ_length cs)) ?_
 refine RBS rfl rfl rfl (.bool false) (by first | (simp; done) | (simp; omega)) ?_
 refine RN ?_
 refine A.no rfl ?_
 refine A.skip ?_
 refine EN ?_
 refine GS ?_
 refine TL ?_
 refine RS (ok_field field36_0 (by decide) rfl) ?_
 refine RS (OpOk.valO (ok_loadV (s := 1000002) (by decide) Try.underlying34 rfl rfl rfl (rfl)) (k := 1000200) (by decide) rfl) ?_
 refine RS (ok_field field36_1 (by decide) rfl) ?_
 refine RS (ok_loadV (s := 1000002) (by decide) Try.underlying23 rfl rfl rfl (rfl)) ?_
 refine RS (ok_field field36_2 (by decide) rfl) ?_
 refine RS (ok_loadV (s := 1000002) (by decide) Try.underlying23 rfl rfl rfl (rfl)) ?_
 refine RS (ok_field field36_3 (by decide) rfl) ?_
 refine RS (ok_loadV (s := 1000002) (by decide) Try.underlying23 rfl rfl rfl (rfl)) ?_
 refine RS (ok_call (refCheck_ok cs m l r hV) (Args.cons rfl (Le.old _ _) (A3 rfl rfl rfl))) ?_
 refine RA rfl ?_
 refine RN ?_
 refine GS ?_
 refine TN 9 ?_
 refine RM rfl ?_
 refine RS (ok_field field36_2 (by decide) rfl) ?_
 refine RS (ok_loadV (s := 1000002) (by decide) Try.underlying23 rfl rfl rfl (rfl)) ?_
 refine RS (ok_field field36_3 (by decide) rfl) ?_
 refine RS (ok_loadV (s := 1000002) (by decide) Try.underlying23 rfl rfl rfl (rfl)) ?_
 refine RS (ok_call (New_A n l r (by omega)) (A3 rfl rfl rfl)) ?_
 refine RM rfl ?_
 refine RS (ok_extractV rfl rfl) ?_
 refine RS (ok_extractV rfl rfl) ?_
 refine RN ?_
 refine ⟨_, _, eff_alloc (n := 152) (d := 6) (k := 1000006) zero36 (by decide), fun b6 hb6 => ?_⟩
 have hBb6 := hb6.1
 have hlt_b2_b6 : b2 < b6 := hb6.2 1000002 _ _ _ rfl
 refine TF 10 ?_
 refine RN ?_
 refine ⟨_, eff_storeA (n := 152) (s := 1000006) (size36.of (rfl)) rfl rfl (rfl) hBb6 rfl (rfl) (LV 1 rfl (LV 2 rfl (LV 5 rfl (LV 6 rfl (LV 39 rfl (LB 1000002 rfl (LO 1000200 rfl LN))))))), ?_⟩
 refine TL ?_
 refine RA rfl ?_
 refine RN ?_
 refine A.sub (KC 1 rfl (KC 2 rfl (KC 5 rfl (KC 6 rfl (KC 7 rfl (KC 1000002 rfl (KC 1000006 rfl (KC 1000200 rfl KN)))))))) ?_
 refine A.seq ?_
 refine GS ?_
 refine TL ?_
 refine RS (OpOk.hdO (ok_loadA (s := 1000002) (by decide) Try.underlying36 rfl (size36.of (rfl)) rfl rfl) hv (k := 1000200) (by decide) rfl) ?_
 refine RS (ok_call (Check_ok cs m l r hV) (Args.cons rfl (Le.old _ _) Args.nil)) ?_
 refine RM rfl ?_
 refine RBS rfl rfl rfl (.bool false) (by rfl) ?_
 refine RN ?_
 refine A.no rfl ?_
 refine A.skip ?_
 refine EN ?_
 refine A.seq ?_
 refine GS ?_
 refine TL ?_
 refine RM rfl ?_
 refine RBS rfl rfl rfl (.bool true) (by first | (simp; done) | (simp; omega)) ?_
 refine RM rfl ?_
 refine RK ?_
 refine RK ?_
 refine RP rfl rfl ?_
 refine RM rfl ?_
 refine RK ?_
 refine RK ?_
 refine RK ?_
 refine RK ?_
 refine RK ?_
 refine RK ?_
 refine RK ?_
 refine RP rfl rfl ?_
 refine RN ?_
 refine A.yes rfl ?_
 refine GS ?_
 refine TL ?_
 refine RM rfl ?_
 refine RBS rfl rfl rfl (.bool false) (by rfl) ?_
 refine RM rfl ?_
 refine RQ (ok_field field36_0 (by decide) rfl) ?_
 refine RQ (ok_loadV (s := 1000006) (by decide) Try.underlying34 rfl rfl rfl (rfl)) ?_
 refine RQ (ok_lenV Try.underlying34 rfl) ?_
 refine RQ (ok_bin rfl rfl rfl) ?_; refine RZ (.bool false) (by rfl) ?_
 refine RP rfl rfl ?_
 refine RN ?_
 refine A.sub (KC 1 rfl (KC 2 rfl (KC 5 rfl (KC 66 rfl (KC 1000002 rfl (KC 1000006 rfl (KC 1000200 rfl KN))))))) ?_
 refine A.no rfl ?_
 refine A.skip ?_
 refine EN ?_
 refine A.seq ?_
 refine GS ?_
 refine TL ?_
 refine RM rfl ?_
 refine RBS rfl rfl rfl (.bool true) (by rfl) ?_
 refine RM rfl ?_
 refine RQ (ok_move rfl) ?_
 refine RQ (ok_bin rfl rfl rfl) ?_; refine RZ (.bool false) (by first | (simp; done) | (simp; omega)) ?_
 refine RP rfl rfl ?_
 refine RM rfl ?_
 refine RK ?_
 refine RK ?_
 refine RK ?_
 refine RK ?_
 refine RK ?_
 refine RP rfl rfl ?_
 refine RN ?_
 refine A.no rfl ?_
 refine A.skip ?_
 refine EN ?_
 refine GS ?_
 refine TN 7 ?_
 refine RS (OpOk.hdO (ok_loadA (s := 1000002) (by decide) Try.underlying36 rfl (size36.of (rfl)) rfl rfl) hv (k := 1000200) (by decide) rfl) ?_
 refine RM rfl ?_
 refine RS (ok_call (Take_no cs m l r n hno) (Args.cons rfl (Le.old _ _) (A1 rfl))) ?_
 refine RM rfl ?_
 refine RS (ok_extractV rfl rfl) ?_
 refine RS (ok_extractV rfl rfl) ?_
 refine RS (ok_extractV rfl rfl) ?_
 refine RN ?_
 refine ⟨_, _, eff_alloc (n := 152) (d := 8) (k := 1000008) zero25 (by decide), fun b8 hb8 => ?_⟩
 have hBb8 := hb8.1
 refine TN 8 ?_
 refine RN ?_
 refine ⟨_, _, eff_alloc (n := 152) (d := 9) (k := 1000009) zero36 (by decide), fun b9 hb9 => ?_⟩
 have hBb9 := hb9.1
 have hlt_b2_b9 : b2 < b9 := hb9.2 1000002 _ _ _ rfl
 have hlt_b6_b9 : b6 < b9 := hb9.2 1000006 _ _ _ rfl
 refine TF 9 ?_
 refine RN ?_
 refine ⟨_, eff_storeA (n := 152) (s := 1000008) (size25.of (rfl)) rfl rfl (rfl) hBb8 rfl (rfl) (LV 1 rfl (LV 2 rfl (LV 5 rfl (LV 8 rfl (LV 9 rfl (LV 100 rfl (LV 101 rfl (LT 1000002 rfl (LT 1000006 rfl (LT 1000009 rfl (LO 1000200 rfl LN))))))))))), ?_⟩
 refine TF 10 ?_
 refine RN ?_
 refine ⟨_, eff_storeA (n := 152) (s := 1000009) (size36.of (rfl)) rfl rfl (rfl) hBb9 rfl (rfl) (LV 1 rfl (LV 2 rfl (LV 5 rfl (LV 8 rfl (LV 9 rfl (LV 101 rfl (LB 1000002 rfl (LB 1000006 rfl (LT 1000008 rfl (LO 1000200 rfl LN)))))))))), ?_⟩
 refine TL ?_
 refine RA rfl ?_
 refine RN ?_
 refine A.sub (KC 1 rfl (KC 2 rfl (KC 5 rfl (KC 8 rfl (KC 9 rfl (KC 10 rfl (KC 1000002 rfl (KC 1000006 rfl (KC 1000008 rfl (KC 1000009 rfl (KC 1000200 rfl KN))))))))))) ?_
 refine GS ?_
 refine TL ?_
 refine RS (OpOk.hdO (ok_loadA (s := 1000002) (by decide) Try.underlying36 rfl (size36.of (rfl)) rfl rfl) hv (k := 1000200) (by decide) rfl) ?_
 refine RM rfl ?_
 refine RS (ok_call (Left_no cs m l r n hno) (Args.cons rfl (Le.old _ _) (A1 rfl))) ?_
 refine RM rfl ?_
 refine RS (ok_extractV rfl rfl) ?_
 refine RS (ok_extractV rfl rfl) ?_
 refine RA rfl ?_
 refine RA rfl ?_
 refine RN ?_
 refine A.seq ?_
 refine GS ?_
 refine TL ?_
 refine RM rfl ?_
 refine RBS rfl rfl rfl (.bool false) (by rfl) ?_
 refine RM rfl ?_
 refine RQ (ok_loadA (s := 1000008) (by decide) Try.underlying25 rfl (size25.of (rfl)) rfl rfl) ?_
 refine RQ (ok_lit [] ([.int .u32 0] ++ [.int .u64 0]) (fun _ _ => rfl) (by kernel_rfl)) ?_
 refine RQ (ok_neqT (n := 3) true flatN (by decide) (by kernel_rfl) (by kernel_rfl) rfl rfl (kinN _ _) (kinN _ _) ⟨fun _ => rfl, fun _ => rfl⟩) ?_; refine RZ (.bool false) (by rfl) ?_
 refine RP rfl rfl ?_
 refine RM rfl ?_
 refine RQ (ok_field field36_0 (by decide) rfl) ?_
 refine RQ (ok_loadV (s := 1000009) (by decide) Try.underlying34 rfl rfl rfl (rfl)) ?_
 refine RQ (ok_lenV Try.underlying34 rfl) ?_
 refine RQ (ok_bin rfl rfl rfl) ?_; refine RZ (.bool false) (by rfl) ?_
 refine RP rfl rfl ?_
 refine RM rfl ?_
 refine RQ (ok_move rfl) ?_
 refine RQ (ok_bin rfl rfl rfl) ?_; refine RZ (.bool false) (by rfl) ?_
 refine RP rfl rfl ?_
 refine RM rfl ?_
 refine RQ (ok_move rfl) ?_
 refine RQ (ok_bin rfl rfl rfl) ?_; refine RZ (.bool false) (by rfl) ?_
 refine RP rfl rfl ?_
 refine RN ?_
 refine A.sub (KC 2 rfl (KC 5 rfl (KC 128 rfl (KC 1000002 rfl (KC 1000006 rfl (KC 1000008 rfl (KC 1000009 rfl (KC 1000200 rfl KN)))))))) ?_
 refine A.no rfl ?_
 refine A.skip ?_
 refine EN ?_
 refine GS ?_
 refine TN 5 ?_
 refine RS (OpOk.hdO (ok_loadA (s := 1000002) (by decide) Try.underlying36 rfl (size36.of (rfl)) rfl rfl) hv (k := 1000200) (by decide) rfl) ?_
 refine RS (ok_call (Extend_any cs m l r hV hl) (Args.cons rfl (Le.old _ _) Args.nil)) ?_
 refine RM rfl ?_
 refine RS (ok_extract rfl rfl) ?_
 refine RS (ok_extract rfl rfl) ?_
 refine RN ?_
 refine ⟨_, _, eff_alloc (n := 152) (d := 13) (k := 1000013) zero36 (by decide), fun b13 hb13 => ?_⟩
 have hBb13 := hb13.1
 have hlt_b2_b13 : b2 < b13 := hb13.2 1000002 _ _ _ rfl
 have hlt_b6_b13 : b6 < b13 := hb13.2 1000006 _ _ _ rfl
 have hlt_b9_b13 : b9 < b13 := hb13.2 1000009 _ _ _ rfl
 refine TF 6 ?_
 refine RN ?_
 refine ⟨_, eff_storeX (n := 152) (s := 1000013) size36 rfl rfl hBb13 rfl rfl (LV 2 rfl (LV 5 rfl (LeftS.cons (t := 133) rfl (Surv.any) (LB 1000002 rfl (LB 1000006 rfl (LT 1000008 rfl (LB 1000009 rfl (LO 1000200 rfl LN)))))))), ?_⟩
 refine TL ?_
 refine RA rfl ?_
 refine RN ?_
 refine GS ?_
 refine TN 5 ?_
 refine RS (OpOk.hdO (ok_loadA (s := 1000002) (by decide) Try.underlying36 rfl (size36.of (rfl)) rfl rfl) hv (k := 1000200) (by decide) rfl) ?_
 refine RS (ok_call (Crash_any cs m l r hV) (Args.cons rfl (Le.old _ _) Args.nil)) ?_
 refine RM rfl ?_
 refine RS (ok_extract rfl rfl) ?_
 refine RS (ok_extract rfl rfl) ?_
 refine RN ?_
 refine ⟨_, _, eff_alloc (n := 152) (d := 15) (k := 1000015) zero36 (by decide), fun b15 hb15 => ?_⟩
 have hBb15 := hb15.1
 have hlt_b2_b15 : b2 < b15 := hb15.2 1000002 _ _ _ rfl
 have hlt_b6_b15 : b6 < b15 := hb15.2 1000006 _ _ _ rfl
 have hlt_b9_b15 : b9 < b15 := hb15.2 1000009 _ _ _ rfl
 refine TF 6 ?_
 refine RN ?_
 refine ⟨_, eff_storeX (n := 152) (s := 1000015) size36 rfl rfl hBb15 rfl rfl (LV 5 rfl (LeftS.cons (t := 14) rfl (Surv.any) (LeftS.cons (t := 138) rfl (Surv.any) (LB 1000002 rfl (LB 1000006 rfl (LT 1000008 rfl (LB 1000009 rfl (LO 1000200 rfl LN)))))))), ?_⟩
 refine TL ?_
 refine RA rfl ?_
 refine RN ?_
 refine GS ?_
 refine TL ?_
 refine RM rfl ?_
 refine RBS rfl rfl rfl (.bool true) (by rfl) ?_
 refine RM rfl ?_
 refine RK ?_
 refine RK ?_
 refine RK ?_
 refine RunK.skippedU rfl rfl rfl rfl ?_
 refine RunK.skippedU rfl rfl rfl rfl ?_
 refine RK ?_
 refine RP rfl rfl ?_
 refine RM rfl ?_
 refine RQ (ok_call lives8_fn Args.nil) ?_
 refine RP rfl rfl ?_
 refine RA rfl ?_
 refine RN ?_
 refine A.sub (KC 4 rfl (KC 1000002 rfl (KC 1000006 rfl (KC 1000008 rfl (KC 1000009 rfl (KC 1000200 rfl KN)))))) ?_
 refine A.ret ?_
 exact End.ret1 rfl rfl (by first | exact Le.refl _ | exact Le.old _ _)
set_option maxHeartbeats 2000000 in
theorem NE_A1_Y (cs : List Nat) (m l r : Nat) (hl : l < 18446744073709551616) (h20 : cs.length ≤ 20) (n : Int) (hn : n < 1) (hV : ¬ Valid cs m l r)  : Fn Try.prog 4 [hdD (vlst (rowQ cs)) (alR m l r), .v (.int .i64 n)] (.v (.bool true)) := by
 have hle20 : cs.length ≤ 20 := h20
 have hno : ¬ (0 ≤ n ∧ n < (cs.length : Int) ∧ Valid cs m l r) := fun h => hV h.2.2
 refine Fn.of Try.func4 rfl (by kernel_rfl) Try.ntmps4 (by simp) (fun w => [(0, old w.heap.size (hdD (vlst (rowQ cs)) (alR m l r))), (1, .v (.int .i64 n))]) (fun w => (Start.old rfl (Start.v rfl Start.nil))) fun w₀ => ?_
 refine A.nameHd (t := 0) (k := 1000200) rfl fun v hv => ?_
 refine GS ?_
 refine TN 0 ?_
 refine RN ?_
 refine ⟨_, _, eff_box (n := 152) (d := 2) (k := 1000002) rfl (by decide), fun b2 hb2 => ?_⟩
 have hBb2 := hb2.1
 refine TL ?_
 refine RA rfl ?_
 refine RN ?_
 refine A.seq ?_
 refine GS ?_
 refine TL ?_
 refine RS (ok_field field36_0 (by decide) rfl) ?_
 refine RS (OpOk.valO (ok_loadV (s := 1000002) (by decide) Try.underlying34 rfl rfl rfl (rfl)) (k := 1000200) (by decide) rfl) ?_
 refine RS (ok_lenU cs.length Try.underlying34 rfl LA (rowQ_length cs)) ?_
 refine RBS rfl rfl rfl (.bool false) (by first | (simp; done) | (simp; omega)) ?_
 refine RN ?_
 refine A.no rfl ?_
 refine A.skip ?_
 refine EN ?_
 refine GS ?_
 refine TL ?_
 refine RS (ok_field field36_0 (by decide) rfl) ?_
 refine RS (OpOk.valO (ok_loadV (s := 1000002) (by decide) Try.underlying34 rfl rfl rfl (rfl)) (k := 1000200) (by decide) rfl) ?_
 refine RS (ok_field field36_1 (by decide) rfl) ?_
 refine RS (ok_loadV (s := 1000002) (by decide) Try.underlying23 rfl rfl rfl (rfl)) ?_
 refine RS (ok_field field36_2 (by decide) rfl) ?_
 refine RS (ok_loadV (s := 1000002) (by decide) Try.underlying23 rfl rfl rfl (rfl)) ?_
 refine RS (ok_field field36_3 (by decide) rfl) ?_
 refine RS (ok_loadV (s := 1000002) (by decide) Try.underlying23 rfl rfl rfl (rfl)) ?_
 refine RS (ok_call (refCheck_bad cs m l r hV) (Args.cons rfl (Le.old _ _) (A3 rfl rfl rfl))) ?_
 refine RA rfl ?_
 refine RN ?_
 refine GS ?_
 refine TN 9 ?_
 refine RM rfl ?_
 refine RS (ok_field field36_2 (by decide) rfl) ?_
 refine RS (ok_loadV (s := 1000002) (by decide) Try.underlying23 rfl rfl rfl (rfl)) ?_
 refine RS (ok_field field36_3 (by decide) rfl) ?_
 refine RS (ok_loadV (s := 1000002) (by decide) Try.underlying23 rfl rfl rfl (rfl)) ?_
 refine RS (ok_call (New_A n l r (by omega)) (A3 rfl rfl rfl)) ?_
 refine RM rfl ?_
 refine RS (ok_extractV rfl rfl) ?_
 refine RS (ok_extractV rfl rfl) ?_
 refine RN ?_
 refine ⟨_, _, eff_alloc (n := 152) (d := 6) (k := 1000006) zero36 (by decide), fun b6 hb6 => ?_⟩
 have hBb6 := hb6.1
 have hlt_b2_b6 : b2 < b6 := hb6.2 1000002 _ _ _ rfl
 refine TF 10 ?_
 refine RN ?_
 refine ⟨_, eff_storeA (n := 152) (s := 1000006) (size36.of (rfl)) rfl rfl (rfl) hBb6 rfl (rfl) (LV 1 rfl (LV 2 rfl (LV 5 rfl (LV 6 rfl (LV 39 rfl (LB 1000002 rfl (LO 1000200 rfl LN))))))), ?_⟩
 refine TL ?_
 refine RA rfl ?_
 refine RN ?_
 refine A.sub (KC 1 rfl (KC 2 rfl (KC 5 rfl (KC 6 rfl (KC 7 rfl (KC 1000002 rfl (KC 1000006 rfl (KC 1000200 rfl KN)))))))) ?_
 refine A.seq ?_
 refine GS ?_
 refine TL ?_
 refine RS (OpOk.hdO (ok_loadA (s := 1000002) (by decide) Try.underlying36 rfl (size36.of (rfl)) rfl rfl) hv (k := 1000200) (by decide) rfl) ?_
 refine RS (ok_call (Check_bad cs m l r hV) (Args.cons rfl (Le.old _ _) Args.nil)) ?_
 refine RM rfl ?_
 refine RBS rfl rfl rfl (.bool false) (by rfl) ?_
 refine RN ?_
 refine A.no rfl ?_
 refine A.skip ?_
 refine EN ?_
 refine A.seq ?_
 refine GS ?_
 refine TL ?_
 refine RM rfl ?_
 refine RBS rfl rfl rfl (.bool true) (by first | (simp; done) | (simp; omega)) ?_
 refine RM rfl ?_
 refine RK ?_
 refine RK ?_
 refine RP rfl rfl ?_
 refine RM rfl ?_
 refine RK ?_
 refine RK ?_
 refine RK ?_
 refine RK ?_
 refine RK ?_
 refine RK ?_
 refine RK ?_
 refine RP rfl rfl ?_
 refine RN ?_
 refine A.yes rfl ?_
 refine GS ?_
 refine TL ?_
 refine RM rfl ?_
 refine RBS rfl rfl rfl (.bool false) (by rfl) ?_
 refine RM rfl ?_
 refine RQ (ok_field field36_0 (by decide) rfl) ?_
 refine RQ (ok_loadV (s := 1000006) (by decide) Try.underlying34 rfl rfl rfl (rfl)) ?_
 refine RQ (ok_lenV Try.underlying34 rfl) ?_
 refine RQ (ok_bin rfl rfl rfl) ?_; refine RZ (.bool false) (by rfl) ?_
 refine RP rfl rfl ?_
 refine RN ?_
 refine A.sub (KC 1 rfl (KC 2 rfl (KC 5 rfl (KC 66 rfl (KC 1000002 rfl (KC 1000006 rfl (KC 1000200 rfl KN))))))) ?_
 refine A.no rfl ?_
 refine A.skip ?_
 refine EN ?_
 refine A.seq ?_
 refine GS ?_
 refine TL ?_
 refine RM rfl ?_
 refine RBS rfl rfl rfl (.bool false) (by rfl) ?_
 refine RM rfl ?_
 refine RK ?_
 refine RK ?_
 refine RP rfl rfl ?_
 refine RM rfl ?_
 refine RK ?_
 refine RK ?_
 refine RK ?_
 refine RK ?_
 refine RK ?_
 refine RP rfl rfl ?_
 refine RN ?_
 refine A.no rfl ?_
 refine A.skip ?_
 refine EN ?_
 refine GS ?_
 refine TN 7 ?_
 refine RS (OpOk.hdO (ok_loadA (s := 1000002) (by decide) Try.underlying36 rfl (size36.of (rfl)) rfl rfl) hv (k := 1000200) (by decide) rfl) ?_
 refine RM rfl ?_
 refine RS (ok_call (Take_no cs m l r n hno) (Args.cons rfl (Le.old _ _) (A1 rfl))) ?_
 refine RM rfl ?_
 refine RS (ok_extractV rfl rfl) ?_
 refine RS (ok_extractV rfl rfl) ?_
 refine RS (ok_extractV rfl rfl) ?_
 refine RN ?_
 refine ⟨_, _, eff_alloc (n := 152) (d := 8) (k := 1000008) zero25 (by decide), fun b8 hb8 => ?_⟩
 have hBb8 := hb8.1
 refine TN 8 ?_
 refine RN ?_
 refine ⟨_, _, eff_alloc (n := 152) (d := 9) (k := 1000009) zero36 (by decide), fun b9 hb9 => ?_⟩
 have hBb9 := hb9.1
 have hlt_b2_b9 : b2 < b9 := hb9.2 1000002 _ _ _ rfl
 have hlt_b6_b9 : b6 < b9 := hb9.2 1000006 _ _ _ rfl
 refine TF 9 ?_
 refine RN ?_
 refine ⟨_, eff_storeA (n := 152) (s := 1000008) (size25.of (rfl)) rfl rfl (rfl) hBb8 rfl (rfl) (LV 1 rfl (LV 2 rfl (LV 5 rfl (LV 8 rfl (LV 9 rfl (LV 100 rfl (LV 101 rfl (LT 1000002 rfl (LT 1000006 rfl (LT 1000009 rfl (LO 1000200 rfl LN))))))))))), ?_⟩
 refine TF 10 ?_
 refine RN ?_
 refine ⟨_, eff_storeA (n := 152) (s := 1000009) (size36.of (rfl)) rfl rfl (rfl) hBb9 rfl (rfl) (LV 1 rfl (LV 2 rfl (LV 5 rfl (LV 8 rfl (LV 9 rfl (LV 101 rfl (LB 1000002 rfl (LB 1000006 rfl (LT 1000008 rfl (LO 1000200 rfl LN)))))))))), ?_⟩
 refine TL ?_
 refine RA rfl ?_
 refine RN ?_
 refine A.sub (KC 1 rfl (KC 2 rfl (KC 5 rfl (KC 8 rfl (KC 9 rfl (KC 10 rfl (KC 1000002 rfl (KC 1000006 rfl (KC 1000008 rfl (KC 1000009 rfl (KC 1000200 rfl KN))))))))))) ?_
 refine GS ?_
 refine TL ?_
 refine RS (OpOk.hdO (ok_loadA (s := 1000002) (by decide) Try.underlying36 rfl (size36.of (rfl)) rfl rfl) hv (k := 1000200) (by decide) rfl) ?_
 refine RM rfl ?_
 refine RS (ok_call (Left_no cs m l r n hno) (Args.cons rfl (Le.old _ _) (A1 rfl))) ?_
 refine RM rfl ?_
 refine RS (ok_extractV rfl rfl) ?_
 refine RS (ok_extractV rfl rfl) ?_
 refine RA rfl ?_
 refine RA rfl ?_
 refine RN ?_
 refine A.seq ?_
 refine GS ?_
 refine TL ?_
 refine RM rfl ?_
 refine RBS rfl rfl rfl (.bool false) (by rfl) ?_
 refine RM rfl ?_
 refine RQ (ok_loadA (s := 1000008) (by decide) Try.underlying25 rfl (size25.of (rfl)) rfl rfl) ?_
 refine RQ (ok_lit [] ([.int .u32 0] ++ [.int .u64 0]) (fun _ _ => rfl) (by kernel_rfl)) ?_
 refine RQ (ok_neqT (n := 3) true flatN (by decide) (by kernel_rfl) (by kernel_rfl) rfl rfl (kinN _ _) (kinN _ _) ⟨fun _ => rfl, fun _ => rfl⟩) ?_; refine RZ (.bool false) (by rfl) ?_
 refine RP rfl rfl ?_
 refine RM rfl ?_
 refine RQ (ok_field field36_0 (by decide) rfl) ?_
 refine RQ (ok_loadV (s := 1000009) (by decide) Try.underlying34 rfl rfl rfl (rfl)) ?_
 refine RQ (ok_lenV Try.underlying34 rfl) ?_
 refine RQ (ok_bin rfl rfl rfl) ?_; refine RZ (.bool false) (by rfl) ?_
 refine RP rfl rfl ?_
 refine RM rfl ?_
 refine RQ (ok_move rfl) ?_
 refine RQ (ok_bin rfl rfl rfl) ?_; refine RZ (.bool false) (by rfl) ?_
 refine RP rfl rfl ?_
 refine RM rfl ?_
 refine RQ (ok_move rfl) ?_
 refine RQ (ok_bin rfl rfl rfl) ?_; refine RZ (.bool false) (by rfl) ?_
 refine RP rfl rfl ?_
 refine RN ?_
 refine A.sub (KC 2 rfl (KC 5 rfl (KC 128 rfl (KC 1000002 rfl (KC 1000006 rfl (KC 1000008 rfl (KC 1000009 rfl (KC 1000200 rfl KN)))))))) ?_
 refine A.no rfl ?_
 refine A.skip ?_
 refine EN ?_
 refine GS ?_
 refine TN 5 ?_
 refine RS (OpOk.hdO (ok_loadA (s := 1000002) (by decide) Try.underlying36 rfl (size36.of (rfl)) rfl rfl) hv (k := 1000200) (by decide) rfl) ?_
 refine RS (ok_call (Extend_bad cs m l r hV) (Args.cons rfl (Le.old _ _) Args.nil)) ?_
 refine RM rfl ?_
 refine RS (ok_extractV rfl rfl) ?_
 refine RS (ok_extractV rfl rfl) ?_
 refine RN ?_
 refine ⟨_, _, eff_alloc (n := 152) (d := 13) (k := 1000013) zero36 (by decide), fun b13 hb13 => ?_⟩
 have hBb13 := hb13.1
 have hlt_b2_b13 : b2 < b13 := hb13.2 1000002 _ _ _ rfl
 have hlt_b6_b13 : b6 < b13 := hb13.2 1000006 _ _ _ rfl
 have hlt_b9_b13 : b9 < b13 := hb13.2 1000009 _ _ _ rfl
 refine TF 6 ?_
 refine RN ?_
 refine ⟨_, eff_storeA (n := 152) (s := 1000013) (size36.of (rfl)) rfl rfl (rfl) hBb13 rfl (rfl) (LV 2 rfl (LV 5 rfl (LV 133 rfl (LB 1000002 rfl (LB 1000006 rfl (LT 1000008 rfl (LB 1000009 rfl (LO 1000200 rfl LN)))))))), ?_⟩
 refine TL ?_
 refine RA rfl ?_
 refine RN ?_
 refine GS ?_
 refine TN 5 ?_
 refine RS (OpOk.hdO (ok_loadA (s := 1000002) (by decide) Try.underlying36 rfl (size36.of (rfl)) rfl rfl) hv (k := 1000200) (by decide) rfl) ?_
 refine RS (ok_call (Crash_bad cs m l r hV) (Args.cons rfl (Le.old _ _) Args.nil)) ?_
 refine RM rfl ?_
 refine RS (ok_extractV rfl rfl) ?_
 refine RS (ok_extractV rfl rfl) ?_
 refine RN ?_
 refine ⟨_, _, eff_alloc (n := 152) (d := 15) (k := 1000015) zero36 (by decide), fun b15 hb15 => ?_⟩
 have hBb15 := hb15.1
 have hlt_b2_b15 : b2 < b15 := hb15.2 1000002 _ _ _ rfl
 have hlt_b6_b15 : b6 < b15 := hb15.2 1000006 _ _ _ rfl
 have hlt_b9_b15 : b9 < b15 := hb15.2 1000009 _ _ _ rfl
 have hlt_b13_b15 : b13 < b15 := hb15.2 1000013 _ _ _ rfl
 refine TF 6 ?_
 refine RN ?_
 refine ⟨_, eff_storeA (n := 152) (s := 1000015) (size36.of (rfl)) rfl rfl (rfl) hBb15 rfl (rfl) (LV 5 rfl (LV 14 rfl (LV 138 rfl (LB 1000002 rfl (LB 1000006 rfl (LT 1000008 rfl (LB 1000009 rfl (LB 1000013 rfl (LO 1000200 rfl LN))))))))), ?_⟩
 refine TL ?_
 refine RA rfl ?_
 refine RN ?_
 refine GS ?_
 refine TL ?_
 refine RM rfl ?_
 refine RBS rfl rfl rfl (.bool false) (by rfl) ?_
 refine RM rfl ?_
 refine RQ (ok_move rfl) ?_
 refine RQ (ok_bin rfl rfl rfl) ?_; refine RZ (.bool true) (by rfl) ?_
 refine RQ (ok_move rfl) ?_
 refine RQ (ok_move rfl) ?_
 refine RQ (ok_bin rfl rfl rfl) ?_; refine RZ (.bool true) (by rfl) ?_
 refine RQ (ok_pick rfl rfl) ?_
 refine RP rfl rfl ?_
 refine RM rfl ?_
 refine RQ (ok_call lives8_fn Args.nil) ?_
 refine RP rfl rfl ?_
 refine RA rfl ?_
 refine RN ?_
 refine A.sub (KC 4 rfl (KC 1000002 rfl (KC 1000006 rfl (KC 1000008 rfl (KC 1000009 rfl (KC 1000013 rfl (KC 1000015 rfl (KC 1000200 rfl KN)))))))) ?_
 refine A.ret ?_
 exact End.ret1 rfl rfl (by first | exact Le.refl _ | exact Le.old _ _)
set_option maxHeartbeats 2000000 in
theorem NE_A2_X2 (cs : List Nat) (m l r : Nat) (hl : l < 18446744073709551616) (h20 : cs.length ≤ 20) (n : Int) (hn : 8 < n) (hV : Valid cs m l r) (h3 : 0 ≤ n) (h4 : cs.length ≤ n)  : Fn Try.prog 4 [hdD (vlst (rowQ cs)) (alR m l r), .v (.int .i64 n)] (.v (.bool true)) := by
 have hle8 : cs.length ≤ 8 := hV.2.1
 have hle1 : 1 ≤ cs.length := hV.1
 have hno : ¬ (0 ≤ n ∧ n < (cs.length : Int) ∧ Valid cs m l r) := fun h => by omega
 refine Fn.of Try.func4 rfl (by kernel_rfl) Try.ntmps4 (by simp) (fun w => [(0, old w.heap.size (hdD (vlst (rowQ cs)) (alR m l r))), (1, .v (.int .i64 n))]) (fun w => (Start.old rfl (Start.v rfl Start.nil))) fun w₀ => ?_
 refine A.nameHd (t := 0) (k := 1000200) rfl fun v hv => ?_
 refine GS ?_
 refine TN 0 ?_
 refine RN ?_
 refine ⟨_, _, eff_box (n := 152) (d := 2) (k := 1000002) rfl (by decide), fun b2 hb2 => ?_⟩
 have hBb2 := hb2.1
 refine TL ?_
 refine RA rfl ?_
 refine RN ?_
 refine A.seq ?_
 refine GS ?_
 refine TL ?_
 refine RS (ok_field field36_0 (by decide) rfl) ?_
 refine RS (OpOk.valO (ok_loadV (s := 1000002) (by decide) Try.underlying34 rfl rfl rfl (rfl)) (k := 1000200) (by decide) rfl) ?_
 refine RS (ok_lenU cs.length Try.underlying34 rfl LA (rowQ_length cs)) ?_
 refine RBS rfl rfl rfl (.bool false) (by first | (simp; done) | (simp; omega)) ?_
 refine RN ?_
 refine A.no rfl ?_
 refine A.skip ?_
 refine EN ?_
 refine GS ?_
 refine TL ?_
 refine RS (ok_field field36_0 (by decide) rfl) ?_
 refine RS (OpOk.valO (ok_loadV (s := 1000002) (by decide) Try.underlying34 rfl rfl rfl (rfl)) (k := 1000200) (by decide) rfl) ?_
 refine RS (ok_field field36_1 (by decide) rfl) ?_
 refine RS (ok_loadV (s := 1000002) (by decide) Try.underlying23 rfl rfl rfl (rfl)) ?_
 refine RS (ok_field field36_2 (by decide) rfl) ?_
 refine RS (ok_loadV (s := 1000002) (by decide) Try.underlying23 rfl rfl rfl (rfl)) ?_
 refine RS (ok_field field36_3 (by decide) rfl) ?_
 refine RS (ok_loadV (s := 1000002) (by decide) Try.underlying23 rfl rfl rfl (rfl)) ?_
 refine RS (ok_call (refCheck_ok cs m l r hV) (Args.cons rfl (Le.old _ _) (A3 rfl rfl rfl))) ?_
 refine RA rfl ?_
 refine RN ?_
 refine GS ?_
 refine TN 9 ?_
 refine RM rfl ?_
 refine RS (ok_field field36_2 (by decide) rfl) ?_
 refine RS (ok_loadV (s := 1000002) (by decide) Try.underlying23 rfl rfl rfl (rfl)) ?_
 refine RS (ok_field field36_3 (by decide) rfl) ?_
 refine RS (ok_loadV (s := 1000002) (by decide) Try.underlying23 rfl rfl rfl (rfl)) ?_
 refine RS (ok_call (New_A n l r (by omega)) (A3 rfl rfl rfl)) ?_
 refine RM rfl ?_
 refine RS (ok_extractV rfl rfl) ?_
 refine RS (ok_extractV rfl rfl) ?_
 refine RN ?_
 refine ⟨_, _, eff_alloc (n := 152) (d := 6) (k := 1000006) zero36 (by decide), fun b6 hb6 => ?_⟩
 have hBb6 := hb6.1
 have hlt_b2_b6 : b2 < b6 := hb6.2 1000002 _ _ _ rfl
 refine TF 10 ?_
 refine RN ?_
 refine ⟨_, eff_storeA (n := 152) (s := 1000006) (size36.of (rfl)) rfl rfl (rfl) hBb6 rfl (rfl) (LV 1 rfl (LV 2 rfl (LV 5 rfl (LV 6 rfl (LV 39 rfl (LB 1000002 rfl (LO 1000200 rfl LN))))))), ?_⟩
 refine TL ?_
 refine RA rfl ?_
 refine RN ?_
 refine A.sub (KC 1 rfl (KC 2 rfl (KC 5 rfl (KC 6 rfl (KC 7 rfl (KC 1000002 rfl (KC 1000006 rfl (KC 1000200 rfl KN)))))))) ?_
 refine A.seq ?_
 refine GS ?_
 refine TL ?_
 refine RS (OpOk.hdO (ok_loadA (s := 1000002) (by decide) Try.underlying36 rfl (size36.of (rfl)) rfl rfl) hv (k := 1000200) (by decide) rfl) ?_
 refine RS (ok_call (Check_ok cs m l r hV) (Args.cons rfl (Le.old _ _) Args.nil)) ?_
 refine RM rfl ?_
 refine RBS rfl rfl rfl (.bool false) (by rfl) ?_
 refine RN ?_
 refine A.no rfl ?_
 refine A.skip ?_
 refine EN ?_
 refine A.seq ?_
 refine GS ?_
 refine TL ?_
 refine RM rfl ?_
 refine RBS rfl rfl rfl (.bool false) (by first | (simp; done) | (simp; omega)) ?_
 refine RM rfl ?_
 refine RQ (ok_move rfl) ?_
 refine RQ (ok_bin rfl rfl rfl) ?_; refine RZ (.bool true) (by first | (simp; done) | (simp; omega)) ?_
 refine RP rfl rfl ?_
 refine RM rfl ?_
 refine RK ?_
 refine RK ?_
 refine RK ?_
 refine RK ?_
 refine RK ?_
 refine RK ?_
 refine RK ?_
 refine RP rfl rfl ?_
 refine RN ?_
 refine A.yes rfl ?_
 refine GS ?_
 refine TL ?_
 refine RM rfl ?_
 refine RBS rfl rfl rfl (.bool false) (by rfl) ?_
 refine RM rfl ?_
 refine RQ (ok_field field36_0 (by decide) rfl) ?_
 refine RQ (ok_loadV (s := 1000006) (by decide) Try.underlying34 rfl rfl rfl (rfl)) ?_
 refine RQ (ok_lenV Try.underlying34 rfl) ?_
 refine RQ (ok_bin rfl rfl rfl) ?_; refine RZ (.bool false) (by rfl) ?_
 refine RP rfl rfl ?_
 refine RN ?_
 refine A.sub (KC 1 rfl (KC 2 rfl (KC 5 rfl (KC 66 rfl (KC 1000002 rfl (KC 1000006 rfl (KC 1000200 rfl KN))))))) ?_
 refine A.no rfl ?_
 refine A.skip ?_
 refine EN ?_
 refine A.seq ?_
 refine GS ?_
 refine TL ?_
 refine RM rfl ?_
 refine RBS rfl rfl rfl (.bool true) (by rfl) ?_
 refine RM rfl ?_
 refine RQ (ok_move rfl) ?_
 refine RQ (ok_bin rfl rfl rfl) ?_; refine RZ (.bool true) (by first | (simp; done) | (simp; omega)) ?_
 refine RP rfl rfl ?_
 refine RM rfl ?_
 refine RQ (ok_move rfl) ?_
 refine RQ (ok_field field36_0 (by decide) rfl) ?_
 refine RQ (OpOk.valO (ok_loadV (s := 1000002) (by decide) Try.underlying34 rfl rfl rfl (rfl)) (k := 1000200) (by decide) rfl) ?_
 refine RQ (ok_lenU cs.length Try.underlying34 rfl LA (rowQ_length cs)) ?_
 refine RQ (ok_bin rfl rfl rfl) ?_; refine RZ (.bool false) (by first | (simp; done) | (simp; omega)) ?_
 refine RP rfl rfl ?_
 refine RN ?_
 refine A.no rfl ?_
 refine A.skip ?_
 refine EN ?_
 refine GS ?_
 refine TN 7 ?_
 refine RS (OpOk.hdO (ok_loadA (s := 1000002) (by decide) Try.underlying36 rfl (size36.of (rfl)) rfl rfl) hv (k := 1000200) (by decide) rfl) ?_
 refine RM rfl ?_
 refine RS (ok_call (Take_no cs m l r n hno) (Args.cons rfl (Le.old _ _) (A1 rfl))) ?_
 refine RM rfl ?_
 refine RS (ok_extractV rfl rfl) ?_
 refine RS (ok_extractV rfl rfl) ?_
 refine RS (ok_extractV rfl rfl) ?_
 refine RN ?_
 refine ⟨_, _, eff_alloc (n := 152) (d := 8) (k := 1000008) zero25 (by decide), fun b8 hb8 => ?_⟩
 have hBb8 := hb8.1
 refine TN 8 ?_
 refine RN ?_
 refine ⟨_, _, eff_alloc (n := 152) (d := 9) (k := 1000009) zero36 (by decide), fun b9 hb9 => ?_⟩
 have hBb9 := hb9.1
 have hlt_b2_b9 : b2 < b9 := hb9.2 1000002 _ _ _ rfl
 have hlt_b6_b9 : b6 < b9 := hb9.2 1000006 _ _ _ rfl
 refine TF 9 ?_
 refine RN ?_
 refine ⟨_, eff_storeA (n := 152) (s := 1000008) (size25.of (rfl)) rfl rfl (rfl) hBb8 rfl (rfl) (LV 1 rfl (LV 2 rfl (LV 5 rfl (LV 8 rfl (LV 9 rfl (LV 100 rfl (LV 101 rfl (LT 1000002 rfl (LT 1000006 rfl (LT 1000009 rfl (LO 1000200 rfl LN))))))))))), ?_⟩
 refine TF 10 ?_
 refine RN ?_
 refine ⟨_, eff_storeA (n := 152) (s := 1000009) (size36.of (rfl)) rfl rfl (rfl) hBb9 rfl (rfl) (LV 1 rfl (LV 2 rfl (LV 5 rfl (LV 8 rfl (LV 9 rfl (LV 101 rfl (LB 1000002 rfl (LB 1000006 rfl (LT 1000008 rfl (LO 1000200 rfl LN)))))))))), ?_⟩
 refine TL ?_
 refine RA rfl ?_
 refine RN ?_
 refine A.sub (KC 1 rfl (KC 2 rfl (KC 5 rfl (KC 8 rfl (KC 9 rfl (KC 10 rfl (KC 1000002 rfl (KC 1000006 rfl (KC 1000008 rfl (KC 1000009 rfl (KC 1000200 rfl KN))))))))))) ?_
 refine GS ?_
 refine TL ?_
 refine RS (OpOk.hdO (ok_loadA (s := 1000002) (by decide) Try.underlying36 rfl (size36.of (rfl)) rfl rfl) hv (k := 1000200) (by decide) rfl) ?_
 refine RM rfl ?_
 refine RS (ok_call (Left_no cs m l r n hno) (Args.cons rfl (Le.old _ _) (A1 rfl))) ?_
 refine RM rfl ?_
 refine RS (ok_extractV rfl rfl) ?_
 refine RS (ok_extractV rfl rfl) ?_
 refine RA rfl ?_
 refine RA rfl ?_
 refine RN ?_
 refine A.seq ?_
 refine GS ?_
 refine TL ?_
 refine RM rfl ?_
 refine RBS rfl rfl rfl (.bool false) (by rfl) ?_
 refine RM rfl ?_
 refine RQ (ok_loadA (s := 1000008) (by decide) Try.underlying25 rfl (size25.of (rfl)) rfl rfl) ?_
 refine RQ (ok_lit [] ([.int .u32 0] ++ [.int .u64 0]) (fun _ _ => rfl) (by kernel_rfl)) ?_
 refine RQ (ok_neqT (n := 3) true flatN (by decide) (by kernel_rfl) (by kernel_rfl) rfl rfl (kinN _ _) (kinN _ _) ⟨fun _ => rfl, fun _ => rfl⟩) ?_; refine RZ (.bool false) (by rfl) ?_
 refine RP rfl rfl ?_
 refine RM rfl ?_
 refine RQ (ok_field field36_0 (by decide) rfl) ?_
 refine RQ (ok_loadV (s := 1000009) (by decide) Try.underlying34 rfl rfl rfl (rfl)) ?_
 refine RQ (ok_lenV Try.underlying34 rfl) ?_
 refine RQ (ok_bin rfl rfl rfl) ?_; refine RZ (.bool false) (by rfl) ?_
 refine RP rfl rfl ?_
 refine RM rfl ?_
 refine RQ (ok_move rfl) ?_
 refine RQ (ok_bin rfl rfl rfl) ?_; refine RZ (.bool false) (by rfl) ?_
 refine RP rfl rfl ?_
 refine RM rfl ?_
 refine RQ (ok_move rfl) ?_
 refine RQ (ok_bin rfl rfl rfl) ?_; refine RZ (.bool false) (by rfl) ?_
 refine RP rfl rfl ?_
 refine RN ?_
 refine A.sub (KC 2 rfl (KC 5 rfl (KC 128 rfl (KC 1000002 rfl (KC 1000006 rfl (KC 1000008 rfl (KC 1000009 rfl (KC 1000200 rfl KN)))))))) ?_
 refine A.no rfl ?_
 refine A.skip ?_
 refine EN ?_
 refine GS ?_
 refine TN 5 ?_
 refine RS (OpOk.hdO (ok_loadA (s := 1000002) (by decide) Try.underlying36 rfl (size36.of (rfl)) rfl rfl) hv (k := 1000200) (by decide) rfl) ?_
 refine RS (ok_call (Extend_any cs m l r hV hl) (Args.cons rfl (Le.old _ _) Args.nil)) ?_
 refine RM rfl ?_
 refine RS (ok_extract rfl rfl) ?_
 refine RS (ok_extract rfl rfl) ?_
 refine RN ?_
 refine ⟨_, _, eff_alloc (n := 152) (d := 13) (k := 1000013) zero36 (by decide), fun b13 hb13 => ?_⟩
 have hBb13 := hb13.1
 have hlt_b2_b13 : b2 < b13 := hb13.2 1000002 _ _ _ rfl
 have hlt_b6_b13 : b6 < b13 := hb13.2 1000006 _ _ _ rfl
 have hlt_b9_b13 : b9 < b13 := hb13.2 1000009 _ _ _ rfl
 refine TF 6 ?_
 refine RN ?_
 refine ⟨_, eff_storeX (n := 152) (s := 1000013) size36 rfl rfl hBb13 rfl rfl (LV 2 rfl (LV 5 rfl (LeftS.cons (t := 133) rfl (Surv.any) (LB 1000002 rfl (LB 1000006 rfl (LT 1000008 rfl (LB 1000009 rfl (LO 1000200 rfl LN)))))))), ?_⟩
 refine TL ?_
 refine RA rfl ?_
 refine RN ?_
 refine GS ?_
 refine TN 5 ?_
 refine RS (OpOk.hdO (ok_loadA (s := 1000002) (by decide) Try.underlying36 rfl (size36.of (rfl)) rfl rfl) hv (k := 1000200) (by decide) rfl) ?_
 refine RS (ok_call (Crash_any cs m l r hV) (Args.cons rfl (Le.old _ _) Args.nil)) ?_
 refine RM rfl ?_
 refine RS (ok_extract rfl rfl) ?_
 refine RS (ok_extract rfl rfl) ?_
 refine RN ?_
 refine ⟨_, _, eff_alloc (n := 152) (d := 15) (k := 1000015) zero36 (by decide), fun b15 hb15 => ?_⟩
 have hBb15 := hb15.1
 have hlt_b2_b15 : b2 < b15 := hb15.2 1000002 _ _ _ rfl
 have hlt_b6_b15 : b6 < b15 := hb15.2 1000006 _ _ _ rfl
 have hlt_b9_b15 : b9 < b15 := hb15.2 1000009 _ _ _ rfl
 refine TF 6 ?_
 refine RN ?_
 refine ⟨_, eff_storeX (n := 152) (s := 1000015) size36 rfl rfl hBb15 rfl rfl (LV 5 rfl (LeftS.cons (t := 14) rfl (Surv.any) (LeftS.cons (t := 138) rfl (Surv.any) (LB 1000002 rfl (LB 1000006 rfl (LT 1000008 rfl (LB 1000009 rfl (LO 1000200 rfl LN)))))))), ?_⟩
 refine TL ?_
 refine RA rfl ?_
 refine RN ?_
 refine GS ?_
 refine TL ?_
 refine RM rfl ?_
 refine RBS rfl rfl rfl (.bool true) (by rfl) ?_
 refine RM rfl ?_
 refine RK ?_
 refine RK ?_
 refine RK ?_
 refine RunK.skippedU rfl rfl rfl rfl ?_
 refine RunK.skippedU rfl rfl rfl rfl ?_
 refine RK ?_
 refine RP rfl rfl ?_
 refine RM rfl ?_
 refine RQ (ok_call lives8_fn Args.nil) ?_
 refine RP rfl rfl ?_
 refine RA rfl ?_
 refine RN ?_
 refine A.sub (KC 4 rfl (KC 1000002 rfl (KC 1000006 rfl (KC 1000008 rfl (KC 1000009 rfl (KC 1000200 rfl KN)))))) ?_
 refine A.ret ?_
 exact End.ret1 rfl rfl (by first | exact Le.refl _ | exact Le.old _ _)
set_option maxHeartbeats 2000000 in
theorem NE_A2_Y (cs : List Nat) (m l r : Nat) (hl : l < 18446744073709551616) (h20 : cs.length ≤ 20) (n : Int) (hn : 8 < n) (hV : ¬ Valid cs m l r)  : Fn Try.prog 4 [hdD (vlst (rowQ cs)) (alR m l r), .v (.int .i64 n)] (.v (.bool true)) := by
 have hle20 : cs.length ≤ 20 := h20
 have hno : ¬ (0 ≤ n ∧ n < (cs.length : Int) ∧ Valid cs m l r) := fun h => hV h.2.2
 refine Fn.of Try.func4 rfl (by kernel_rfl) Try.ntmps4 (by simp) (fun w => [(0, old w.heap.size (hdD (vlst (rowQ cs)) (alR m l r))), (1, .v (.int .i64 n))]) (fun w => (Start.old rfl (Start.v rfl Start.nil))) fun w₀ => ?_
 refine A.nameHd (t := 0) (k := 1000200) rfl fun v hv => ?_
 refine GS ?_
 refine TN 0 ?_
 refine RN ?_
 refine ⟨_, _, eff_box (n := 152) (d := 2) (k := 1000002) rfl (by decide), fun b2 hb2 => ?_⟩
 have hBb2 := hb2.1
 refine TL ?_
 refine RA rfl ?_
 refine RN ?_
 refine A.seq ?_
 refine GS ?_
 refine TL ?_
 refine RS (ok_field field36_0 (by decide) rfl) ?_
 refine RS (OpOk.valO (ok_loadV (s := 1000002) (by decide) Try.underlying34 rfl rfl rfl (rfl)) (k := 1000200) (by decide) rfl) ?_
 refine RS (ok_lenU cs.length Try.underlying34 rfl LA (rowQ_length cs)) ?_
 refine RBS rfl rfl rfl (.bool false) (by first | (simp; done) | (simp; omega)) ?_
 refine RN ?_
 refine A.no rfl ?_
 refine A.skip ?_
 refine EN ?_
 refine GS ?_
 refine TL ?_
 refine RS (ok_field field36_0 (by decide) rfl) ?_
 refine RS (OpOk.valO (ok_loadV (s := 1000002) (by decide) Try.underlying34 rfl rfl rfl (rfl)) (k := 1000200) (by decide) rfl) ?_
 refine RS (ok_field field36_1 (by decide) rfl) ?_
 refine RS (ok_loadV (s := 1000002) (by decide) Try.underlying23 rfl rfl rfl (rfl)) ?_
 refine RS (ok_field field36_2 (by decide) rfl) ?_
 refine RS (ok_loadV (s := 1000002) (by decide) Try.underlying23 rfl rfl rfl (rfl)) ?_
 refine RS (ok_field field36_3 (by decide) rfl) ?_
 refine RS (ok_loadV (s := 1000002) (by decide) Try.underlying23 rfl rfl rfl (rfl)) ?_
 refine RS (ok_call (refCheck_bad cs m l r hV) (Args.cons rfl (Le.old _ _) (A3 rfl rfl rfl))) ?_
 refine RA rfl ?_
 refine RN ?_
 refine GS ?_
 refine TN 9 ?_
 refine RM rfl ?_
 refine RS (ok_field field36_2 (by decide) rfl) ?_
 refine RS (ok_loadV (s := 1000002) (by decide) Try.underlying23 rfl rfl rfl (rfl)) ?_
 refine RS (ok_field field36_3 (by decide) rfl) ?_
 refine RS (ok_loadV (s := 1000002) (by decide) Try.underlying23 rfl rfl rfl (rfl)) ?_
 refine RS (ok_call (New_A n l r (by omega)) (A3 rfl rfl rfl)) ?_
 refine RM rfl ?_
 refine RS (ok_extractV rfl rfl) ?_
 refine RS (ok_extractV rfl rfl) ?_
 refine RN ?_
 refine ⟨_, _, eff_alloc (n := 152) (d := 6) (k := 1000006) zero36 (by decide), fun b6 hb6 => ?_⟩
 have hBb6 := hb6.1
 have hlt_b2_b6 : b2 < b6 := hb6.2 1000002 _ _ _ rfl
 refine TF 10 ?_
 refine RN ?_
 refine ⟨_, eff_storeA (n := 152) (s := 1000006) (size36.of (rfl)) rfl rfl (rfl) hBb6 rfl (rfl) (LV 1 rfl (LV 2 rfl (LV 5 rfl (LV 6 rfl (LV 39 rfl (LB 1000002 rfl (LO 1000200 rfl LN))))))), ?_⟩
 refine TL ?_
 refine RA rfl ?_
 refine RN ?_
 refine A.sub (KC 1 rfl (KC 2 rfl (KC 5 rfl (KC 6 rfl (KC 7 rfl (KC 1000002 rfl (KC 1000006 rfl (KC 1000200 rfl KN)))))))) ?_
 refine A.seq ?_
 refine GS ?_
 refine TL ?_
 refine RS (OpOk.hdO (ok_loadA (s := 1000002) (by decide) Try.underlying36 rfl (size36.of (rfl)) rfl rfl) hv (k := 1000200) (by decide) rfl) ?_
 refine RS (ok_call (Check_bad cs m l r hV) (Args.cons rfl (Le.old _ _) Args.nil)) ?_
 refine RM rfl ?_
 refine RBS rfl rfl rfl (.bool false) (by rfl) ?_
 refine RN ?_
 refine A.no rfl ?_
 refine A.skip ?_
 refine EN ?_
 refine A.seq ?_
 refine GS ?_
 refine TL ?_
 refine RM rfl ?_
 refine RBS rfl rfl rfl (.bool false) (by first | (simp; done) | (simp; omega)) ?_
 refine RM rfl ?_
 refine RQ (ok_move rfl) ?_
 refine RQ (ok_bin rfl rfl rfl) ?_; refine RZ (.bool true) (by first | (simp; done) | (simp; omega)) ?_
 refine RP rfl rfl ?_
 refine RM rfl ?_
 refine RK ?_
 refine RK ?_
 refine RK ?_
 refine RK ?_
 refine RK ?_
 refine RK ?_
 refine RK ?_
 refine RP rfl rfl ?_
 refine RN ?_
 refine A.yes rfl ?_
 refine GS ?_
 refine TL ?_
 refine RM rfl ?_
 refine RBS rfl rfl rfl (.bool false) (by rfl) ?_
 refine RM rfl ?_
 refine RQ (ok_field field36_0 (by decide) rfl) ?_
 refine RQ (ok_loadV (s := 1000006) (by decide) Try.underlying34 rfl rfl rfl (rfl)) ?_
 refine RQ (ok_lenV Try.underlying34 rfl) ?_
 refine RQ (ok_bin rfl rfl rfl) ?_; refine RZ (.bool false) (by rfl) ?_
 refine RP rfl rfl ?_
 refine RN ?_
 refine A.sub (KC 1 rfl (KC 2 rfl (KC 5 rfl (KC 66 rfl (KC 1000002 rfl (KC 1000006 rfl (KC 1000200 rfl KN))))))) ?_
 refine A.no rfl ?_
 refine A.skip ?_
 refine EN ?_
 refine A.seq ?_
 refine GS ?_
 refine TL ?_
 refine RM rfl ?_
 refine RBS rfl rfl rfl (.bool false) (by rfl) ?_
 refine RM rfl ?_
 refine RK ?_
 refine RK ?_
 refine RP rfl rfl ?_
 refine RM rfl ?_
 refine RK ?_
 refine RK ?_
 refine RK ?_
 refine RK ?_
 refine RK ?_
 refine RP rfl rfl ?_
 refine RN ?_
 refine A.no rfl ?_
 refine A.skip ?_
 refine EN ?_
 refine GS ?_
 refine TN 7 ?_
 refine RS (OpOk.hdO (ok_loadA (s := 1000002) (by decide) Try.underlying36 rfl (size36.of (rfl)) rfl rfl) hv (k := 1000200) (by decide) rfl) ?_
 refine RM rfl ?_
 refine RS (ok_call (Take_no cs m l r n hno) (Args.cons rfl (Le.old _ _) (A1 rfl))) ?_
 refine RM rfl ?_
 refine RS (ok_extractV rfl rfl) ?_
 refine RS (ok_extractV rfl rfl) ?_
 refine RS (ok_extractV rfl rfl) ?_
 refine RN ?_
 refine ⟨_, _, eff_alloc (n := 152) (d := 8) (k := 1000008) zero25 (by decide), fun b8 hb8 => ?_⟩
 have hBb8 := hb8.1
 refine TN 8 ?_
 refine RN ?_
 refine ⟨_, _, eff_alloc (n := 152) (d := 9) (k := 1000009) zero36 (by decide), fun b9 hb9 => ?_⟩
 have hBb9 := hb9.1
 have hlt_b2_b9 : b2 < b9 := hb9.2 1000002 _ _ _ rfl
 have hlt_b6_b9 : b6 < b9 := hb9.2 1000006 _ _ _ rfl
 refine TF 9 ?_
 refine RN ?_
 refine ⟨_, eff_storeA (n := 152) (s := 1000008) (size25.of (rfl)) rfl rfl (rfl) hBb8 rfl (rfl) (LV 1 rfl (LV 2 rfl (LV 5 rfl (LV 8 rfl (LV 9 rfl (LV 100 rfl (LV 101 rfl (LT 1000002 rfl (LT 1000006 rfl (LT 1000009 rfl (LO 1000200 rfl LN))))))))))), ?_⟩
 refine TF 10 ?_
 refine RN ?_
 refine ⟨_, eff_storeA (n := 152) (s := 1000009) (size36.of (rfl)) rfl rfl (rfl) hBb9 rfl (rfl) (LV 1 rfl (LV 2 rfl (LV 5 rfl (LV 8 rfl (LV 9 rfl (LV 101 rfl (LB 1000002 rfl (LB 1000006 rfl (LT 1000008 rfl (LO 1000200 rfl LN)))))))))), ?_⟩
 refine TL ?_
 refine RA rfl ?_
 refine RN ?_
 refine A.sub (KC 1 rfl (KC 2 rfl (KC 5 rfl (KC 8 rfl (KC 9 rfl (KC 10 rfl (KC 1000002 rfl (KC 1000006 rfl (KC 1000008 rfl (KC 1000009 rfl (KC 1000200 rfl KN))))))))))) ?_
 refine GS ?_
 refine TL ?_
 refine RS (OpOk.hdO (ok_loadA (s := 1000002) (by decide) Try.underlying36 rfl (size36.of (rfl)) rfl rfl) hv (k := 1000200) (by decide) rfl) ?_
 refine RM rfl ?_
 refine RS (ok_call (Left_no cs m l r n hno) (Args.cons rfl (Le.old _ _) (A1 rfl))) ?_
 refine RM rfl ?_
 refine RS (ok_extractV rfl rfl) ?_
 refine RS (ok_extractV rfl rfl) ?_
 refine RA rfl ?_
 refine RA rfl ?_
 refine RN ?_
 refine A.seq ?_
 refine GS ?_
 refine TL ?_
 refine RM rfl ?_
 refine RBS rfl rfl rfl (.bool false) (by rfl) ?_
 refine RM rfl ?_
 refine RQ (ok_loadA (s := 1000008) (by decide) Try.underlying25 rfl (size25.of (rfl)) rfl rfl) ?_
 refine RQ (ok_lit [] ([.int .u32 0] ++ [.int .u64 0]) (fun _ _ => rfl) (by kernel_rfl)) ?_
 refine RQ (ok_neqT (n := 3) true flatN (by decide) (by kernel_rfl) (by kernel_rfl) rfl rfl (kinN _ _) (kinN _ _) ⟨fun _ => rfl, fun _ => rfl⟩) ?_; refine RZ (.bool false) (by rfl) ?_
 refine RP rfl rfl ?_
 refine RM rfl ?_
 refine RQ (ok_field field36_0 (by decide) rfl) ?_
 refine RQ (ok_loadV (s := 1000009) (by decide) Try.underlying34 rfl rfl rfl (rfl)) ?_
 refine RQ (ok_lenV Try.underlying34 rfl) ?_
 refine RQ (ok_bin rfl rfl rfl) ?_; refine RZ (.bool false) (by rfl) ?_
 refine RP rfl rfl ?_
 refine RM rfl ?_
 refine RQ (ok_move rfl) ?_
 refine RQ (ok_bin rfl rfl rfl) ?_; refine RZ (.bool false) (by rfl) ?_
 refine RP rfl rfl ?_
 refine RM rfl ?_
 refine RQ (ok_move rfl) ?_
 refine RQ (ok_bin rfl rfl rfl) ?_; refine RZ (.bool false) (by rfl) ?_
 refine RP rfl rfl ?_
 refine RN ?_
 refine A.sub (KC 2 rfl (KC 5 rfl (KC 128 rfl (KC 1000002 rfl (KC 1000006 rfl (KC 1000008 rfl (KC 1000009 rfl (KC 1000200 rfl KN)))))))) ?_
 refine A.no rfl ?_
 refine A.skip ?_
 refine EN ?_
 refine GS ?_
 refine TN 5 ?_
 refine RS (OpOk.hdO (ok_loadA (s := 1000002) (by decide) Try.underlying36 rfl (size36.of (rfl)) rfl rfl) hv (k := 1000200) (by decide) rfl) ?_
 refine RS (ok_call (Extend_bad cs m l r hV) (Args.cons rfl (Le.old _ _) Args.nil)) ?_
 refine RM rfl ?_
 refine RS (ok_extractV rfl rfl) ?_
 refine RS (ok_extractV rfl rfl) ?_
 refine RN ?_
 refine ⟨_, _, eff_alloc (n := 152) (d := 13) (k := 1000013) zero36 (by decide), fun b13 hb13 => ?_⟩
 have hBb13 := hb13.1
 have hlt_b2_b13 : b2 < b13 := hb13.2 1000002 _ _ _ rfl
 have hlt_b6_b13 : b6 < b13 := hb13.2 1000006 _ _ _ rfl
 have hlt_b9_b13 : b9 < b13 := hb13.2 1000009 _ _ _ rfl
 refine TF 6 ?_
 refine RN ?_
 refine ⟨_, eff_storeA (n := 152) (s := 1000013) (size36.of (rfl)) rfl rfl (rfl) hBb13 rfl (rfl) (LV 2 rfl (LV 5 rfl (LV 133 rfl (LB 1000002 rfl (LB 1000006 rfl (LT 1000008 rfl (LB 1000009 rfl (LO 1000200 rfl LN)))))))), ?_⟩
 refine TL ?_
 refine RA rfl ?_
 refine RN ?_
 refine GS ?_
 refine TN 5 ?_
 refine RS (OpOk.hdO (ok_loadA (s := 1000002) (by decide) Try.underlying36 rfl (size36.of (rfl)) rfl rfl) hv (k := 1000200) (by decide) rfl) ?_
 refine RS (ok_call (Crash_bad cs m l r hV) (Args.cons rfl (Le.old _ _) Args.nil)) ?_
 refine RM rfl ?_
 refine RS (ok_extractV rfl rfl) ?_
 refine RS (ok_extractV rfl rfl) ?_
 refine RN ?_
 refine ⟨_, _, eff_alloc (n := 152) (d := 15) (k := 1000015) zero36 (by decide), fun b15 hb15 => ?_⟩
 have hBb15 := hb15.1
 have hlt_b2_b15 : b2 < b15 := hb15.2 1000002 _ _ _ rfl
 have hlt_b6_b15 : b6 < b15 := hb15.2 1000006 _ _ _ rfl
 have hlt_b9_b15 : b9 < b15 := hb15.2 1000009 _ _ _ rfl
 have hlt_b13_b15 : b13 < b15 := hb15.2 1000013 _ _ _ rfl
 refine TF 6 ?_
 refine RN ?_
 refine ⟨_, eff_storeA (n := 152) (s := 1000015) (size36.of (rfl)) rfl rfl (rfl) hBb15 rfl (rfl) (LV 5 rfl (LV 14 rfl (LV 138 rfl (LB 1000002 rfl (LB 1000006 rfl (LT 1000008 rfl (LB 1000009 rfl (LB 1000013 rfl (LO 1000200 rfl LN))))))))), ?_⟩
 refine TL ?_
 refine RA rfl ?_
 refine RN ?_
 refine GS ?_
 refine TL ?_
 refine RM rfl ?_
 refine RBS rfl rfl rfl (.bool false) (by rfl) ?_
 refine RM rfl ?_
 refine RQ (ok_move rfl) ?_
 refine RQ (ok_bin rfl rfl rfl) ?_; refine RZ (.bool true) (by rfl) ?_
 refine RQ (ok_move rfl) ?_
 refine RQ (ok_move rfl) ?_
 refine RQ (ok_bin rfl rfl rfl) ?_; refine RZ (.bool true) (by rfl) ?_
 refine RQ (ok_pick rfl rfl) ?_
 refine RP rfl rfl ?_
 refine RM rfl ?_
 refine RQ (ok_call lives8_fn Args.nil) ?_
 refine RP rfl rfl ?_
 refine RA rfl ?_
 refine RN ?_
 refine A.sub (KC 4 rfl (KC 1000002 rfl (KC 1000006 rfl (KC 1000008 rfl (KC 1000009 rfl (KC 1000013 rfl (KC 1000015 rfl (KC 1000200 rfl KN)))))))) ?_
 refine A.ret ?_
 exact End.ret1 rfl rfl (by first | exact Le.refl _ | exact Le.old _ _)
set_option maxHeartbeats 2000000 in
theorem NE_B_L (cs : List Nat) (m l r : Nat) (hl : l < 18446744073709551616) (h20 : cs.length ≤ 20) (n : Nat) (h1 : 1 ≤ n) (h2 : n ≤ 8) (hW : ¬ Valid [0] 0 l r) (hV : Valid cs m l r) (h3 : 0 ≤ (n : Int)) (h4 : (n : Int) < cs.length)  : Fn Try.prog 4 [hdD (vlst (rowQ cs)) (alR m l r), .v (nI n)] (.v (.bool true)) := by
 have hle8 : cs.length ≤ 8 := hV.2.1
 have hle1 : 1 ≤ cs.length := hV.1
 refine Fn.of Try.func4 rfl (by kernel_rfl) Try.ntmps4 (by simp) (fun w => [(0, old w.heap.size (hdD (vlst (rowQ cs)) (alR m l r))), (1, .v (nI n))]) (fun w => (Start.old rfl (Start.v rfl Start.nil))) fun w₀ => ?_
 refine A.nameHd (t := 0) (k := 1000200) rfl fun v hv => ?_
 refine GS ?_
 refine TN 0 ?_
 refine RN ?_
 refine ⟨_, _, eff_box (n := 152) (d := 2) (k := 1000002) rfl (by decide), fun b2 hb2 => ?_⟩
 have hBb2 := hb2.1
 refine TL ?_
 refine RA rfl ?_
 refine RN ?_
 refine A.seq ?_
 refine GS ?_
 refine TL ?_
 refine RS (ok_field field36_0 (by decide) rfl) ?_
 refine RS (OpOk.valO (ok_loadV (s := 1000002) (by decide) Try.underlying34 rfl rfl rfl (rfl)) (k := 1000200) (by decide) rfl) ?_
 refine RS (ok_lenU cs.length Try.underlying34 rfl LA (rowQ_length cs)) ?_
 refine RBS rfl rfl rfl (.bool false) (by first | (simp; done) | (simp; omega)) ?_
 refine RN ?_
 refine A.no rfl ?_
 refine A.skip ?_
 refine EN ?_
 refine GS ?_
 refine TL ?_
 refine RS (ok_field field36_0 (by decide) rfl) ?_
 refine RS (OpOk.valO (ok_loadV (s := 1000002) (by decide) Try.underlying34 rfl rfl rfl (rfl)) (k := 1000200) (by decide) rfl) ?_
 refine RS (ok_field field36_1 (by decide) rfl) ?_
 refine RS (ok_loadV (s := 1000002) (by decide) Try.underlying23 rfl rfl rfl (rfl)) ?_
 refine RS (ok_field field36_2 (by decide) rfl) ?_
 refine RS (ok_loadV (s := 1000002) (by decide) Try.underlying23 rfl rfl rfl (rfl)) ?_
 refine RS (ok_field field36_3 (by decide) rfl) ?_
 refine RS (ok_loadV (s := 1000002) (by decide) Try.underlying23 rfl rfl rfl (rfl)) ?_
 refine RS (ok_call (refCheck_ok cs m l r hV) (Args.cons rfl (Le.old _ _) (A3 rfl rfl rfl))) ?_
 refine RA rfl ?_
 refine RN ?_
 refine GS ?_
 refine TN 9 ?_
 refine RM rfl ?_
 refine RS (ok_field field36_2 (by decide) rfl) ?_
 refine RS (ok_loadV (s := 1000002) (by decide) Try.underlying23 rfl rfl rfl (rfl)) ?_
 refine RS (ok_field field36_3 (by decide) rfl) ?_
 refine RS (ok_loadV (s := 1000002) (by decide) Try.underlying23 rfl rfl rfl (rfl)) ?_
 refine RS (ok_call (New_B n l r h1 h2 (fun h => hW ((valid_rep h1 h2).1 h))) (A3 rfl rfl rfl)) ?_
 refine RM rfl ?_
 refine RS (ok_extractV rfl rfl) ?_
 refine RS (ok_extractV rfl rfl) ?_
 refine RN ?_
 refine ⟨_, _, eff_alloc (n := 152) (d := 6) (k := 1000006) zero36 (by decide), fun b6 hb6 => ?_⟩
 have hBb6 := hb6.1
 have hlt_b2_b6 : b2 < b6 := hb6.2 1000002 _ _ _ rfl
 refine TF 10 ?_
 refine RN ?_
 refine ⟨_, eff_storeA (n := 152) (s := 1000006) (size36.of (rfl)) rfl rfl (rfl) hBb6 rfl (rfl) (LV 1 rfl (LV 2 rfl (LV 5 rfl (LV 6 rfl (LV 39 rfl (LB 1000002 rfl (LO 1000200 rfl LN))))))), ?_⟩
 refine TL ?_
 refine RA rfl ?_
 refine RN ?_
 refine A.sub (KC 1 rfl (KC 2 rfl (KC 5 rfl (KC 6 rfl (KC 7 rfl (KC 1000002 rfl (KC 1000006 rfl (KC 1000200 rfl KN)))))))) ?_
 refine A.seq ?_
 refine GS ?_
 refine TL ?_
 refine RS (OpOk.hdO (ok_loadA (s := 1000002) (by decide) Try.underlying36 rfl (size36.of (rfl)) rfl rfl) hv (k := 1000200) (by decide) rfl) ?_
 refine RS (ok_call (Check_ok cs m l r hV) (Args.cons rfl (Le.old _ _) Args.nil)) ?_
 refine RM rfl ?_
 refine RBS rfl rfl rfl (.bool false) (by rfl) ?_
 refine RN ?_
 refine A.no rfl ?_
 refine A.skip ?_
 refine EN ?_
 refine A.seq ?_
 refine GS ?_
 refine TL ?_
 refine RM rfl ?_
 refine RBS rfl rfl rfl (.bool false) (by first | (simp; done) | (simp; omega)) ?_
 refine RM rfl ?_
 refine RQ (ok_move rfl) ?_
 refine RQ (ok_bin rfl rfl rfl) ?_; refine RZ (.bool false) (by first | (simp; done) | (simp; omega)) ?_
 refine RP rfl rfl ?_
 refine RM rfl ?_
 refine RQ (ok_buildF [qV 0] Try.underlying34 info23 rfl (by decide) (by decide) rfl ⟨rfl, rfl, trivial⟩ rfl) ?_
 refine RQ (ok_field field36_2 (by decide) rfl) ?_
 refine RQ (ok_loadV (s := 1000002) (by decide) Try.underlying23 rfl rfl rfl (rfl)) ?_
 refine RQ (ok_field field36_3 (by decide) rfl) ?_
 refine RQ (ok_loadV (s := 1000002) (by decide) Try.underlying23 rfl rfl rfl (rfl)) ?_
 refine RQ (ok_call (refCheck_bad [0] 0 l r hW) (Args.cons rfl ((fresh_vlist (xs := rowQ [0]) rfl (by decide)).trans (le_vlst _ _)) (A3 rfl rfl rfl))) ?_
 refine RQ (ok_bin rfl rfl rfl) ?_; refine RZ (.bool true) (by rfl) ?_
 refine RP rfl rfl ?_
 refine RN ?_
 refine A.yes rfl ?_
 refine GS ?_
 refine TL ?_
 refine RM rfl ?_
 refine RBS rfl rfl rfl (.bool false) (by rfl) ?_
 refine RM rfl ?_
 refine RQ (ok_field field36_0 (by decide) rfl) ?_
 refine RQ (ok_loadV (s := 1000006) (by decide) Try.underlying34 rfl rfl rfl (rfl)) ?_
 refine RQ (ok_lenV Try.underlying34 rfl) ?_
 refine RQ (ok_bin rfl rfl rfl) ?_; refine RZ (.bool false) (by rfl) ?_
 refine RP rfl rfl ?_
 refine RN ?_
 refine A.sub (KC 1 rfl (KC 2 rfl (KC 5 rfl (KC 66 rfl (KC 1000002 rfl (KC 1000006 rfl (KC 1000200 rfl KN))))))) ?_
 refine A.no rfl ?_
 refine A.skip ?_
 refine EN ?_
 refine A.seq ?_
 refine GS ?_
 refine TL ?_
 refine RM rfl ?_
 refine RBS rfl rfl rfl (.bool true) (by rfl) ?_
 refine RM rfl ?_
 refine RQ (ok_move rfl) ?_
 refine RQ (ok_bin rfl rfl rfl) ?_; refine RZ (.bool true) (by first | (simp; done) | (simp; omega)) ?_
 refine RP rfl rfl ?_
 refine RM rfl ?_
 refine RQ (ok_move rfl) ?_
 refine RQ (ok_field field36_0 (by decide) rfl) ?_
 refine RQ (OpOk.valO (ok_loadV (s := 1000002) (by decide) Try.underlying34 rfl rfl rfl (rfl)) (k := 1000200) (by decide) rfl) ?_
 refine RQ (ok_lenU cs.length Try.underlying34 rfl LA (rowQ_length cs)) ?_
 refine RQ (ok_bin rfl rfl rfl) ?_; refine RZ (.bool true) (by first | (simp; done) | (simp; omega)) ?_
 refine RP rfl rfl ?_
 refine RN ?_
 refine A.yes rfl ?_
 refine GS ?_
 refine TL ?_
 refine RS (ok_call lives8_fn Args.nil) ?_
 refine RA rfl ?_
 refine RN ?_
 refine A.ret ?_
 refine End.ret_then ?_
 exact End.ret1 rfl rfl (by first | exact Le.refl _ | exact Le.old _ _)
set_option maxHeartbeats 2000000 in
theorem NE_B_X2 (cs : List Nat) (m l r : Nat) (hl : l < 18446744073709551616) (h20 : cs.length ≤ 20) (n : Nat) (h1 : 1 ≤ n) (h2 : n ≤ 8) (hW : ¬ Valid [0] 0 l r) (hV : Valid cs m l r) (h3 : 0 ≤ (n : Int)) (h4 : cs.length ≤ (n : Int))  : Fn Try.prog 4 [hdD (vlst (rowQ cs)) (alR m l r), .v (nI n)] (.v (.bool true)) := by
 have hle8 : cs.length ≤ 8 := hV.2.1
 have hle1 : 1 ≤ cs.length := hV.1
 have hno : ¬ (0 ≤ (n : Int) ∧ (n : Int) < (cs.length : Int) ∧ Valid cs m l r) := fun h => by omega
 refine Fn.of Try.func4 rfl (by kernel_rfl) Try.ntmps4 (by simp) (fun w => [(0, old w.heap.size (hdD (vlst (rowQ cs)) (alR m l r))), (1, .v (nI n))]) (fun w => (Start.old rfl (Start.v rfl Start.nil))) fun w₀ => ?_
 refine A.nameHd (t := 0) (k := 1000200) rfl fun v hv => ?_
 refine GS ?_
 refine TN 0 ?_
 refine RN ?_
 refine ⟨_, _, eff_box (n := 152) (d := 2) (k := 1000002) rfl (by decide), fun b2 hb2 => ?_⟩
 have hBb2 := hb2.1
 refine TL ?_
 refine RA rfl ?_
 refine RN ?_
 refine A.seq ?_
 refine GS ?_
 refine TL ?_
 refine RS (ok_field field36_0 (by decide) rfl) ?_
 refine RS (OpOk.valO (ok_loadV (s := 1000002) (by decide) Try.underlying34 rfl rfl rfl (rfl)) (k := 1000200) (by decide) rfl) ?_
 refine RS (ok_lenU cs.length Try.underlying34 rfl LA (rowQ_length cs)) ?_
 refine RBS rfl rfl rfl (.bool false) (by first | (simp; done) | (simp; omega)) ?_
 refine RN ?_
 refine A.no rfl ?_
 refine A.skip ?_
 refine EN ?_
 refine GS ?_
 refine TL ?_
 refine RS (ok_field field36_0 (by decide) rfl) ?_
 refine RS (OpOk.valO (ok_loadV (s := 1000002) (by decide) Try.underlying34 rfl rfl rfl (rfl)) (k := 1000200) (by decide) rfl) ?_
 refine RS (ok_field field36_1 (by decide) rfl) ?_
 refine RS (ok_loadV (s := 1000002) (by decide) Try.underlying23 rfl rfl rfl (rfl)) ?_
 refine RS (ok_field field36_2 (by decide) rfl) ?_
 refine RS (ok_loadV (s := 1000002) (by decide) Try.underlying23 rfl rfl rfl (rfl)) ?_
 refine RS (ok_field field36_3 (by decide) rfl) ?_
 refine RS (ok_loadV (s := 1000002) (by decide) Try.underlying23 rfl rfl rfl (rfl)) ?_
 refine RS (ok_call (refCheck_ok cs m l r hV) (Args.cons rfl (Le.old _ _) (A3 rfl rfl rfl))) ?_
 refine RA rfl ?_
 refine RN ?_
 refine GS ?_
 refine TN 9 ?_
 refine RM rfl ?_
 refine RS (ok_field field36_2 (by decide) rfl) ?_
 refine RS (ok_loadV (s := 1000002) (by decide) Try.underlying23 rfl rfl rfl (rfl)) ?_
 refine RS (ok_field field36_3 (by decide) rfl) ?_
 refine RS (ok_loadV (s := 1000002) (by decide) Try.underlying23 rfl rfl rfl (rfl)) ?_
 refine RS (ok_call (New_B n l r h1 h2 (fun h => hW ((valid_rep h1 h2).1 h))) (A3 rfl rfl rfl)) ?_
 refine RM rfl ?_
 refine RS (ok_extractV rfl rfl) ?_
 refine RS (ok_extractV rfl rfl) ?_
 refine RN ?_
 refine ⟨_, _, eff_alloc (n := 152) (d := 6) (k := 1000006) zero36 (by decide), fun b6 hb6 => ?_⟩
 have hBb6 := hb6.1
 have hlt_b2_b6 : b2 < b6 := hb6.2 1000002 _ _ _ rfl
 refine TF 10 ?_
 refine RN ?_
 refine ⟨_, eff_storeA (n := 152) (s := 1000006) (size36.of (rfl)) rfl rfl (rfl) hBb6 rfl (rfl) (LV 1 rfl (LV 2 rfl (LV 5 rfl (LV 6 rfl (LV 39 rfl (LB 1000002 rfl (LO 1000200 rfl LN))))))), ?_⟩
 refine TL ?_
 refine RA rfl ?_
 refine RN ?_
 refine A.sub (KC 1 rfl (KC 2 rfl (KC 5 rfl (KC 6 rfl (KC 7 rfl (KC 1000002 rfl (KC 1000006 rfl (KC 1000200 rfl KN)))))))) ?_
 refine A.seq ?_
 refine GS ?_
 refine TL ?_
 refine RS (OpOk.hdO (ok_loadA (s := 1000002) (by decide) Try.underlying36 rfl (size36.of (rfl)) rfl rfl) hv (k := 1000200) (by decide) rfl) ?_
 refine RS (ok_call (Check_ok cs m l r hV) (Args.cons rfl (Le.old _ _) Args.nil)) ?_
 refine RM rfl ?_
 refine RBS rfl rfl rfl (.bool false) (by rfl) ?_
 refine RN ?_
 refine A.no rfl ?_
 refine A.skip ?_
 refine EN ?_
 refine A.seq ?_
 refine GS ?_
 refine TL ?_
 refine RM rfl ?_
 refine RBS rfl rfl rfl (.bool false) (by first | (simp; done) | (simp; omega)) ?_
 refine RM rfl ?_
 refine RQ (ok_move rfl) ?_
 refine RQ (ok_bin rfl rfl rfl) ?_; refine RZ (.bool false) (by first | (simp; done) | (simp; omega)) ?_
 refine RP rfl rfl ?_
 refine RM rfl ?_
 refine RQ (ok_buildF [qV 0] Try.underlying34 info23 rfl (by decide) (by decide) rfl ⟨rfl, rfl, trivial⟩ rfl) ?_
 refine RQ (ok_field field36_2 (by decide) rfl) ?_
 refine RQ (ok_loadV (s := 1000002) (by decide) Try.underlying23 rfl rfl rfl (rfl)) ?_
 refine RQ (ok_field field36_3 (by decide) rfl) ?_
 refine RQ (ok_loadV (s := 1000002) (by decide) Try.underlying23 rfl rfl rfl (rfl)) ?_
 refine RQ (ok_call (refCheck_bad [0] 0 l r hW) (Args.cons rfl ((fresh_vlist (xs := rowQ [0]) rfl (by decide)).trans (le_vlst _ _)) (A3 rfl rfl rfl))) ?_
 refine RQ (ok_bin rfl rfl rfl) ?_; refine RZ (.bool true) (by rfl) ?_
 refine RP rfl rfl ?_
 refine RN ?_
 refine A.yes rfl ?_
 refine GS ?_
 refine TL ?_
 refine RM rfl ?_
 refine RBS rfl rfl rfl (.bool false) (by rfl) ?_
 refine RM rfl ?_
 refine RQ (ok_field field36_0 (by decide) rfl) ?_
 refine RQ (ok_loadV (s := 1000006) (by decide) Try.underlying34 rfl rfl rfl (rfl)) ?_
 refine RQ (ok_lenV Try.underlying34 rfl) ?_
 refine RQ (ok_bin rfl rfl rfl) ?_; refine RZ (.bool false) (by rfl) ?_
 refine RP rfl rfl ?_
 refine RN ?_
 refine A.sub (KC 1 rfl (KC 2 rfl (KC 5 rfl (KC 66 rfl (KC 1000002 rfl (KC 1000006 rfl (KC 1000200 rfl KN))))))) ?_
 refine A.no rfl ?_
 refine A.skip ?_
 refine EN ?_
 refine A.seq ?_
 refine GS ?_
 refine TL ?_
 refine RM rfl ?_
 refine RBS rfl rfl rfl (.bool true) (by rfl) ?_
 refine RM rfl ?_
 refine RQ (ok_move rfl) ?_
 refine RQ (ok_bin rfl rfl rfl) ?_; refine RZ (.bool true) (by first | (simp; done) | (simp; omega)) ?_
 refine RP rfl rfl ?_
 refine RM rfl ?_
 refine RQ (ok_move rfl) ?_
 refine RQ (ok_field field36_0 (by decide) rfl) ?_
 refine RQ (OpOk.valO (ok_loadV (s := 1000002) (by decide) Try.underlying34 rfl rfl rfl (rfl)) (k := 1000200) (by decide) rfl) ?_
 refine RQ (ok_lenU cs.length Try.underlying34 rfl LA (rowQ_length cs)) ?_
 refine RQ (ok_bin rfl rfl rfl) ?_; refine RZ (.bool false) (by first | (simp; done) | (simp; omega)) ?_
 refine RP rfl rfl ?_
 refine RN ?_
 refine A.no rfl ?_
 refine A.skip ?_
 refine EN ?_
 refine GS ?_
 refine TN 7 ?_
 refine RS (OpOk.hdO (ok_loadA (s := 1000002) (by decide) Try.underlying36 rfl (size36.of (rfl)) rfl rfl) hv (k := 1000200) (by decide) rfl) ?_
 refine RM rfl ?_
 refine RS (ok_call (Take_no cs m l r (n : Int) hno) (Args.cons rfl (Le.old _ _) (A1 rfl))) ?_
 refine RM rfl ?_
 refine RS (ok_extractV rfl rfl) ?_
 refine RS (ok_extractV rfl rfl) ?_
 refine RS (ok_extractV rfl rfl) ?_
 refine RN ?_
 refine ⟨_, _, eff_alloc (n := 152) (d := 8) (k := 1000008) zero25 (by decide), fun b8 hb8 => ?_⟩
 have hBb8 := hb8.1
 refine TN 8 ?_
 refine RN ?_
 refine ⟨_, _, eff_alloc (n := 152) (d := 9) (k := 1000009) zero36 (by decide), fun b9 hb9 => ?_⟩
 have hBb9 := hb9.1
 have hlt_b2_b9 : b2 < b9 := hb9.2 1000002 _ _ _ rfl
 have hlt_b6_b9 : b6 < b9 := hb9.2 1000006 _ _ _ rfl
 refine TF 9 ?_
 refine RN ?_
 refine ⟨_, eff_storeA (n := 152) (s := 1000008) (size25.of (rfl)) rfl rfl (rfl) hBb8 rfl (rfl) (LV 1 rfl (LV 2 rfl (LV 5 rfl (LV 8 rfl (LV 9 rfl (LV 100 rfl (LV 101 rfl (LT 1000002 rfl (LT 1000006 rfl (LT 1000009 rfl (LO 1000200 rfl LN))))))))))), ?_⟩
 refine TF 10 ?_
 refine RN ?_
 refine ⟨_, eff_storeA (n := 152) (s := 1000009) (size36.of (rfl)) rfl rfl (rfl) hBb9 rfl (rfl) (LV 1 rfl (LV 2 rfl (LV 5 rfl (LV 8 rfl (LV 9 rfl (LV 101 rfl (LB 1000002 rfl (LB 1000006 rfl (LT 1000008 rfl (LO 1000200 rfl LN)))))))))), ?_⟩
 refine TL ?_
 refine RA rfl ?_
 refine RN ?_
 refine A.sub (KC 1 rfl (KC 2 rfl (KC 5 rfl (KC 8 rfl (KC 9 rfl (KC 10 rfl (KC 1000002 rfl (KC 1000006 rfl (KC 1000008 rfl (KC 1000009 rfl (KC 1000200 rfl KN))))))))))) ?_
 refine GS ?_
 refine TL ?_
 refine RS (OpOk.hdO (ok_loadA (s := 1000002) (by decide) Try.underlying36 rfl (size36.of (rfl)) rfl rfl) hv (k := 1000200) (by decide) rfl) ?_
 refine RM rfl ?_
 refine RS (ok_call (Left_no cs m l r (n : Int) hno) (Args.cons rfl (Le.old _ _) (A1 rfl))) ?_
 refine RM rfl ?_
 refine RS (ok_extractV rfl rfl) ?_
 refine RS (ok_extractV rfl rfl) ?_
 refine RA rfl ?_
 refine RA rfl ?_
 refine RN ?_
 refine A.seq ?_
 refine GS ?_
 refine TL ?_
 refine RM rfl ?_
 refine RBS rfl rfl rfl (.bool false) (by rfl) ?_
 refine RM rfl ?_
 refine RQ (ok_loadA (s := 1000008) (by decide) Try.underlying25 rfl (size25.of (rfl)) rfl rfl) ?_
 refine RQ (ok_lit [] ([.int .u32 0] ++ [.int .u64 0]) (fun _ _ => rfl) (by kernel_rfl)) ?_
 refine RQ (ok_neqT (n := 3) true flatN (by decide) (by kernel_rfl) (by kernel_rfl) rfl rfl (kinN _ _) (kinN _ _) ⟨fun _ => rfl, fun _ => rfl⟩) ?_; refine RZ (.bool false) (by rfl) ?_
 refine RP rfl rfl ?_
 refine RM rfl ?_
 refine RQ (ok_field field36_0 (by decide) rfl) ?_
 refine RQ (ok_loadV (s := 1000009) (by decide) Try.underlying34 rfl rfl rfl (rfl)) ?_
 refine RQ (ok_lenV Try.underlying34 rfl) ?_
 refine RQ (ok_bin rfl rfl rfl) ?_; refine RZ (.bool false) (by rfl) ?_
 refine RP rfl rfl ?_
 refine RM rfl ?_
 refine RQ (ok_move rfl) ?_
 refine RQ (ok_bin rfl rfl rfl) ?_; refine RZ (.bool false) (by rfl) ?_
 refine RP rfl rfl ?_
 refine RM rfl ?_
 refine RQ (ok_move rfl) ?_
 refine RQ (ok_bin rfl rfl rfl) ?_; refine RZ (.bool false) (by rfl) ?_
 refine RP rfl rfl ?_
 refine RN ?_
 refine A.sub (KC 2 rfl (KC 5 rfl (KC 128 rfl (KC 1000002 rfl (KC 1000006 rfl (KC 1000008 rfl (KC 1000009 rfl (KC 1000200 rfl KN)))))))) ?_
 refine A.no rfl ?_
 refine A.skip ?_
 refine EN ?_
 refine GS ?_
 refine TN 5 ?_
 refine RS (OpOk.hdO (ok_loadA (s := 1000002) (by decide) Try.underlying36 rfl (size36.of (rfl)) rfl rfl) hv (k := 1000200) (by decide) rfl) ?_
 refine RS (ok_call (Extend_any cs m l r hV hl) (Args.cons rfl (Le.old _ _) Args.nil)) ?_
 refine RM rfl ?_
 refine RS (ok_extract rfl rfl) ?_
 refine RS (ok_extract rfl rfl) ?_
 refine RN ?_
 refine ⟨_, _, eff_alloc (n := 152) (d := 13) (k := 1000013) zero36 (by decide), fun b13 hb13 => ?_⟩
 have hBb13 := hb13.1
 have hlt_b2_b13 : b2 < b13 := hb13.2 1000002 _ _ _ rfl
 have hlt_b6_b13 : b6 < b13 := hb13.2 1000006 _ _ _ rfl
 have hlt_b9_b13 : b9 < b13 := hb13.2 1000009 _ _ _ rfl
 refine TF 6 ?_
 refine RN ?_
 refine ⟨_, eff_storeX (n := 152) (s := 1000013) size36 rfl rfl hBb13 rfl rfl (LV 2 rfl (LV 5 rfl (LeftS.cons (t := 133) rfl (Surv.any) (LB 1000002 rfl (LB 1000006 rfl (LT 1000008 rfl (LB 1000009 rfl (LO 1000200 rfl LN)))))))), ?_⟩
 refine TL ?_
 refine RA rfl ?_
 refine RN ?_
 refine GS ?_
 refine TN 5 ?_
 refine RS (OpOk.hdO (ok_loadA (s := 1000002) (by decide) Try.underlying36 rfl (size36.of (rfl)) rfl rfl) hv (k := 1000200) (by decide) rfl) ?_
 refine RS (ok_call (Crash_any cs m l r hV) (Args.cons rfl (Le.old _ _) Args.nil)) ?_
 refine RM rfl ?_
 refine RS (ok_extract rfl rfl) ?_
 refine RS (ok_extract rfl rfl) ?_
 refine RN ?_
 refine ⟨_, _, eff_alloc (n := 152) (d := 15) (k := 1000015) zero36 (by decide), fun b15 hb15 => ?_⟩
 have hBb15 := hb15.1
 have hlt_b2_b15 : b2 < b15 := hb15.2 1000002 _ _ _ rfl
 have hlt_b6_b15 : b6 < b15 := hb15.2 1000006 _ _ _ rfl
 have hlt_b9_b15 : b9 < b15 := hb15.2 1000009 _ _ _ rfl
 refine TF 6 ?_
 refine RN ?_
 refine ⟨_, eff_storeX (n := 152) (s := 1000015) size36 rfl rfl hBb15 rfl rfl (LV 5 rfl (LeftS.cons (t := 14) rfl (Surv.any) (LeftS.cons (t := 138) rfl (Surv.any) (LB 1000002 rfl (LB 1000006 rfl (LT 1000008 rfl (LB 1000009 rfl (LO 1000200 rfl LN)))))))), ?_⟩
 refine TL ?_
 refine RA rfl ?_
 refine RN ?_
 refine GS ?_
 refine TL ?_
 refine RM rfl ?_
 refine RBS rfl rfl rfl (.bool true) (by rfl) ?_
 refine RM rfl ?_
 refine RK ?_
 refine RK ?_
 refine RK ?_
 refine RunK.skippedU rfl rfl rfl rfl ?_
 refine RunK.skippedU rfl rfl rfl rfl ?_
 refine RK ?_
 refine RP rfl rfl ?_
 refine RM rfl ?_
 refine RQ (ok_call lives8_fn Args.nil) ?_
 refine RP rfl rfl ?_
 refine RA rfl ?_
 refine RN ?_
 refine A.sub (KC 4 rfl (KC 1000002 rfl (KC 1000006 rfl (KC 1000008 rfl (KC 1000009 rfl (KC 1000200 rfl KN)))))) ?_
 refine A.ret ?_
 exact End.ret1 rfl rfl (by first | exact Le.refl _ | exact Le.old _ _)
set_option maxHeartbeats 2000000 in
theorem NE_B_Y (cs : List Nat) (m l r : Nat) (hl : l < 18446744073709551616) (h20 : cs.length ≤ 20) (n : Nat) (h1 : 1 ≤ n) (h2 : n ≤ 8) (hW : ¬ Valid [0] 0 l r) (hV : ¬ Valid cs m l r)  : Fn Try.prog 4 [hdD (vlst (rowQ cs)) (alR m l r), .v (nI n)] (.v (.bool true)) := by
 have hle20 : cs.length ≤ 20 := h20
 have hno : ¬ (0 ≤ (n : Int) ∧ (n : Int) < (cs.length : Int) ∧ Valid cs m l r) := fun h => hV h.2.2
 refine Fn.of Try.func4 rfl (by kernel_rfl) Try.ntmps4 (by simp) (fun w => [(0, old w.heap.size (hdD (vlst (rowQ cs)) (alR m l r))), (1, .v (nI n))]) (fun w => (Start.old rfl (Start.v rfl Start.nil))) fun w₀ => ?_
 refine A.nameHd (t := 0) (k := 1000200) rfl fun v hv => ?_
 refine GS ?_
 refine TN 0 ?_
 refine RN ?_
 refine ⟨_, _, eff_box (n := 152) (d := 2) (k := 1000002) rfl (by decide), fun b2 hb2 => ?_⟩
 have hBb2 := hb2.1
 refine TL ?_
 refine RA rfl ?_
 refine RN ?_
 refine A.seq ?_
 refine GS ?_
 refine TL ?_
 refine RS (ok_field field36_0 (by decide) rfl) ?_
 refine RS (OpOk.valO (ok_loadV (s := 1000002) (by decide) Try.underlying34 rfl rfl rfl (rfl)) (k := 1000200) (by decide) rfl) ?_
 refine RS (ok_lenU cs.length Try.underlying34 rfl LA (rowQ_length cs)) ?_
 refine RBS rfl rfl rfl (.bool false) (by first | (simp; done) | (simp; omega)) ?_
 refine RN ?_
 refine A.no rfl ?_
 refine A.skip ?_
 refine EN ?_
 refine GS ?_
 refine TL ?_
 refine RS (ok_field field36_0 (by decide) rfl) ?_
 refine RS (OpOk.valO (ok_loadV (s := 1000002) (by decide) Try.underlying34 rfl rfl rfl (rfl)) (k := 1000200) (by decide) rfl) ?_
 refine RS (ok_field field36_1 (by decide) rfl) ?_
 refine RS (ok_loadV (s := 1000002) (by decide) Try.underlying23 rfl rfl rfl (rfl)) ?_
 refine RS (ok_field field36_2 (by decide) rfl) ?_
 refine RS (ok_loadV (s := 1000002) (by decide) Try.underlying23 rfl rfl rfl (rfl)) ?_
 refine RS (ok_field field36_3 (by decide) rfl) ?_
 refine RS (ok_loadV (s := 1000002) (by decide) Try.underlying23 rfl rfl rfl (rfl)) ?_
 refine RS (ok_call (refCheck_bad cs m l r hV) (Args.cons rfl (Le.old _ _) (A3 rfl rfl rfl))) ?_
 refine RA rfl ?_
 refine RN ?_
 refine GS ?_
 refine TN 9 ?_
 refine RM rfl ?_
 refine RS (ok_field field36_2 (by decide) rfl) ?_
 refine RS (ok_loadV (s := 1000002) (by decide) Try.underlying23 rfl rfl rfl (rfl)) ?_
 refine RS (ok_field field36_3 (by decide) rfl) ?_
 refine RS (ok_loadV (s := 1000002) (by decide) Try.underlying23 rfl rfl rfl (rfl)) ?_
 refine RS (ok_call (New_B n l r h1 h2 (fun h => hW ((valid_rep h1 h2).1 h))) (A3 rfl rfl rfl)) ?_
 refine RM rfl ?_
 refine RS (ok_extractV rfl rfl) ?_
 refine RS (ok_extractV rfl rfl) ?_
 refine RN ?_
 refine ⟨_, _, eff_alloc (n := 152) (d := 6) (k := 1000006) zero36 (by decide), fun b6 hb6 => ?_⟩
 have hBb6 := hb6.1
 have hlt_b2_b6 : b2 < b6 := hb6.2 1000002 _ _ _ rfl
 refine TF 10 ?_
 refine RN ?_
 refine ⟨_, eff_storeA (n := 152) (s := 1000006) (size36.of (rfl)) rfl rfl (rfl) hBb6 rfl (rfl) (LV 1 rfl (LV 2 rfl (LV 5 rfl (LV 6 rfl (LV 39 rfl (LB 1000002 rfl (LO 1000200 rfl LN))))))), ?_⟩
 refine TL ?_
 refine RA rfl ?_
 refine RN ?_
 refine A.sub (KC 1 rfl (KC 2 rfl (KC 5 rfl (KC 6 rfl (KC 7 rfl (KC 1000002 rfl (KC 1000006 rfl (KC 1000200 rfl KN)))))))) ?_
 refine A.seq ?_
 refine GS ?_
 refine TL ?_
 refine RS (OpOk.hdO (ok_loadA (s := 1000002) (by decide) Try.underlying36 rfl (size36.of (rfl)) rfl rfl) hv (k := 1000200) (by decide) rfl) ?_
 refine RS (ok_call (Check_bad cs m l r hV) (Args.cons rfl (Le.old _ _) Args.nil)) ?_
 refine RM rfl ?_
 refine RBS rfl rfl rfl (.bool false) (by rfl) ?_
 refine RN ?_
 refine A.no rfl ?_
 refine A.skip ?_
 refine EN ?_
 refine A.seq ?_
 refine GS ?_
 refine TL ?_
 refine RM rfl ?_
 refine RBS rfl rfl rfl (.bool false) (by first | (simp; done) | (simp; omega)) ?_
 refine RM rfl ?_
 refine RQ (ok_move rfl) ?_
 refine RQ (ok_bin rfl rfl rfl) ?_; refine RZ (.bool false) (by first | (simp; done) | (simp; omega)) ?_
 refine RP rfl rfl ?_
 refine RM rfl ?_
 refine RQ (ok_buildF [qV 0] Try.underlying34 info23 rfl (by decide) (by decide) rfl ⟨rfl, rfl, trivial⟩ rfl) ?_
 refine RQ (ok_field field36_2 (by decide) rfl) ?_
 refine RQ (ok_loadV (s := 1000002) (by decide) Try.underlying23 rfl rfl rfl (rfl)) ?_
 refine RQ (ok_field field36_3 (by decide) rfl) ?_
 refine RQ (ok_loadV (s := 1000002) (by decide) Try.underlying23 rfl rfl rfl (rfl)) ?_
 refine RQ (ok_call (refCheck_bad [0] 0 l r hW) (Args.cons rfl ((fresh_vlist (xs := rowQ [0]) rfl (by decide)).trans (le_vlst _ _)) (A3 rfl rfl rfl))) ?_
 refine RQ (ok_bin rfl rfl rfl) ?_; refine RZ (.bool true) (by rfl) ?_
 refine RP rfl rfl ?_
 refine RN ?_
 refine A.yes rfl ?_
 refine GS ?_
 refine TL ?_
 refine RM rfl ?_
 refine RBS rfl rfl rfl (.bool false) (by rfl) ?_
 refine RM rfl ?_
 refine RQ (ok_field field36_0 (by decide) rfl) ?_
 refine RQ (ok_loadV (s := 1000006) (by decide) Try.underlying34 rfl rfl rfl (rfl)) ?_
 refine RQ (ok_lenV Try.underlying34 rfl) ?_
 refine RQ (ok_bin rfl rfl rfl) ?_; refine RZ (.bool false) (by rfl) ?_
 refine RP rfl rfl ?_
 refine RN ?_
 refine A.sub (KC 1 rfl (KC 2 rfl (KC 5 rfl (KC 66 rfl (KC 1000002 rfl (KC 1000006 rfl (KC 1000200 rfl KN))))))) ?_
 refine A.no rfl ?_
 refine A.skip ?_
 refine EN ?_
 refine A.seq ?_
 refine GS ?_
 refine TL ?_
 refine RM rfl ?_
 refine RBS rfl rfl rfl (.bool false) (by rfl) ?_
 refine RM rfl ?_
 refine RK ?_
 refine RK ?_
 refine RP rfl rfl ?_
 refine RM rfl ?_
 refine RK ?_
 refine RK ?_
 refine RK ?_
 refine RK ?_
 refine RK ?_
 refine RP rfl rfl ?_
 refine RN ?_
 refine A.no rfl ?_
 refine A.skip ?_
 refine EN ?_
 refine GS ?_
 refine TN 7 ?_
 refine RS (OpOk.hdO (ok_loadA (s := 1000002) (by decide) Try.underlying36 rfl (size36.of (rfl)) rfl rfl) hv (k := 1000200) (by decide) rfl) ?_
 refine RM rfl ?_
 refine RS (ok_call (Take_no cs m l r (n : Int) hno) (Args.cons rfl (Le.old _ _) (A1 rfl))) ?_
 refine RM rfl ?_
 refine RS (ok_extractV rfl rfl) ?_
 refine RS (ok_extractV rfl rfl) ?_
 refine RS (ok_extractV rfl rfl) ?_
 refine RN ?_
 refine ⟨_, _, eff_alloc (n := 152) (d := 8) (k := 1000008) zero25 (by decide), fun b8 hb8 => ?_⟩
 have hBb8 := hb8.1
 refine TN 8 ?_
 refine RN ?_
 refine ⟨_, _, eff_alloc (n := 152) (d := 9) (k := 1000009) zero36 (by decide), fun b9 hb9 => ?_⟩
 have hBb9 := hb9.1
 have hlt_b2_b9 : b2 < b9 := hb9.2 1000002 _ _ _ rfl
 have hlt_b6_b9 : b6 < b9 := hb9.2 1000006 _ _ _ rfl
 refine TF 9 ?_
 refine RN ?_
 refine ⟨_, eff_storeA (n := 152) (s := 1000008) (size25.of (rfl)) rfl rfl (rfl) hBb8 rfl (rfl) (LV 1 rfl (LV 2 rfl (LV 5 rfl (LV 8 rfl (LV 9 rfl (LV 100 rfl (LV 101 rfl (LT 1000002 rfl (LT 1000006 rfl (LT 1000009 rfl (LO 1000200 rfl LN))))))))))), ?_⟩
 refine TF 10 ?_
 refine RN ?_
 refine ⟨_, eff_storeA (n := 152) (s := 1000009) (size36.of (rfl)) rfl rfl (rfl) hBb9 rfl (rfl) (LV 1 rfl (LV 2 rfl (LV 5 rfl (LV 8 rfl (LV 9 rfl (LV 101 rfl (LB 1000002 rfl (LB 1000006 rfl (LT 1000008 rfl (LO 1000200 rfl LN)))))))))), ?_⟩
 refine TL ?_
 refine RA rfl ?_
 refine RN ?_
 refine A.sub (KC 1 rfl (KC 2 rfl (KC 5 rfl (KC 8 rfl (KC 9 rfl (KC 10 rfl (KC 1000002 rfl (KC 1000006 rfl (KC 1000008 rfl (KC 1000009 rfl (KC 1000200 rfl KN))))))))))) ?_
 refine GS ?_
 refine TL ?_
 refine RS (OpOk.hdO (ok_loadA (s := 1000002) (by decide) Try.underlying36 rfl (size36.of (rfl)) rfl rfl) hv (k := 1000200) (by decide) rfl) ?_
 refine RM rfl ?_
 refine RS (ok_call (Left_no cs m l r (n : Int) hno) (Args.cons rfl (Le.old _ _) (A1 rfl))) ?_
 refine RM rfl ?_
 refine RS (ok_extractV rfl rfl) ?_
 refine RS (ok_extractV rfl rfl) ?_
 refine RA rfl ?_
 refine RA rfl ?_
 refine RN ?_
 refine A.seq ?_
 refine GS ?_
 refine TL ?_
 refine RM rfl ?_
 refine RBS rfl rfl rfl (.bool false) (by rfl) ?_
 refine RM rfl ?_
 refine RQ (ok_loadA (s := 1000008) (by decide) Try.underlying25 rfl (size25.of (rfl)) rfl rfl) ?_
 refine RQ (ok_lit [] ([.int .u32 0] ++ [.int .u64 0]) (fun _ _ => rfl) (by kernel_rfl)) ?_
 refine RQ (ok_neqT (n := 3) true flatN (by decide) (by kernel_rfl) (by kernel_rfl) rfl rfl (kinN _ _) (kinN _ _) ⟨fun _ => rfl, fun _ => rfl⟩) ?_; refine RZ (.bool false) (by rfl) ?_
 refine RP rfl rfl ?_
 refine RM rfl ?_
 refine RQ (ok_field field36_0 (by decide) rfl) ?_
 refine RQ (ok_loadV (s := 1000009) (by decide) Try.underlying34 rfl rfl rfl (rfl)) ?_
 refine RQ (ok_lenV Try.underlying34 rfl) ?_
 refine RQ (ok_bin rfl rfl rfl) ?_; refine RZ (.bool false) (by rfl) ?_
 refine RP rfl rfl ?_
 refine RM rfl ?_
 refine RQ (ok_move rfl) ?_
 refine RQ (ok_bin rfl rfl rfl) ?_; refine RZ (.bool false) (by rfl) ?_
 refine RP rfl rfl ?_
 refine RM rfl ?_
 refine RQ (ok_move rfl) ?_
 refine RQ (ok_bin rfl rfl rfl) ?_; refine RZ (.bool false) (by rfl) ?_
 refine RP rfl rfl ?_
 refine RN ?_
 refine A.sub (KC 2 rfl (KC 5 rfl (KC 128 rfl (KC 1000002 rfl (KC 1000006 rfl (KC 1000008 rfl (KC 1000009 rfl (KC 1000200 rfl KN)))))))) ?_
 refine A.no rfl ?_
 refine A.skip ?_
 refine EN ?_
 refine GS ?_
 refine TN 5 ?_
 refine RS (OpOk.hdO (ok_loadA (s := 1000002) (by decide) Try.underlying36 rfl (size36.of (rfl)) rfl rfl) hv (k := 1000200) (by decide) rfl) ?_
 refine RS (ok_call (Extend_bad cs m l r hV) (Args.cons rfl (Le.old _ _) Args.nil)) ?_
 refine RM rfl ?_
 refine RS (ok_extractV rfl rfl) ?_
 refine RS (ok_extractV rfl rfl) ?_
 refine RN ?_
 refine ⟨_, _, eff_alloc (n := 152) (d := 13) (k := 1000013) zero36 (by decide), fun b13 hb13 => ?_⟩
 have hBb13 := hb13.1
 have hlt_b2_b13 : b2 < b13 := hb13.2 1000002 _ _ _ rfl
 have hlt_b6_b13 : b6 < b13 := hb13.2 1000006 _ _ _ rfl
 have hlt_b9_b13 : b9 < b13 := hb13.2 1000009 _ _ _ rfl
 refine TF 6 ?_
 refine RN ?_
 refine ⟨_, eff_storeA (n := 152) (s := 1000013) (size36.of (rfl)) rfl rfl (rfl) hBb13 rfl (rfl) (LV 2 rfl (LV 5 rfl (LV 133 rfl (LB 1000002 rfl (LB 1000006 rfl (LT 1000008 rfl (LB 1000009 rfl (LO 1000200 rfl LN)))))))), ?_⟩
 refine TL ?_
 refine RA rfl ?_
 refine RN ?_
 refine GS ?_
 refine TN 5 ?_
 refine RS (OpOk.hdO (ok_loadA (s := 1000002) (by decide) Try.underlying36 rfl (size36.of (rfl)) rfl rfl) hv (k := 1000200) (by decide) rfl) ?_
 refine RS (ok_call (Crash_bad cs m l r hV) (Args.cons rfl (Le.old _ _) Args.nil)) ?_
 refine RM rfl ?_
 refine RS (ok_extractV rfl rfl) ?_
 refine RS (ok_extractV rfl rfl) ?_
 refine RN ?_
 refine ⟨_, _, eff_alloc (n := 152) (d := 15) (k := 1000015) zero36 (by decide), fun b15 hb15 => ?_⟩
 have hBb15 := hb15.1
 have hlt_b2_b15 : b2 < b15 := hb15.2 1000002 _ _ _ rfl
 have hlt_b6_b15 : b6 < b15 := hb15.2 1000006 _ _ _ rfl
 have hlt_b9_b15 : b9 < b15 := hb15.2 1000009 _ _ _ rfl
 have hlt_b13_b15 : b13 < b15 := hb15.2 1000013 _ _ _ rfl
 refine TF 6 ?_
 refine RN ?_
 refine ⟨_, eff_storeA (n := 152) (s := 1000015) (size36.of (rfl)) rfl rfl (rfl) hBb15 rfl (rfl) (LV 5 rfl (LV 14 rfl (LV 138 rfl (LB 1000002 rfl (LB 1000006 rfl (LT 1000008 rfl (LB 1000009 rfl (LB 1000013 rfl (LO 1000200 rfl LN))))))))), ?_⟩
 refine TL ?_
 refine RA rfl ?_
 refine RN ?_
 refine GS ?_
 refine TL ?_
 refine RM rfl ?_
 refine RBS rfl rfl rfl (.bool false) (by rfl) ?_
 refine RM rfl ?_
 refine RQ (ok_move rfl) ?_
 refine RQ (ok_bin rfl rfl rfl) ?_; refine RZ (.bool true) (by rfl) ?_
 refine RQ (ok_move rfl) ?_
 refine RQ (ok_move rfl) ?_
 refine RQ (ok_bin rfl rfl rfl) ?_; refine RZ (.bool true) (by rfl) ?_
 refine RQ (ok_pick rfl rfl) ?_
 refine RP rfl rfl ?_
 refine RM rfl ?_
 refine RQ (ok_call lives8_fn Args.nil) ?_
 refine RP rfl rfl ?_
 refine RA rfl ?_
 refine RN ?_
 refine A.sub (KC 4 rfl (KC 1000002 rfl (KC 1000006 rfl (KC 1000008 rfl (KC 1000009 rfl (KC 1000013 rfl (KC 1000015 rfl (KC 1000200 rfl KN)))))))) ?_
 refine A.ret ?_
 exact End.ret1 rfl rfl (by first | exact Le.refl _ | exact Le.old _ _)
set_option maxHeartbeats 2000000 in
theorem NE_C_L (cs : List Nat) (m l r : Nat) (hl : l < 18446744073709551616) (h20 : cs.length ≤ 20) (n : Nat) (h1 : 1 ≤ n) (h2 : n ≤ 8) (hW : Valid [0] 0 l r) (hV : Valid cs m l r) (h3 : 0 ≤ (n : Int)) (h4 : (n : Int) < cs.length)  : Fn Try.prog 4 [hdD (vlst (rowQ cs)) (alR m l r), .v (nI n)] (.v (.bool true)) := by
 have hle8 : cs.length ≤ 8 := hV.2.1
 have hle1 : 1 ≤ cs.length := hV.1
 refine Fn.of Try.func4 rfl (by kernel_rfl) Try.ntmps4 (by simp) (fun w => [(0, old w.heap.size (hdD (vlst (rowQ cs)) (alR m l r))), (1, .v (nI n))]) (fun w => (Start.old rfl (Start.v rfl Start.nil))) fun w₀ => ?_
 refine A.nameHd (t := 0) (k := 1000200) rfl fun v hv => ?_
 refine GS ?_
 refine TN 0 ?_
 refine RN ?_
 refine ⟨_, _, eff_box (n := 152) (d := 2) (k := 1000002) rfl (by decide), fun b2 hb2 => ?_⟩
 have hBb2 := hb2.1
 refine TL ?_
 refine RA rfl ?_
 refine RN ?_
 refine A.seq ?_
 refine GS ?_
 refine TL ?_
 refine RS (ok_field field36_0 (by decide) rfl) ?_
 refine RS (OpOk.valO (ok_loadV (s := 1000002) (by decide) Try.underlying34 rfl rfl rfl (rfl)) (k := 1000200) (by decide) rfl) ?_
 refine RS (ok_lenU cs.length Try.underlying34 rfl LA (rowQ_length cs)) ?_
 refine RBS rfl rfl rfl (.bool false) (by first | (simp; done) | (simp; omega)) ?_
 refine RN ?_
 refine A.no rfl ?_
 refine A.skip ?_
 refine EN ?_
 refine GS ?_
 refine TL ?_
 refine RS (ok_field field36_0 (by decide) rfl) ?_
 refine RS (OpOk.valO (ok_loadV (s := 1000002) (by decide) Try.underlying34 rfl rfl rfl (rfl)) (k := 1000200) (by decide) rfl) ?_
 refine RS (ok_field field36_1 (by decide) rfl) ?_
 refine RS (ok_loadV (s := 1000002) (by decide) Try.underlying23 rfl rfl rfl (rfl)) ?_
 refine RS (ok_field field36_2 (by decide) rfl) ?_
 refine RS (ok_loadV (s := 1000002) (by decide) Try.underlying23 rfl rfl rfl (rfl)) ?_
 refine RS (ok_field field36_3 (by decide) rfl) ?_
 refine RS (ok_loadV (s := 1000002) (by decide) Try.underlying23 rfl rfl rfl (rfl)) ?_
 refine RS (ok_call (refCheck_ok cs m l r hV) (Args.cons rfl (Le.old _ _) (A3 rfl rfl rfl))) ?_
 refine RA rfl ?_
 refine RN ?_
 refine GS ?_
 refine TN 5 ?_
 refine RM rfl ?_
 refine RS (ok_field field36_2 (by decide) rfl) ?_
 refine RS (ok_loadV (s := 1000002) (by decide) Try.underlying23 rfl rfl rfl (rfl)) ?_
 refine RS (ok_field field36_3 (by decide) rfl) ?_
 refine RS (ok_loadV (s := 1000002) (by decide) Try.underlying23 rfl rfl rfl (rfl)) ?_
 refine RN ?_
 refine ⟨_, _, eff_name (n := 152) (d := 37) (k := 1000037) rfl rfl (fun B' => ok_callB (New_C n l r h1 h2 ((valid_rep h1 h2).2 hW)) newD_mono (A3 rfl rfl rfl)) (by decide) (by decide), fun b37 hb37 => ?_⟩
 have hBb37 := hb37.1
 have hlt_b2_b37 : b2 < b37 := hb37.2 1000002 _ _ _ rfl
 refine TN 9 ?_
 refine RM rfl ?_
 refine RS (ok_extractV rfl rfl) ?_
 refine RS (ok_extractV rfl rfl) ?_
 refine RN ?_
 refine ⟨_, _, eff_alloc (n := 152) (d := 6) (k := 1000006) zero36 (by decide), fun b6 hb6 => ?_⟩
 have hBb6 := hb6.1
 have hlt_b2_b6 : b2 < b6 := hb6.2 1000002 _ _ _ rfl
 refine TF 10 ?_
 refine RN ?_
 refine ⟨_, eff_storeA (n := 152) (s := 1000006) (size36.of (rfl)) rfl rfl (rfl) hBb6 rfl (rfl) (LV 1 rfl (LV 2 rfl (LV 5 rfl (LV 6 rfl (LV 39 rfl (LB 1000002 rfl (LT 1000037 rfl (LO 1000200 rfl LN)))))))), ?_⟩
 refine TL ?_
 refine RA rfl ?_
 refine RN ?_
 refine A.sub (KC 1 rfl (KC 2 rfl (KC 5 rfl (KC 6 rfl (KC 7 rfl (KC 1000002 rfl (KC 1000006 rfl (KC 1000037 rfl (KC 1000200 rfl KN))))))))) ?_
 refine A.seq ?_
 refine GS ?_
 refine TL ?_
 refine RS (OpOk.hdO (ok_loadA (s := 1000002) (by decide) Try.underlying36 rfl (size36.of (rfl)) rfl rfl) hv (k := 1000200) (by decide) rfl) ?_
 refine RS (ok_call (Check_ok cs m l r hV) (Args.cons rfl (Le.old _ _) Args.nil)) ?_
 refine RM rfl ?_
 refine RBS rfl rfl rfl (.bool false) (by rfl) ?_
 refine RN ?_
 refine A.no rfl ?_
 refine A.skip ?_
 refine EN ?_
 refine A.seq ?_
 refine GS ?_
 refine TL ?_
 refine RM rfl ?_
 refine RBS rfl rfl rfl (.bool false) (by first | (simp; done) | (simp; omega)) ?_
 refine RM rfl ?_
 refine RQ (ok_move rfl) ?_
 refine RQ (ok_bin rfl rfl rfl) ?_; refine RZ (.bool false) (by first | (simp; done) | (simp; omega)) ?_
 refine RP rfl rfl ?_
 refine RM rfl ?_
 refine RQ (ok_buildF [qV 0] Try.underlying34 info23 rfl (by decide) (by decide) rfl ⟨rfl, rfl, trivial⟩ rfl) ?_
 refine RQ (ok_field field36_2 (by decide) rfl) ?_
 refine RQ (ok_loadV (s := 1000002) (by decide) Try.underlying23 rfl rfl rfl (rfl)) ?_
 refine RQ (ok_field field36_3 (by decide) rfl) ?_
 refine RQ (ok_loadV (s := 1000002) (by decide) Try.underlying23 rfl rfl rfl (rfl)) ?_
 refine RQ (ok_call (refCheck_ok [0] 0 l r hW) (Args.cons rfl ((fresh_vlist (xs := rowQ [0]) rfl (by decide)).trans (le_vlst _ _)) (A3 rfl rfl rfl))) ?_
 refine RQ (ok_bin rfl rfl rfl) ?_; refine RZ (.bool false) (by rfl) ?_
 refine RP rfl rfl ?_
 refine RN ?_
 refine A.no rfl ?_
 refine GD ?_
 refine TL ?_
 refine RM rfl ?_
 refine RBS rfl rfl rfl (.bool false) (by rfl) ?_
 refine RM rfl ?_
 refine RQ (OpOk.fact (ok_loadA (s := 1000006) (by decide) Try.underlying36 rfl (size36.of (rfl)) rfl rfl) (d := hdD (vlist (rowQ (List.replicate n 0)) n) (alR 0 l r)) (s := 1000037) (by decide) rfl (hd_of (rowQ (List.replicate n 0)) (alR 0 l r) (by simp [rowQ]) (Nat.le_refl _) (by simp only [maxLen]; omega) (by simp [rowQ]))) ?_
 refine RQ (ok_move rfl) ?_
 refine RQ ((ok_make n Try.underlying34 info23 (by decide) rfl rfl rfl rfl rfl (by omega)).le (d' := fresh w₀.heap.size 23 (rowQ (List.replicate n 0)) n) (Le.eq (congrArg (fun x => fresh w₀.heap.size 23 x n) (rowQ_rep n 0)))) ?_
 refine RQ (ok_field field36_2 (by decide) rfl) ?_
 refine RQ (ok_loadV (s := 1000002) (by decide) Try.underlying23 rfl rfl rfl (rfl)) ?_
 refine RQ (ok_field field36_3 (by decide) rfl) ?_
 refine RQ (ok_loadV (s := 1000002) (by decide) Try.underlying23 rfl rfl rfl (rfl)) ?_
 refine RQ (ok_buildS [(2, qV l), (3, qV r)] rfl rfl fresh_slice ⟨rfl, rfl, rfl, rfl, trivial⟩ (rest := alR 0 l r) (fun B' k c => buildA023 B' k c l r)) ?_
 refine RQ (ok_call (same8_fn (List.replicate n 0) 0 l r (by rw [List.length_replicate]; omega)) (Args.cons rfl (Le.eq (by rw [List.length_replicate])) (Args.cons rfl (hd_le ((fresh_vlist (by rw [rowQ_length, List.length_replicate]) (by simp only [maxLen]; omega)).trans (le_vlst _ _))) Args.nil))) ?_
 refine RQ (ok_not rfl) ?_; refine RZ (.bool false) (by rfl) ?_
 refine RP rfl rfl ?_
 refine RN ?_
 refine A.sub (KC 1 rfl (KC 2 rfl (KC 5 rfl (KC 80 rfl (KC 1000002 rfl (KC 1000006 rfl (KC 1000037 rfl (KC 1000200 rfl KN)))))))) ?_
 refine A.no rfl ?_
 refine A.skip ?_
 refine EN ?_
 refine A.seq ?_
 refine GS ?_
 refine TL ?_
 refine RM rfl ?_
 refine RBS rfl rfl rfl (.bool true) (by rfl) ?_
 refine RM rfl ?_
 refine RQ (ok_move rfl) ?_
 refine RQ (ok_bin rfl rfl rfl) ?_; refine RZ (.bool true) (by first | (simp; done) | (simp; omega)) ?_
 refine RP rfl rfl ?_
 refine RM rfl ?_
 refine RQ (ok_move rfl) ?_
 refine RQ (ok_field field36_0 (by decide) rfl) ?_
 refine RQ (OpOk.valO (ok_loadV (s := 1000002) (by decide) Try.underlying34 rfl rfl rfl (rfl)) (k := 1000200) (by decide) rfl) ?_
 refine RQ (ok_lenU cs.length Try.underlying34 rfl LA (rowQ_length cs)) ?_
 refine RQ (ok_bin rfl rfl rfl) ?_; refine RZ (.bool true) (by first | (simp; done) | (simp; omega)) ?_
 refine RP rfl rfl ?_
 refine RN ?_
 refine A.yes rfl ?_
 refine GS ?_
 refine TL ?_
 refine RS (ok_call lives8_fn Args.nil) ?_
 refine RA rfl ?_
 refine RN ?_
 refine A.ret ?_
 refine End.ret_then ?_
 exact End.ret1 rfl rfl (by first | exact Le.refl _ | exact Le.old _ _)
set_option maxHeartbeats 2000000 in
theorem NE_C_X2 (cs : List Nat) (m l r : Nat) (hl : l < 18446744073709551616) (h20 : cs.length ≤ 20) (n : Nat) (h1 : 1 ≤ n) (h2 : n ≤ 8) (hW : Valid [0] 0 l r) (hV : Valid cs m l r) (h3 : 0 ≤ (n : Int)) (h4 : cs.length ≤ (n : Int))  : Fn Try.prog 4 [hdD (vlst (rowQ cs)) (alR m l r), .v (nI n)] (.v (.bool true)) := by
 have hle8 : cs.length ≤ 8 := hV.2.1
 have hle1 : 1 ≤ cs.length := hV.1
 have hno : ¬ (0 ≤ (n : Int) ∧ (n : Int) < (cs.length : Int) ∧ Valid cs m l r) := fun h => by omega
 refine Fn.of Try.func4 rfl (by kernel_rfl) Try.ntmps4 (by simp) (fun w => [(0, old w.heap.size (hdD (vlst (rowQ cs)) (alR m l r))), (1, .v (nI n))]) (fun w => (Start.old rfl (Start.v rfl Start.nil))) fun w₀ => ?_
 refine A.nameHd (t := 0) (k := 1000200) rfl fun v hv => ?_
 refine GS ?_
 refine TN 0 ?_
 refine RN ?_
 refine ⟨_, _, eff_box (n := 152) (d := 2) (k := 1000002) rfl (by decide), fun b2 hb2 => ?_⟩
 have hBb2 := hb2.1
 refine TL ?_
 refine RA rfl ?_
 refine RN ?_
 refine A.seq ?_
 refine GS ?_
 refine TL ?_
 refine RS (ok_field field36_0 (by decide) rfl) ?_
 refine RS (OpOk.valO (ok_loadV (s := 1000002) (by decide) Try.underlying34 rfl rfl rfl (rfl)) (k := 1000200) (by decide) rfl) ?_
 refine RS (ok_lenU cs.length Try.underlying34 rfl LA (rowQ_length cs)) ?_
 refine RBS rfl rfl rfl (.bool false) (by first | (simp; done) | (simp; omega)) ?_
 refine RN ?_
 refine A.no rfl ?_
 refine A.skip ?_
 refine EN ?_
 refine GS ?_
 refine TL ?_
 refine RS (ok_field field36_0 (by decide) rfl) ?_
 refine RS (OpOk.valO (ok_loadV (s := 1000002) (by decide) Try.underlying34 rfl rfl rfl (rfl)) (k := 1000200) (by decide) rfl) ?_
 refine RS (ok_field field36_1 (by decide) rfl) ?_
 refine RS (ok_loadV (s := 1000002) (by decide) Try.underlying23 rfl rfl rfl (rfl)) ?_
 refine RS (ok_field field36_2 (by decide) rfl) ?_
 refine RS (ok_loadV (s := 1000002) (by decide) Try.underlying23 rfl rfl rfl (rfl)) ?_
 refine RS (ok_field field36_3 (by decide) rfl) ?_
 refine RS (ok_loadV (s := 1000002) (by decide) Try.underlying23 rfl rfl rfl (rfl)) ?_
 refine RS (ok_call (refCheck_ok cs m l r hV) (Args.cons rfl (Le.old _ _) (A3 rfl rfl rfl))) ?_
 refine RA rfl ?_
 refine RN ?_
 refine GS ?_
 refine TN 5 ?_
 refine RM rfl ?_
 refine RS (ok_field field36_2 (by decide) rfl) ?_
 refine RS (ok_loadV (s := 1000002) (by decide) Try.underlying23 rfl rfl rfl (rfl)) ?_
 refine RS (ok_field field36_3 (by decide) rfl) ?_
 refine RS (ok_loadV (s := 1000002) (by decide) Try.underlying23 rfl rfl rfl (rfl)) ?_
 refine RN ?_
 refine ⟨_, _, eff_name (n := 152) (d := 37) (k := 1000037) rfl rfl (fun B' => ok_callB (New_C n l r h1 h2 ((valid_rep h1 h2).2 hW)) newD_mono (A3 rfl rfl rfl)) (by decide) (by decide), fun b37 hb37 => ?_⟩
 have hBb37 := hb37.1
 have hlt_b2_b37 : b2 < b37 := hb37.2 1000002 _ _ _ rfl
 refine TN 9 ?_
 refine RM rfl ?_
 refine RS (ok_extractV rfl rfl) ?_
 refine RS (ok_extractV rfl rfl) ?_
 refine RN ?_
 refine ⟨_, _, eff_alloc (n := 152) (d := 6) (k := 1000006) zero36 (by decide), fun b6 hb6 => ?_⟩
 have hBb6 := hb6.1
 have hlt_b2_b6 : b2 < b6 := hb6.2 1000002 _ _ _ rfl
 refine TF 10 ?_
 refine RN ?_
 refine ⟨_, eff_storeA (n := 152) (s := 1000006) (size36.of (rfl)) rfl rfl (rfl) hBb6 rfl (rfl) (LV 1 rfl (LV 2 rfl (LV 5 rfl (LV 6 rfl (LV 39 rfl (LB 1000002 rfl (LT 1000037 rfl (LO 1000200 rfl LN)))))))), ?_⟩
 refine TL ?_
 refine RA rfl ?_
 refine RN ?_
 refine A.sub (KC 1 rfl (KC 2 rfl (KC 5 rfl (KC 6 rfl (KC 7 rfl (KC 1000002 rfl (KC 1000006 rfl (KC 1000037 rfl (KC 1000200 rfl KN))))))))) ?_
 refine A.seq ?_
 refine GS ?_
 refine TL ?_
 refine RS (OpOk.hdO (ok_loadA (s := 1000002) (by decide) Try.underlying36 rfl (size36.of (rfl)) rfl rfl) hv (k := 1000200) (by decide) rfl) ?_
 refine RS (ok_call (Check_ok cs m l r hV) (Args.cons rfl (Le.old _ _) Args.nil)) ?_
 refine RM rfl ?_
 refine RBS rfl rfl rfl (.bool false) (by rfl) ?_
 refine RN ?_
 refine A.no rfl ?_
 refine A.skip ?_
 refine EN ?_
 refine A.seq ?_
 refine GS ?_
 refine TL ?_
 refine RM rfl ?_
 refine RBS rfl rfl rfl (.bool false) (by first | (simp; done) | (simp; omega)) ?_
 refine RM rfl ?_
 refine RQ (ok_move rfl) ?_
 refine RQ (ok_bin rfl rfl rfl) ?_; refine RZ (.bool false) (by first | (simp; done) | (simp; omega)) ?_
 refine RP rfl rfl ?_
 refine RM rfl ?_
 refine RQ (ok_buildF [qV 0] Try.underlying34 info23 rfl (by decide) (by decide) rfl ⟨rfl, rfl, trivial⟩ rfl) ?_
 refine RQ (ok_field field36_2 (by decide) rfl) ?_
 refine RQ (ok_loadV (s := 1000002) (by decide) Try.underlying23 rfl rfl rfl (rfl)) ?_
 refine RQ (ok_field field36_3 (by decide) rfl) ?_
 refine RQ (ok_loadV (s := 1000002) (by decide) Try.underlying23 rfl rfl rfl (rfl)) ?_
 refine RQ (ok_call (refCheck_ok [0] 0 l r hW) (Args.cons rfl ((fresh_vlist (xs := rowQ [0]) rfl (by decide)).trans (le_vlst _ _)) (A3 rfl rfl rfl))) ?_
 refine RQ (ok_bin rfl rfl rfl) ?_; refine RZ (.bool false) (by rfl) ?_
 refine RP rfl rfl ?_
 refine RN ?_
 refine A.no rfl ?_
 refine GD ?_
 refine TL ?_
 refine RM rfl ?_
 refine RBS rfl rfl rfl (.bool false) (by rfl) ?_
 refine RM rfl ?_
 refine RQ (OpOk.fact (ok_loadA (s := 1000006) (by decide) Try.underlying36 rfl (size36.of (rfl)) rfl rfl) (d := hdD (vlist (rowQ (List.replicate n 0)) n) (alR 0 l r)) (s := 1000037) (by decide) rfl (hd_of (rowQ (List.replicate n 0)) (alR 0 l r) (by simp [rowQ]) (Nat.le_refl _) (by simp only [maxLen]; omega) (by simp [rowQ]))) ?_
 refine RQ (ok_move rfl) ?_
 refine RQ ((ok_make n Try.underlying34 info23 (by decide) rfl rfl rfl rfl rfl (by omega)).le (d' := fresh w₀.heap.size 23 (rowQ (List.replicate n 0)) n) (Le.eq (congrArg (fun x => fresh w₀.heap.size 23 x n) (rowQ_rep n 0)))) ?_
 refine RQ (ok_field field36_2 (by decide) rfl) ?_
 refine RQ (ok_loadV (s := 1000002) (by decide) Try.underlying23 rfl rfl rfl (rfl)) ?_
 refine RQ (ok_field field36_3 (by decide) rfl) ?_
 refine RQ (ok_loadV (s := 1000002) (by decide) Try.underlying23 rfl rfl rfl (rfl)) ?_
 refine RQ (ok_buildS [(2, qV l), (3, qV r)] rfl rfl fresh_slice ⟨rfl, rfl, rfl, rfl, trivial⟩ (rest := alR 0 l r) (fun B' k c => buildA023 B' k c l r)) ?_
 refine RQ (ok_call (same8_fn (List.replicate n 0) 0 l r (by rw [List.length_replicate]; omega)) (Args.cons rfl (Le.eq (by rw [List.length_replicate])) (Args.cons rfl (hd_le ((fresh_vlist (by rw [rowQ_length, List.length_replicate]) (by simp only [maxLen]; omega)).trans (le_vlst _ _))) Args.nil))) ?_
 refine RQ (ok_not rfl) ?_; refine RZ (.bool false) (by rfl) ?_
 refine RP rfl rfl ?_
 refine RN ?_
 refine A.sub (KC 1 rfl (KC 2 rfl (KC 5 rfl (KC 80 rfl (KC 1000002 rfl (KC 1000006 rfl (KC 1000037 rfl (KC 1000200 rfl KN)))))))) ?_
 refine A.no rfl ?_
 refine A.skip ?_
 refine EN ?_
 refine A.seq ?_
 refine GS ?_
 refine TL ?_
 refine RM rfl ?_
 refine RBS rfl rfl rfl (.bool true) (by rfl) ?_
 refine RM rfl ?_
 refine RQ (ok_move rfl) ?_
 refine RQ (ok_bin rfl rfl rfl) ?_; refine RZ (.bool true) (by first | (simp; done) | (simp; omega)) ?_
 refine RP rfl rfl ?_
 refine RM rfl ?_
 refine RQ (ok_move rfl) ?_
 refine RQ (ok_field field36_0 (by decide) rfl) ?_
 refine RQ (OpOk.valO (ok_loadV (s := 1000002) (by decide) Try.underlying34 rfl rfl rfl (rfl)) (k := 1000200) (by decide) rfl) ?_
 refine RQ (ok_lenU cs.length Try.underlying34 rfl LA (rowQ_length cs)) ?_
 refine RQ (ok_bin rfl rfl rfl) ?_; refine RZ (.bool false) (by first | (simp; done) | (simp; omega)) ?_
 refine RP rfl rfl ?_
 refine RN ?_
 refine A.no rfl ?_
 refine A.skip ?_
 refine EN ?_
 refine GS ?_
 refine TN 7 ?_
 refine RS (OpOk.hdO (ok_loadA (s := 1000002) (by decide) Try.underlying36 rfl (size36.of (rfl)) rfl rfl) hv (k := 1000200) (by decide) rfl) ?_
 refine RM rfl ?_
 refine RS (ok_call (Take_no cs m l r (n : Int) hno) (Args.cons rfl (Le.old _ _) (A1 rfl))) ?_
 refine RM rfl ?_
 refine RS (ok_extractV rfl rfl) ?_
 refine RS (ok_extractV rfl rfl) ?_
 refine RS (ok_extractV rfl rfl) ?_
 refine RN ?_
 refine ⟨_, _, eff_alloc (n := 152) (d := 8) (k := 1000008) zero25 (by decide), fun b8 hb8 => ?_⟩
 have hBb8 := hb8.1
 refine TN 8 ?_
 refine RN ?_
 refine ⟨_, _, eff_alloc (n := 152) (d := 9) (k := 1000009) zero36 (by decide), fun b9 hb9 => ?_⟩
 have hBb9 := hb9.1
 have hlt_b2_b9 : b2 < b9 := hb9.2 1000002 _ _ _ rfl
 have hlt_b6_b9 : b6 < b9 := hb9.2 1000006 _ _ _ rfl
 refine TF 9 ?_
 refine RN ?_
 refine ⟨_, eff_storeA (n := 152) (s := 1000008) (size25.of (rfl)) rfl rfl (rfl) hBb8 rfl (rfl) (LV 1 rfl (LV 2 rfl (LV 5 rfl (LV 8 rfl (LV 9 rfl (LV 100 rfl (LV 101 rfl (LT 1000002 rfl (LT 1000006 rfl (LT 1000009 rfl (LT 1000037 rfl (LO 1000200 rfl LN)))))))))))), ?_⟩
 refine TF 10 ?_
 refine RN ?_
 refine ⟨_, eff_storeA (n := 152) (s := 1000009) (size36.of (rfl)) rfl rfl (rfl) hBb9 rfl (rfl) (LV 1 rfl (LV 2 rfl (LV 5 rfl (LV 8 rfl (LV 9 rfl (LV 101 rfl (LB 1000002 rfl (LB 1000006 rfl (LT 1000008 rfl (LT 1000037 rfl (LO 1000200 rfl LN))))))))))), ?_⟩
 refine TL ?_
 refine RA rfl ?_
 refine RN ?_
 refine A.sub (KC 1 rfl (KC 2 rfl (KC 5 rfl (KC 8 rfl (KC 9 rfl (KC 10 rfl (KC 1000002 rfl (KC 1000006 rfl (KC 1000008 rfl (KC 1000009 rfl (KC 1000037 rfl (KC 1000200 rfl KN)))))))))))) ?_
 refine GS ?_
 refine TL ?_
 refine RS (OpOk.hdO (ok_loadA (s := 1000002) (by decide) Try.underlying36 rfl (size36.of (rfl)) rfl rfl) hv (k := 1000200) (by decide) rfl) ?_
 refine RM rfl ?_
 refine RS (ok_call (Left_no cs m l r (n : Int) hno) (Args.cons rfl (Le.old _ _) (A1 rfl))) ?_
 refine RM rfl ?_
 refine RS (ok_extractV rfl rfl) ?_
 refine RS (ok_extractV rfl rfl) ?_
 refine RA rfl ?_
 refine RA rfl ?_
 refine RN ?_
 refine A.seq ?_
 refine GS ?_
 refine TL ?_
 refine RM rfl ?_
 refine RBS rfl rfl rfl (.bool false) (by rfl) ?_
 refine RM rfl ?_
 refine RQ (ok_loadA (s := 1000008) (by decide) Try.underlying25 rfl (size25.of (rfl)) rfl rfl) ?_
 refine RQ (ok_lit [] ([.int .u32 0] ++ [.int .u64 0]) (fun _ _ => rfl) (by kernel_rfl)) ?_
 refine RQ (ok_neqT (n := 3) true flatN (by decide) (by kernel_rfl) (by kernel_rfl) rfl rfl (kinN _ _) (kinN _ _) ⟨fun _ => rfl, fun _ => rfl⟩) ?_; refine RZ (.bool false) (by rfl) ?_
 refine RP rfl rfl ?_
 refine RM rfl ?_
 refine RQ (ok_field field36_0 (by decide) rfl) ?_
 refine RQ (ok_loadV (s := 1000009) (by decide) Try.underlying34 rfl rfl rfl (rfl)) ?_
 refine RQ (ok_lenV Try.underlying34 rfl) ?_
 refine RQ (ok_bin rfl rfl rfl) ?_; refine RZ (.bool false) (by rfl) ?_
 refine RP rfl rfl ?_
 refine RM rfl ?_
 refine RQ (ok_move rfl) ?_
 refine RQ (ok_bin rfl rfl rfl) ?_; refine RZ (.bool false) (by rfl) ?_
 refine RP rfl rfl ?_
 refine RM rfl ?_
 refine RQ (ok_move rfl) ?_
 refine RQ (ok_bin rfl rfl rfl) ?_; refine RZ (.bool false) (by rfl) ?_
 refine RP rfl rfl ?_
 refine RN ?_
 refine A.sub (KC 2 rfl (KC 5 rfl (KC 128 rfl (KC 1000002 rfl (KC 1000006 rfl (KC 1000008 rfl (KC 1000009 rfl (KC 1000037 rfl (KC 1000200 rfl KN))))))))) ?_
 refine A.no rfl ?_
 refine A.skip ?_
 refine EN ?_
 refine GS ?_
 refine TN 5 ?_
 refine RS (OpOk.hdO (ok_loadA (s := 1000002) (by decide) Try.underlying36 rfl (size36.of (rfl)) rfl rfl) hv (k := 1000200) (by decide) rfl) ?_
 refine RS (ok_call (Extend_any cs m l r hV hl) (Args.cons rfl (Le.old _ _) Args.nil)) ?_
 refine RM rfl ?_
 refine RS (ok_extract rfl rfl) ?_
 refine RS (ok_extract rfl rfl) ?_
 refine RN ?_
 refine ⟨_, _, eff_alloc (n := 152) (d := 13) (k := 1000013) zero36 (by decide), fun b13 hb13 => ?_⟩
 have hBb13 := hb13.1
 have hlt_b2_b13 : b2 < b13 := hb13.2 1000002 _ _ _ rfl
 have hlt_b6_b13 : b6 < b13 := hb13.2 1000006 _ _ _ rfl
 have hlt_b9_b13 : b9 < b13 := hb13.2 1000009 _ _ _ rfl
 refine TF 6 ?_
 refine RN ?_
 refine ⟨_, eff_storeX (n := 152) (s := 1000013) size36 rfl rfl hBb13 rfl rfl (LV 2 rfl (LV 5 rfl (LeftS.cons (t := 133) rfl (Surv.any) (LB 1000002 rfl (LB 1000006 rfl (LT 1000008 rfl (LB 1000009 rfl (LT 1000037 rfl (LO 1000200 rfl LN))))))))), ?_⟩
 refine TL ?_
 refine RA rfl ?_
 refine RN ?_
 refine GS ?_
 refine TN 5 ?_
 refine RS (OpOk.hdO (ok_loadA (s := 1000002) (by decide) Try.underlying36 rfl (size36.of (rfl)) rfl rfl) hv (k := 1000200) (by decide) rfl) ?_
 refine RS (ok_call (Crash_any cs m l r hV) (Args.cons rfl (Le.old _ _) Args.nil)) ?_
 refine RM rfl ?_
 refine RS (ok_extract rfl rfl) ?_
 refine RS (ok_extract rfl rfl) ?_
 refine RN ?_
 refine ⟨_, _, eff_alloc (n := 152) (d := 15) (k := 1000015) zero36 (by decide), fun b15 hb15 => ?_⟩
 have hBb15 := hb15.1
 have hlt_b2_b15 : b2 < b15 := hb15.2 1000002 _ _ _ rfl
 have hlt_b6_b15 : b6 < b15 := hb15.2 1000006 _ _ _ rfl
 have hlt_b9_b15 : b9 < b15 := hb15.2 1000009 _ _ _ rfl
 refine TF 6 ?_
 refine RN ?_
 refine ⟨_, eff_storeX (n := 152) (s := 1000015) size36 rfl rfl hBb15 rfl rfl (LV 5 rfl (LeftS.cons (t := 14) rfl (Surv.any) (LeftS.cons (t := 138) rfl (Surv.any) (LB 1000002 rfl (LB 1000006 rfl (LT 1000008 rfl (LB 1000009 rfl (LT 1000037 rfl (LO 1000200 rfl LN))))))))), ?_⟩
 refine TL ?_
 refine RA rfl ?_
 refine RN ?_
 refine GS ?_
 refine TL ?_
 refine RM rfl ?_
 refine RBS rfl rfl rfl (.bool true) (by rfl) ?_
 refine RM rfl ?_
 refine RK ?_
 refine RK ?_
 refine RK ?_
 refine RunK.skippedU rfl rfl rfl rfl ?_
 refine RunK.skippedU rfl rfl rfl rfl ?_
 refine RK ?_
 refine RP rfl rfl ?_
 refine RM rfl ?_
 refine RQ (ok_call lives8_fn Args.nil) ?_
 refine RP rfl rfl ?_
 refine RA rfl ?_
 refine RN ?_
 refine A.sub (KC 4 rfl (KC 1000002 rfl (KC 1000006 rfl (KC 1000008 rfl (KC 1000009 rfl (KC 1000037 rfl (KC 1000200 rfl KN))))))) ?_
 refine A.ret ?_
 exact End.ret1 rfl rfl (by first | exact Le.refl _ | exact Le.old _ _)
set_option maxHeartbeats 2000000 in
theorem NE_C_Y (cs : List Nat) (m l r : Nat) (hl : l < 18446744073709551616) (h20 : cs.length ≤ 20) (n : Nat) (h1 : 1 ≤ n) (h2 : n ≤ 8) (hW : Valid [0] 0 l r) (hV : ¬ Valid cs m l r)  : Fn Try.prog 4 [hdD (vlst (rowQ cs)) (alR m l r), .v (nI n)] (.v (.bool true)) := by
 have hle20 : cs.length ≤ 20 := h20
 have hno : ¬ (0 ≤ (n : Int) ∧ (n : Int) < (cs.length : Int) ∧ Valid cs m l r) := fun h => hV h.2.2
 refine Fn.of Try.func4 rfl (by kernel_rfl) Try.ntmps4 (by simp) (fun w => [(0, old w.heap.size (hdD (vlst (rowQ cs)) (alR m l r))), (1, .v (nI n))]) (fun w => (Start.old rfl (Start.v rfl Start.nil))) fun w₀ => ?_
 refine A.nameHd (t := 0) (k := 1000200) rfl fun v hv => ?_
 refine GS ?_
 refine TN 0 ?_
 refine RN ?_
 refine ⟨_, _, eff_box (n := 152) (d := 2) (k := 1000002) rfl (by decide), fun b2 hb2 => ?_⟩
 have hBb2 := hb2.1
 refine TL ?_
 refine RA rfl ?_
 refine RN ?_
 refine A.seq ?_
 refine GS ?_
 refine TL ?_
 refine RS (ok_field field36_0 (by decide) rfl) ?_
 refine RS (OpOk.valO (ok_loadV (s := 1000002) (by decide) Try.underlying34 rfl rfl rfl (rfl)) (k := 1000200) (by decide) rfl) ?_
 refine RS (ok_lenU cs.length Try.underlying34 rfl LA (rowQ_length cs)) ?_
 refine RBS rfl rfl rfl (.bool false) (by first | (simp; done) | (simp; omega)) ?_
 refine RN ?_
 refine A.no rfl ?_
 refine A.skip ?_
 refine EN ?_
 refine GS ?_
 refine TL ?_
 refine RS (ok_field field36_0 (by decide) rfl) ?_
 refine RS (OpOk.valO (ok_loadV (s := 1000002) (by decide) Try.underlying34 rfl rfl rfl (rfl)) (k := 1000200) (by decide) rfl) ?_
 refine RS (ok_field field36_1 (by decide) rfl) ?_
 refine RS (ok_loadV (s := 1000002) (by decide) Try.underlying23 rfl rfl rfl (rfl)) ?_
 refine RS (ok_field field36_2 (by decide) rfl) ?_
 refine RS (ok_loadV (s := 1000002) (by decide) Try.underlying23 rfl rfl rfl (rfl)) ?_
 refine RS (ok_field field36_3 (by decide) rfl) ?_
 refine RS (ok_loadV (s := 1000002) (by decide) Try.underlying23 rfl rfl rfl (rfl)) ?_
 refine RS (ok_call (refCheck_bad cs m l r hV) (Args.cons rfl (Le.old _ _) (A3 rfl rfl rfl))) ?_
 refine RA rfl ?_
 refine RN ?_
 refine GS ?_
 refine TN 5 ?_
 refine RM rfl ?_
 refine RS (ok_field field36_2 (by decide) rfl) ?_
 refine RS (ok_loadV (s := 1000002) (by decide) Try.underlying23 rfl rfl rfl (rfl)) ?_
 refine RS (ok_field field36_3 (by decide) rfl) ?_
 refine RS (ok_loadV (s := 1000002) (by decide) Try.underlying23 rfl rfl rfl (rfl)) ?_
 refine RN ?_
 refine ⟨_, _, eff_name (n := 152) (d := 37) (k := 1000037) rfl rfl (fun B' => ok_callB (New_C n l r h1 h2 ((valid_rep h1 h2).2 hW)) newD_mono (A3 rfl rfl rfl)) (by decide) (by decide), fun b37 hb37 => ?_⟩
 have hBb37 := hb37.1
 have hlt_b2_b37 : b2 < b37 := hb37.2 1000002 _ _ _ rfl
 refine TN 9 ?_
 refine RM rfl ?_
 refine RS (ok_extractV rfl rfl) ?_
 refine RS (ok_extractV rfl rfl) ?_
 refine RN ?_
 refine ⟨_, _, eff_alloc (n := 152) (d := 6) (k := 1000006) zero36 (by decide), fun b6 hb6 => ?_⟩
 have hBb6 := hb6.1
 have hlt_b2_b6 : b2 < b6 := hb6.2 1000002 _ _ _ rfl
 refine TF 10 ?_
 refine RN ?_
 refine ⟨_, eff_storeA (n := 152) (s := 1000006) (size36.of (rfl)) rfl rfl (rfl) hBb6 rfl (rfl) (LV 1 rfl (LV 2 rfl (LV 5 rfl (LV 6 rfl (LV 39 rfl (LB 1000002 rfl (LT 1000037 rfl (LO 1000200 rfl LN)))))))), ?_⟩
 refine TL ?_
 refine RA rfl ?_
 refine RN ?_
 refine A.sub (KC 1 rfl (KC 2 rfl (KC 5 rfl (KC 6 rfl (KC 7 rfl (KC 1000002 rfl (KC 1000006 rfl (KC 1000037 rfl (KC 1000200 rfl KN))))))))) ?_
 refine A.seq ?_
 refine GS ?_
 refine TL ?_
 refine RS (OpOk.hdO (ok_loadA (s := 1000002) (by decide) Try.underlying36 rfl (size36.of (rfl)) rfl rfl) hv (k := 1000200) (by decide) rfl) ?_
 refine RS (ok_call (Check_bad cs m l r hV) (Args.cons rfl (Le.old _ _) Args.nil)) ?_
 refine RM rfl ?_
 refine RBS rfl rfl rfl (.bool false) (by rfl) ?_
 refine RN ?_
 refine A.no rfl ?_
 refine A.skip ?_
 refine EN ?_
 refine A.seq ?_
 refine GS ?_
 refine TL ?_
 refine RM rfl ?_
 refine RBS rfl rfl rfl (.bool false) (by first | (simp; done) | (simp; omega)) ?_
 refine RM rfl ?_
 refine RQ (ok_move rfl) ?_
 refine RQ (ok_bin rfl rfl rfl) ?_; refine RZ (.bool false) (by first | (simp; done) | (simp; omega)) ?_
 refine RP rfl rfl ?_
 refine RM rfl ?_
 refine RQ (ok_buildF [qV 0] Try.underlying34 info23 rfl (by decide) (by decide) rfl ⟨rfl, rfl, trivial⟩ rfl) ?_
 refine RQ (ok_field field36_2 (by decide) rfl) ?_
 refine RQ (ok_loadV (s := 1000002) (by decide) Try.underlying23 rfl rfl rfl (rfl)) ?_
 refine RQ (ok_field field36_3 (by decide) rfl) ?_
 refine RQ (ok_loadV (s := 1000002) (by decide) Try.underlying23 rfl rfl rfl (rfl)) ?_
 refine RQ (ok_call (refCheck_ok [0] 0 l r hW) (Args.cons rfl ((fresh_vlist (xs := rowQ [0]) rfl (by decide)).trans (le_vlst _ _)) (A3 rfl rfl rfl))) ?_
 refine RQ (ok_bin rfl rfl rfl) ?_; refine RZ (.bool false) (by rfl) ?_
 refine RP rfl rfl ?_
 refine RN ?_
 refine A.no rfl ?_
 refine GD ?_
 refine TL ?_
 refine RM rfl ?_
 refine RBS rfl rfl rfl (.bool false) (by rfl) ?_
 refine RM rfl ?_
 refine RQ (OpOk.fact (ok_loadA (s := 1000006) (by decide) Try.underlying36 rfl (size36.of (rfl)) rfl rfl) (d := hdD (vlist (rowQ (List.replicate n 0)) n) (alR 0 l r)) (s := 1000037) (by decide) rfl (hd_of (rowQ (List.replicate n 0)) (alR 0 l r) (by simp [rowQ]) (Nat.le_refl _) (by simp only [maxLen]; omega) (by simp [rowQ]))) ?_
 refine RQ (ok_move rfl) ?_
 refine RQ ((ok_make n Try.underlying34 info23 (by decide) rfl rfl rfl rfl rfl (by omega)).le (d' := fresh w₀.heap.size 23 (rowQ (List.replicate n 0)) n) (Le.eq (congrArg (fun x => fresh w₀.heap.size 23 x n) (rowQ_rep n 0)))) ?_
 refine RQ (ok_field field36_2 (by decide) rfl) ?_
 refine RQ (ok_loadV (s := 1000002) (by decide) Try.underlying23 rfl rfl rfl (rfl)) ?_
 refine RQ (ok_field field36_3 (by decide) rfl) ?_
 refine RQ (ok_loadV (s := 1000002) (by decide) Try.underlying23 rfl rfl rfl (rfl)) ?_
 refine RQ (ok_buildS [(2, qV l), (3, qV r)] rfl rfl fresh_slice ⟨rfl, rfl, rfl, rfl, trivial⟩ (rest := alR 0 l r) (fun B' k c => buildA023 B' k c l r)) ?_
 refine RQ (ok_call (same8_fn (List.replicate n 0) 0 l r (by rw [List.length_replicate]; omega)) (Args.cons rfl (Le.eq (by rw [List.length_replicate])) (Args.cons rfl (hd_le ((fresh_vlist (by rw [rowQ_length, List.length_replicate]) (by simp only [maxLen]; omega)).trans (le_vlst _ _))) Args.nil))) ?_
 refine RQ (ok_not rfl) ?_; refine RZ (.bool false) (by rfl) ?_
 refine RP rfl rfl ?_
 refine RN ?_
 refine A.sub (KC 1 rfl (KC 2 rfl (KC 5 rfl (KC 80 rfl (KC 1000002 rfl (KC 1000006 rfl (KC 1000037 rfl (KC 1000200 rfl KN)))))))) ?_
 refine A.no rfl ?_
 refine A.skip ?_
 refine EN ?_
 refine A.seq ?_
 refine GS ?_
 refine TL ?_
 refine RM rfl ?_
 refine RBS rfl rfl rfl (.bool false) (by rfl) ?_
 refine RM rfl ?_
 refine RK ?_
 refine RK ?_
 refine RP rfl rfl ?_
 refine RM rfl ?_
 refine RK ?_
 refine RK ?_
 refine RK ?_
 refine RK ?_
 refine RK ?_
 refine RP rfl rfl ?_
 refine RN ?_
 refine A.no rfl ?_
 refine A.skip ?_
 refine EN ?_
 refine GS ?_
 refine TN 7 ?_
 refine RS (OpOk.hdO (ok_loadA (s := 1000002) (by decide) Try.underlying36 rfl (size36.of (rfl)) rfl rfl) hv (k := 1000200) (by decide) rfl) ?_
 refine RM rfl ?_
 refine RS (ok_call (Take_no cs m l r (n : Int) hno) (Args.cons rfl (Le.old _ _) (A1 rfl))) ?_
 refine RM rfl ?_
 refine RS (ok_extractV rfl rfl) ?_
 refine RS (ok_extractV rfl rfl) ?_
 refine RS (ok_extractV rfl rfl) ?_
 refine RN ?_
 refine ⟨_, _, eff_alloc (n := 152) (d := 8) (k := 1000008) zero25 (by decide), fun b8 hb8 => ?_⟩
 have hBb8 := hb8.1
 refine TN 8 ?_
 refine RN ?_
 refine ⟨_, _, eff_alloc (n := 152) (d := 9) (k := 1000009) zero36 (by decide), fun b9 hb9 => ?_⟩
 have hBb9 := hb9.1
 have hlt_b2_b9 : b2 < b9 := hb9.2 1000002 _ _ _ rfl
 have hlt_b6_b9 : b6 < b9 := hb9.2 1000006 _ _ _ rfl
 refine TF 9 ?_
 refine RN ?_
 refine ⟨_, eff_storeA (n := 152) (s := 1000008) (size25.of (rfl)) rfl rfl (rfl) hBb8 rfl (rfl) (LV 1 rfl (LV 2 rfl (LV 5 rfl (LV 8 rfl (LV 9 rfl (LV 100 rfl (LV 101 rfl (LT 1000002 rfl (LT 1000006 rfl (LT 1000009 rfl (LT 1000037 rfl (LO 1000200 rfl LN)))))))))))), ?_⟩
 refine TF 10 ?_
 refine RN ?_
 refine ⟨_, eff_storeA (n := 152) (s := 1000009) (size36.of (rfl)) rfl rfl (rfl) hBb9 rfl (rfl) (LV 1 rfl (LV 2 rfl (LV 5 rfl (LV 8 rfl (LV 9 rfl (LV 101 rfl (LB 1000002 rfl (LB 1000006 rfl (LT 1000008 rfl (LT 1000037 rfl (LO 1000200 rfl LN))))))))))), ?_⟩
 refine TL ?_
 refine RA rfl ?_
 refine RN ?_
 refine A.sub (KC 1 rfl (KC 2 rfl (KC 5 rfl (KC 8 rfl (KC 9 rfl (KC 10 rfl (KC 1000002 rfl (KC 1000006 rfl (KC 1000008 rfl (KC 1000009 rfl (KC 1000037 rfl (KC 1000200 rfl KN)))))))))))) ?_
 refine GS ?_
 refine TL ?_
 refine RS (OpOk.hdO (ok_loadA (s := 1000002) (by decide) Try.underlying36 rfl (size36.of (rfl)) rfl rfl) hv (k := 1000200) (by decide) rfl) ?_
 refine RM rfl ?_
 refine RS (ok_call (Left_no cs m l r (n : Int) hno) (Args.cons rfl (Le.old _ _) (A1 rfl))) ?_
 refine RM rfl ?_
 refine RS (ok_extractV rfl rfl) ?_
 refine RS (ok_extractV rfl rfl) ?_
 refine RA rfl ?_
 refine RA rfl ?_
 refine RN ?_
 refine A.seq ?_
 refine GS ?_
 refine TL ?_
 refine RM rfl ?_
 refine RBS rfl rfl rfl (.bool false) (by rfl) ?_
 refine RM rfl ?_
 refine RQ (ok_loadA (s := 1000008) (by decide) Try.underlying25 rfl (size25.of (rfl)) rfl rfl) ?_
 refine RQ (ok_lit [] ([.int .u32 0] ++ [.int .u64 0]) (fun _ _ => rfl) (by kernel_rfl)) ?_
 refine RQ (ok_neqT (n := 3) true flatN (by decide) (by kernel_rfl) (by kernel_rfl) rfl rfl (kinN _ _) (kinN _ _) ⟨fun _ => rfl, fun _ => rfl⟩) ?_; refine RZ (.bool false) (by rfl) ?_
 refine RP rfl rfl ?_
 refine RM rfl ?_
 refine RQ (ok_field field36_0 (by decide) rfl) ?_
 refine RQ (ok_loadV (s := 1000009) (by decide) Try.underlying34 rfl rfl rfl (rfl)) ?_
 refine RQ (ok_lenV Try.underlying34 rfl) ?_
 refine RQ (ok_bin rfl rfl rfl) ?_; refine RZ (.bool false) (by rfl) ?_
 refine RP rfl rfl ?_
 refine RM rfl ?_
 refine RQ (ok_move rfl) ?_
 refine RQ (ok_bin rfl rfl rfl) ?_; refine RZ (.bool false) (by rfl) ?_
 refine RP rfl rfl ?_
 refine RM rfl ?_
 refine RQ (ok_move rfl) ?_
 refine RQ (ok_bin rfl rfl rfl) ?_; refine RZ (.bool false) (by rfl) ?_
 refine RP rfl rfl ?_
 refine RN ?_
 refine A.sub (KC 2 rfl (KC 5 rfl (KC 128 rfl (KC 1000002 rfl (KC 1000006 rfl (KC 1000008 rfl (KC 1000009 rfl (KC 1000037 rfl (KC 1000200 rfl KN))))))))) ?_
 refine A.no rfl ?_
 refine A.skip ?_
 refine EN ?_
 refine GS ?_
 refine TN 5 ?_
 refine RS (OpOk.hdO (ok_loadA (s := 1000002) (by decide) Try.underlying36 rfl (size36.of (rfl)) rfl rfl) hv (k := 1000200) (by decide) rfl) ?_
 refine RS (ok_call (Extend_bad cs m l r hV) (Args.cons rfl (Le.old _ _) Args.nil)) ?_
 refine RM rfl ?_
 refine RS (ok_extractV rfl rfl) ?_
 refine RS (ok_extractV rfl rfl) ?_
 refine RN ?_
 refine ⟨_, _, eff_alloc (n := 152) (d := 13) (k := 1000013) zero36 (by decide), fun b13 hb13 => ?_⟩
 have hBb13 := hb13.1
 have hlt_b2_b13 : b2 < b13 := hb13.2 1000002 _ _ _ rfl
 have hlt_b6_b13 : b6 < b13 := hb13.2 1000006 _ _ _ rfl
 have hlt_b9_b13 : b9 < b13 := hb13.2 1000009 _ _ _ rfl
 refine TF 6 ?_
 refine RN ?_
 refine ⟨_, eff_storeA (n := 152) (s := 1000013) (size36.of (rfl)) rfl rfl (rfl) hBb13 rfl (rfl) (LV 2 rfl (LV 5 rfl (LV 133 rfl (LB 1000002 rfl (LB 1000006 rfl (LT 1000008 rfl (LB 1000009 rfl (LT 1000037 rfl (LO 1000200 rfl LN))))))))), ?_⟩
 refine TL ?_
 refine RA rfl ?_
 refine RN ?_
 refine GS ?_
 refine TN 5 ?_
 refine RS (OpOk.hdO (ok_loadA (s := 1000002) (by decide) Try.underlying36 rfl (size36.of (rfl)) rfl rfl) hv (k := 1000200) (by decide) rfl) ?_
 refine RS (ok_call (Crash_bad cs m l r hV) (Args.cons rfl (Le.old _ _) Args.nil)) ?_
 refine RM rfl ?_
 refine RS (ok_extractV rfl rfl) ?_
 refine RS (ok_extractV rfl rfl) ?_
 refine RN ?_
 refine ⟨_, _, eff_alloc (n := 152) (d := 15) (k := 1000015) zero36 (by decide), fun b15 hb15 => ?_⟩
 have hBb15 := hb15.1
 have hlt_b2_b15 : b2 < b15 := hb15.2 1000002 _ _ _ rfl
 have hlt_b6_b15 : b6 < b15 := hb15.2 1000006 _ _ _ rfl
 have hlt_b9_b15 : b9 < b15 := hb15.2 1000009 _ _ _ rfl
 have hlt_b13_b15 : b13 < b15 := hb15.2 1000013 _ _ _ rfl
 refine TF 6 ?_
 refine RN ?_
 refine ⟨_, eff_storeA (n := 152) (s := 1000015) (size36.of (rfl)) rfl rfl (rfl) hBb15 rfl (rfl) (LV 5 rfl (LV 14 rfl (LV 138 rfl (LB 1000002 rfl (LB 1000006 rfl (LT 1000008 rfl (LB 1000009 rfl (LB 1000013 rfl (LT 1000037 rfl (LO 1000200 rfl LN)))))))))), ?_⟩
 refine TL ?_
 refine RA rfl ?_
 refine RN ?_
 refine GS ?_
 refine TL ?_
 refine RM rfl ?_
 refine RBS rfl rfl rfl (.bool false) (by rfl) ?_
 refine RM rfl ?_
 refine RQ (ok_move rfl) ?_
 refine RQ (ok_bin rfl rfl rfl) ?_; refine RZ (.bool true) (by rfl) ?_
 refine RQ (ok_move rfl) ?_
 refine RQ (ok_move rfl) ?_
 refine RQ (ok_bin rfl rfl rfl) ?_; refine RZ (.bool true) (by rfl) ?_
 refine RQ (ok_pick rfl rfl) ?_
 refine RP rfl rfl ?_
 refine RM rfl ?_
 refine RQ (ok_call lives8_fn Args.nil) ?_
 refine RP rfl rfl ?_
 refine RA rfl ?_
 refine RN ?_
 refine A.sub (KC 4 rfl (KC 1000002 rfl (KC 1000006 rfl (KC 1000008 rfl (KC 1000009 rfl (KC 1000013 rfl (KC 1000015 rfl (KC 1000037 rfl (KC 1000200 rfl KN))))))))) ?_
 refine A.ret ?_
 exact End.ret1 rfl rfl (by first | exact Le.refl _ | exact Le.old _ _)
theorem NoncesErrors_fn (cs : List Nat) (m l r : Nat) (hl : l < 18446744073709551616) (n : Int) : Fn Try.prog 4 [hdD (vlst (rowQ cs)) (alR m l r), .v (.int .i64 n)] (.v (.bool true)) := by
 by_cases h20 : cs.length ≤ 20
 ·by_cases hV : Valid cs m l r
  ·have h8 : cs.length ≤ 8 := hV.2.1
   have h1 : 1 ≤ cs.length := hV.1
   by_cases ha : n < 1
   ·by_cases h0 : n < 0
    ·exact NE_A1_X1 cs m l r hl h20 n ha hV h0
    ·exact NE_A1_L cs m l r hl h20 n ha hV (by omega) (by omega)
   ·by_cases hb : 8 < n
    ·exact NE_A2_X2 cs m l r hl h20 n hb hV (by omega) (by omega)
    ·obtain ⟨k, rfl⟩ := Int.eq_ofNat_of_zero_le (show 0 ≤ n by omega)
     by_cases hW : Valid [0] 0 l r
     ·by_cases hk : (k : Int) < cs.length
      ·exact NE_C_L cs m l r hl h20 k (by omega) (by omega) hW hV (by omega) hk
      ·exact NE_C_X2 cs m l r hl h20 k (by omega) (by omega) hW hV (by omega) (by omega)
     ·by_cases hk : (k : Int) < cs.length
      ·exact NE_B_L cs m l r hl h20 k (by omega) (by omega) hW hV (by omega) hk
      ·exact NE_B_X2 cs m l r hl h20 k (by omega) (by omega) hW hV (by omega) (by omega)
  ·by_cases ha : n < 1
   ·exact NE_A1_Y cs m l r hl h20 n ha hV
   ·by_cases hb : 8 < n
    ·exact NE_A2_Y cs m l r hl h20 n hb hV
    ·obtain ⟨k, rfl⟩ := Int.eq_ofNat_of_zero_le (show 0 ≤ n by omega)
     by_cases hW : Valid [0] 0 l r
     ·exact NE_C_Y cs m l r hl h20 k (by omega) (by omega) hW hV
     ·exact NE_B_Y cs m l r hl h20 k (by omega) (by omega) hW hV
 ·exact NE_long cs m l r hl n (by omega)
end Go.Proofs.Ytmedljdbamnoiaa
