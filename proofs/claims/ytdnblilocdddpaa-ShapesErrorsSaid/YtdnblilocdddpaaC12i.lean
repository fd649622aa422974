/-
 The law ShapesErrors of caissonlaw12 by facts, the cases with a place, and all together.
-/
import Derived.Test.YtdnblilocdddpaaShort
import Derived.Test.YtdnblilocdddpaaC12h
namespace Go.Proofs.Ytdnblilocdddpaa
open Go Go.RowKit
set_option linter.unusedVariables false
set_option maxRecDepth 20000


def paR (n l j : Nat) : List Value × Int × Int := if l < hg n then (plV (l + 1) (j / 4), ((j % 4 : Nat) : Int), 0) else ([.int .i64 0, .int .i64 0], 0, 11)
def chR (n l j x : Nat) : List Value × Int := if l = 0 then ([.int .i64 0, .int .i64 0], 11) else if x < pts n l j then (plV (l - 1) (4 * j + x), 0) else ([.int .i64 0, .int .i64 0], 11)
theorem paR_len (n l j : Nat) : (paR n l j).1.length = 2 := by unfold paR; split <;> rfl
theorem paR_one (n l j : Nat) : (paR n l j).1.all (·.oneCell') = true := by unfold paR; split <;> rfl
theorem chR_len (n l j x : Nat) : (chR n l j x).1.length = 2 := by unfold chR; (repeat' split) <;> rfl
theorem chR_one (n l j x : Nat) : (chR n l j x).1.all (·.oneCell') = true := by unfold chR; (repeat' split) <;> rfl
theorem Parent_any (n : Nat) (h1 : 1 ≤ n) (h2 : n ≤ 4096) (l j : Nat) (hl : l ≤ hg n) (hj : j < un n (l + 1)) : Fn Try.prog 30 [.v (nI (n)), .v (aggV (plV l j))] (.v (.tuple #[aggV (paR n l j).1, .int .i64 (paR n l j).2.1, .int .i64 (paR n l j).2.2])) := by
 unfold paR
 by_cases h : l < hg n
 ·rw [if_pos h]; exact Parent_up n h1 h2 l j hl hj h
 ·rw [if_neg h]; exact Parent_r n h1 h2 l j hl hj (by omega)
theorem Child_any (n : Nat) (h1 : 1 ≤ n) (h2 : n ≤ 4096) (l j : Nat) (hl : l ≤ hg n) (hj : j < un n (l + 1)) (x : Nat) (hx : x < 4) : Fn Try.prog 29 [.v (nI (n)), .v (aggV (plV l j)), .v (nI (x))] (.v (.tuple #[aggV (chR n l j x).1, .int .i64 (chR n l j x).2])) := by
 unfold chR
 by_cases h : l = 0
 ·rw [if_pos h]; exact Child_leaf n h1 h2 l j hl hj h x hx
 ·rw [if_neg h]
  by_cases h' : x < pts n l j
  ·rw [if_pos h']; exact Child_ok n h1 h2 l j hl hj (by omega) x h'
  ·rw [if_neg h']; exact Child_none n h1 h2 l j hl hj (by omega) x hx (by omega)

set_option maxHeartbeats 2000000 in
theorem serr_p0 (n : Nat) (h1 : 1 ≤ n) (h2 : n ≤ 4096) (l : Nat) (hl : l ≤ hg n) (j : Nat) (hq : j < un n (l + 1)) : Fn Try.prog 7 [.v (aggV [nI (n), nI (l), nI (j), .int .i64 (0)])] (.v (.bool true)) := by
 have hh := hg_le n
 have hz := bs_zero n
 have hb0 := bs_mono (n := n) (Nat.zero_le (hg n + 1))
 have hj : j < n := Nat.lt_of_lt_of_le hq (un_le h1 _)
 refine Fn.of Try.func7 rfl (by kernel_rfl) Try.ntmps7 (by simp) (fun w => [(0, .v (aggV [nI (n), nI (l), nI (j), .int .i64 (0)]))]) (fun w => (Start.v rfl Start.nil)) fun w₀ => ?_
 refine GS ?_
 refine TN 0 ?_
 refine RN ?_
 refine ⟨_, _, eff_box (n := 390) (d := 1) (k := 1000001) rfl (by decide), fun b1 hb1 => ?_⟩
 have hBb1 := hb1.1
 refine TL ?_
 refine RA rfl ?_
 refine RN ?_
 refine GD ?_
 refine TL ?_
 refine RS (ok_index0 (0) Try.underlying58 info3 rfl rfl (rfl) (by decide)) ?_
 refine RS (ok_loadV (s := 1000001) (by decide) Try.underlying3 rfl rfl rfl (rfl)) ?_
 refine RS (ok_index0 (1) Try.underlying58 info3 rfl rfl (rfl) (by decide)) ?_
 refine RS (ok_loadV (s := 1000001) (by decide) Try.underlying3 rfl rfl rfl (rfl)) ?_
 refine RS (ok_index0 (2) Try.underlying58 info3 rfl rfl (rfl) (by decide)) ?_
 refine RS (ok_loadV (s := 1000001) (by decide) Try.underlying3 rfl rfl rfl (rfl)) ?_
 refine RS (ok_index0 (3) Try.underlying58 info3 rfl rfl (rfl) (by decide)) ?_
 refine RS (ok_loadV (s := 1000001) (by decide) Try.underlying3 rfl rfl rfl (rfl)) ?_
 refine RA rfl ?_
 refine RA rfl ?_
 refine RA rfl ?_
 refine RA rfl ?_
 refine RN ?_
 refine GS ?_
 refine TL ?_
 refine RM rfl ?_
 refine RBS rfl rfl rfl (.bool true) (by first | rfl | (simp; done) | (simp; omega) | (simp [*]; done) | (simp [*]; omega)) ?_
 refine RM rfl ?_
 refine RQ (ok_move rfl) ?_
 refine RQ (ok_bin rfl rfl rfl) ?_; refine RZ (.bool true) (by first | rfl | (simp; done) | (simp; omega) | (simp [*]; done) | (simp [*]; omega)) ?_
 refine RP rfl rfl ?_
 refine RA rfl ?_
 refine RN ?_
 refine GS ?_
 refine TL ?_
 refine RM rfl ?_
 refine RM rfl ?_
 refine RQ (ok_move rfl) ?_
 refine RQ (ok_move rfl) ?_
 refine RQ (ok_move rfl) ?_
 refine RQ (ok_call (rIs_y n h1 h2 l j hl hq) (A3 rfl rfl rfl)) ?_
 refine RP rfl rfl ?_
 refine RA rfl ?_
 refine RN ?_
 refine A.sub (KC 3 rfl (KC 4 rfl (KC 5 rfl (KC 6 rfl (KC 7 rfl (KC 8 rfl (KC 1000001 rfl KN))))))) ?_
 refine GS ?_
 refine TL ?_
 refine RM rfl ?_
 refine RS (ok_call (Height_ok n h1 h2) (A1 rfl)) ?_
 refine RM rfl ?_
 refine RS (ok_extractV rfl rfl) ?_
 refine RS (ok_extractV rfl rfl) ?_
 refine RA rfl ?_
 refine RA rfl ?_
 refine RN ?_
 refine GS ?_
 refine TL ?_
 refine RM rfl ?_
 refine RS (ok_call (Total_ok n h1 h2) (A1 rfl)) ?_
 refine RM rfl ?_
 refine RS (ok_extractV rfl rfl) ?_
 refine RS (ok_extractV rfl rfl) ?_
 refine RA rfl ?_
 refine RA rfl ?_
 refine RN ?_
 refine GS ?_
 refine TL ?_
 refine RM rfl ?_
 refine RS (ok_call (Sectors_ok n h1 h2) (A1 rfl)) ?_
 refine RM rfl ?_
 refine RS (ok_extractV rfl rfl) ?_
 refine RS (ok_extractV rfl rfl) ?_
 refine RA rfl ?_
 refine RA rfl ?_
 refine RN ?_
 refine A.seq ?_
 refine GS ?_
 refine TL ?_
 refine RM rfl ?_
 refine RBS rfl rfl rfl (.bool true) (by first | rfl | (simp; done) | (simp; omega) | (simp [*]; done) | (simp [*]; omega)) ?_
 refine RM rfl ?_
 refine RS (ok_neBoolS Try.underlying4 rfl rfl) ?_; refine RZ (.bool false) (by first | rfl | (simp; done) | (simp; omega) | (simp [*]; done) | (simp [*]; omega)) ?_
 refine RM rfl ?_
 refine RQ (ok_move rfl) ?_
 refine RQ (ok_bin rfl rfl rfl) ?_; refine RZ (.bool true) (by first | rfl | (simp; done) | (simp; omega) | (simp [*]; done) | (simp [*]; omega)) ?_
 refine RQ (ok_move rfl) ?_
 refine RQ (ok_neBoolS Try.underlying4 rfl rfl) ?_; refine RZ (.bool false) (by first | rfl | (simp; done) | (simp; omega) | (simp [*]; done) | (simp [*]; omega)) ?_
 refine RP rfl rfl ?_
 refine RM rfl ?_
 refine RQ (ok_move rfl) ?_
 refine RQ (ok_bin rfl rfl rfl) ?_; refine RZ (.bool true) (by first | rfl | (simp; done) | (simp; omega) | (simp [*]; done) | (simp [*]; omega)) ?_
 refine RQ (ok_move rfl) ?_
 refine RQ (ok_neBoolS Try.underlying4 rfl rfl) ?_; refine RZ (.bool false) (by first | rfl | (simp; done) | (simp; omega) | (simp [*]; done) | (simp [*]; omega)) ?_
 refine RP rfl rfl ?_
 refine RM rfl ?_
 refine RQ (ok_move rfl) ?_
 refine RQ (ok_call (Check_ok n h1 h2) (A1 rfl)) ?_
 refine RQ (ok_move rfl) ?_
 refine RQ (ok_bin rfl rfl rfl) ?_; refine RZ (.bool false) (by first | rfl | (simp; done) | (simp; omega) | (simp [*]; done) | (simp [*]; omega)) ?_
 refine RP rfl rfl ?_
 refine RM rfl ?_
 refine RQ (ok_move rfl) ?_
 refine RQ (ok_move rfl) ?_
 refine RQ (ok_bin rfl rfl rfl) ?_; refine RZ (.bool false) (by first | rfl | (simp; done) | (simp; omega) | (simp [*]; done) | (simp [*]; omega)) ?_
 refine RP rfl rfl ?_
 refine RM rfl ?_
 refine RQ (ok_move rfl) ?_
 refine RQ (ok_move rfl) ?_
 refine RQ (ok_bin rfl rfl rfl) ?_; refine RZ (.bool false) (by first | rfl | (simp; done) | (simp; omega) | (simp [*]; done) | (simp [*]; omega)) ?_
 refine RP rfl rfl ?_
 refine RM rfl ?_
 refine RQ (ok_move rfl) ?_
 refine RQ (ok_not rfl) ?_
 refine RQ (ok_move rfl) ?_
 refine RK ?_
 refine RK ?_
 refine RQ (ok_pick rfl rfl) ?_
 refine RP rfl rfl ?_
 refine RN ?_
 refine A.sub (KC 3 rfl (KC 4 rfl (KC 5 rfl (KC 6 rfl (KC 7 rfl (KC 8 rfl (KC 106 rfl (KC 1000001 rfl KN)))))))) ?_
 refine A.no rfl ?_
 refine A.skip ?_
 refine EN ?_
 refine GS ?_
 refine TL ?_
 refine RM rfl ?_
 refine RM rfl ?_
 refine RS (ok_call (Count_ok n h1 h2 l hl) (A2 rfl rfl)) ?_
 refine RM rfl ?_
 refine RS (ok_extractV rfl rfl) ?_
 refine RS (ok_extractV rfl rfl) ?_
 refine RA rfl ?_
 refine RA rfl ?_
 refine RN ?_
 refine A.seq ?_
 refine GS ?_
 refine TL ?_
 refine RM rfl ?_
 refine RBS rfl rfl rfl (.bool true) (by first | rfl | (simp; done) | (simp; omega) | (simp [*]; done) | (simp [*]; omega)) ?_
 refine RM rfl ?_
 refine RM rfl ?_
 refine RQ (ok_move rfl) ?_
 refine RQ (ok_move rfl) ?_
 refine RQ (ok_call (rIs_y n h1 h2 l 0 hl (un_pos h1 _)) (A3 rfl rfl rfl)) ?_
 refine RP rfl rfl ?_
 refine RS (ok_neBoolS Try.underlying4 rfl rfl) ?_; refine RZ (.bool false) (by first | rfl | (simp; done) | (simp; omega) | (simp [*]; done) | (simp [*]; omega)) ?_
 refine RM rfl ?_
 refine RQ (ok_move rfl) ?_
 refine RQ (ok_bin rfl rfl rfl) ?_; refine RZ (.bool false) (by first | rfl | (simp; done) | (simp; omega) | (simp [*]; done) | (simp [*]; omega)) ?_
 refine RQ (ok_move rfl) ?_
 refine RK ?_
 refine RK ?_
 refine RK ?_
 refine RunK.skippedU rfl rfl rfl rfl ?_
 refine RunK.skippedU rfl rfl rfl rfl ?_
 refine RK ?_
 refine RQ (ok_pick rfl rfl) ?_
 refine RP rfl rfl ?_
 refine RN ?_
 refine A.sub (KC 3 rfl (KC 4 rfl (KC 5 rfl (KC 6 rfl (KC 7 rfl (KC 8 rfl (KC 133 rfl (KC 1000001 rfl KN)))))))) ?_
 refine A.no rfl ?_
 refine A.skip ?_
 refine EN ?_
 refine GS ?_
 refine TL ?_
 refine RM rfl ?_
 refine RM rfl ?_
 refine RM rfl ?_
 refine RS (ok_call (Parts_ok n h1 h2 l j hl hq) (A3 rfl rfl rfl)) ?_
 refine RM rfl ?_
 refine RS (ok_extractV rfl rfl) ?_
 refine RS (ok_extractV rfl rfl) ?_
 refine RA rfl ?_
 refine RA rfl ?_
 refine RN ?_
 refine GS ?_
 refine TL ?_
 refine RM rfl ?_
 refine RM rfl ?_
 refine RM rfl ?_
 refine RS (ok_call (place_fn (l : Int) (j : Int)) (A2 rfl rfl)) ?_
 refine RS (ok_call (Blocks_ok n h1 h2 l j hl hq) (A2 rfl rfl)) ?_
 refine RM rfl ?_
 refine RS (ok_extractV rfl rfl) ?_
 refine RS (ok_extractV rfl rfl) ?_
 refine RS (ok_extractV rfl rfl) ?_
 refine RA rfl ?_
 refine RA rfl ?_
 refine RA rfl ?_
 refine RN ?_
 refine GS ?_
 refine TL ?_
 refine RM rfl ?_
 refine RM rfl ?_
 refine RM rfl ?_
 refine RM rfl ?_
 refine RS (ok_call (Node_ok n h1 h2 l j hl hq 0 (by decide)) (Args.cons rfl (Le.refl _) (A3 rfl rfl rfl))) ?_
 refine RM rfl ?_
 refine RS (ok_extractV rfl rfl) ?_
 refine RS (ok_extractV rfl rfl) ?_
 refine RA rfl ?_
 refine RA rfl ?_
 refine RN ?_
 refine A.sub (KC 3 rfl (KC 4 rfl (KC 5 rfl (KC 6 rfl (KC 7 rfl (KC 8 rfl (KC 15 rfl (KC 16 rfl (KC 17 rfl (KC 18 rfl (KC 19 rfl (KC 20 rfl (KC 21 rfl (KC 1000001 rfl KN)))))))))))))) ?_
 refine A.seq ?_
 refine GS ?_
 refine TL ?_
 refine RM rfl ?_
 refine RBS rfl rfl rfl (.bool true) (by first | rfl | (simp; done) | (simp; omega) | (simp [*]; done) | (simp [*]; omega)) ?_
 refine RM rfl ?_
 refine RS (ok_neBoolS Try.underlying4 rfl rfl) ?_; refine RZ (.bool false) (by first | rfl | (simp; done) | (simp; omega) | (simp [*]; done) | (simp [*]; omega)) ?_
 refine RM rfl ?_
 refine RQ (ok_move rfl) ?_
 refine RQ (ok_bin rfl rfl rfl) ?_; refine RZ (.bool true) (by first | rfl | (simp; done) | (simp; omega) | (simp [*]; done) | (simp [*]; omega)) ?_
 refine RQ (ok_move rfl) ?_
 refine RQ (ok_neBoolS Try.underlying4 rfl rfl) ?_; refine RZ (.bool false) (by first | rfl | (simp; done) | (simp; omega) | (simp [*]; done) | (simp [*]; omega)) ?_
 refine RP rfl rfl ?_
 refine RM rfl ?_
 refine RQ (ok_move rfl) ?_
 refine RQ (ok_bin rfl rfl rfl) ?_; refine RZ (.bool true) (by first | rfl | (simp; done) | (simp; omega) | (simp [*]; done) | (simp [*]; omega)) ?_
 refine RQ (ok_move rfl) ?_
 refine RQ (ok_move rfl) ?_
 refine RQ (ok_move rfl) ?_
 refine RQ (ok_bin rfl rfl rfl) ?_; refine RZ (.bool true) (by first | rfl | (simp; done) | (simp; omega) | (simp [*]; done) | (simp [*]; omega)) ?_
 refine RQ (ok_move rfl) ?_
 refine RK ?_
 refine RK ?_
 refine RQ (ok_pick rfl rfl) ?_
 refine RQ (ok_pick rfl rfl) ?_
 refine RQ (ok_neBoolS Try.underlying4 rfl rfl) ?_; refine RZ (.bool false) (by first | rfl | (simp; done) | (simp; omega) | (simp [*]; done) | (simp [*]; omega)) ?_
 refine RP rfl rfl ?_
 refine RN ?_
 refine A.no rfl ?_
 refine A.skip ?_
 refine EN ?_
 refine A.seq ?_
 refine GS ?_
 refine TL ?_
 refine RM rfl ?_
 refine RBS rfl rfl rfl (.bool false) (by first | rfl | (simp; done) | (simp; omega) | (simp [*]; done) | (simp [*]; omega)) ?_
 refine RM rfl ?_
 refine RK ?_
 refine RK ?_
 refine RK ?_
 refine RunK.skippedU rfl rfl rfl rfl ?_
 refine RunK.skippedU rfl rfl rfl rfl ?_
 refine RK ?_
 refine RK ?_
 refine RunK.skippedU rfl rfl rfl rfl ?_
 refine RunK.skippedU rfl rfl rfl rfl ?_
 refine RK ?_
 refine RK ?_
 refine RunK.skippedU rfl rfl rfl rfl ?_
 refine RunK.skippedU rfl rfl rfl rfl ?_
 refine RK ?_
 refine RK ?_
 refine RunK.skippedU rfl rfl rfl rfl ?_
 refine RunK.skippedU rfl rfl rfl rfl ?_
 refine RK ?_
 refine RP rfl rfl ?_
 refine RM rfl ?_
 refine RQ (ok_move rfl) ?_
 refine RQ (ok_bin rfl rfl rfl) ?_; refine RZ (.bool false) (by first | rfl | (simp; done) | (simp; omega) | (simp [*]; done) | (simp [*]; omega)) ?_
 refine RQ (ok_move rfl) ?_
 refine RK ?_
 refine RK ?_
 refine RK ?_
 refine RunK.skippedU rfl rfl rfl rfl ?_
 refine RunK.skippedU rfl rfl rfl rfl ?_
 refine RK ?_
 refine RQ (ok_pick rfl rfl) ?_
 refine RP rfl rfl ?_
 refine RN ?_
 refine A.sub (KC 3 rfl (KC 4 rfl (KC 5 rfl (KC 6 rfl (KC 7 rfl (KC 8 rfl (KC 215 rfl (KC 1000001 rfl KN)))))))) ?_
 refine A.no rfl ?_
 refine A.skip ?_
 refine EN ?_
 refine GS ?_
 refine TN 9 ?_
 refine RM rfl ?_
 refine RM rfl ?_
 refine RM rfl ?_
 refine RS (ok_call (place_fn (l : Int) (j : Int)) (A2 rfl rfl)) ?_
 refine RS (ok_call (Parent_any n h1 h2 l j hl hq) (A2 rfl rfl)) ?_
 refine RM rfl ?_
 refine RS (ok_extractV rfl rfl) ?_
 refine RS (ok_extractV rfl rfl) ?_
 refine RS (ok_extractV rfl rfl) ?_
 refine RN ?_
 refine ⟨_, _, eff_alloc (n := 390) (d := 22) (k := 1000022) zero45 (by decide), fun b22 hb22 => ?_⟩
 have hBb22 := hb22.1
 refine TF 10 ?_
 refine RN ?_
 refine ⟨_, eff_storeA (n := 390) (s := 1000022) (size45.of (paR_len _ _ _)) rfl rfl (paR_one _ _ _) hBb22 rfl (by rw [paR_len]; rfl) (LV 3 rfl (LV 4 rfl (LV 5 rfl (LV 6 rfl (LV 7 rfl (LV 8 rfl (LV 22 rfl (LV 223 rfl (LV 224 rfl (LT 1000001 rfl LN)))))))))), ?_⟩
 refine TL ?_
 refine RA rfl ?_
 refine RA rfl ?_
 refine RN ?_
 refine GS ?_
 refine TN 9 ?_
 refine RM rfl ?_
 refine RM rfl ?_
 refine RM rfl ?_
 refine RS (ok_call (place_fn (l : Int) (j : Int)) (A2 rfl rfl)) ?_
 refine RM rfl ?_
 refine RS (ok_call (Child_any n h1 h2 l j hl hq 0 (by decide)) (A3 rfl rfl rfl)) ?_
 refine RM rfl ?_
 refine RS (ok_extractV rfl rfl) ?_
 refine RS (ok_extractV rfl rfl) ?_
 refine RN ?_
 refine ⟨_, _, eff_alloc (n := 390) (d := 25) (k := 1000025) zero45 (by decide), fun b25 hb25 => ?_⟩
 have hBb25 := hb25.1
 have hlt_b22_b25 : b22 < b25 := hb25.2 1000022 _ _ _ rfl
 refine TF 10 ?_
 refine RN ?_
 refine ⟨_, eff_storeA (n := 390) (s := 1000025) (size45.of (chR_len _ _ _ _)) rfl rfl (chR_one _ _ _ _) hBb25 rfl (by rw [chR_len]; rfl) (LV 3 rfl (LV 5 rfl (LV 6 rfl (LV 7 rfl (LV 8 rfl (LV 22 rfl (LV 23 rfl (LV 24 rfl (LV 25 rfl (LV 233 rfl (LT 1000001 rfl (LB 1000022 rfl LN)))))))))))), ?_⟩
 refine TL ?_
 refine RA rfl ?_
 refine RN ?_
 refine A.sub (KC 3 rfl (KC 5 rfl (KC 6 rfl (KC 7 rfl (KC 8 rfl (KC 22 rfl (KC 23 rfl (KC 24 rfl (KC 25 rfl (KC 26 rfl (KC 1000001 rfl (KC 1000022 rfl (KC 1000025 rfl KN))))))))))))) ?_
 refine A.seq ?_
 refine GD ?_
 refine TL ?_
 refine RM rfl ?_
 refine RS (ok_not rfl) ?_
 refine RM rfl ?_
 refine RK ?_
 refine RK ?_
 refine RK ?_
 refine RunK.skippedU rfl rfl rfl rfl ?_
 refine RunK.skippedU rfl rfl rfl rfl ?_
 refine RunK.skippedU rfl rfl rfl rfl ?_
 refine RK ?_
 refine RK ?_
 refine RunK.skippedU rfl rfl rfl rfl ?_
 refine RunK.skippedU rfl rfl rfl rfl ?_
 refine RK ?_
 refine RP rfl rfl ?_
 refine RM rfl ?_
 refine RQ (ok_move rfl) ?_
 refine RQ (ok_not rfl) ?_
 refine RQ (ok_move rfl) ?_
 refine RQ (ok_move rfl) ?_
 refine RQ (ok_bin rfl rfl rfl) ?_; refine RZ (.bool false) (by first | rfl | (simp; done) | (simp; omega) | (simp [*]; done) | (simp [*]; omega)) ?_
 refine RQ (ok_pick rfl rfl) ?_
 refine RQ (ok_move rfl) ?_
 refine RQ (ok_move rfl) ?_
 refine RQ (ok_bin rfl rfl rfl) ?_; refine RZ (.bool false) (by first | rfl | (simp; done) | (simp; omega) | (simp [*]; done) | (simp [*]; omega)) ?_
 refine RQ (ok_pick rfl rfl) ?_
 refine RQ (ok_move rfl) ?_
 refine RK ?_
 refine RK ?_
 refine RK ?_
 refine RunK.skippedU rfl rfl rfl rfl ?_
 refine RunK.skippedU rfl rfl rfl rfl ?_
 refine RunK.skippedU rfl rfl rfl rfl ?_
 refine RK ?_
 refine RQ (ok_pick rfl rfl) ?_
 refine RP rfl rfl ?_
 refine RN ?_
 refine A.sub (KC 3 rfl (KC 5 rfl (KC 6 rfl (KC 7 rfl (KC 269 rfl (KC 1000001 rfl (KC 1000022 rfl (KC 1000025 rfl KN)))))))) ?_
 refine A.no rfl ?_
 refine A.skip ?_
 refine EN ?_
 refine GS ?_
 refine TL ?_
 refine RM rfl ?_
 refine RM rfl ?_
 refine RQ (ok_move rfl) ?_
 refine RQ (ok_bin rfl rfl rfl) ?_; refine RZ (.bool true) (by first | rfl | (simp; done) | (simp; omega) | (simp [*]; done) | (simp [*]; omega)) ?_
 refine RP rfl rfl ?_
 refine RM rfl ?_
 refine RQ (ok_move rfl) ?_
 refine RQ (ok_move rfl) ?_
 refine RQ (ok_bin rfl rfl rfl) ?_; refine RZ (.bool true) (by first | rfl | (simp; done) | (simp; omega) | (simp [*]; done) | (simp [*]; omega)) ?_
 refine RP rfl rfl ?_
 refine RA rfl ?_
 refine RN ?_
 refine GS ?_
 refine TN 2 ?_
 refine RM rfl ?_
 refine RM rfl ?_
 refine RN ?_
 refine ⟨_, _, eff_name (n := 390) (d := 283) (k := 1000283) rfl rfl (fun B' => ok_callB (Path_fnB n h1 h2 j hj) (fun _ _ h => newD_mono _ _ h) (A2 rfl rfl)) (by decide) (by decide), fun b283 hb283 => ?_⟩
 have hBb283 := hb283.1
 have hlt_b1_b283 : b1 < b283 := hb283.2 1000001 _ _ _ rfl
 have hlt_b22_b283 : b22 < b283 := hb283.2 1000022 _ _ _ rfl
 have hlt_b25_b283 : b25 < b283 := hb283.2 1000025 _ _ _ rfl
 refine TL ?_
 refine RM rfl ?_
 refine RS (ok_extractV rfl rfl) ?_
 refine RS (ok_extractV rfl rfl) ?_
 refine RA rfl ?_
 refine RA rfl ?_
 refine RN ?_
 refine GS ?_
 refine TL ?_
 refine RM rfl ?_
 refine RM rfl ?_
 refine RS (ok_call (Group_ok n h1 h2 j hj) (A2 rfl rfl)) ?_
 refine RM rfl ?_
 refine RS (ok_extractV rfl rfl) ?_
 refine RS (ok_extractV rfl rfl) ?_
 refine RS (ok_extractV rfl rfl) ?_
 refine RA rfl ?_
 refine RN ?_
 refine A.sub (KC 3 rfl (KC 5 rfl (KC 6 rfl (KC 7 rfl (KC 16 rfl (KC 19 rfl (KC 27 rfl (KC 28 rfl (KC 1000001 rfl (KC 1000022 rfl (KC 1000025 rfl (KC 1000283 rfl KN)))))))))))) ?_
 refine GS ?_
 refine TL ?_
 refine RM rfl ?_
 refine RM rfl ?_
 refine RM rfl ?_
 refine RS (ok_call (Data_ok n h1 h2 j hj 0 (by decide)) (A3 rfl rfl rfl)) ?_
 refine RM rfl ?_
 refine RS (ok_extractV rfl rfl) ?_
 refine RS (ok_extractV rfl rfl) ?_
 refine RA rfl ?_
 refine RA rfl ?_
 refine RN ?_
 refine A.seq ?_
 refine GS ?_
 refine TL ?_
 refine RM rfl ?_
 refine RBS rfl rfl rfl (.bool true) (by first | rfl | (simp; done) | (simp; omega) | (simp [*]; done) | (simp [*]; omega)) ?_
 refine RM rfl ?_
 refine RS (ok_neBoolS Try.underlying4 rfl rfl) ?_; refine RZ (.bool false) (by first | rfl | (simp; done) | (simp; omega) | (simp [*]; done) | (simp [*]; omega)) ?_
 refine RM rfl ?_
 refine RQ (ok_move rfl) ?_
 refine RQ (ok_bin rfl rfl rfl) ?_; refine RZ (.bool true) (by first | rfl | (simp; done) | (simp; omega) | (simp [*]; done) | (simp [*]; omega)) ?_
 refine RQ (ok_move rfl) ?_
 refine RQ (ok_neBoolS Try.underlying4 rfl rfl) ?_; refine RZ (.bool false) (by first | rfl | (simp; done) | (simp; omega) | (simp [*]; done) | (simp [*]; omega)) ?_
 refine RP rfl rfl ?_
 refine RM rfl ?_
 refine RQ (ok_move rfl) ?_
 refine RQ (ok_bin rfl rfl rfl) ?_; refine RZ (.bool true) (by first | rfl | (simp; done) | (simp; omega) | (simp [*]; done) | (simp [*]; omega)) ?_
 refine RQ (ok_move rfl) ?_
 refine RQ (ok_move rfl) ?_
 refine RQ (ok_move rfl) ?_
 refine RQ (ok_bin rfl rfl rfl) ?_; refine RZ (.bool true) (by first | rfl | (simp; done) | (simp; omega) | (simp [*]; done) | (simp [*]; omega)) ?_
 refine RQ (ok_move rfl) ?_
 refine RK ?_
 refine RK ?_
 refine RQ (ok_pick rfl rfl) ?_
 refine RQ (ok_pick rfl rfl) ?_
 refine RQ (ok_neBoolS Try.underlying4 rfl rfl) ?_; refine RZ (.bool false) (by first | rfl | (simp; done) | (simp; omega) | (simp [*]; done) | (simp [*]; omega)) ?_
 refine RP rfl rfl ?_
 refine RM rfl ?_
 refine RQ (ok_move rfl) ?_
 refine RQ (ok_bin rfl rfl rfl) ?_; refine RZ (.bool false) (by first | rfl | (simp; done) | (simp; omega) | (simp [*]; done) | (simp [*]; omega)) ?_
 refine RQ (ok_move rfl) ?_
 refine RK ?_
 refine RK ?_
 refine RK ?_
 refine RK ?_
 refine RunK.skippedU rfl rfl rfl rfl ?_
 refine RunK.skippedU rfl rfl rfl rfl ?_
 refine RK ?_
 refine RK ?_
 refine RunK.skippedU rfl rfl rfl rfl ?_
 refine RunK.skippedU rfl rfl rfl rfl ?_
 refine RunK.skippedU rfl rfl rfl rfl ?_
 refine RK ?_
 refine RQ (ok_pick rfl rfl) ?_
 refine RP rfl rfl ?_
 refine RM rfl ?_
 refine RQ (ok_move rfl) ?_
 refine RQ (ok_bin rfl rfl rfl) ?_; refine RZ (.bool false) (by first | rfl | (simp; done) | (simp; omega) | (simp [*]; done) | (simp [*]; omega)) ?_
 refine RQ (ok_move rfl) ?_
 refine RK ?_
 refine RK ?_
 refine RK ?_
 refine RunK.skippedU rfl rfl rfl rfl ?_
 refine RunK.skippedU rfl rfl rfl rfl ?_
 refine RK ?_
 refine RQ (ok_pick rfl rfl) ?_
 refine RP rfl rfl ?_
 refine RN ?_
 refine A.sub (KC 3 rfl (KC 5 rfl (KC 7 rfl (KC 353 rfl (KC 1000001 rfl (KC 1000022 rfl (KC 1000025 rfl (KC 1000283 rfl KN)))))))) ?_
 refine A.no rfl ?_
 refine A.skip ?_
 refine EN ?_
 refine GS ?_
 refine TN 6 ?_
 refine RM rfl ?_
 refine RM rfl ?_
 refine RS (ok_call (Of_data n h1 h2 j (by omega)) (A2 rfl rfl)) ?_
 refine RM rfl ?_
 refine RS (ok_extractV rfl rfl) ?_
 refine RS (ok_extractV rfl rfl) ?_
 refine RN ?_
 refine ⟨_, _, eff_alloc (n := 390) (d := 29) (k := 1000029) zero31 (by decide), fun b29 hb29 => ?_⟩
 have hBb29 := hb29.1
 refine TF 7 ?_
 refine RN ?_
 refine ⟨_, eff_storeA (n := 390) (s := 1000029) (size31.of (rfl)) rfl rfl (rfl) hBb29 rfl (rfl) (LV 3 rfl (LV 5 rfl (LV 7 rfl (LV 29 rfl (LV 359 rfl (LT 1000001 rfl (LT 1000022 rfl (LT 1000025 rfl (LT 1000283 rfl LN))))))))), ?_⟩
 refine TL ?_
 refine RA rfl ?_
 refine RN ?_
 refine GS ?_
 refine TL ?_
 refine RM rfl ?_
 refine RM rfl ?_
 refine RQ (ok_move rfl) ?_
 refine RQ (ok_bin rfl rfl rfl) ?_; refine RZ (.bool true) (by first | rfl | (simp; done) | (simp; omega) | (simp [*]; done) | (simp [*]; omega)) ?_
 refine RP rfl rfl ?_
 refine RM rfl ?_
 refine RQ (ok_move rfl) ?_
 refine RQ (ok_move rfl) ?_
 refine RQ (ok_call (rSectors_fn n h1 h2) (A1 rfl)) ?_
 refine RQ (ok_bin rfl rfl rfl) ?_; refine RZ (.bool true) (by first | rfl | (simp; done) | (simp; omega) | (simp [*]; done) | (simp [*]; omega)) ?_
 refine RP rfl rfl ?_
 refine RA rfl ?_
 refine RN ?_
 refine GS ?_
 refine TL ?_
 refine RM rfl ?_
 refine RBS rfl rfl rfl (.bool true) (by first | rfl | (simp; done) | (simp; omega) | (simp [*]; done) | (simp [*]; omega)) ?_
 refine RM rfl ?_
 refine RS (ok_eqBool Try.underlying4 rfl rfl) ?_; refine RZ (.bool true) (by first | rfl | (simp; done) | (simp; omega) | (simp [*]; done) | (simp [*]; omega)) ?_
 refine RM rfl ?_
 refine RQ (ok_move rfl) ?_
 refine RQ (ok_move rfl) ?_
 refine RK ?_
 refine RK ?_
 refine RK ?_
 refine RunK.skippedU rfl rfl rfl rfl ?_
 refine RunK.skippedU rfl rfl rfl rfl ?_
 refine RunK.skippedU rfl rfl rfl rfl ?_
 refine RK ?_
 refine RQ (ok_pick rfl rfl) ?_
 refine RP rfl rfl ?_
 refine RM rfl ?_
 refine RQ (ok_call (lives12_fn) Args.nil) ?_
 refine RP rfl rfl ?_
 refine RA rfl ?_
 refine RN ?_
 refine A.sub (KC 2 rfl (KC 1000001 rfl (KC 1000022 rfl (KC 1000025 rfl (KC 1000029 rfl (KC 1000283 rfl KN)))))) ?_
 refine A.ret ?_
 exact End.ret1 rfl rfl (by first | exact Le.refl _ | exact Le.old _ _)
set_option maxHeartbeats 2000000 in
theorem serr_p1 (n : Nat) (h1 : 1 ≤ n) (h2 : n ≤ 4096) (l : Nat) (hl : l ≤ hg n) (j : Nat) (hq : j < un n (l + 1)) : Fn Try.prog 7 [.v (aggV [nI (n), nI (l), nI (j), .int .i64 (1)])] (.v (.bool true)) := by
 have hh := hg_le n
 have hz := bs_zero n
 have hb0 := bs_mono (n := n) (Nat.zero_le (hg n + 1))
 have hj : j < n := Nat.lt_of_lt_of_le hq (un_le h1 _)
 refine Fn.of Try.func7 rfl (by kernel_rfl) Try.ntmps7 (by simp) (fun w => [(0, .v (aggV [nI (n), nI (l), nI (j), .int .i64 (1)]))]) (fun w => (Start.v rfl Start.nil)) fun w₀ => ?_
 refine GS ?_
 refine TN 0 ?_
 refine RN ?_
 refine ⟨_, _, eff_box (n := 390) (d := 1) (k := 1000001) rfl (by decide), fun b1 hb1 => ?_⟩
 have hBb1 := hb1.1
 refine TL ?_
 refine RA rfl ?_
 refine RN ?_
 refine GD ?_
 refine TL ?_
 refine RS (ok_index0 (0) Try.underlying58 info3 rfl rfl (rfl) (by decide)) ?_
 refine RS (ok_loadV (s := 1000001) (by decide) Try.underlying3 rfl rfl rfl (rfl)) ?_
 refine RS (ok_index0 (1) Try.underlying58 info3 rfl rfl (rfl) (by decide)) ?_
 refine RS (ok_loadV (s := 1000001) (by decide) Try.underlying3 rfl rfl rfl (rfl)) ?_
 refine RS (ok_index0 (2) Try.underlying58 info3 rfl rfl (rfl) (by decide)) ?_
 refine RS (ok_loadV (s := 1000001) (by decide) Try.underlying3 rfl rfl rfl (rfl)) ?_
 refine RS (ok_index0 (3) Try.underlying58 info3 rfl rfl (rfl) (by decide)) ?_
 refine RS (ok_loadV (s := 1000001) (by decide) Try.underlying3 rfl rfl rfl (rfl)) ?_
 refine RA rfl ?_
 refine RA rfl ?_
 refine RA rfl ?_
 refine RA rfl ?_
 refine RN ?_
 refine GS ?_
 refine TL ?_
 refine RM rfl ?_
 refine RBS rfl rfl rfl (.bool true) (by first | rfl | (simp; done) | (simp; omega) | (simp [*]; done) | (simp [*]; omega)) ?_
 refine RM rfl ?_
 refine RQ (ok_move rfl) ?_
 refine RQ (ok_bin rfl rfl rfl) ?_; refine RZ (.bool true) (by first | rfl | (simp; done) | (simp; omega) | (simp [*]; done) | (simp [*]; omega)) ?_
 refine RP rfl rfl ?_
 refine RA rfl ?_
 refine RN ?_
 refine GS ?_
 refine TL ?_
 refine RM rfl ?_
 refine RM rfl ?_
 refine RQ (ok_move rfl) ?_
 refine RQ (ok_move rfl) ?_
 refine RQ (ok_move rfl) ?_
 refine RQ (ok_call (rIs_y n h1 h2 l j hl hq) (A3 rfl rfl rfl)) ?_
 refine RP rfl rfl ?_
 refine RA rfl ?_
 refine RN ?_
 refine A.sub (KC 3 rfl (KC 4 rfl (KC 5 rfl (KC 6 rfl (KC 7 rfl (KC 8 rfl (KC 1000001 rfl KN))))))) ?_
 refine GS ?_
 refine TL ?_
 refine RM rfl ?_
 refine RS (ok_call (Height_ok n h1 h2) (A1 rfl)) ?_
 refine RM rfl ?_
 refine RS (ok_extractV rfl rfl) ?_
 refine RS (ok_extractV rfl rfl) ?_
 refine RA rfl ?_
 refine RA rfl ?_
 refine RN ?_
 refine GS ?_
 refine TL ?_
 refine RM rfl ?_
 refine RS (ok_call (Total_ok n h1 h2) (A1 rfl)) ?_
 refine RM rfl ?_
 refine RS (ok_extractV rfl rfl) ?_
 refine RS (ok_extractV rfl rfl) ?_
 refine RA rfl ?_
 refine RA rfl ?_
 refine RN ?_
 refine GS ?_
 refine TL ?_
 refine RM rfl ?_
 refine RS (ok_call (Sectors_ok n h1 h2) (A1 rfl)) ?_
 refine RM rfl ?_
 refine RS (ok_extractV rfl rfl) ?_
 refine RS (ok_extractV rfl rfl) ?_
 refine RA rfl ?_
 refine RA rfl ?_
 refine RN ?_
 refine A.seq ?_
 refine GS ?_
 refine TL ?_
 refine RM rfl ?_
 refine RBS rfl rfl rfl (.bool true) (by first | rfl | (simp; done) | (simp; omega) | (simp [*]; done) | (simp [*]; omega)) ?_
 refine RM rfl ?_
 refine RS (ok_neBoolS Try.underlying4 rfl rfl) ?_; refine RZ (.bool false) (by first | rfl | (simp; done) | (simp; omega) | (simp [*]; done) | (simp [*]; omega)) ?_
 refine RM rfl ?_
 refine RQ (ok_move rfl) ?_
 refine RQ (ok_bin rfl rfl rfl) ?_; refine RZ (.bool true) (by first | rfl | (simp; done) | (simp; omega) | (simp [*]; done) | (simp [*]; omega)) ?_
 refine RQ (ok_move rfl) ?_
 refine RQ (ok_neBoolS Try.underlying4 rfl rfl) ?_; refine RZ (.bool false) (by first | rfl | (simp; done) | (simp; omega) | (simp [*]; done) | (simp [*]; omega)) ?_
 refine RP rfl rfl ?_
 refine RM rfl ?_
 refine RQ (ok_move rfl) ?_
 refine RQ (ok_bin rfl rfl rfl) ?_; refine RZ (.bool true) (by first | rfl | (simp; done) | (simp; omega) | (simp [*]; done) | (simp [*]; omega)) ?_
 refine RQ (ok_move rfl) ?_
 refine RQ (ok_neBoolS Try.underlying4 rfl rfl) ?_; refine RZ (.bool false) (by first | rfl | (simp; done) | (simp; omega) | (simp [*]; done) | (simp [*]; omega)) ?_
 refine RP rfl rfl ?_
 refine RM rfl ?_
 refine RQ (ok_move rfl) ?_
 refine RQ (ok_call (Check_ok n h1 h2) (A1 rfl)) ?_
 refine RQ (ok_move rfl) ?_
 refine RQ (ok_bin rfl rfl rfl) ?_; refine RZ (.bool false) (by first | rfl | (simp; done) | (simp; omega) | (simp [*]; done) | (simp [*]; omega)) ?_
 refine RP rfl rfl ?_
 refine RM rfl ?_
 refine RQ (ok_move rfl) ?_
 refine RQ (ok_move rfl) ?_
 refine RQ (ok_bin rfl rfl rfl) ?_; refine RZ (.bool false) (by first | rfl | (simp; done) | (simp; omega) | (simp [*]; done) | (simp [*]; omega)) ?_
 refine RP rfl rfl ?_
 refine RM rfl ?_
 refine RQ (ok_move rfl) ?_
 refine RQ (ok_move rfl) ?_
 refine RQ (ok_bin rfl rfl rfl) ?_; refine RZ (.bool false) (by first | rfl | (simp; done) | (simp; omega) | (simp [*]; done) | (simp [*]; omega)) ?_
 refine RP rfl rfl ?_
 refine RM rfl ?_
 refine RQ (ok_move rfl) ?_
 refine RQ (ok_not rfl) ?_
 refine RQ (ok_move rfl) ?_
 refine RK ?_
 refine RK ?_
 refine RQ (ok_pick rfl rfl) ?_
 refine RP rfl rfl ?_
 refine RN ?_
 refine A.sub (KC 3 rfl (KC 4 rfl (KC 5 rfl (KC 6 rfl (KC 7 rfl (KC 8 rfl (KC 106 rfl (KC 1000001 rfl KN)))))))) ?_
 refine A.no rfl ?_
 refine A.skip ?_
 refine EN ?_
 refine GS ?_
 refine TL ?_
 refine RM rfl ?_
 refine RM rfl ?_
 refine RS (ok_call (Count_ok n h1 h2 l hl) (A2 rfl rfl)) ?_
 refine RM rfl ?_
 refine RS (ok_extractV rfl rfl) ?_
 refine RS (ok_extractV rfl rfl) ?_
 refine RA rfl ?_
 refine RA rfl ?_
 refine RN ?_
 refine A.seq ?_
 refine GS ?_
 refine TL ?_
 refine RM rfl ?_
 refine RBS rfl rfl rfl (.bool true) (by first | rfl | (simp; done) | (simp; omega) | (simp [*]; done) | (simp [*]; omega)) ?_
 refine RM rfl ?_
 refine RM rfl ?_
 refine RQ (ok_move rfl) ?_
 refine RQ (ok_move rfl) ?_
 refine RQ (ok_call (rIs_y n h1 h2 l 0 hl (un_pos h1 _)) (A3 rfl rfl rfl)) ?_
 refine RP rfl rfl ?_
 refine RS (ok_neBoolS Try.underlying4 rfl rfl) ?_; refine RZ (.bool false) (by first | rfl | (simp; done) | (simp; omega) | (simp [*]; done) | (simp [*]; omega)) ?_
 refine RM rfl ?_
 refine RQ (ok_move rfl) ?_
 refine RQ (ok_bin rfl rfl rfl) ?_; refine RZ (.bool false) (by first | rfl | (simp; done) | (simp; omega) | (simp [*]; done) | (simp [*]; omega)) ?_
 refine RQ (ok_move rfl) ?_
 refine RK ?_
 refine RK ?_
 refine RK ?_
 refine RunK.skippedU rfl rfl rfl rfl ?_
 refine RunK.skippedU rfl rfl rfl rfl ?_
 refine RK ?_
 refine RQ (ok_pick rfl rfl) ?_
 refine RP rfl rfl ?_
 refine RN ?_
 refine A.sub (KC 3 rfl (KC 4 rfl (KC 5 rfl (KC 6 rfl (KC 7 rfl (KC 8 rfl (KC 133 rfl (KC 1000001 rfl KN)))))))) ?_
 refine A.no rfl ?_
 refine A.skip ?_
 refine EN ?_
 refine GS ?_
 refine TL ?_
 refine RM rfl ?_
 refine RM rfl ?_
 refine RM rfl ?_
 refine RS (ok_call (Parts_ok n h1 h2 l j hl hq) (A3 rfl rfl rfl)) ?_
 refine RM rfl ?_
 refine RS (ok_extractV rfl rfl) ?_
 refine RS (ok_extractV rfl rfl) ?_
 refine RA rfl ?_
 refine RA rfl ?_
 refine RN ?_
 refine GS ?_
 refine TL ?_
 refine RM rfl ?_
 refine RM rfl ?_
 refine RM rfl ?_
 refine RS (ok_call (place_fn (l : Int) (j : Int)) (A2 rfl rfl)) ?_
 refine RS (ok_call (Blocks_ok n h1 h2 l j hl hq) (A2 rfl rfl)) ?_
 refine RM rfl ?_
 refine RS (ok_extractV rfl rfl) ?_
 refine RS (ok_extractV rfl rfl) ?_
 refine RS (ok_extractV rfl rfl) ?_
 refine RA rfl ?_
 refine RA rfl ?_
 refine RA rfl ?_
 refine RN ?_
 refine GS ?_
 refine TL ?_
 refine RM rfl ?_
 refine RM rfl ?_
 refine RM rfl ?_
 refine RM rfl ?_
 refine RS (ok_call (Node_ok n h1 h2 l j hl hq 1 (by decide)) (Args.cons rfl (Le.refl _) (A3 rfl rfl rfl))) ?_
 refine RM rfl ?_
 refine RS (ok_extractV rfl rfl) ?_
 refine RS (ok_extractV rfl rfl) ?_
 refine RA rfl ?_
 refine RA rfl ?_
 refine RN ?_
 refine A.sub (KC 3 rfl (KC 4 rfl (KC 5 rfl (KC 6 rfl (KC 7 rfl (KC 8 rfl (KC 15 rfl (KC 16 rfl (KC 17 rfl (KC 18 rfl (KC 19 rfl (KC 20 rfl (KC 21 rfl (KC 1000001 rfl KN)))))))))))))) ?_
 refine A.seq ?_
 refine GS ?_
 refine TL ?_
 refine RM rfl ?_
 refine RBS rfl rfl rfl (.bool true) (by first | rfl | (simp; done) | (simp; omega) | (simp [*]; done) | (simp [*]; omega)) ?_
 refine RM rfl ?_
 refine RS (ok_neBoolS Try.underlying4 rfl rfl) ?_; refine RZ (.bool false) (by first | rfl | (simp; done) | (simp; omega) | (simp [*]; done) | (simp [*]; omega)) ?_
 refine RM rfl ?_
 refine RQ (ok_move rfl) ?_
 refine RQ (ok_bin rfl rfl rfl) ?_; refine RZ (.bool true) (by first | rfl | (simp; done) | (simp; omega) | (simp [*]; done) | (simp [*]; omega)) ?_
 refine RQ (ok_move rfl) ?_
 refine RQ (ok_neBoolS Try.underlying4 rfl rfl) ?_; refine RZ (.bool false) (by first | rfl | (simp; done) | (simp; omega) | (simp [*]; done) | (simp [*]; omega)) ?_
 refine RP rfl rfl ?_
 refine RM rfl ?_
 refine RQ (ok_move rfl) ?_
 refine RQ (ok_bin rfl rfl rfl) ?_; refine RZ (.bool true) (by first | rfl | (simp; done) | (simp; omega) | (simp [*]; done) | (simp [*]; omega)) ?_
 refine RQ (ok_move rfl) ?_
 refine RQ (ok_move rfl) ?_
 refine RQ (ok_move rfl) ?_
 refine RQ (ok_bin rfl rfl rfl) ?_; refine RZ (.bool false) (by first | rfl | (simp; done) | (simp; omega) | (simp [*]; done) | (simp [*]; omega)) ?_
 refine RQ (ok_move rfl) ?_
 refine RQ (ok_move rfl) ?_
 refine RQ (ok_bin rfl rfl rfl) ?_; refine RZ (.bool true) (by first | rfl | (simp; done) | (simp; omega) | (simp [*]; done) | (simp [*]; omega)) ?_
 refine RQ (ok_pick rfl rfl) ?_
 refine RQ (ok_pick rfl rfl) ?_
 refine RQ (ok_neBoolS Try.underlying4 rfl rfl) ?_; refine RZ (.bool false) (by first | rfl | (simp; done) | (simp; omega) | (simp [*]; done) | (simp [*]; omega)) ?_
 refine RP rfl rfl ?_
 refine RN ?_
 refine A.no rfl ?_
 refine A.skip ?_
 refine EN ?_
 refine A.seq ?_
 refine GS ?_
 refine TL ?_
 refine RM rfl ?_
 refine RBS rfl rfl rfl (.bool false) (by first | rfl | (simp; done) | (simp; omega) | (simp [*]; done) | (simp [*]; omega)) ?_
 refine RM rfl ?_
 refine RK ?_
 refine RK ?_
 refine RK ?_
 refine RunK.skippedU rfl rfl rfl rfl ?_
 refine RunK.skippedU rfl rfl rfl rfl ?_
 refine RK ?_
 refine RK ?_
 refine RunK.skippedU rfl rfl rfl rfl ?_
 refine RunK.skippedU rfl rfl rfl rfl ?_
 refine RK ?_
 refine RK ?_
 refine RunK.skippedU rfl rfl rfl rfl ?_
 refine RunK.skippedU rfl rfl rfl rfl ?_
 refine RK ?_
 refine RK ?_
 refine RunK.skippedU rfl rfl rfl rfl ?_
 refine RunK.skippedU rfl rfl rfl rfl ?_
 refine RK ?_
 refine RP rfl rfl ?_
 refine RM rfl ?_
 refine RQ (ok_move rfl) ?_
 refine RQ (ok_bin rfl rfl rfl) ?_; refine RZ (.bool false) (by first | rfl | (simp; done) | (simp; omega) | (simp [*]; done) | (simp [*]; omega)) ?_
 refine RQ (ok_move rfl) ?_
 refine RK ?_
 refine RK ?_
 refine RK ?_
 refine RunK.skippedU rfl rfl rfl rfl ?_
 refine RunK.skippedU rfl rfl rfl rfl ?_
 refine RK ?_
 refine RQ (ok_pick rfl rfl) ?_
 refine RP rfl rfl ?_
 refine RN ?_
 refine A.sub (KC 3 rfl (KC 4 rfl (KC 5 rfl (KC 6 rfl (KC 7 rfl (KC 8 rfl (KC 215 rfl (KC 1000001 rfl KN)))))))) ?_
 refine A.no rfl ?_
 refine A.skip ?_
 refine EN ?_
 refine GS ?_
 refine TN 9 ?_
 refine RM rfl ?_
 refine RM rfl ?_
 refine RM rfl ?_
 refine RS (ok_call (place_fn (l : Int) (j : Int)) (A2 rfl rfl)) ?_
 refine RS (ok_call (Parent_any n h1 h2 l j hl hq) (A2 rfl rfl)) ?_
 refine RM rfl ?_
 refine RS (ok_extractV rfl rfl) ?_
 refine RS (ok_extractV rfl rfl) ?_
 refine RS (ok_extractV rfl rfl) ?_
 refine RN ?_
 refine ⟨_, _, eff_alloc (n := 390) (d := 22) (k := 1000022) zero45 (by decide), fun b22 hb22 => ?_⟩
 have hBb22 := hb22.1
 refine TF 10 ?_
 refine RN ?_
 refine ⟨_, eff_storeA (n := 390) (s := 1000022) (size45.of (paR_len _ _ _)) rfl rfl (paR_one _ _ _) hBb22 rfl (by rw [paR_len]; rfl) (LV 3 rfl (LV 4 rfl (LV 5 rfl (LV 6 rfl (LV 7 rfl (LV 8 rfl (LV 22 rfl (LV 223 rfl (LV 224 rfl (LT 1000001 rfl LN)))))))))), ?_⟩
 refine TL ?_
 refine RA rfl ?_
 refine RA rfl ?_
 refine RN ?_
 refine GS ?_
 refine TN 9 ?_
 refine RM rfl ?_
 refine RM rfl ?_
 refine RM rfl ?_
 refine RS (ok_call (place_fn (l : Int) (j : Int)) (A2 rfl rfl)) ?_
 refine RM rfl ?_
 refine RS (ok_call (Child_any n h1 h2 l j hl hq 1 (by decide)) (A3 rfl rfl rfl)) ?_
 refine RM rfl ?_
 refine RS (ok_extractV rfl rfl) ?_
 refine RS (ok_extractV rfl rfl) ?_
 refine RN ?_
 refine ⟨_, _, eff_alloc (n := 390) (d := 25) (k := 1000025) zero45 (by decide), fun b25 hb25 => ?_⟩
 have hBb25 := hb25.1
 have hlt_b22_b25 : b22 < b25 := hb25.2 1000022 _ _ _ rfl
 refine TF 10 ?_
 refine RN ?_
 refine ⟨_, eff_storeA (n := 390) (s := 1000025) (size45.of (chR_len _ _ _ _)) rfl rfl (chR_one _ _ _ _) hBb25 rfl (by rw [chR_len]; rfl) (LV 3 rfl (LV 5 rfl (LV 6 rfl (LV 7 rfl (LV 8 rfl (LV 22 rfl (LV 23 rfl (LV 24 rfl (LV 25 rfl (LV 233 rfl (LT 1000001 rfl (LB 1000022 rfl LN)))))))))))), ?_⟩
 refine TL ?_
 refine RA rfl ?_
 refine RN ?_
 refine A.sub (KC 3 rfl (KC 5 rfl (KC 6 rfl (KC 7 rfl (KC 8 rfl (KC 22 rfl (KC 23 rfl (KC 24 rfl (KC 25 rfl (KC 26 rfl (KC 1000001 rfl (KC 1000022 rfl (KC 1000025 rfl KN))))))))))))) ?_
 refine A.seq ?_
 refine GD ?_
 refine TL ?_
 refine RM rfl ?_
 refine RS (ok_not rfl) ?_
 refine RM rfl ?_
 refine RK ?_
 refine RK ?_
 refine RK ?_
 refine RunK.skippedU rfl rfl rfl rfl ?_
 refine RunK.skippedU rfl rfl rfl rfl ?_
 refine RunK.skippedU rfl rfl rfl rfl ?_
 refine RK ?_
 refine RK ?_
 refine RunK.skippedU rfl rfl rfl rfl ?_
 refine RunK.skippedU rfl rfl rfl rfl ?_
 refine RK ?_
 refine RP rfl rfl ?_
 refine RM rfl ?_
 refine RQ (ok_move rfl) ?_
 refine RQ (ok_not rfl) ?_
 refine RQ (ok_move rfl) ?_
 refine RQ (ok_move rfl) ?_
 refine RQ (ok_bin rfl rfl rfl) ?_; refine RZ (.bool false) (by first | rfl | (simp; done) | (simp; omega) | (simp [*]; done) | (simp [*]; omega)) ?_
 refine RQ (ok_pick rfl rfl) ?_
 refine RQ (ok_move rfl) ?_
 refine RQ (ok_move rfl) ?_
 refine RQ (ok_bin rfl rfl rfl) ?_; refine RZ (.bool false) (by first | rfl | (simp; done) | (simp; omega) | (simp [*]; done) | (simp [*]; omega)) ?_
 refine RQ (ok_pick rfl rfl) ?_
 refine RQ (ok_move rfl) ?_
 refine RK ?_
 refine RK ?_
 refine RK ?_
 refine RunK.skippedU rfl rfl rfl rfl ?_
 refine RunK.skippedU rfl rfl rfl rfl ?_
 refine RunK.skippedU rfl rfl rfl rfl ?_
 refine RK ?_
 refine RQ (ok_pick rfl rfl) ?_
 refine RP rfl rfl ?_
 refine RN ?_
 refine A.sub (KC 3 rfl (KC 5 rfl (KC 6 rfl (KC 7 rfl (KC 269 rfl (KC 1000001 rfl (KC 1000022 rfl (KC 1000025 rfl KN)))))))) ?_
 refine A.no rfl ?_
 refine A.skip ?_
 refine EN ?_
 refine GS ?_
 refine TL ?_
 refine RM rfl ?_
 refine RM rfl ?_
 refine RQ (ok_move rfl) ?_
 refine RQ (ok_bin rfl rfl rfl) ?_; refine RZ (.bool true) (by first | rfl | (simp; done) | (simp; omega) | (simp [*]; done) | (simp [*]; omega)) ?_
 refine RP rfl rfl ?_
 refine RM rfl ?_
 refine RQ (ok_move rfl) ?_
 refine RQ (ok_move rfl) ?_
 refine RQ (ok_bin rfl rfl rfl) ?_; refine RZ (.bool true) (by first | rfl | (simp; done) | (simp; omega) | (simp [*]; done) | (simp [*]; omega)) ?_
 refine RP rfl rfl ?_
 refine RA rfl ?_
 refine RN ?_
 refine GS ?_
 refine TN 2 ?_
 refine RM rfl ?_
 refine RM rfl ?_
 refine RN ?_
 refine ⟨_, _, eff_name (n := 390) (d := 283) (k := 1000283) rfl rfl (fun B' => ok_callB (Path_fnB n h1 h2 j hj) (fun _ _ h => newD_mono _ _ h) (A2 rfl rfl)) (by decide) (by decide), fun b283 hb283 => ?_⟩
 have hBb283 := hb283.1
 have hlt_b1_b283 : b1 < b283 := hb283.2 1000001 _ _ _ rfl
 have hlt_b22_b283 : b22 < b283 := hb283.2 1000022 _ _ _ rfl
 have hlt_b25_b283 : b25 < b283 := hb283.2 1000025 _ _ _ rfl
 refine TL ?_
 refine RM rfl ?_
 refine RS (ok_extractV rfl rfl) ?_
 refine RS (ok_extractV rfl rfl) ?_
 refine RA rfl ?_
 refine RA rfl ?_
 refine RN ?_
 refine GS ?_
 refine TL ?_
 refine RM rfl ?_
 refine RM rfl ?_
 refine RS (ok_call (Group_ok n h1 h2 j hj) (A2 rfl rfl)) ?_
 refine RM rfl ?_
 refine RS (ok_extractV rfl rfl) ?_
 refine RS (ok_extractV rfl rfl) ?_
 refine RS (ok_extractV rfl rfl) ?_
 refine RA rfl ?_
 refine RN ?_
 refine A.sub (KC 3 rfl (KC 5 rfl (KC 6 rfl (KC 7 rfl (KC 16 rfl (KC 19 rfl (KC 27 rfl (KC 28 rfl (KC 1000001 rfl (KC 1000022 rfl (KC 1000025 rfl (KC 1000283 rfl KN)))))))))))) ?_
 refine GS ?_
 refine TL ?_
 refine RM rfl ?_
 refine RM rfl ?_
 refine RM rfl ?_
 refine RS (ok_call (Data_ok n h1 h2 j hj 1 (by decide)) (A3 rfl rfl rfl)) ?_
 refine RM rfl ?_
 refine RS (ok_extractV rfl rfl) ?_
 refine RS (ok_extractV rfl rfl) ?_
 refine RA rfl ?_
 refine RA rfl ?_
 refine RN ?_
 refine A.seq ?_
 refine GS ?_
 refine TL ?_
 refine RM rfl ?_
 refine RBS rfl rfl rfl (.bool true) (by first | rfl | (simp; done) | (simp; omega) | (simp [*]; done) | (simp [*]; omega)) ?_
 refine RM rfl ?_
 refine RS (ok_neBoolS Try.underlying4 rfl rfl) ?_; refine RZ (.bool false) (by first | rfl | (simp; done) | (simp; omega) | (simp [*]; done) | (simp [*]; omega)) ?_
 refine RM rfl ?_
 refine RQ (ok_move rfl) ?_
 refine RQ (ok_bin rfl rfl rfl) ?_; refine RZ (.bool true) (by first | rfl | (simp; done) | (simp; omega) | (simp [*]; done) | (simp [*]; omega)) ?_
 refine RQ (ok_move rfl) ?_
 refine RQ (ok_neBoolS Try.underlying4 rfl rfl) ?_; refine RZ (.bool false) (by first | rfl | (simp; done) | (simp; omega) | (simp [*]; done) | (simp [*]; omega)) ?_
 refine RP rfl rfl ?_
 refine RM rfl ?_
 refine RQ (ok_move rfl) ?_
 refine RQ (ok_bin rfl rfl rfl) ?_; refine RZ (.bool true) (by first | rfl | (simp; done) | (simp; omega) | (simp [*]; done) | (simp [*]; omega)) ?_
 refine RQ (ok_move rfl) ?_
 refine RQ (ok_move rfl) ?_
 refine RQ (ok_move rfl) ?_
 refine RQ (ok_bin rfl rfl rfl) ?_; refine RZ (.bool false) (by first | rfl | (simp; done) | (simp; omega) | (simp [*]; done) | (simp [*]; omega)) ?_
 refine RQ (ok_move rfl) ?_
 refine RQ (ok_move rfl) ?_
 refine RQ (ok_bin rfl rfl rfl) ?_; refine RZ (.bool true) (by first | rfl | (simp; done) | (simp; omega) | (simp [*]; done) | (simp [*]; omega)) ?_
 refine RQ (ok_pick rfl rfl) ?_
 refine RQ (ok_pick rfl rfl) ?_
 refine RQ (ok_neBoolS Try.underlying4 rfl rfl) ?_; refine RZ (.bool false) (by first | rfl | (simp; done) | (simp; omega) | (simp [*]; done) | (simp [*]; omega)) ?_
 refine RP rfl rfl ?_
 refine RM rfl ?_
 refine RQ (ok_move rfl) ?_
 refine RQ (ok_bin rfl rfl rfl) ?_; refine RZ (.bool false) (by first | rfl | (simp; done) | (simp; omega) | (simp [*]; done) | (simp [*]; omega)) ?_
 refine RQ (ok_move rfl) ?_
 refine RK ?_
 refine RK ?_
 refine RK ?_
 refine RK ?_
 refine RunK.skippedU rfl rfl rfl rfl ?_
 refine RunK.skippedU rfl rfl rfl rfl ?_
 refine RK ?_
 refine RK ?_
 refine RunK.skippedU rfl rfl rfl rfl ?_
 refine RunK.skippedU rfl rfl rfl rfl ?_
 refine RunK.skippedU rfl rfl rfl rfl ?_
 refine RK ?_
 refine RQ (ok_pick rfl rfl) ?_
 refine RP rfl rfl ?_
 refine RM rfl ?_
 refine RQ (ok_move rfl) ?_
 refine RQ (ok_bin rfl rfl rfl) ?_; refine RZ (.bool false) (by first | rfl | (simp; done) | (simp; omega) | (simp [*]; done) | (simp [*]; omega)) ?_
 refine RQ (ok_move rfl) ?_
 refine RK ?_
 refine RK ?_
 refine RK ?_
 refine RunK.skippedU rfl rfl rfl rfl ?_
 refine RunK.skippedU rfl rfl rfl rfl ?_
 refine RK ?_
 refine RQ (ok_pick rfl rfl) ?_
 refine RP rfl rfl ?_
 refine RN ?_
 refine A.sub (KC 3 rfl (KC 5 rfl (KC 7 rfl (KC 353 rfl (KC 1000001 rfl (KC 1000022 rfl (KC 1000025 rfl (KC 1000283 rfl KN)))))))) ?_
 refine A.no rfl ?_
 refine A.skip ?_
 refine EN ?_
 refine GS ?_
 refine TN 6 ?_
 refine RM rfl ?_
 refine RM rfl ?_
 refine RS (ok_call (Of_data n h1 h2 j (by omega)) (A2 rfl rfl)) ?_
 refine RM rfl ?_
 refine RS (ok_extractV rfl rfl) ?_
 refine RS (ok_extractV rfl rfl) ?_
 refine RN ?_
 refine ⟨_, _, eff_alloc (n := 390) (d := 29) (k := 1000029) zero31 (by decide), fun b29 hb29 => ?_⟩
 have hBb29 := hb29.1
 refine TF 7 ?_
 refine RN ?_
 refine ⟨_, eff_storeA (n := 390) (s := 1000029) (size31.of (rfl)) rfl rfl (rfl) hBb29 rfl (rfl) (LV 3 rfl (LV 5 rfl (LV 7 rfl (LV 29 rfl (LV 359 rfl (LT 1000001 rfl (LT 1000022 rfl (LT 1000025 rfl (LT 1000283 rfl LN))))))))), ?_⟩
 refine TL ?_
 refine RA rfl ?_
 refine RN ?_
 refine GS ?_
 refine TL ?_
 refine RM rfl ?_
 refine RM rfl ?_
 refine RQ (ok_move rfl) ?_
 refine RQ (ok_bin rfl rfl rfl) ?_; refine RZ (.bool true) (by first | rfl | (simp; done) | (simp; omega) | (simp [*]; done) | (simp [*]; omega)) ?_
 refine RP rfl rfl ?_
 refine RM rfl ?_
 refine RQ (ok_move rfl) ?_
 refine RQ (ok_move rfl) ?_
 refine RQ (ok_call (rSectors_fn n h1 h2) (A1 rfl)) ?_
 refine RQ (ok_bin rfl rfl rfl) ?_; refine RZ (.bool true) (by first | rfl | (simp; done) | (simp; omega) | (simp [*]; done) | (simp [*]; omega)) ?_
 refine RP rfl rfl ?_
 refine RA rfl ?_
 refine RN ?_
 refine GS ?_
 refine TL ?_
 refine RM rfl ?_
 refine RBS rfl rfl rfl (.bool true) (by first | rfl | (simp; done) | (simp; omega) | (simp [*]; done) | (simp [*]; omega)) ?_
 refine RM rfl ?_
 refine RS (ok_eqBool Try.underlying4 rfl rfl) ?_; refine RZ (.bool true) (by first | rfl | (simp; done) | (simp; omega) | (simp [*]; done) | (simp [*]; omega)) ?_
 refine RM rfl ?_
 refine RQ (ok_move rfl) ?_
 refine RQ (ok_move rfl) ?_
 refine RK ?_
 refine RK ?_
 refine RK ?_
 refine RunK.skippedU rfl rfl rfl rfl ?_
 refine RunK.skippedU rfl rfl rfl rfl ?_
 refine RunK.skippedU rfl rfl rfl rfl ?_
 refine RK ?_
 refine RQ (ok_pick rfl rfl) ?_
 refine RP rfl rfl ?_
 refine RM rfl ?_
 refine RQ (ok_call (lives12_fn) Args.nil) ?_
 refine RP rfl rfl ?_
 refine RA rfl ?_
 refine RN ?_
 refine A.sub (KC 2 rfl (KC 1000001 rfl (KC 1000022 rfl (KC 1000025 rfl (KC 1000029 rfl (KC 1000283 rfl KN)))))) ?_
 refine A.ret ?_
 exact End.ret1 rfl rfl (by first | exact Le.refl _ | exact Le.old _ _)
set_option maxHeartbeats 2000000 in
theorem serr_p2 (n : Nat) (h1 : 1 ≤ n) (h2 : n ≤ 4096) (l : Nat) (hl : l ≤ hg n) (j : Nat) (s : Nat) (hs : 2 ≤ s) (hs' : s < 4) (hq : j < un n (l + 1)) : Fn Try.prog 7 [.v (aggV [nI (n), nI (l), nI (j), nI (s)])] (.v (.bool true)) := by
 have hh := hg_le n
 have hz := bs_zero n
 have hb0 := bs_mono (n := n) (Nat.zero_le (hg n + 1))
 have hj : j < n := Nat.lt_of_lt_of_le hq (un_le h1 _)
 refine Fn.of Try.func7 rfl (by kernel_rfl) Try.ntmps7 (by simp) (fun w => [(0, .v (aggV [nI (n), nI (l), nI (j), nI (s)]))]) (fun w => (Start.v rfl Start.nil)) fun w₀ => ?_
 refine GS ?_
 refine TN 0 ?_
 refine RN ?_
 refine ⟨_, _, eff_box (n := 390) (d := 1) (k := 1000001) rfl (by decide), fun b1 hb1 => ?_⟩
 have hBb1 := hb1.1
 refine TL ?_
 refine RA rfl ?_
 refine RN ?_
 refine GD ?_
 refine TL ?_
 refine RS (ok_index0 (0) Try.underlying58 info3 rfl rfl (rfl) (by decide)) ?_
 refine RS (ok_loadV (s := 1000001) (by decide) Try.underlying3 rfl rfl rfl (rfl)) ?_
 refine RS (ok_index0 (1) Try.underlying58 info3 rfl rfl (rfl) (by decide)) ?_
 refine RS (ok_loadV (s := 1000001) (by decide) Try.underlying3 rfl rfl rfl (rfl)) ?_
 refine RS (ok_index0 (2) Try.underlying58 info3 rfl rfl (rfl) (by decide)) ?_
 refine RS (ok_loadV (s := 1000001) (by decide) Try.underlying3 rfl rfl rfl (rfl)) ?_
 refine RS (ok_index0 (3) Try.underlying58 info3 rfl rfl (rfl) (by decide)) ?_
 refine RS (ok_loadV (s := 1000001) (by decide) Try.underlying3 rfl rfl rfl (rfl)) ?_
 refine RA rfl ?_
 refine RA rfl ?_
 refine RA rfl ?_
 refine RA rfl ?_
 refine RN ?_
 refine GS ?_
 refine TL ?_
 refine RM rfl ?_
 refine RBS rfl rfl rfl (.bool true) (by first | rfl | (simp; done) | (simp; omega) | (simp [*]; done) | (simp [*]; omega)) ?_
 refine RM rfl ?_
 refine RQ (ok_move rfl) ?_
 refine RQ (ok_bin rfl rfl rfl) ?_; refine RZ (.bool true) (by first | rfl | (simp; done) | (simp; omega) | (simp [*]; done) | (simp [*]; omega)) ?_
 refine RP rfl rfl ?_
 refine RA rfl ?_
 refine RN ?_
 refine GS ?_
 refine TL ?_
 refine RM rfl ?_
 refine RM rfl ?_
 refine RQ (ok_move rfl) ?_
 refine RQ (ok_move rfl) ?_
 refine RQ (ok_move rfl) ?_
 refine RQ (ok_call (rIs_y n h1 h2 l j hl hq) (A3 rfl rfl rfl)) ?_
 refine RP rfl rfl ?_
 refine RA rfl ?_
 refine RN ?_
 refine A.sub (KC 3 rfl (KC 4 rfl (KC 5 rfl (KC 6 rfl (KC 7 rfl (KC 8 rfl (KC 1000001 rfl KN))))))) ?_
 refine GS ?_
 refine TL ?_
 refine RM rfl ?_
 refine RS (ok_call (Height_ok n h1 h2) (A1 rfl)) ?_
 refine RM rfl ?_
 refine RS (ok_extractV rfl rfl) ?_
 refine RS (ok_extractV rfl rfl) ?_
 refine RA rfl ?_
 refine RA rfl ?_
 refine RN ?_
 refine GS ?_
 refine TL ?_
 refine RM rfl ?_
 refine RS (ok_call (Total_ok n h1 h2) (A1 rfl)) ?_
 refine RM rfl ?_
 refine RS (ok_extractV rfl rfl) ?_
 refine RS (ok_extractV rfl rfl) ?_
 refine RA rfl ?_
 refine RA rfl ?_
 refine RN ?_
 refine GS ?_
 refine TL ?_
 refine RM rfl ?_
 refine RS (ok_call (Sectors_ok n h1 h2) (A1 rfl)) ?_
 refine RM rfl ?_
 refine RS (ok_extractV rfl rfl) ?_
 refine RS (ok_extractV rfl rfl) ?_
 refine RA rfl ?_
 refine RA rfl ?_
 refine RN ?_
 refine A.seq ?_
 refine GS ?_
 refine TL ?_
 refine RM rfl ?_
 refine RBS rfl rfl rfl (.bool true) (by first | rfl | (simp; done) | (simp; omega) | (simp [*]; done) | (simp [*]; omega)) ?_
 refine RM rfl ?_
 refine RS (ok_neBoolS Try.underlying4 rfl rfl) ?_; refine RZ (.bool false) (by first | rfl | (simp; done) | (simp; omega) | (simp [*]; done) | (simp [*]; omega)) ?_
 refine RM rfl ?_
 refine RQ (ok_move rfl) ?_
 refine RQ (ok_bin rfl rfl rfl) ?_; refine RZ (.bool true) (by first | rfl | (simp; done) | (simp; omega) | (simp [*]; done) | (simp [*]; omega)) ?_
 refine RQ (ok_move rfl) ?_
 refine RQ (ok_neBoolS Try.underlying4 rfl rfl) ?_; refine RZ (.bool false) (by first | rfl | (simp; done) | (simp; omega) | (simp [*]; done) | (simp [*]; omega)) ?_
 refine RP rfl rfl ?_
 refine RM rfl ?_
 refine RQ (ok_move rfl) ?_
 refine RQ (ok_bin rfl rfl rfl) ?_; refine RZ (.bool true) (by first | rfl | (simp; done) | (simp; omega) | (simp [*]; done) | (simp [*]; omega)) ?_
 refine RQ (ok_move rfl) ?_
 refine RQ (ok_neBoolS Try.underlying4 rfl rfl) ?_; refine RZ (.bool false) (by first | rfl | (simp; done) | (simp; omega) | (simp [*]; done) | (simp [*]; omega)) ?_
 refine RP rfl rfl ?_
 refine RM rfl ?_
 refine RQ (ok_move rfl) ?_
 refine RQ (ok_call (Check_ok n h1 h2) (A1 rfl)) ?_
 refine RQ (ok_move rfl) ?_
 refine RQ (ok_bin rfl rfl rfl) ?_; refine RZ (.bool false) (by first | rfl | (simp; done) | (simp; omega) | (simp [*]; done) | (simp [*]; omega)) ?_
 refine RP rfl rfl ?_
 refine RM rfl ?_
 refine RQ (ok_move rfl) ?_
 refine RQ (ok_move rfl) ?_
 refine RQ (ok_bin rfl rfl rfl) ?_; refine RZ (.bool false) (by first | rfl | (simp; done) | (simp; omega) | (simp [*]; done) | (simp [*]; omega)) ?_
 refine RP rfl rfl ?_
 refine RM rfl ?_
 refine RQ (ok_move rfl) ?_
 refine RQ (ok_move rfl) ?_
 refine RQ (ok_bin rfl rfl rfl) ?_; refine RZ (.bool false) (by first | rfl | (simp; done) | (simp; omega) | (simp [*]; done) | (simp [*]; omega)) ?_
 refine RP rfl rfl ?_
 refine RM rfl ?_
 refine RQ (ok_move rfl) ?_
 refine RQ (ok_not rfl) ?_
 refine RQ (ok_move rfl) ?_
 refine RK ?_
 refine RK ?_
 refine RQ (ok_pick rfl rfl) ?_
 refine RP rfl rfl ?_
 refine RN ?_
 refine A.sub (KC 3 rfl (KC 4 rfl (KC 5 rfl (KC 6 rfl (KC 7 rfl (KC 8 rfl (KC 106 rfl (KC 1000001 rfl KN)))))))) ?_
 refine A.no rfl ?_
 refine A.skip ?_
 refine EN ?_
 refine GS ?_
 refine TL ?_
 refine RM rfl ?_
 refine RM rfl ?_
 refine RS (ok_call (Count_ok n h1 h2 l hl) (A2 rfl rfl)) ?_
 refine RM rfl ?_
 refine RS (ok_extractV rfl rfl) ?_
 refine RS (ok_extractV rfl rfl) ?_
 refine RA rfl ?_
 refine RA rfl ?_
 refine RN ?_
 refine A.seq ?_
 refine GS ?_
 refine TL ?_
 refine RM rfl ?_
 refine RBS rfl rfl rfl (.bool true) (by first | rfl | (simp; done) | (simp; omega) | (simp [*]; done) | (simp [*]; omega)) ?_
 refine RM rfl ?_
 refine RM rfl ?_
 refine RQ (ok_move rfl) ?_
 refine RQ (ok_move rfl) ?_
 refine RQ (ok_call (rIs_y n h1 h2 l 0 hl (un_pos h1 _)) (A3 rfl rfl rfl)) ?_
 refine RP rfl rfl ?_
 refine RS (ok_neBoolS Try.underlying4 rfl rfl) ?_; refine RZ (.bool false) (by first | rfl | (simp; done) | (simp; omega) | (simp [*]; done) | (simp [*]; omega)) ?_
 refine RM rfl ?_
 refine RQ (ok_move rfl) ?_
 refine RQ (ok_bin rfl rfl rfl) ?_; refine RZ (.bool false) (by first | rfl | (simp; done) | (simp; omega) | (simp [*]; done) | (simp [*]; omega)) ?_
 refine RQ (ok_move rfl) ?_
 refine RK ?_
 refine RK ?_
 refine RK ?_
 refine RunK.skippedU rfl rfl rfl rfl ?_
 refine RunK.skippedU rfl rfl rfl rfl ?_
 refine RK ?_
 refine RQ (ok_pick rfl rfl) ?_
 refine RP rfl rfl ?_
 refine RN ?_
 refine A.sub (KC 3 rfl (KC 4 rfl (KC 5 rfl (KC 6 rfl (KC 7 rfl (KC 8 rfl (KC 133 rfl (KC 1000001 rfl KN)))))))) ?_
 refine A.no rfl ?_
 refine A.skip ?_
 refine EN ?_
 refine GS ?_
 refine TL ?_
 refine RM rfl ?_
 refine RM rfl ?_
 refine RM rfl ?_
 refine RS (ok_call (Parts_ok n h1 h2 l j hl hq) (A3 rfl rfl rfl)) ?_
 refine RM rfl ?_
 refine RS (ok_extractV rfl rfl) ?_
 refine RS (ok_extractV rfl rfl) ?_
 refine RA rfl ?_
 refine RA rfl ?_
 refine RN ?_
 refine GS ?_
 refine TL ?_
 refine RM rfl ?_
 refine RM rfl ?_
 refine RM rfl ?_
 refine RS (ok_call (place_fn (l : Int) (j : Int)) (A2 rfl rfl)) ?_
 refine RS (ok_call (Blocks_ok n h1 h2 l j hl hq) (A2 rfl rfl)) ?_
 refine RM rfl ?_
 refine RS (ok_extractV rfl rfl) ?_
 refine RS (ok_extractV rfl rfl) ?_
 refine RS (ok_extractV rfl rfl) ?_
 refine RA rfl ?_
 refine RA rfl ?_
 refine RA rfl ?_
 refine RN ?_
 refine GS ?_
 refine TL ?_
 refine RM rfl ?_
 refine RM rfl ?_
 refine RM rfl ?_
 refine RM rfl ?_
 refine RS (ok_call (Node_slot n h1 h2 l j hl hq (s : Int) (by omega)) (Args.cons rfl (Le.refl _) (A3 rfl rfl rfl))) ?_
 refine RM rfl ?_
 refine RS (ok_extractV rfl rfl) ?_
 refine RS (ok_extractV rfl rfl) ?_
 refine RA rfl ?_
 refine RA rfl ?_
 refine RN ?_
 refine A.sub (KC 3 rfl (KC 4 rfl (KC 5 rfl (KC 6 rfl (KC 7 rfl (KC 8 rfl (KC 15 rfl (KC 16 rfl (KC 17 rfl (KC 18 rfl (KC 19 rfl (KC 20 rfl (KC 21 rfl (KC 1000001 rfl KN)))))))))))))) ?_
 refine A.seq ?_
 refine GS ?_
 refine TL ?_
 refine RM rfl ?_
 refine RBS rfl rfl rfl (.bool true) (by first | rfl | (simp; done) | (simp; omega) | (simp [*]; done) | (simp [*]; omega)) ?_
 refine RM rfl ?_
 refine RS (ok_neBoolS Try.underlying4 rfl rfl) ?_; refine RZ (.bool false) (by first | rfl | (simp; done) | (simp; omega) | (simp [*]; done) | (simp [*]; omega)) ?_
 refine RM rfl ?_
 refine RQ (ok_move rfl) ?_
 refine RQ (ok_bin rfl rfl rfl) ?_; refine RZ (.bool true) (by first | rfl | (simp; done) | (simp; omega) | (simp [*]; done) | (simp [*]; omega)) ?_
 refine RQ (ok_move rfl) ?_
 refine RQ (ok_neBoolS Try.underlying4 rfl rfl) ?_; refine RZ (.bool false) (by first | rfl | (simp; done) | (simp; omega) | (simp [*]; done) | (simp [*]; omega)) ?_
 refine RP rfl rfl ?_
 refine RM rfl ?_
 refine RQ (ok_move rfl) ?_
 refine RQ (ok_bin rfl rfl rfl) ?_; refine RZ (.bool false) (by first | rfl | (simp; done) | (simp; omega) | (simp [*]; done) | (simp [*]; omega)) ?_
 refine RQ (ok_move rfl) ?_
 refine RQ (ok_move rfl) ?_
 refine RQ (ok_move rfl) ?_
 refine RQ (ok_bin rfl rfl rfl) ?_; refine RZ (.bool false) (by first | rfl | (simp; done) | (simp; omega) | (simp [*]; done) | (simp [*]; omega)) ?_
 refine RQ (ok_move rfl) ?_
 refine RQ (ok_move rfl) ?_
 refine RQ (ok_bin rfl rfl rfl) ?_; refine RZ (.bool false) (by first | rfl | (simp; done) | (simp; omega) | (simp [*]; done) | (simp [*]; omega)) ?_
 refine RQ (ok_pick rfl rfl) ?_
 refine RQ (ok_pick rfl rfl) ?_
 refine RQ (ok_neBoolS Try.underlying4 rfl rfl) ?_; refine RZ (.bool false) (by first | rfl | (simp; done) | (simp; omega) | (simp [*]; done) | (simp [*]; omega)) ?_
 refine RP rfl rfl ?_
 refine RN ?_
 refine A.no rfl ?_
 refine A.skip ?_
 refine EN ?_
 refine A.seq ?_
 refine GS ?_
 refine TL ?_
 refine RM rfl ?_
 refine RBS rfl rfl rfl (.bool false) (by first | rfl | (simp; done) | (simp; omega) | (simp [*]; done) | (simp [*]; omega)) ?_
 refine RM rfl ?_
 refine RK ?_
 refine RK ?_
 refine RK ?_
 refine RunK.skippedU rfl rfl rfl rfl ?_
 refine RunK.skippedU rfl rfl rfl rfl ?_
 refine RK ?_
 refine RK ?_
 refine RunK.skippedU rfl rfl rfl rfl ?_
 refine RunK.skippedU rfl rfl rfl rfl ?_
 refine RK ?_
 refine RK ?_
 refine RunK.skippedU rfl rfl rfl rfl ?_
 refine RunK.skippedU rfl rfl rfl rfl ?_
 refine RK ?_
 refine RK ?_
 refine RunK.skippedU rfl rfl rfl rfl ?_
 refine RunK.skippedU rfl rfl rfl rfl ?_
 refine RK ?_
 refine RP rfl rfl ?_
 refine RM rfl ?_
 refine RQ (ok_move rfl) ?_
 refine RQ (ok_bin rfl rfl rfl) ?_; refine RZ (.bool true) (by first | rfl | (simp; done) | (simp; omega) | (simp [*]; done) | (simp [*]; omega)) ?_
 refine RQ (ok_move rfl) ?_
 refine RQ (ok_move rfl) ?_
 refine RQ (ok_bin rfl rfl rfl) ?_; refine RZ (.bool false) (by first | rfl | (simp; done) | (simp; omega) | (simp [*]; done) | (simp [*]; omega)) ?_
 refine RQ (ok_move rfl) ?_
 refine RQ (ok_move rfl) ?_
 refine RQ (ok_bin rfl rfl rfl) ?_; refine RZ (.bool false) (by first | rfl | (simp; done) | (simp; omega) | (simp [*]; done) | (simp [*]; omega)) ?_
 refine RQ (ok_pick rfl rfl) ?_
 refine RQ (ok_pick rfl rfl) ?_
 refine RP rfl rfl ?_
 refine RN ?_
 refine A.sub (KC 3 rfl (KC 4 rfl (KC 5 rfl (KC 6 rfl (KC 7 rfl (KC 8 rfl (KC 215 rfl (KC 1000001 rfl KN)))))))) ?_
 refine A.no rfl ?_
 refine A.skip ?_
 refine EN ?_
 refine GS ?_
 refine TN 9 ?_
 refine RM rfl ?_
 refine RM rfl ?_
 refine RM rfl ?_
 refine RS (ok_call (place_fn (l : Int) (j : Int)) (A2 rfl rfl)) ?_
 refine RS (ok_call (Parent_any n h1 h2 l j hl hq) (A2 rfl rfl)) ?_
 refine RM rfl ?_
 refine RS (ok_extractV rfl rfl) ?_
 refine RS (ok_extractV rfl rfl) ?_
 refine RS (ok_extractV rfl rfl) ?_
 refine RN ?_
 refine ⟨_, _, eff_alloc (n := 390) (d := 22) (k := 1000022) zero45 (by decide), fun b22 hb22 => ?_⟩
 have hBb22 := hb22.1
 refine TF 10 ?_
 refine RN ?_
 refine ⟨_, eff_storeA (n := 390) (s := 1000022) (size45.of (paR_len _ _ _)) rfl rfl (paR_one _ _ _) hBb22 rfl (by rw [paR_len]; rfl) (LV 3 rfl (LV 4 rfl (LV 5 rfl (LV 6 rfl (LV 7 rfl (LV 8 rfl (LV 22 rfl (LV 223 rfl (LV 224 rfl (LT 1000001 rfl LN)))))))))), ?_⟩
 refine TL ?_
 refine RA rfl ?_
 refine RA rfl ?_
 refine RN ?_
 refine GS ?_
 refine TN 9 ?_
 refine RM rfl ?_
 refine RM rfl ?_
 refine RM rfl ?_
 refine RS (ok_call (place_fn (l : Int) (j : Int)) (A2 rfl rfl)) ?_
 refine RM rfl ?_
 refine RS (ok_call (Child_any n h1 h2 l j hl hq s (by omega)) (A3 rfl rfl rfl)) ?_
 refine RM rfl ?_
 refine RS (ok_extractV rfl rfl) ?_
 refine RS (ok_extractV rfl rfl) ?_
 refine RN ?_
 refine ⟨_, _, eff_alloc (n := 390) (d := 25) (k := 1000025) zero45 (by decide), fun b25 hb25 => ?_⟩
 have hBb25 := hb25.1
 have hlt_b22_b25 : b22 < b25 := hb25.2 1000022 _ _ _ rfl
 refine TF 10 ?_
 refine RN ?_
 refine ⟨_, eff_storeA (n := 390) (s := 1000025) (size45.of (chR_len _ _ _ _)) rfl rfl (chR_one _ _ _ _) hBb25 rfl (by rw [chR_len]; rfl) (LV 3 rfl (LV 5 rfl (LV 6 rfl (LV 7 rfl (LV 8 rfl (LV 22 rfl (LV 23 rfl (LV 24 rfl (LV 25 rfl (LV 233 rfl (LT 1000001 rfl (LB 1000022 rfl LN)))))))))))), ?_⟩
 refine TL ?_
 refine RA rfl ?_
 refine RN ?_
 refine A.sub (KC 3 rfl (KC 5 rfl (KC 6 rfl (KC 7 rfl (KC 8 rfl (KC 22 rfl (KC 23 rfl (KC 24 rfl (KC 25 rfl (KC 26 rfl (KC 1000001 rfl (KC 1000022 rfl (KC 1000025 rfl KN))))))))))))) ?_
 refine A.seq ?_
 refine GD ?_
 refine TL ?_
 refine RM rfl ?_
 refine RS (ok_not rfl) ?_
 refine RM rfl ?_
 refine RK ?_
 refine RK ?_
 refine RK ?_
 refine RunK.skippedU rfl rfl rfl rfl ?_
 refine RunK.skippedU rfl rfl rfl rfl ?_
 refine RunK.skippedU rfl rfl rfl rfl ?_
 refine RK ?_
 refine RK ?_
 refine RunK.skippedU rfl rfl rfl rfl ?_
 refine RunK.skippedU rfl rfl rfl rfl ?_
 refine RK ?_
 refine RP rfl rfl ?_
 refine RM rfl ?_
 refine RQ (ok_move rfl) ?_
 refine RQ (ok_not rfl) ?_
 refine RQ (ok_move rfl) ?_
 refine RQ (ok_move rfl) ?_
 refine RQ (ok_bin rfl rfl rfl) ?_; refine RZ (.bool false) (by first | rfl | (simp; done) | (simp; omega) | (simp [*]; done) | (simp [*]; omega)) ?_
 refine RQ (ok_pick rfl rfl) ?_
 refine RQ (ok_move rfl) ?_
 refine RQ (ok_move rfl) ?_
 refine RQ (ok_bin rfl rfl rfl) ?_; refine RZ (.bool false) (by first | rfl | (simp; done) | (simp; omega) | (simp [*]; done) | (simp [*]; omega)) ?_
 refine RQ (ok_pick rfl rfl) ?_
 refine RQ (ok_move rfl) ?_
 refine RK ?_
 refine RK ?_
 refine RK ?_
 refine RunK.skippedU rfl rfl rfl rfl ?_
 refine RunK.skippedU rfl rfl rfl rfl ?_
 refine RunK.skippedU rfl rfl rfl rfl ?_
 refine RK ?_
 refine RQ (ok_pick rfl rfl) ?_
 refine RP rfl rfl ?_
 refine RN ?_
 refine A.sub (KC 3 rfl (KC 5 rfl (KC 6 rfl (KC 7 rfl (KC 269 rfl (KC 1000001 rfl (KC 1000022 rfl (KC 1000025 rfl KN)))))))) ?_
 refine A.no rfl ?_
 refine A.skip ?_
 refine EN ?_
 refine GS ?_
 refine TL ?_
 refine RM rfl ?_
 refine RM rfl ?_
 refine RQ (ok_move rfl) ?_
 refine RQ (ok_bin rfl rfl rfl) ?_; refine RZ (.bool true) (by first | rfl | (simp; done) | (simp; omega) | (simp [*]; done) | (simp [*]; omega)) ?_
 refine RP rfl rfl ?_
 refine RM rfl ?_
 refine RQ (ok_move rfl) ?_
 refine RQ (ok_move rfl) ?_
 refine RQ (ok_bin rfl rfl rfl) ?_; refine RZ (.bool true) (by first | rfl | (simp; done) | (simp; omega) | (simp [*]; done) | (simp [*]; omega)) ?_
 refine RP rfl rfl ?_
 refine RA rfl ?_
 refine RN ?_
 refine GS ?_
 refine TN 2 ?_
 refine RM rfl ?_
 refine RM rfl ?_
 refine RN ?_
 refine ⟨_, _, eff_name (n := 390) (d := 283) (k := 1000283) rfl rfl (fun B' => ok_callB (Path_fnB n h1 h2 j hj) (fun _ _ h => newD_mono _ _ h) (A2 rfl rfl)) (by decide) (by decide), fun b283 hb283 => ?_⟩
 have hBb283 := hb283.1
 have hlt_b1_b283 : b1 < b283 := hb283.2 1000001 _ _ _ rfl
 have hlt_b22_b283 : b22 < b283 := hb283.2 1000022 _ _ _ rfl
 have hlt_b25_b283 : b25 < b283 := hb283.2 1000025 _ _ _ rfl
 refine TL ?_
 refine RM rfl ?_
 refine RS (ok_extractV rfl rfl) ?_
 refine RS (ok_extractV rfl rfl) ?_
 refine RA rfl ?_
 refine RA rfl ?_
 refine RN ?_
 refine GS ?_
 refine TL ?_
 refine RM rfl ?_
 refine RM rfl ?_
 refine RS (ok_call (Group_ok n h1 h2 j hj) (A2 rfl rfl)) ?_
 refine RM rfl ?_
 refine RS (ok_extractV rfl rfl) ?_
 refine RS (ok_extractV rfl rfl) ?_
 refine RS (ok_extractV rfl rfl) ?_
 refine RA rfl ?_
 refine RN ?_
 refine A.sub (KC 3 rfl (KC 5 rfl (KC 6 rfl (KC 7 rfl (KC 16 rfl (KC 19 rfl (KC 27 rfl (KC 28 rfl (KC 1000001 rfl (KC 1000022 rfl (KC 1000025 rfl (KC 1000283 rfl KN)))))))))))) ?_
 refine GS ?_
 refine TL ?_
 refine RM rfl ?_
 refine RM rfl ?_
 refine RM rfl ?_
 refine RS (ok_call (Data_slot n h1 h2 j hj (s : Int) (by omega)) (A3 rfl rfl rfl)) ?_
 refine RM rfl ?_
 refine RS (ok_extractV rfl rfl) ?_
 refine RS (ok_extractV rfl rfl) ?_
 refine RA rfl ?_
 refine RA rfl ?_
 refine RN ?_
 refine A.seq ?_
 refine GS ?_
 refine TL ?_
 refine RM rfl ?_
 refine RBS rfl rfl rfl (.bool true) (by first | rfl | (simp; done) | (simp; omega) | (simp [*]; done) | (simp [*]; omega)) ?_
 refine RM rfl ?_
 refine RS (ok_neBoolS Try.underlying4 rfl rfl) ?_; refine RZ (.bool false) (by first | rfl | (simp; done) | (simp; omega) | (simp [*]; done) | (simp [*]; omega)) ?_
 refine RM rfl ?_
 refine RQ (ok_move rfl) ?_
 refine RQ (ok_bin rfl rfl rfl) ?_; refine RZ (.bool true) (by first | rfl | (simp; done) | (simp; omega) | (simp [*]; done) | (simp [*]; omega)) ?_
 refine RQ (ok_move rfl) ?_
 refine RQ (ok_neBoolS Try.underlying4 rfl rfl) ?_; refine RZ (.bool false) (by first | rfl | (simp; done) | (simp; omega) | (simp [*]; done) | (simp [*]; omega)) ?_
 refine RP rfl rfl ?_
 refine RM rfl ?_
 refine RQ (ok_move rfl) ?_
 refine RQ (ok_bin rfl rfl rfl) ?_; refine RZ (.bool false) (by first | rfl | (simp; done) | (simp; omega) | (simp [*]; done) | (simp [*]; omega)) ?_
 refine RQ (ok_move rfl) ?_
 refine RQ (ok_move rfl) ?_
 refine RQ (ok_move rfl) ?_
 refine RQ (ok_bin rfl rfl rfl) ?_; refine RZ (.bool false) (by first | rfl | (simp; done) | (simp; omega) | (simp [*]; done) | (simp [*]; omega)) ?_
 refine RQ (ok_move rfl) ?_
 refine RQ (ok_move rfl) ?_
 refine RQ (ok_bin rfl rfl rfl) ?_; refine RZ (.bool false) (by first | rfl | (simp; done) | (simp; omega) | (simp [*]; done) | (simp [*]; omega)) ?_
 refine RQ (ok_pick rfl rfl) ?_
 refine RQ (ok_pick rfl rfl) ?_
 refine RQ (ok_neBoolS Try.underlying4 rfl rfl) ?_; refine RZ (.bool false) (by first | rfl | (simp; done) | (simp; omega) | (simp [*]; done) | (simp [*]; omega)) ?_
 refine RP rfl rfl ?_
 refine RM rfl ?_
 refine RQ (ok_move rfl) ?_
 refine RQ (ok_bin rfl rfl rfl) ?_; refine RZ (.bool false) (by first | rfl | (simp; done) | (simp; omega) | (simp [*]; done) | (simp [*]; omega)) ?_
 refine RQ (ok_move rfl) ?_
 refine RK ?_
 refine RK ?_
 refine RK ?_
 refine RK ?_
 refine RunK.skippedU rfl rfl rfl rfl ?_
 refine RunK.skippedU rfl rfl rfl rfl ?_
 refine RK ?_
 refine RK ?_
 refine RunK.skippedU rfl rfl rfl rfl ?_
 refine RunK.skippedU rfl rfl rfl rfl ?_
 refine RunK.skippedU rfl rfl rfl rfl ?_
 refine RK ?_
 refine RQ (ok_pick rfl rfl) ?_
 refine RP rfl rfl ?_
 refine RM rfl ?_
 refine RQ (ok_move rfl) ?_
 refine RQ (ok_bin rfl rfl rfl) ?_; refine RZ (.bool true) (by first | rfl | (simp; done) | (simp; omega) | (simp [*]; done) | (simp [*]; omega)) ?_
 refine RQ (ok_move rfl) ?_
 refine RQ (ok_move rfl) ?_
 refine RQ (ok_bin rfl rfl rfl) ?_; refine RZ (.bool false) (by first | rfl | (simp; done) | (simp; omega) | (simp [*]; done) | (simp [*]; omega)) ?_
 refine RQ (ok_move rfl) ?_
 refine RQ (ok_move rfl) ?_
 refine RQ (ok_bin rfl rfl rfl) ?_; refine RZ (.bool false) (by first | rfl | (simp; done) | (simp; omega) | (simp [*]; done) | (simp [*]; omega)) ?_
 refine RQ (ok_pick rfl rfl) ?_
 refine RQ (ok_pick rfl rfl) ?_
 refine RP rfl rfl ?_
 refine RN ?_
 refine A.sub (KC 3 rfl (KC 5 rfl (KC 7 rfl (KC 353 rfl (KC 1000001 rfl (KC 1000022 rfl (KC 1000025 rfl (KC 1000283 rfl KN)))))))) ?_
 refine A.no rfl ?_
 refine A.skip ?_
 refine EN ?_
 refine GS ?_
 refine TN 6 ?_
 refine RM rfl ?_
 refine RM rfl ?_
 refine RS (ok_call (Of_data n h1 h2 j (by omega)) (A2 rfl rfl)) ?_
 refine RM rfl ?_
 refine RS (ok_extractV rfl rfl) ?_
 refine RS (ok_extractV rfl rfl) ?_
 refine RN ?_
 refine ⟨_, _, eff_alloc (n := 390) (d := 29) (k := 1000029) zero31 (by decide), fun b29 hb29 => ?_⟩
 have hBb29 := hb29.1
 refine TF 7 ?_
 refine RN ?_
 refine ⟨_, eff_storeA (n := 390) (s := 1000029) (size31.of (rfl)) rfl rfl (rfl) hBb29 rfl (rfl) (LV 3 rfl (LV 5 rfl (LV 7 rfl (LV 29 rfl (LV 359 rfl (LT 1000001 rfl (LT 1000022 rfl (LT 1000025 rfl (LT 1000283 rfl LN))))))))), ?_⟩
 refine TL ?_
 refine RA rfl ?_
 refine RN ?_
 refine GS ?_
 refine TL ?_
 refine RM rfl ?_
 refine RM rfl ?_
 refine RQ (ok_move rfl) ?_
 refine RQ (ok_bin rfl rfl rfl) ?_; refine RZ (.bool true) (by first | rfl | (simp; done) | (simp; omega) | (simp [*]; done) | (simp [*]; omega)) ?_
 refine RP rfl rfl ?_
 refine RM rfl ?_
 refine RQ (ok_move rfl) ?_
 refine RQ (ok_move rfl) ?_
 refine RQ (ok_call (rSectors_fn n h1 h2) (A1 rfl)) ?_
 refine RQ (ok_bin rfl rfl rfl) ?_; refine RZ (.bool true) (by first | rfl | (simp; done) | (simp; omega) | (simp [*]; done) | (simp [*]; omega)) ?_
 refine RP rfl rfl ?_
 refine RA rfl ?_
 refine RN ?_
 refine GS ?_
 refine TL ?_
 refine RM rfl ?_
 refine RBS rfl rfl rfl (.bool true) (by first | rfl | (simp; done) | (simp; omega) | (simp [*]; done) | (simp [*]; omega)) ?_
 refine RM rfl ?_
 refine RS (ok_eqBool Try.underlying4 rfl rfl) ?_; refine RZ (.bool true) (by first | rfl | (simp; done) | (simp; omega) | (simp [*]; done) | (simp [*]; omega)) ?_
 refine RM rfl ?_
 refine RQ (ok_move rfl) ?_
 refine RQ (ok_move rfl) ?_
 refine RK ?_
 refine RK ?_
 refine RK ?_
 refine RunK.skippedU rfl rfl rfl rfl ?_
 refine RunK.skippedU rfl rfl rfl rfl ?_
 refine RunK.skippedU rfl rfl rfl rfl ?_
 refine RK ?_
 refine RQ (ok_pick rfl rfl) ?_
 refine RP rfl rfl ?_
 refine RM rfl ?_
 refine RQ (ok_call (lives12_fn) Args.nil) ?_
 refine RP rfl rfl ?_
 refine RA rfl ?_
 refine RN ?_
 refine A.sub (KC 2 rfl (KC 1000001 rfl (KC 1000022 rfl (KC 1000025 rfl (KC 1000029 rfl (KC 1000283 rfl KN)))))) ?_
 refine A.ret ?_
 exact End.ret1 rfl rfl (by first | exact Le.refl _ | exact Le.old _ _)
set_option maxHeartbeats 2000000 in
theorem serr_pm (n : Nat) (h1 : 1 ≤ n) (h2 : n ≤ 4096) (l : Nat) (hl : l ≤ hg n) (j : Nat) (s : Int) (hs : s < 0) (hq : j < un n (l + 1)) : Fn Try.prog 7 [.v (aggV [nI (n), nI (l), nI (j), .int .i64 (s)])] (.v (.bool true)) := by
 have hh := hg_le n
 have hz := bs_zero n
 have hb0 := bs_mono (n := n) (Nat.zero_le (hg n + 1))
 have hj : j < n := Nat.lt_of_lt_of_le hq (un_le h1 _)
 refine Fn.of Try.func7 rfl (by kernel_rfl) Try.ntmps7 (by simp) (fun w => [(0, .v (aggV [nI (n), nI (l), nI (j), .int .i64 (s)]))]) (fun w => (Start.v rfl Start.nil)) fun w₀ => ?_
 refine GS ?_
 refine TN 0 ?_
 refine RN ?_
 refine ⟨_, _, eff_box (n := 390) (d := 1) (k := 1000001) rfl (by decide), fun b1 hb1 => ?_⟩
 have hBb1 := hb1.1
 refine TL ?_
 refine RA rfl ?_
 refine RN ?_
 refine GD ?_
 refine TL ?_
 refine RS (ok_index0 (0) Try.underlying58 info3 rfl rfl (rfl) (by decide)) ?_
 refine RS (ok_loadV (s := 1000001) (by decide) Try.underlying3 rfl rfl rfl (rfl)) ?_
 refine RS (ok_index0 (1) Try.underlying58 info3 rfl rfl (rfl) (by decide)) ?_
 refine RS (ok_loadV (s := 1000001) (by decide) Try.underlying3 rfl rfl rfl (rfl)) ?_
 refine RS (ok_index0 (2) Try.underlying58 info3 rfl rfl (rfl) (by decide)) ?_
 refine RS (ok_loadV (s := 1000001) (by decide) Try.underlying3 rfl rfl rfl (rfl)) ?_
 refine RS (ok_index0 (3) Try.underlying58 info3 rfl rfl (rfl) (by decide)) ?_
 refine RS (ok_loadV (s := 1000001) (by decide) Try.underlying3 rfl rfl rfl (rfl)) ?_
 refine RA rfl ?_
 refine RA rfl ?_
 refine RA rfl ?_
 refine RA rfl ?_
 refine RN ?_
 refine GS ?_
 refine TL ?_
 refine RM rfl ?_
 refine RBS rfl rfl rfl (.bool true) (by first | rfl | (simp; done) | (simp; omega) | (simp [*]; done) | (simp [*]; omega)) ?_
 refine RM rfl ?_
 refine RQ (ok_move rfl) ?_
 refine RQ (ok_bin rfl rfl rfl) ?_; refine RZ (.bool true) (by first | rfl | (simp; done) | (simp; omega) | (simp [*]; done) | (simp [*]; omega)) ?_
 refine RP rfl rfl ?_
 refine RA rfl ?_
 refine RN ?_
 refine GS ?_
 refine TL ?_
 refine RM rfl ?_
 refine RM rfl ?_
 refine RQ (ok_move rfl) ?_
 refine RQ (ok_move rfl) ?_
 refine RQ (ok_move rfl) ?_
 refine RQ (ok_call (rIs_y n h1 h2 l j hl hq) (A3 rfl rfl rfl)) ?_
 refine RP rfl rfl ?_
 refine RA rfl ?_
 refine RN ?_
 refine A.sub (KC 3 rfl (KC 4 rfl (KC 5 rfl (KC 6 rfl (KC 7 rfl (KC 8 rfl (KC 1000001 rfl KN))))))) ?_
 refine GS ?_
 refine TL ?_
 refine RM rfl ?_
 refine RS (ok_call (Height_ok n h1 h2) (A1 rfl)) ?_
 refine RM rfl ?_
 refine RS (ok_extractV rfl rfl) ?_
 refine RS (ok_extractV rfl rfl) ?_
 refine RA rfl ?_
 refine RA rfl ?_
 refine RN ?_
 refine GS ?_
 refine TL ?_
 refine RM rfl ?_
 refine RS (ok_call (Total_ok n h1 h2) (A1 rfl)) ?_
 refine RM rfl ?_
 refine RS (ok_extractV rfl rfl) ?_
 refine RS (ok_extractV rfl rfl) ?_
 refine RA rfl ?_
 refine RA rfl ?_
 refine RN ?_
 refine GS ?_
 refine TL ?_
 refine RM rfl ?_
 refine RS (ok_call (Sectors_ok n h1 h2) (A1 rfl)) ?_
 refine RM rfl ?_
 refine RS (ok_extractV rfl rfl) ?_
 refine RS (ok_extractV rfl rfl) ?_
 refine RA rfl ?_
 refine RA rfl ?_
 refine RN ?_
 refine A.seq ?_
 refine GS ?_
 refine TL ?_
 refine RM rfl ?_
 refine RBS rfl rfl rfl (.bool true) (by first | rfl | (simp; done) | (simp; omega) | (simp [*]; done) | (simp [*]; omega)) ?_
 refine RM rfl ?_
 refine RS (ok_neBoolS Try.underlying4 rfl rfl) ?_; refine RZ (.bool false) (by first | rfl | (simp; done) | (simp; omega) | (simp [*]; done) | (simp [*]; omega)) ?_
 refine RM rfl ?_
 refine RQ (ok_move rfl) ?_
 refine RQ (ok_bin rfl rfl rfl) ?_; refine RZ (.bool true) (by first | rfl | (simp; done) | (simp; omega) | (simp [*]; done) | (simp [*]; omega)) ?_
 refine RQ (ok_move rfl) ?_
 refine RQ (ok_neBoolS Try.underlying4 rfl rfl) ?_; refine RZ (.bool false) (by first | rfl | (simp; done) | (simp; omega) | (simp [*]; done) | (simp [*]; omega)) ?_
 refine RP rfl rfl ?_
 refine RM rfl ?_
 refine RQ (ok_move rfl) ?_
 refine RQ (ok_bin rfl rfl rfl) ?_; refine RZ (.bool true) (by first | rfl | (simp; done) | (simp; omega) | (simp [*]; done) | (simp [*]; omega)) ?_
 refine RQ (ok_move rfl) ?_
 refine RQ (ok_neBoolS Try.underlying4 rfl rfl) ?_; refine RZ (.bool false) (by first | rfl | (simp; done) | (simp; omega) | (simp [*]; done) | (simp [*]; omega)) ?_
 refine RP rfl rfl ?_
 refine RM rfl ?_
 refine RQ (ok_move rfl) ?_
 refine RQ (ok_call (Check_ok n h1 h2) (A1 rfl)) ?_
 refine RQ (ok_move rfl) ?_
 refine RQ (ok_bin rfl rfl rfl) ?_; refine RZ (.bool false) (by first | rfl | (simp; done) | (simp; omega) | (simp [*]; done) | (simp [*]; omega)) ?_
 refine RP rfl rfl ?_
 refine RM rfl ?_
 refine RQ (ok_move rfl) ?_
 refine RQ (ok_move rfl) ?_
 refine RQ (ok_bin rfl rfl rfl) ?_; refine RZ (.bool false) (by first | rfl | (simp; done) | (simp; omega) | (simp [*]; done) | (simp [*]; omega)) ?_
 refine RP rfl rfl ?_
 refine RM rfl ?_
 refine RQ (ok_move rfl) ?_
 refine RQ (ok_move rfl) ?_
 refine RQ (ok_bin rfl rfl rfl) ?_; refine RZ (.bool false) (by first | rfl | (simp; done) | (simp; omega) | (simp [*]; done) | (simp [*]; omega)) ?_
 refine RP rfl rfl ?_
 refine RM rfl ?_
 refine RQ (ok_move rfl) ?_
 refine RQ (ok_not rfl) ?_
 refine RQ (ok_move rfl) ?_
 refine RK ?_
 refine RK ?_
 refine RQ (ok_pick rfl rfl) ?_
 refine RP rfl rfl ?_
 refine RN ?_
 refine A.sub (KC 3 rfl (KC 4 rfl (KC 5 rfl (KC 6 rfl (KC 7 rfl (KC 8 rfl (KC 106 rfl (KC 1000001 rfl KN)))))))) ?_
 refine A.no rfl ?_
 refine A.skip ?_
 refine EN ?_
 refine GS ?_
 refine TL ?_
 refine RM rfl ?_
 refine RM rfl ?_
 refine RS (ok_call (Count_ok n h1 h2 l hl) (A2 rfl rfl)) ?_
 refine RM rfl ?_
 refine RS (ok_extractV rfl rfl) ?_
 refine RS (ok_extractV rfl rfl) ?_
 refine RA rfl ?_
 refine RA rfl ?_
 refine RN ?_
 refine A.seq ?_
 refine GS ?_
 refine TL ?_
 refine RM rfl ?_
 refine RBS rfl rfl rfl (.bool true) (by first | rfl | (simp; done) | (simp; omega) | (simp [*]; done) | (simp [*]; omega)) ?_
 refine RM rfl ?_
 refine RM rfl ?_
 refine RQ (ok_move rfl) ?_
 refine RQ (ok_move rfl) ?_
 refine RQ (ok_call (rIs_y n h1 h2 l 0 hl (un_pos h1 _)) (A3 rfl rfl rfl)) ?_
 refine RP rfl rfl ?_
 refine RS (ok_neBoolS Try.underlying4 rfl rfl) ?_; refine RZ (.bool false) (by first | rfl | (simp; done) | (simp; omega) | (simp [*]; done) | (simp [*]; omega)) ?_
 refine RM rfl ?_
 refine RQ (ok_move rfl) ?_
 refine RQ (ok_bin rfl rfl rfl) ?_; refine RZ (.bool false) (by first | rfl | (simp; done) | (simp; omega) | (simp [*]; done) | (simp [*]; omega)) ?_
 refine RQ (ok_move rfl) ?_
 refine RK ?_
 refine RK ?_
 refine RK ?_
 refine RunK.skippedU rfl rfl rfl rfl ?_
 refine RunK.skippedU rfl rfl rfl rfl ?_
 refine RK ?_
 refine RQ (ok_pick rfl rfl) ?_
 refine RP rfl rfl ?_
 refine RN ?_
 refine A.sub (KC 3 rfl (KC 4 rfl (KC 5 rfl (KC 6 rfl (KC 7 rfl (KC 8 rfl (KC 133 rfl (KC 1000001 rfl KN)))))))) ?_
 refine A.no rfl ?_
 refine A.skip ?_
 refine EN ?_
 refine GS ?_
 refine TL ?_
 refine RM rfl ?_
 refine RM rfl ?_
 refine RM rfl ?_
 refine RS (ok_call (Parts_ok n h1 h2 l j hl hq) (A3 rfl rfl rfl)) ?_
 refine RM rfl ?_
 refine RS (ok_extractV rfl rfl) ?_
 refine RS (ok_extractV rfl rfl) ?_
 refine RA rfl ?_
 refine RA rfl ?_
 refine RN ?_
 refine GS ?_
 refine TL ?_
 refine RM rfl ?_
 refine RM rfl ?_
 refine RM rfl ?_
 refine RS (ok_call (place_fn (l : Int) (j : Int)) (A2 rfl rfl)) ?_
 refine RS (ok_call (Blocks_ok n h1 h2 l j hl hq) (A2 rfl rfl)) ?_
 refine RM rfl ?_
 refine RS (ok_extractV rfl rfl) ?_
 refine RS (ok_extractV rfl rfl) ?_
 refine RS (ok_extractV rfl rfl) ?_
 refine RA rfl ?_
 refine RA rfl ?_
 refine RA rfl ?_
 refine RN ?_
 refine GS ?_
 refine TL ?_
 refine RM rfl ?_
 refine RM rfl ?_
 refine RM rfl ?_
 refine RM rfl ?_
 refine RS (ok_call (Node_slot n h1 h2 l j hl hq (s : Int) (by omega)) (Args.cons rfl (Le.refl _) (A3 rfl rfl rfl))) ?_
 refine RM rfl ?_
 refine RS (ok_extractV rfl rfl) ?_
 refine RS (ok_extractV rfl rfl) ?_
 refine RA rfl ?_
 refine RA rfl ?_
 refine RN ?_
 refine A.sub (KC 3 rfl (KC 4 rfl (KC 5 rfl (KC 6 rfl (KC 7 rfl (KC 8 rfl (KC 15 rfl (KC 16 rfl (KC 17 rfl (KC 18 rfl (KC 19 rfl (KC 20 rfl (KC 21 rfl (KC 1000001 rfl KN)))))))))))))) ?_
 refine A.seq ?_
 refine GS ?_
 refine TL ?_
 refine RM rfl ?_
 refine RBS rfl rfl rfl (.bool true) (by first | rfl | (simp; done) | (simp; omega) | (simp [*]; done) | (simp [*]; omega)) ?_
 refine RM rfl ?_
 refine RS (ok_neBoolS Try.underlying4 rfl rfl) ?_; refine RZ (.bool false) (by first | rfl | (simp; done) | (simp; omega) | (simp [*]; done) | (simp [*]; omega)) ?_
 refine RM rfl ?_
 refine RQ (ok_move rfl) ?_
 refine RQ (ok_bin rfl rfl rfl) ?_; refine RZ (.bool true) (by first | rfl | (simp; done) | (simp; omega) | (simp [*]; done) | (simp [*]; omega)) ?_
 refine RQ (ok_move rfl) ?_
 refine RQ (ok_neBoolS Try.underlying4 rfl rfl) ?_; refine RZ (.bool false) (by first | rfl | (simp; done) | (simp; omega) | (simp [*]; done) | (simp [*]; omega)) ?_
 refine RP rfl rfl ?_
 refine RM rfl ?_
 refine RQ (ok_move rfl) ?_
 refine RQ (ok_bin rfl rfl rfl) ?_; refine RZ (.bool false) (by first | rfl | (simp; done) | (simp; omega) | (simp [*]; done) | (simp [*]; omega)) ?_
 refine RQ (ok_move rfl) ?_
 refine RQ (ok_move rfl) ?_
 refine RQ (ok_move rfl) ?_
 refine RQ (ok_bin rfl rfl rfl) ?_; refine RZ (.bool false) (by first | rfl | (simp; done) | (simp; omega) | (simp [*]; done) | (simp [*]; omega)) ?_
 refine RQ (ok_move rfl) ?_
 refine RQ (ok_move rfl) ?_
 refine RQ (ok_bin rfl rfl rfl) ?_; refine RZ (.bool false) (by first | rfl | (simp; done) | (simp; omega) | (simp [*]; done) | (simp [*]; omega)) ?_
 refine RQ (ok_pick rfl rfl) ?_
 refine RQ (ok_pick rfl rfl) ?_
 refine RQ (ok_neBoolS Try.underlying4 rfl rfl) ?_; refine RZ (.bool false) (by first | rfl | (simp; done) | (simp; omega) | (simp [*]; done) | (simp [*]; omega)) ?_
 refine RP rfl rfl ?_
 refine RN ?_
 refine A.no rfl ?_
 refine A.skip ?_
 refine EN ?_
 refine A.seq ?_
 refine GS ?_
 refine TL ?_
 refine RM rfl ?_
 refine RBS rfl rfl rfl (.bool false) (by first | rfl | (simp; done) | (simp; omega) | (simp [*]; done) | (simp [*]; omega)) ?_
 refine RM rfl ?_
 refine RK ?_
 refine RK ?_
 refine RK ?_
 refine RunK.skippedU rfl rfl rfl rfl ?_
 refine RunK.skippedU rfl rfl rfl rfl ?_
 refine RK ?_
 refine RK ?_
 refine RunK.skippedU rfl rfl rfl rfl ?_
 refine RunK.skippedU rfl rfl rfl rfl ?_
 refine RK ?_
 refine RK ?_
 refine RunK.skippedU rfl rfl rfl rfl ?_
 refine RunK.skippedU rfl rfl rfl rfl ?_
 refine RK ?_
 refine RK ?_
 refine RunK.skippedU rfl rfl rfl rfl ?_
 refine RunK.skippedU rfl rfl rfl rfl ?_
 refine RK ?_
 refine RP rfl rfl ?_
 refine RM rfl ?_
 refine RQ (ok_move rfl) ?_
 refine RQ (ok_bin rfl rfl rfl) ?_; refine RZ (.bool true) (by first | rfl | (simp; done) | (simp; omega) | (simp [*]; done) | (simp [*]; omega)) ?_
 refine RQ (ok_move rfl) ?_
 refine RQ (ok_move rfl) ?_
 refine RQ (ok_bin rfl rfl rfl) ?_; refine RZ (.bool false) (by first | rfl | (simp; done) | (simp; omega) | (simp [*]; done) | (simp [*]; omega)) ?_
 refine RQ (ok_move rfl) ?_
 refine RQ (ok_move rfl) ?_
 refine RQ (ok_bin rfl rfl rfl) ?_; refine RZ (.bool false) (by first | rfl | (simp; done) | (simp; omega) | (simp [*]; done) | (simp [*]; omega)) ?_
 refine RQ (ok_pick rfl rfl) ?_
 refine RQ (ok_pick rfl rfl) ?_
 refine RP rfl rfl ?_
 refine RN ?_
 refine A.sub (KC 3 rfl (KC 4 rfl (KC 5 rfl (KC 6 rfl (KC 7 rfl (KC 8 rfl (KC 215 rfl (KC 1000001 rfl KN)))))))) ?_
 refine A.no rfl ?_
 refine A.skip ?_
 refine EN ?_
 refine GS ?_
 refine TN 9 ?_
 refine RM rfl ?_
 refine RM rfl ?_
 refine RM rfl ?_
 refine RS (ok_call (place_fn (l : Int) (j : Int)) (A2 rfl rfl)) ?_
 refine RS (ok_call (Parent_any n h1 h2 l j hl hq) (A2 rfl rfl)) ?_
 refine RM rfl ?_
 refine RS (ok_extractV rfl rfl) ?_
 refine RS (ok_extractV rfl rfl) ?_
 refine RS (ok_extractV rfl rfl) ?_
 refine RN ?_
 refine ⟨_, _, eff_alloc (n := 390) (d := 22) (k := 1000022) zero45 (by decide), fun b22 hb22 => ?_⟩
 have hBb22 := hb22.1
 refine TF 10 ?_
 refine RN ?_
 refine ⟨_, eff_storeA (n := 390) (s := 1000022) (size45.of (paR_len _ _ _)) rfl rfl (paR_one _ _ _) hBb22 rfl (by rw [paR_len]; rfl) (LV 3 rfl (LV 4 rfl (LV 5 rfl (LV 6 rfl (LV 7 rfl (LV 8 rfl (LV 22 rfl (LV 223 rfl (LV 224 rfl (LT 1000001 rfl LN)))))))))), ?_⟩
 refine TL ?_
 refine RA rfl ?_
 refine RA rfl ?_
 refine RN ?_
 refine GS ?_
 refine TN 9 ?_
 refine RM rfl ?_
 refine RM rfl ?_
 refine RM rfl ?_
 refine RS (ok_call (place_fn (l : Int) (j : Int)) (A2 rfl rfl)) ?_
 refine RM rfl ?_
 refine RS (ok_call (Child_which n h1 h2 l j hl hq s (by omega)) (A3 rfl rfl rfl)) ?_
 refine RM rfl ?_
 refine RS (ok_extractV rfl rfl) ?_
 refine RS (ok_extractV rfl rfl) ?_
 refine RN ?_
 refine ⟨_, _, eff_alloc (n := 390) (d := 25) (k := 1000025) zero45 (by decide), fun b25 hb25 => ?_⟩
 have hBb25 := hb25.1
 have hlt_b22_b25 : b22 < b25 := hb25.2 1000022 _ _ _ rfl
 refine TF 10 ?_
 refine RN ?_
 refine ⟨_, eff_storeA (n := 390) (s := 1000025) (size45.of (rfl)) rfl rfl (rfl) hBb25 rfl (rfl) (LV 3 rfl (LV 5 rfl (LV 6 rfl (LV 7 rfl (LV 8 rfl (LV 22 rfl (LV 23 rfl (LV 24 rfl (LV 25 rfl (LV 233 rfl (LT 1000001 rfl (LB 1000022 rfl LN)))))))))))), ?_⟩
 refine TL ?_
 refine RA rfl ?_
 refine RN ?_
 refine A.sub (KC 3 rfl (KC 5 rfl (KC 6 rfl (KC 7 rfl (KC 8 rfl (KC 22 rfl (KC 23 rfl (KC 24 rfl (KC 25 rfl (KC 26 rfl (KC 1000001 rfl (KC 1000022 rfl (KC 1000025 rfl KN))))))))))))) ?_
 refine A.seq ?_
 refine GD ?_
 refine TL ?_
 refine RM rfl ?_
 refine RS (ok_not rfl) ?_
 refine RM rfl ?_
 refine RK ?_
 refine RK ?_
 refine RK ?_
 refine RunK.skippedU rfl rfl rfl rfl ?_
 refine RunK.skippedU rfl rfl rfl rfl ?_
 refine RunK.skippedU rfl rfl rfl rfl ?_
 refine RK ?_
 refine RK ?_
 refine RunK.skippedU rfl rfl rfl rfl ?_
 refine RunK.skippedU rfl rfl rfl rfl ?_
 refine RK ?_
 refine RP rfl rfl ?_
 refine RM rfl ?_
 refine RQ (ok_move rfl) ?_
 refine RQ (ok_not rfl) ?_
 refine RQ (ok_move rfl) ?_
 refine RQ (ok_move rfl) ?_
 refine RQ (ok_bin rfl rfl rfl) ?_; refine RZ (.bool true) (by first | rfl | (simp; done) | (simp; omega) | (simp [*]; done) | (simp [*]; omega)) ?_
 refine RQ (ok_pick rfl rfl) ?_
 refine RQ (ok_move rfl) ?_
 refine RK ?_
 refine RK ?_
 refine RQ (ok_pick rfl rfl) ?_
 refine RQ (ok_move rfl) ?_
 refine RQ (ok_move rfl) ?_
 refine RQ (ok_bin rfl rfl rfl) ?_; refine RZ (.bool false) (by first | rfl | (simp; done) | (simp; omega) | (simp [*]; done) | (simp [*]; omega)) ?_
 refine RQ (ok_move rfl) ?_
 refine RQ (ok_loadA (s := 1000025) (by decide) Try.underlying45 rfl (size45.of (rfl)) rfl rfl) ?_
 refine RQ (ok_call (place_fn 0 0) (A2 rfl rfl)) ?_
 refine RQ (ok_neqT 3 true flatP (by decide) (by kernel_rfl) (by kernel_rfl) rfl rfl (kinP _ _) (kinP _ _) (iff_of_true rfl rfl)) ?_; refine RZ (.bool false) (by first | rfl | (simp; done) | (simp; omega) | (simp [*]; done) | (simp [*]; omega)) ?_
 refine RQ (ok_pick rfl rfl) ?_
 refine RQ (ok_pick rfl rfl) ?_
 refine RP rfl rfl ?_
 refine RN ?_
 refine A.sub (KC 3 rfl (KC 5 rfl (KC 6 rfl (KC 7 rfl (KC 269 rfl (KC 1000001 rfl (KC 1000022 rfl (KC 1000025 rfl KN)))))))) ?_
 refine A.no rfl ?_
 refine A.skip ?_
 refine EN ?_
 refine GS ?_
 refine TL ?_
 refine RM rfl ?_
 refine RM rfl ?_
 refine RQ (ok_move rfl) ?_
 refine RQ (ok_bin rfl rfl rfl) ?_; refine RZ (.bool true) (by first | rfl | (simp; done) | (simp; omega) | (simp [*]; done) | (simp [*]; omega)) ?_
 refine RP rfl rfl ?_
 refine RM rfl ?_
 refine RQ (ok_move rfl) ?_
 refine RQ (ok_move rfl) ?_
 refine RQ (ok_bin rfl rfl rfl) ?_; refine RZ (.bool true) (by first | rfl | (simp; done) | (simp; omega) | (simp [*]; done) | (simp [*]; omega)) ?_
 refine RP rfl rfl ?_
 refine RA rfl ?_
 refine RN ?_
 refine GS ?_
 refine TN 2 ?_
 refine RM rfl ?_
 refine RM rfl ?_
 refine RN ?_
 refine ⟨_, _, eff_name (n := 390) (d := 283) (k := 1000283) rfl rfl (fun B' => ok_callB (Path_fnB n h1 h2 j hj) (fun _ _ h => newD_mono _ _ h) (A2 rfl rfl)) (by decide) (by decide), fun b283 hb283 => ?_⟩
 have hBb283 := hb283.1
 have hlt_b1_b283 : b1 < b283 := hb283.2 1000001 _ _ _ rfl
 have hlt_b22_b283 : b22 < b283 := hb283.2 1000022 _ _ _ rfl
 have hlt_b25_b283 : b25 < b283 := hb283.2 1000025 _ _ _ rfl
 refine TL ?_
 refine RM rfl ?_
 refine RS (ok_extractV rfl rfl) ?_
 refine RS (ok_extractV rfl rfl) ?_
 refine RA rfl ?_
 refine RA rfl ?_
 refine RN ?_
 refine GS ?_
 refine TL ?_
 refine RM rfl ?_
 refine RM rfl ?_
 refine RS (ok_call (Group_ok n h1 h2 j hj) (A2 rfl rfl)) ?_
 refine RM rfl ?_
 refine RS (ok_extractV rfl rfl) ?_
 refine RS (ok_extractV rfl rfl) ?_
 refine RS (ok_extractV rfl rfl) ?_
 refine RA rfl ?_
 refine RN ?_
 refine A.sub (KC 3 rfl (KC 5 rfl (KC 6 rfl (KC 7 rfl (KC 16 rfl (KC 19 rfl (KC 27 rfl (KC 28 rfl (KC 1000001 rfl (KC 1000022 rfl (KC 1000025 rfl (KC 1000283 rfl KN)))))))))))) ?_
 refine GS ?_
 refine TL ?_
 refine RM rfl ?_
 refine RM rfl ?_
 refine RM rfl ?_
 refine RS (ok_call (Data_slot n h1 h2 j hj (s : Int) (by omega)) (A3 rfl rfl rfl)) ?_
 refine RM rfl ?_
 refine RS (ok_extractV rfl rfl) ?_
 refine RS (ok_extractV rfl rfl) ?_
 refine RA rfl ?_
 refine RA rfl ?_
 refine RN ?_
 refine A.seq ?_
 refine GS ?_
 refine TL ?_
 refine RM rfl ?_
 refine RBS rfl rfl rfl (.bool true) (by first | rfl | (simp; done) | (simp; omega) | (simp [*]; done) | (simp [*]; omega)) ?_
 refine RM rfl ?_
 refine RS (ok_neBoolS Try.underlying4 rfl rfl) ?_; refine RZ (.bool false) (by first | rfl | (simp; done) | (simp; omega) | (simp [*]; done) | (simp [*]; omega)) ?_
 refine RM rfl ?_
 refine RQ (ok_move rfl) ?_
 refine RQ (ok_bin rfl rfl rfl) ?_; refine RZ (.bool true) (by first | rfl | (simp; done) | (simp; omega) | (simp [*]; done) | (simp [*]; omega)) ?_
 refine RQ (ok_move rfl) ?_
 refine RQ (ok_neBoolS Try.underlying4 rfl rfl) ?_; refine RZ (.bool false) (by first | rfl | (simp; done) | (simp; omega) | (simp [*]; done) | (simp [*]; omega)) ?_
 refine RP rfl rfl ?_
 refine RM rfl ?_
 refine RQ (ok_move rfl) ?_
 refine RQ (ok_bin rfl rfl rfl) ?_; refine RZ (.bool false) (by first | rfl | (simp; done) | (simp; omega) | (simp [*]; done) | (simp [*]; omega)) ?_
 refine RQ (ok_move rfl) ?_
 refine RQ (ok_move rfl) ?_
 refine RQ (ok_move rfl) ?_
 refine RQ (ok_bin rfl rfl rfl) ?_; refine RZ (.bool false) (by first | rfl | (simp; done) | (simp; omega) | (simp [*]; done) | (simp [*]; omega)) ?_
 refine RQ (ok_move rfl) ?_
 refine RQ (ok_move rfl) ?_
 refine RQ (ok_bin rfl rfl rfl) ?_; refine RZ (.bool false) (by first | rfl | (simp; done) | (simp; omega) | (simp [*]; done) | (simp [*]; omega)) ?_
 refine RQ (ok_pick rfl rfl) ?_
 refine RQ (ok_pick rfl rfl) ?_
 refine RQ (ok_neBoolS Try.underlying4 rfl rfl) ?_; refine RZ (.bool false) (by first | rfl | (simp; done) | (simp; omega) | (simp [*]; done) | (simp [*]; omega)) ?_
 refine RP rfl rfl ?_
 refine RM rfl ?_
 refine RQ (ok_move rfl) ?_
 refine RQ (ok_bin rfl rfl rfl) ?_; refine RZ (.bool false) (by first | rfl | (simp; done) | (simp; omega) | (simp [*]; done) | (simp [*]; omega)) ?_
 refine RQ (ok_move rfl) ?_
 refine RK ?_
 refine RK ?_
 refine RK ?_
 refine RK ?_
 refine RunK.skippedU rfl rfl rfl rfl ?_
 refine RunK.skippedU rfl rfl rfl rfl ?_
 refine RK ?_
 refine RK ?_
 refine RunK.skippedU rfl rfl rfl rfl ?_
 refine RunK.skippedU rfl rfl rfl rfl ?_
 refine RunK.skippedU rfl rfl rfl rfl ?_
 refine RK ?_
 refine RQ (ok_pick rfl rfl) ?_
 refine RP rfl rfl ?_
 refine RM rfl ?_
 refine RQ (ok_move rfl) ?_
 refine RQ (ok_bin rfl rfl rfl) ?_; refine RZ (.bool true) (by first | rfl | (simp; done) | (simp; omega) | (simp [*]; done) | (simp [*]; omega)) ?_
 refine RQ (ok_move rfl) ?_
 refine RQ (ok_move rfl) ?_
 refine RQ (ok_bin rfl rfl rfl) ?_; refine RZ (.bool false) (by first | rfl | (simp; done) | (simp; omega) | (simp [*]; done) | (simp [*]; omega)) ?_
 refine RQ (ok_move rfl) ?_
 refine RQ (ok_move rfl) ?_
 refine RQ (ok_bin rfl rfl rfl) ?_; refine RZ (.bool false) (by first | rfl | (simp; done) | (simp; omega) | (simp [*]; done) | (simp [*]; omega)) ?_
 refine RQ (ok_pick rfl rfl) ?_
 refine RQ (ok_pick rfl rfl) ?_
 refine RP rfl rfl ?_
 refine RN ?_
 refine A.sub (KC 3 rfl (KC 5 rfl (KC 7 rfl (KC 353 rfl (KC 1000001 rfl (KC 1000022 rfl (KC 1000025 rfl (KC 1000283 rfl KN)))))))) ?_
 refine A.no rfl ?_
 refine A.skip ?_
 refine EN ?_
 refine GS ?_
 refine TN 6 ?_
 refine RM rfl ?_
 refine RM rfl ?_
 refine RS (ok_call (Of_data n h1 h2 j (by omega)) (A2 rfl rfl)) ?_
 refine RM rfl ?_
 refine RS (ok_extractV rfl rfl) ?_
 refine RS (ok_extractV rfl rfl) ?_
 refine RN ?_
 refine ⟨_, _, eff_alloc (n := 390) (d := 29) (k := 1000029) zero31 (by decide), fun b29 hb29 => ?_⟩
 have hBb29 := hb29.1
 refine TF 7 ?_
 refine RN ?_
 refine ⟨_, eff_storeA (n := 390) (s := 1000029) (size31.of (rfl)) rfl rfl (rfl) hBb29 rfl (rfl) (LV 3 rfl (LV 5 rfl (LV 7 rfl (LV 29 rfl (LV 359 rfl (LT 1000001 rfl (LT 1000022 rfl (LT 1000025 rfl (LT 1000283 rfl LN))))))))), ?_⟩
 refine TL ?_
 refine RA rfl ?_
 refine RN ?_
 refine GS ?_
 refine TL ?_
 refine RM rfl ?_
 refine RM rfl ?_
 refine RQ (ok_move rfl) ?_
 refine RQ (ok_bin rfl rfl rfl) ?_; refine RZ (.bool true) (by first | rfl | (simp; done) | (simp; omega) | (simp [*]; done) | (simp [*]; omega)) ?_
 refine RP rfl rfl ?_
 refine RM rfl ?_
 refine RQ (ok_move rfl) ?_
 refine RQ (ok_move rfl) ?_
 refine RQ (ok_call (rSectors_fn n h1 h2) (A1 rfl)) ?_
 refine RQ (ok_bin rfl rfl rfl) ?_; refine RZ (.bool true) (by first | rfl | (simp; done) | (simp; omega) | (simp [*]; done) | (simp [*]; omega)) ?_
 refine RP rfl rfl ?_
 refine RA rfl ?_
 refine RN ?_
 refine GS ?_
 refine TL ?_
 refine RM rfl ?_
 refine RBS rfl rfl rfl (.bool true) (by first | rfl | (simp; done) | (simp; omega) | (simp [*]; done) | (simp [*]; omega)) ?_
 refine RM rfl ?_
 refine RS (ok_eqBool Try.underlying4 rfl rfl) ?_; refine RZ (.bool true) (by first | rfl | (simp; done) | (simp; omega) | (simp [*]; done) | (simp [*]; omega)) ?_
 refine RM rfl ?_
 refine RQ (ok_move rfl) ?_
 refine RQ (ok_move rfl) ?_
 refine RK ?_
 refine RK ?_
 refine RK ?_
 refine RunK.skippedU rfl rfl rfl rfl ?_
 refine RunK.skippedU rfl rfl rfl rfl ?_
 refine RunK.skippedU rfl rfl rfl rfl ?_
 refine RK ?_
 refine RQ (ok_pick rfl rfl) ?_
 refine RP rfl rfl ?_
 refine RM rfl ?_
 refine RQ (ok_call (lives12_fn) Args.nil) ?_
 refine RP rfl rfl ?_
 refine RA rfl ?_
 refine RN ?_
 refine A.sub (KC 2 rfl (KC 1000001 rfl (KC 1000022 rfl (KC 1000025 rfl (KC 1000029 rfl (KC 1000283 rfl KN)))))) ?_
 refine A.ret ?_
 exact End.ret1 rfl rfl (by first | exact Le.refl _ | exact Le.old _ _)
set_option maxHeartbeats 2000000 in
theorem serr_px (n : Nat) (h1 : 1 ≤ n) (h2 : n ≤ 4096) (l : Nat) (hl : l ≤ hg n) (j : Nat) (s : Int) (hs : 3 < s) (hq : j < un n (l + 1)) : Fn Try.prog 7 [.v (aggV [nI (n), nI (l), nI (j), .int .i64 (s)])] (.v (.bool true)) := by
 have hh := hg_le n
 have hz := bs_zero n
 have hb0 := bs_mono (n := n) (Nat.zero_le (hg n + 1))
 have hj : j < n := Nat.lt_of_lt_of_le hq (un_le h1 _)
 refine Fn.of Try.func7 rfl (by kernel_rfl) Try.ntmps7 (by simp) (fun w => [(0, .v (aggV [nI (n), nI (l), nI (j), .int .i64 (s)]))]) (fun w => (Start.v rfl Start.nil)) fun w₀ => ?_
 refine GS ?_
 refine TN 0 ?_
 refine RN ?_
 refine ⟨_, _, eff_box (n := 390) (d := 1) (k := 1000001) rfl (by decide), fun b1 hb1 => ?_⟩
 have hBb1 := hb1.1
 refine TL ?_
 refine RA rfl ?_
 refine RN ?_
 refine GD ?_
 refine TL ?_
 refine RS (ok_index0 (0) Try.underlying58 info3 rfl rfl (rfl) (by decide)) ?_
 refine RS (ok_loadV (s := 1000001) (by decide) Try.underlying3 rfl rfl rfl (rfl)) ?_
 refine RS (ok_index0 (1) Try.underlying58 info3 rfl rfl (rfl) (by decide)) ?_
 refine RS (ok_loadV (s := 1000001) (by decide) Try.underlying3 rfl rfl rfl (rfl)) ?_
 refine RS (ok_index0 (2) Try.underlying58 info3 rfl rfl (rfl) (by decide)) ?_
 refine RS (ok_loadV (s := 1000001) (by decide) Try.underlying3 rfl rfl rfl (rfl)) ?_
 refine RS (ok_index0 (3) Try.underlying58 info3 rfl rfl (rfl) (by decide)) ?_
 refine RS (ok_loadV (s := 1000001) (by decide) Try.underlying3 rfl rfl rfl (rfl)) ?_
 refine RA rfl ?_
 refine RA rfl ?_
 refine RA rfl ?_
 refine RA rfl ?_
 refine RN ?_
 refine GS ?_
 refine TL ?_
 refine RM rfl ?_
 refine RBS rfl rfl rfl (.bool true) (by first | rfl | (simp; done) | (simp; omega) | (simp [*]; done) | (simp [*]; omega)) ?_
 refine RM rfl ?_
 refine RQ (ok_move rfl) ?_
 refine RQ (ok_bin rfl rfl rfl) ?_; refine RZ (.bool true) (by first | rfl | (simp; done) | (simp; omega) | (simp [*]; done) | (simp [*]; omega)) ?_
 refine RP rfl rfl ?_
 refine RA rfl ?_
 refine RN ?_
 refine GS ?_
 refine TL ?_
 refine RM rfl ?_
 refine RM rfl ?_
 refine RQ (ok_move rfl) ?_
 refine RQ (ok_move rfl) ?_
 refine RQ (ok_move rfl) ?_
 refine RQ (ok_call (rIs_y n h1 h2 l j hl hq) (A3 rfl rfl rfl)) ?_
 refine RP rfl rfl ?_
 refine RA rfl ?_
 refine RN ?_
 refine A.sub (KC 3 rfl (KC 4 rfl (KC 5 rfl (KC 6 rfl (KC 7 rfl (KC 8 rfl (KC 1000001 rfl KN))))))) ?_
 refine GS ?_
 refine TL ?_
 refine RM rfl ?_
 refine RS (ok_call (Height_ok n h1 h2) (A1 rfl)) ?_
 refine RM rfl ?_
 refine RS (ok_extractV rfl rfl) ?_
 refine RS (ok_extractV rfl rfl) ?_
 refine RA rfl ?_
 refine RA rfl ?_
 refine RN ?_
 refine GS ?_
 refine TL ?_
 refine RM rfl ?_
 refine RS (ok_call (Total_ok n h1 h2) (A1 rfl)) ?_
 refine RM rfl ?_
 refine RS (ok_extractV rfl rfl) ?_
 refine RS (ok_extractV rfl rfl) ?_
 refine RA rfl ?_
 refine RA rfl ?_
 refine RN ?_
 refine GS ?_
 refine TL ?_
 refine RM rfl ?_
 refine RS (ok_call (Sectors_ok n h1 h2) (A1 rfl)) ?_
 refine RM rfl ?_
 refine RS (ok_extractV rfl rfl) ?_
 refine RS (ok_extractV rfl rfl) ?_
 refine RA rfl ?_
 refine RA rfl ?_
 refine RN ?_
 refine A.seq ?_
 refine GS ?_
 refine TL ?_
 refine RM rfl ?_
 refine RBS rfl rfl rfl (.bool true) (by first | rfl | (simp; done) | (simp; omega) | (simp [*]; done) | (simp [*]; omega)) ?_
 refine RM rfl ?_
 refine RS (ok_neBoolS Try.underlying4 rfl rfl) ?_; refine RZ (.bool false) (by first | rfl | (simp; done) | (simp; omega) | (simp [*]; done) | (simp [*]; omega)) ?_
 refine RM rfl ?_
 refine RQ (ok_move rfl) ?_
 refine RQ (ok_bin rfl rfl rfl) ?_; refine RZ (.bool true) (by first | rfl | (simp; done) | (simp; omega) | (simp [*]; done) | (simp [*]; omega)) ?_
 refine RQ (ok_move rfl) ?_
 refine RQ (ok_neBoolS Try.underlying4 rfl rfl) ?_; refine RZ (.bool false) (by first | rfl | (simp; done) | (simp; omega) | (simp [*]; done) | (simp [*]; omega)) ?_
 refine RP rfl rfl ?_
 refine RM rfl ?_
 refine RQ (ok_move rfl) ?_
 refine RQ (ok_bin rfl rfl rfl) ?_; refine RZ (.bool true) (by first | rfl | (simp; done) | (simp; omega) | (simp [*]; done) | (simp [*]; omega)) ?_
 refine RQ (ok_move rfl) ?_
 refine RQ (ok_neBoolS Try.underlying4 rfl rfl) ?_; refine RZ (.bool false) (by first | rfl | (simp; done) | (simp; omega) | (simp [*]; done) | (simp [*]; omega)) ?_
 refine RP rfl rfl ?_
 refine RM rfl ?_
 refine RQ (ok_move rfl) ?_
 refine RQ (ok_call (Check_ok n h1 h2) (A1 rfl)) ?_
 refine RQ (ok_move rfl) ?_
 refine RQ (ok_bin rfl rfl rfl) ?_; refine RZ (.bool false) (by first | rfl | (simp; done) | (simp; omega) | (simp [*]; done) | (simp [*]; omega)) ?_
 refine RP rfl rfl ?_
 refine RM rfl ?_
 refine RQ (ok_move rfl) ?_
 refine RQ (ok_move rfl) ?_
 refine RQ (ok_bin rfl rfl rfl) ?_; refine RZ (.bool false) (by first | rfl | (simp; done) | (simp; omega) | (simp [*]; done) | (simp [*]; omega)) ?_
 refine RP rfl rfl ?_
 refine RM rfl ?_
 refine RQ (ok_move rfl) ?_
 refine RQ (ok_move rfl) ?_
 refine RQ (ok_bin rfl rfl rfl) ?_; refine RZ (.bool false) (by first | rfl | (simp; done) | (simp; omega) | (simp [*]; done) | (simp [*]; omega)) ?_
 refine RP rfl rfl ?_
 refine RM rfl ?_
 refine RQ (ok_move rfl) ?_
 refine RQ (ok_not rfl) ?_
 refine RQ (ok_move rfl) ?_
 refine RK ?_
 refine RK ?_
 refine RQ (ok_pick rfl rfl) ?_
 refine RP rfl rfl ?_
 refine RN ?_
 refine A.sub (KC 3 rfl (KC 4 rfl (KC 5 rfl (KC 6 rfl (KC 7 rfl (KC 8 rfl (KC 106 rfl (KC 1000001 rfl KN)))))))) ?_
 refine A.no rfl ?_
 refine A.skip ?_
 refine EN ?_
 refine GS ?_
 refine TL ?_
 refine RM rfl ?_
 refine RM rfl ?_
 refine RS (ok_call (Count_ok n h1 h2 l hl) (A2 rfl rfl)) ?_
 refine RM rfl ?_
 refine RS (ok_extractV rfl rfl) ?_
 refine RS (ok_extractV rfl rfl) ?_
 refine RA rfl ?_
 refine RA rfl ?_
 refine RN ?_
 refine A.seq ?_
 refine GS ?_
 refine TL ?_
 refine RM rfl ?_
 refine RBS rfl rfl rfl (.bool true) (by first | rfl | (simp; done) | (simp; omega) | (simp [*]; done) | (simp [*]; omega)) ?_
 refine RM rfl ?_
 refine RM rfl ?_
 refine RQ (ok_move rfl) ?_
 refine RQ (ok_move rfl) ?_
 refine RQ (ok_call (rIs_y n h1 h2 l 0 hl (un_pos h1 _)) (A3 rfl rfl rfl)) ?_
 refine RP rfl rfl ?_
 refine RS (ok_neBoolS Try.underlying4 rfl rfl) ?_; refine RZ (.bool false) (by first | rfl | (simp; done) | (simp; omega) | (simp [*]; done) | (simp [*]; omega)) ?_
 refine RM rfl ?_
 refine RQ (ok_move rfl) ?_
 refine RQ (ok_bin rfl rfl rfl) ?_; refine RZ (.bool false) (by first | rfl | (simp; done) | (simp; omega) | (simp [*]; done) | (simp [*]; omega)) ?_
 refine RQ (ok_move rfl) ?_
 refine RK ?_
 refine RK ?_
 refine RK ?_
 refine RunK.skippedU rfl rfl rfl rfl ?_
 refine RunK.skippedU rfl rfl rfl rfl ?_
 refine RK ?_
 refine RQ (ok_pick rfl rfl) ?_
 refine RP rfl rfl ?_
 refine RN ?_
 refine A.sub (KC 3 rfl (KC 4 rfl (KC 5 rfl (KC 6 rfl (KC 7 rfl (KC 8 rfl (KC 133 rfl (KC 1000001 rfl KN)))))))) ?_
 refine A.no rfl ?_
 refine A.skip ?_
 refine EN ?_
 refine GS ?_
 refine TL ?_
 refine RM rfl ?_
 refine RM rfl ?_
 refine RM rfl ?_
 refine RS (ok_call (Parts_ok n h1 h2 l j hl hq) (A3 rfl rfl rfl)) ?_
 refine RM rfl ?_
 refine RS (ok_extractV rfl rfl) ?_
 refine RS (ok_extractV rfl rfl) ?_
 refine RA rfl ?_
 refine RA rfl ?_
 refine RN ?_
 refine GS ?_
 refine TL ?_
 refine RM rfl ?_
 refine RM rfl ?_
 refine RM rfl ?_
 refine RS (ok_call (place_fn (l : Int) (j : Int)) (A2 rfl rfl)) ?_
 refine RS (ok_call (Blocks_ok n h1 h2 l j hl hq) (A2 rfl rfl)) ?_
 refine RM rfl ?_
 refine RS (ok_extractV rfl rfl) ?_
 refine RS (ok_extractV rfl rfl) ?_
 refine RS (ok_extractV rfl rfl) ?_
 refine RA rfl ?_
 refine RA rfl ?_
 refine RA rfl ?_
 refine RN ?_
 refine GS ?_
 refine TL ?_
 refine RM rfl ?_
 refine RM rfl ?_
 refine RM rfl ?_
 refine RM rfl ?_
 refine RS (ok_call (Node_slot n h1 h2 l j hl hq (s : Int) (by omega)) (Args.cons rfl (Le.refl _) (A3 rfl rfl rfl))) ?_
 refine RM rfl ?_
 refine RS (ok_extractV rfl rfl) ?_
 refine RS (ok_extractV rfl rfl) ?_
 refine RA rfl ?_
 refine RA rfl ?_
 refine RN ?_
 refine A.sub (KC 3 rfl (KC 4 rfl (KC 5 rfl (KC 6 rfl (KC 7 rfl (KC 8 rfl (KC 15 rfl (KC 16 rfl (KC 17 rfl (KC 18 rfl (KC 19 rfl (KC 20 rfl (KC 21 rfl (KC 1000001 rfl KN)))))))))))))) ?_
 refine A.seq ?_
 refine GS ?_
 refine TL ?_
 refine RM rfl ?_
 refine RBS rfl rfl rfl (.bool true) (by first | rfl | (simp; done) | (simp; omega) | (simp [*]; done) | (simp [*]; omega)) ?_
 refine RM rfl ?_
 refine RS (ok_neBoolS Try.underlying4 rfl rfl) ?_; refine RZ (.bool false) (by first | rfl | (simp; done) | (simp; omega) | (simp [*]; done) | (simp [*]; omega)) ?_
 refine RM rfl ?_
 refine RQ (ok_move rfl) ?_
 refine RQ (ok_bin rfl rfl rfl) ?_; refine RZ (.bool true) (by first | rfl | (simp; done) | (simp; omega) | (simp [*]; done) | (simp [*]; omega)) ?_
 refine RQ (ok_move rfl) ?_
 refine RQ (ok_neBoolS Try.underlying4 rfl rfl) ?_; refine RZ (.bool false) (by first | rfl | (simp; done) | (simp; omega) | (simp [*]; done) | (simp [*]; omega)) ?_
 refine RP rfl rfl ?_
 refine RM rfl ?_
 refine RQ (ok_move rfl) ?_
 refine RQ (ok_bin rfl rfl rfl) ?_; refine RZ (.bool false) (by first | rfl | (simp; done) | (simp; omega) | (simp [*]; done) | (simp [*]; omega)) ?_
 refine RQ (ok_move rfl) ?_
 refine RQ (ok_move rfl) ?_
 refine RQ (ok_move rfl) ?_
 refine RQ (ok_bin rfl rfl rfl) ?_; refine RZ (.bool false) (by first | rfl | (simp; done) | (simp; omega) | (simp [*]; done) | (simp [*]; omega)) ?_
 refine RQ (ok_move rfl) ?_
 refine RQ (ok_move rfl) ?_
 refine RQ (ok_bin rfl rfl rfl) ?_; refine RZ (.bool false) (by first | rfl | (simp; done) | (simp; omega) | (simp [*]; done) | (simp [*]; omega)) ?_
 refine RQ (ok_pick rfl rfl) ?_
 refine RQ (ok_pick rfl rfl) ?_
 refine RQ (ok_neBoolS Try.underlying4 rfl rfl) ?_; refine RZ (.bool false) (by first | rfl | (simp; done) | (simp; omega) | (simp [*]; done) | (simp [*]; omega)) ?_
 refine RP rfl rfl ?_
 refine RN ?_
 refine A.no rfl ?_
 refine A.skip ?_
 refine EN ?_
 refine A.seq ?_
 refine GS ?_
 refine TL ?_
 refine RM rfl ?_
 refine RBS rfl rfl rfl (.bool false) (by first | rfl | (simp; done) | (simp; omega) | (simp [*]; done) | (simp [*]; omega)) ?_
 refine RM rfl ?_
 refine RK ?_
 refine RK ?_
 refine RK ?_
 refine RunK.skippedU rfl rfl rfl rfl ?_
 refine RunK.skippedU rfl rfl rfl rfl ?_
 refine RK ?_
 refine RK ?_
 refine RunK.skippedU rfl rfl rfl rfl ?_
 refine RunK.skippedU rfl rfl rfl rfl ?_
 refine RK ?_
 refine RK ?_
 refine RunK.skippedU rfl rfl rfl rfl ?_
 refine RunK.skippedU rfl rfl rfl rfl ?_
 refine RK ?_
 refine RK ?_
 refine RunK.skippedU rfl rfl rfl rfl ?_
 refine RunK.skippedU rfl rfl rfl rfl ?_
 refine RK ?_
 refine RP rfl rfl ?_
 refine RM rfl ?_
 refine RQ (ok_move rfl) ?_
 refine RQ (ok_bin rfl rfl rfl) ?_; refine RZ (.bool true) (by first | rfl | (simp; done) | (simp; omega) | (simp [*]; done) | (simp [*]; omega)) ?_
 refine RQ (ok_move rfl) ?_
 refine RQ (ok_move rfl) ?_
 refine RQ (ok_bin rfl rfl rfl) ?_; refine RZ (.bool false) (by first | rfl | (simp; done) | (simp; omega) | (simp [*]; done) | (simp [*]; omega)) ?_
 refine RQ (ok_move rfl) ?_
 refine RQ (ok_move rfl) ?_
 refine RQ (ok_bin rfl rfl rfl) ?_; refine RZ (.bool false) (by first | rfl | (simp; done) | (simp; omega) | (simp [*]; done) | (simp [*]; omega)) ?_
 refine RQ (ok_pick rfl rfl) ?_
 refine RQ (ok_pick rfl rfl) ?_
 refine RP rfl rfl ?_
 refine RN ?_
 refine A.sub (KC 3 rfl (KC 4 rfl (KC 5 rfl (KC 6 rfl (KC 7 rfl (KC 8 rfl (KC 215 rfl (KC 1000001 rfl KN)))))))) ?_
 refine A.no rfl ?_
 refine A.skip ?_
 refine EN ?_
 refine GS ?_
 refine TN 9 ?_
 refine RM rfl ?_
 refine RM rfl ?_
 refine RM rfl ?_
 refine RS (ok_call (place_fn (l : Int) (j : Int)) (A2 rfl rfl)) ?_
 refine RS (ok_call (Parent_any n h1 h2 l j hl hq) (A2 rfl rfl)) ?_
 refine RM rfl ?_
 refine RS (ok_extractV rfl rfl) ?_
 refine RS (ok_extractV rfl rfl) ?_
 refine RS (ok_extractV rfl rfl) ?_
 refine RN ?_
 refine ⟨_, _, eff_alloc (n := 390) (d := 22) (k := 1000022) zero45 (by decide), fun b22 hb22 => ?_⟩
 have hBb22 := hb22.1
 refine TF 10 ?_
 refine RN ?_
 refine ⟨_, eff_storeA (n := 390) (s := 1000022) (size45.of (paR_len _ _ _)) rfl rfl (paR_one _ _ _) hBb22 rfl (by rw [paR_len]; rfl) (LV 3 rfl (LV 4 rfl (LV 5 rfl (LV 6 rfl (LV 7 rfl (LV 8 rfl (LV 22 rfl (LV 223 rfl (LV 224 rfl (LT 1000001 rfl LN)))))))))), ?_⟩
 refine TL ?_
 refine RA rfl ?_
 refine RA rfl ?_
 refine RN ?_
 refine GS ?_
 refine TN 9 ?_
 refine RM rfl ?_
 refine RM rfl ?_
 refine RM rfl ?_
 refine RS (ok_call (place_fn (l : Int) (j : Int)) (A2 rfl rfl)) ?_
 refine RM rfl ?_
 refine RS (ok_call (Child_which n h1 h2 l j hl hq s (by omega)) (A3 rfl rfl rfl)) ?_
 refine RM rfl ?_
 refine RS (ok_extractV rfl rfl) ?_
 refine RS (ok_extractV rfl rfl) ?_
 refine RN ?_
 refine ⟨_, _, eff_alloc (n := 390) (d := 25) (k := 1000025) zero45 (by decide), fun b25 hb25 => ?_⟩
 have hBb25 := hb25.1
 have hlt_b22_b25 : b22 < b25 := hb25.2 1000022 _ _ _ rfl
 refine TF 10 ?_
 refine RN ?_
 refine ⟨_, eff_storeA (n := 390) (s := 1000025) (size45.of (rfl)) rfl rfl (rfl) hBb25 rfl (rfl) (LV 3 rfl (LV 5 rfl (LV 6 rfl (LV 7 rfl (LV 8 rfl (LV 22 rfl (LV 23 rfl (LV 24 rfl (LV 25 rfl (LV 233 rfl (LT 1000001 rfl (LB 1000022 rfl LN)))))))))))), ?_⟩
 refine TL ?_
 refine RA rfl ?_
 refine RN ?_
 refine A.sub (KC 3 rfl (KC 5 rfl (KC 6 rfl (KC 7 rfl (KC 8 rfl (KC 22 rfl (KC 23 rfl (KC 24 rfl (KC 25 rfl (KC 26 rfl (KC 1000001 rfl (KC 1000022 rfl (KC 1000025 rfl KN))))))))))))) ?_
 refine A.seq ?_
 refine GD ?_
 refine TL ?_
 refine RM rfl ?_
 refine RS (ok_not rfl) ?_
 refine RM rfl ?_
 refine RK ?_
 refine RK ?_
 refine RK ?_
 refine RunK.skippedU rfl rfl rfl rfl ?_
 refine RunK.skippedU rfl rfl rfl rfl ?_
 refine RunK.skippedU rfl rfl rfl rfl ?_
 refine RK ?_
 refine RK ?_
 refine RunK.skippedU rfl rfl rfl rfl ?_
 refine RunK.skippedU rfl rfl rfl rfl ?_
 refine RK ?_
 refine RP rfl rfl ?_
 refine RM rfl ?_
 refine RQ (ok_move rfl) ?_
 refine RQ (ok_not rfl) ?_
 refine RQ (ok_move rfl) ?_
 refine RQ (ok_move rfl) ?_
 refine RQ (ok_bin rfl rfl rfl) ?_; refine RZ (.bool false) (by first | rfl | (simp; done) | (simp; omega) | (simp [*]; done) | (simp [*]; omega)) ?_
 refine RQ (ok_pick rfl rfl) ?_
 refine RQ (ok_move rfl) ?_
 refine RQ (ok_move rfl) ?_
 refine RQ (ok_bin rfl rfl rfl) ?_; refine RZ (.bool true) (by first | rfl | (simp; done) | (simp; omega) | (simp [*]; done) | (simp [*]; omega)) ?_
 refine RQ (ok_pick rfl rfl) ?_
 refine RQ (ok_move rfl) ?_
 refine RQ (ok_move rfl) ?_
 refine RQ (ok_bin rfl rfl rfl) ?_; refine RZ (.bool false) (by first | rfl | (simp; done) | (simp; omega) | (simp [*]; done) | (simp [*]; omega)) ?_
 refine RQ (ok_move rfl) ?_
 refine RQ (ok_loadA (s := 1000025) (by decide) Try.underlying45 rfl (size45.of (rfl)) rfl rfl) ?_
 refine RQ (ok_call (place_fn 0 0) (A2 rfl rfl)) ?_
 refine RQ (ok_neqT 3 true flatP (by decide) (by kernel_rfl) (by kernel_rfl) rfl rfl (kinP _ _) (kinP _ _) (iff_of_true rfl rfl)) ?_; refine RZ (.bool false) (by first | rfl | (simp; done) | (simp; omega) | (simp [*]; done) | (simp [*]; omega)) ?_
 refine RQ (ok_pick rfl rfl) ?_
 refine RQ (ok_pick rfl rfl) ?_
 refine RP rfl rfl ?_
 refine RN ?_
 refine A.sub (KC 3 rfl (KC 5 rfl (KC 6 rfl (KC 7 rfl (KC 269 rfl (KC 1000001 rfl (KC 1000022 rfl (KC 1000025 rfl KN)))))))) ?_
 refine A.no rfl ?_
 refine A.skip ?_
 refine EN ?_
 refine GS ?_
 refine TL ?_
 refine RM rfl ?_
 refine RM rfl ?_
 refine RQ (ok_move rfl) ?_
 refine RQ (ok_bin rfl rfl rfl) ?_; refine RZ (.bool true) (by first | rfl | (simp; done) | (simp; omega) | (simp [*]; done) | (simp [*]; omega)) ?_
 refine RP rfl rfl ?_
 refine RM rfl ?_
 refine RQ (ok_move rfl) ?_
 refine RQ (ok_move rfl) ?_
 refine RQ (ok_bin rfl rfl rfl) ?_; refine RZ (.bool true) (by first | rfl | (simp; done) | (simp; omega) | (simp [*]; done) | (simp [*]; omega)) ?_
 refine RP rfl rfl ?_
 refine RA rfl ?_
 refine RN ?_
 refine GS ?_
 refine TN 2 ?_
 refine RM rfl ?_
 refine RM rfl ?_
 refine RN ?_
 refine ⟨_, _, eff_name (n := 390) (d := 283) (k := 1000283) rfl rfl (fun B' => ok_callB (Path_fnB n h1 h2 j hj) (fun _ _ h => newD_mono _ _ h) (A2 rfl rfl)) (by decide) (by decide), fun b283 hb283 => ?_⟩
 have hBb283 := hb283.1
 have hlt_b1_b283 : b1 < b283 := hb283.2 1000001 _ _ _ rfl
 have hlt_b22_b283 : b22 < b283 := hb283.2 1000022 _ _ _ rfl
 have hlt_b25_b283 : b25 < b283 := hb283.2 1000025 _ _ _ rfl
 refine TL ?_
 refine RM rfl ?_
 refine RS (ok_extractV rfl rfl) ?_
 refine RS (ok_extractV rfl rfl) ?_
 refine RA rfl ?_
 refine RA rfl ?_
 refine RN ?_
 refine GS ?_
 refine TL ?_
 refine RM rfl ?_
 refine RM rfl ?_
 refine RS (ok_call (Group_ok n h1 h2 j hj) (A2 rfl rfl)) ?_
 refine RM rfl ?_
 refine RS (ok_extractV rfl rfl) ?_
 refine RS (ok_extractV rfl rfl) ?_
 refine RS (ok_extractV rfl rfl) ?_
 refine RA rfl ?_
 refine RN ?_
 refine A.sub (KC 3 rfl (KC 5 rfl (KC 6 rfl (KC 7 rfl (KC 16 rfl (KC 19 rfl (KC 27 rfl (KC 28 rfl (KC 1000001 rfl (KC 1000022 rfl (KC 1000025 rfl (KC 1000283 rfl KN)))))))))))) ?_
 refine GS ?_
 refine TL ?_
 refine RM rfl ?_
 refine RM rfl ?_
 refine RM rfl ?_
 refine RS (ok_call (Data_slot n h1 h2 j hj (s : Int) (by omega)) (A3 rfl rfl rfl)) ?_
 refine RM rfl ?_
 refine RS (ok_extractV rfl rfl) ?_
 refine RS (ok_extractV rfl rfl) ?_
 refine RA rfl ?_
 refine RA rfl ?_
 refine RN ?_
 refine A.seq ?_
 refine GS ?_
 refine TL ?_
 refine RM rfl ?_
 refine RBS rfl rfl rfl (.bool true) (by first | rfl | (simp; done) | (simp; omega) | (simp [*]; done) | (simp [*]; omega)) ?_
 refine RM rfl ?_
 refine RS (ok_neBoolS Try.underlying4 rfl rfl) ?_; refine RZ (.bool false) (by first | rfl | (simp; done) | (simp; omega) | (simp [*]; done) | (simp [*]; omega)) ?_
 refine RM rfl ?_
 refine RQ (ok_move rfl) ?_
 refine RQ (ok_bin rfl rfl rfl) ?_; refine RZ (.bool true) (by first | rfl | (simp; done) | (simp; omega) | (simp [*]; done) | (simp [*]; omega)) ?_
 refine RQ (ok_move rfl) ?_
 refine RQ (ok_neBoolS Try.underlying4 rfl rfl) ?_; refine RZ (.bool false) (by first | rfl | (simp; done) | (simp; omega) | (simp [*]; done) | (simp [*]; omega)) ?_
 refine RP rfl rfl ?_
 refine RM rfl ?_
 refine RQ (ok_move rfl) ?_
 refine RQ (ok_bin rfl rfl rfl) ?_; refine RZ (.bool false) (by first | rfl | (simp; done) | (simp; omega) | (simp [*]; done) | (simp [*]; omega)) ?_
 refine RQ (ok_move rfl) ?_
 refine RQ (ok_move rfl) ?_
 refine RQ (ok_move rfl) ?_
 refine RQ (ok_bin rfl rfl rfl) ?_; refine RZ (.bool false) (by first | rfl | (simp; done) | (simp; omega) | (simp [*]; done) | (simp [*]; omega)) ?_
 refine RQ (ok_move rfl) ?_
 refine RQ (ok_move rfl) ?_
 refine RQ (ok_bin rfl rfl rfl) ?_; refine RZ (.bool false) (by first | rfl | (simp; done) | (simp; omega) | (simp [*]; done) | (simp [*]; omega)) ?_
 refine RQ (ok_pick rfl rfl) ?_
 refine RQ (ok_pick rfl rfl) ?_
 refine RQ (ok_neBoolS Try.underlying4 rfl rfl) ?_; refine RZ (.bool false) (by first | rfl | (simp; done) | (simp; omega) | (simp [*]; done) | (simp [*]; omega)) ?_
 refine RP rfl rfl ?_
 refine RM rfl ?_
 refine RQ (ok_move rfl) ?_
 refine RQ (ok_bin rfl rfl rfl) ?_; refine RZ (.bool false) (by first | rfl | (simp; done) | (simp; omega) | (simp [*]; done) | (simp [*]; omega)) ?_
 refine RQ (ok_move rfl) ?_
 refine RK ?_
 refine RK ?_
 refine RK ?_
 refine RK ?_
 refine RunK.skippedU rfl rfl rfl rfl ?_
 refine RunK.skippedU rfl rfl rfl rfl ?_
 refine RK ?_
 refine RK ?_
 refine RunK.skippedU rfl rfl rfl rfl ?_
 refine RunK.skippedU rfl rfl rfl rfl ?_
 refine RunK.skippedU rfl rfl rfl rfl ?_
 refine RK ?_
 refine RQ (ok_pick rfl rfl) ?_
 refine RP rfl rfl ?_
 refine RM rfl ?_
 refine RQ (ok_move rfl) ?_
 refine RQ (ok_bin rfl rfl rfl) ?_; refine RZ (.bool true) (by first | rfl | (simp; done) | (simp; omega) | (simp [*]; done) | (simp [*]; omega)) ?_
 refine RQ (ok_move rfl) ?_
 refine RQ (ok_move rfl) ?_
 refine RQ (ok_bin rfl rfl rfl) ?_; refine RZ (.bool false) (by first | rfl | (simp; done) | (simp; omega) | (simp [*]; done) | (simp [*]; omega)) ?_
 refine RQ (ok_move rfl) ?_
 refine RQ (ok_move rfl) ?_
 refine RQ (ok_bin rfl rfl rfl) ?_; refine RZ (.bool false) (by first | rfl | (simp; done) | (simp; omega) | (simp [*]; done) | (simp [*]; omega)) ?_
 refine RQ (ok_pick rfl rfl) ?_
 refine RQ (ok_pick rfl rfl) ?_
 refine RP rfl rfl ?_
 refine RN ?_
 refine A.sub (KC 3 rfl (KC 5 rfl (KC 7 rfl (KC 353 rfl (KC 1000001 rfl (KC 1000022 rfl (KC 1000025 rfl (KC 1000283 rfl KN)))))))) ?_
 refine A.no rfl ?_
 refine A.skip ?_
 refine EN ?_
 refine GS ?_
 refine TN 6 ?_
 refine RM rfl ?_
 refine RM rfl ?_
 refine RS (ok_call (Of_data n h1 h2 j (by omega)) (A2 rfl rfl)) ?_
 refine RM rfl ?_
 refine RS (ok_extractV rfl rfl) ?_
 refine RS (ok_extractV rfl rfl) ?_
 refine RN ?_
 refine ⟨_, _, eff_alloc (n := 390) (d := 29) (k := 1000029) zero31 (by decide), fun b29 hb29 => ?_⟩
 have hBb29 := hb29.1
 refine TF 7 ?_
 refine RN ?_
 refine ⟨_, eff_storeA (n := 390) (s := 1000029) (size31.of (rfl)) rfl rfl (rfl) hBb29 rfl (rfl) (LV 3 rfl (LV 5 rfl (LV 7 rfl (LV 29 rfl (LV 359 rfl (LT 1000001 rfl (LT 1000022 rfl (LT 1000025 rfl (LT 1000283 rfl LN))))))))), ?_⟩
 refine TL ?_
 refine RA rfl ?_
 refine RN ?_
 refine GS ?_
 refine TL ?_
 refine RM rfl ?_
 refine RM rfl ?_
 refine RQ (ok_move rfl) ?_
 refine RQ (ok_bin rfl rfl rfl) ?_; refine RZ (.bool true) (by first | rfl | (simp; done) | (simp; omega) | (simp [*]; done) | (simp [*]; omega)) ?_
 refine RP rfl rfl ?_
 refine RM rfl ?_
 refine RQ (ok_move rfl) ?_
 refine RQ (ok_move rfl) ?_
 refine RQ (ok_call (rSectors_fn n h1 h2) (A1 rfl)) ?_
 refine RQ (ok_bin rfl rfl rfl) ?_; refine RZ (.bool true) (by first | rfl | (simp; done) | (simp; omega) | (simp [*]; done) | (simp [*]; omega)) ?_
 refine RP rfl rfl ?_
 refine RA rfl ?_
 refine RN ?_
 refine GS ?_
 refine TL ?_
 refine RM rfl ?_
 refine RBS rfl rfl rfl (.bool true) (by first | rfl | (simp; done) | (simp; omega) | (simp [*]; done) | (simp [*]; omega)) ?_
 refine RM rfl ?_
 refine RS (ok_eqBool Try.underlying4 rfl rfl) ?_; refine RZ (.bool true) (by first | rfl | (simp; done) | (simp; omega) | (simp [*]; done) | (simp [*]; omega)) ?_
 refine RM rfl ?_
 refine RQ (ok_move rfl) ?_
 refine RQ (ok_move rfl) ?_
 refine RK ?_
 refine RK ?_
 refine RK ?_
 refine RunK.skippedU rfl rfl rfl rfl ?_
 refine RunK.skippedU rfl rfl rfl rfl ?_
 refine RunK.skippedU rfl rfl rfl rfl ?_
 refine RK ?_
 refine RQ (ok_pick rfl rfl) ?_
 refine RP rfl rfl ?_
 refine RM rfl ?_
 refine RQ (ok_call (lives12_fn) Args.nil) ?_
 refine RP rfl rfl ?_
 refine RA rfl ?_
 refine RN ?_
 refine A.sub (KC 2 rfl (KC 1000001 rfl (KC 1000022 rfl (KC 1000025 rfl (KC 1000029 rfl (KC 1000283 rfl KN)))))) ?_
 refine A.ret ?_
 exact End.ret1 rfl rfl (by first | exact Le.refl _ | exact Le.old _ _)
theorem serr_y (n : Nat) (h1 : 1 ≤ n) (h2 : n ≤ 4096) (l : Nat) (hl : l ≤ hg n) (j s : Int) (hp : ¬ IsP n l j) : Fn Try.prog 7 [.v (aggV [.int .i64 (n), .int .i64 (l), .int .i64 (j), .int .i64 (s)])] (.v (.bool true)) := by
 by_cases hj0 : j < 0
 ·exact serr_yMa n h1 h2 l hl j hj0 s hp
 obtain ⟨j, rfl⟩ : ∃ a : Nat, j = (a : Int) := ⟨j.toNat, by omega⟩
 by_cases hjn : j < n
 ·by_cases hs0 : s = 0
  ·subst hs0; exact serr_yB0 n h1 h2 l hl j hjn hp
  by_cases hs1 : s = 1
  ·subst hs1; exact serr_yB1 n h1 h2 l hl j hjn hp
  exact serr_yBo n h1 h2 l hl j hjn s (by omega) hp
 by_cases hjs : j < bs n (hg n + 1)
 ·exact serr_yGa n h1 h2 l hl j (by omega) hjs s hp
 ·exact serr_yXa n h1 h2 l hl j (by omega) s hp

theorem serr_n (n : Nat) (h1 : 1 ≤ n) (h2 : n ≤ 4096) (l : Int) (hl : ¬ (0 ≤ l ∧ l ≤ hg n)) (j s : Int) (hp : ¬ IsP n l j) : Fn Try.prog 7 [.v (aggV [.int .i64 (n), .int .i64 (l), .int .i64 (j), .int .i64 (s)])] (.v (.bool true)) := by
 by_cases hj0 : j < 0
 ·exact serr_nMa n h1 h2 l hl j hj0 s hp
 obtain ⟨j, rfl⟩ : ∃ a : Nat, j = (a : Int) := ⟨j.toNat, by omega⟩
 by_cases hjn : j < n
 ·by_cases hs0 : s = 0
  ·subst hs0; exact serr_nB0 n h1 h2 l hl j hjn hp
  by_cases hs1 : s = 1
  ·subst hs1; exact serr_nB1 n h1 h2 l hl j hjn hp
  exact serr_nBo n h1 h2 l hl j hjn s (by omega) hp
 by_cases hjs : j < bs n (hg n + 1)
 ·exact serr_nGa n h1 h2 l hl j (by omega) hjs s hp
 ·exact serr_nXa n h1 h2 l hl j (by omega) s hp

theorem ShapesErrors_fn (m l j s : Int) : Fn Try.prog 7 [.v (aggV [.int .i64 (m), .int .i64 (l), .int .i64 (j), .int .i64 (s)])] (.v (.bool true)) := by
 by_cases hlo : m < 1
 ·exact serr_lo m l j s hlo
 by_cases hhi : 4096 < m
 ·exact serr_hi m l j s hhi
 obtain ⟨n, rfl⟩ : ∃ a : Nat, m = (a : Int) := ⟨m.toNat, by omega⟩
 have h1 : 1 ≤ n := by omega
 have h2 : n ≤ 4096 := by omega
 by_cases hp : IsP n l j
 ·obtain ⟨a, b, rfl, rfl, hl, hq⟩ := hp
  by_cases hs0 : s = 0
  ·subst hs0; exact serr_p0 n h1 h2 a hl b hq
  by_cases hs1 : s = 1
  ·subst hs1; exact serr_p1 n h1 h2 a hl b hq
  by_cases hsm : s < 0
  ·exact serr_pm n h1 h2 a hl b s hsm hq
  by_cases hsx : 3 < s
  ·exact serr_px n h1 h2 a hl b s hsx hq
  obtain ⟨s, rfl⟩ : ∃ a : Nat, s = (a : Int) := ⟨s.toNat, by omega⟩
  exact serr_p2 n h1 h2 a hl b s (by omega) (by omega) hq
 by_cases hl : 0 ≤ l ∧ l ≤ hg n
 ·obtain ⟨l, rfl⟩ : ∃ a : Nat, l = (a : Int) := ⟨l.toNat, by omega⟩
  exact serr_y n h1 h2 l (by omega) j s hp
 ·exact serr_n n h1 h2 l hl j s hp

end Go.Proofs.Ytdnblilocdddpaa
