/-
 The law ShapesErrors of caissonlaw12 by facts, one case after the other: numbers of blocks that are refused, and no place.
-/
import Derived.Test.YtdnblilocdddpaaShort
import Derived.Test.YtdnblilocdddpaaC12f
namespace Go.Proofs.Ytdnblilocdddpaa
open Go Go.RowKit
set_option linter.unusedVariables false
set_option maxRecDepth 20000

theorem zero58 : ZeroIs Try.prog 58 (List.replicate 4 (.int .i64 0)) := by unfold ZeroIs; kernel_rfl
theorem size58 : SizeIs Try.prog 58 4 := by unfold SizeIs; kernel_rfl

/-- The level of a node's sector. -/
noncomputable def lvl (n x : Nat) : Nat := open Classical in if h : ∃ l, l ≤ hg n ∧ bs n l ≤ x ∧ x < bs n (l + 1) then Classical.choose h else 0
/-- What Of answers for a sector that exists. -/
noncomputable def ofR (n x : Nat) : List Value := if x < 2 * n then secV true 0 ((x / 2 : Nat) : Int) ((x % 2 : Nat) : Int) else secV false (lvl n x : Int) (((x - bs n (lvl n x)) / 2 : Nat) : Int) (((x - bs n (lvl n x)) % 2 : Nat) : Int)
theorem ofR_len (n x : Nat) : (ofR n x).length = 4 := by unfold ofR; split <;> rfl
theorem ofR_one (n x : Nat) : (ofR n x).all (·.oneCell') = true := by unfold ofR; split <;> rfl

theorem Of_any (n : Nat) (h1 : 1 ≤ n) (h2 : n ≤ 4096) (x : Nat) (hx : x < bs n (hg n + 1)) : Fn Try.prog 12 [.v (nI (n)), .v (nI (x))] (.v (.tuple #[aggV (ofR n x), .int .i64 0])) := by
 unfold ofR
 by_cases hd : x < 2 * n
 ·rw [if_pos hd]; exact Of_data n h1 h2 x hd
 ·have h := sec_case hx
  rw [if_neg hd]
  obtain ⟨hl, ha, hb⟩ := Classical.choose_spec (p := fun l => l ≤ hg n ∧ bs n l ≤ x ∧ x < bs n (l + 1)) (h.resolve_left hd)
  have e : lvl n x = Classical.choose (h.resolve_left hd) := dif_pos _
  rw [e]
  exact Of_node n h1 h2 x _ hl ha hb

set_option maxHeartbeats 2000000 in
theorem serr_lo (m l j s : Int) (hm : m < 1)  : Fn Try.prog 7 [.v (aggV [.int .i64 (m), .int .i64 (l), .int .i64 (j), .int .i64 (s)])] (.v (.bool true)) := by
 skip
 refine Fn.of Try.func7 rfl (by kernel_rfl) Try.ntmps7 (by simp) (fun w => [(0, .v (aggV [.int .i64 (m), .int .i64 (l), .int .i64 (j), .int .i64 (s)]))]) (fun w => (Start.v rfl Start.nil)) fun w₀ => ?_
 refine GS ?_
 refine TN 0 ?_
 refine RN ?_
 refine ⟨_, _, eff_box (n := 390) (d := 1) (k := 1000001) rfl (by decide), fun b1 hb1 => ?_⟩
 have hBb1 := hb1.1
 refine TL ?_
 refine RA rfl ?_
 refine RN ?_
 refine GD ?_
 refine TL ?_
 refine RS (ok_index0 (0) Try.underlying58 info3 rfl rfl (rfl) (by decide)) ?_
 refine RS (ok_loadV (s := 1000001) (by decide) Try.underlying3 rfl rfl rfl (rfl)) ?_
 refine RS (ok_index0 (1) Try.underlying58 info3 rfl rfl (rfl) (by decide)) ?_
 refine RS (ok_loadV (s := 1000001) (by decide) Try.underlying3 rfl rfl rfl (rfl)) ?_
 refine RS (ok_index0 (2) Try.underlying58 info3 rfl rfl (rfl) (by decide)) ?_
 refine RS (ok_loadV (s := 1000001) (by decide) Try.underlying3 rfl rfl rfl (rfl)) ?_
 refine RS (ok_index0 (3) Try.underlying58 info3 rfl rfl (rfl) (by decide)) ?_
 refine RS (ok_loadV (s := 1000001) (by decide) Try.underlying3 rfl rfl rfl (rfl)) ?_
 refine RA rfl ?_
 refine RA rfl ?_
 refine RA rfl ?_
 refine RA rfl ?_
 refine RN ?_
 refine GS ?_
 refine TL ?_
 refine RM rfl ?_
 refine RBS rfl rfl rfl (.bool false) (by first | rfl | (simp; done) | (simp; omega) | (simp [*]; done) | (simp [*]; omega)) ?_
 refine RM rfl ?_
 refine RK ?_
 refine RK ?_
 refine RP rfl rfl ?_
 refine RA rfl ?_
 refine RN ?_
 refine GS ?_
 refine TL ?_
 refine RM rfl ?_
 refine RM rfl ?_
 refine RK ?_
 refine RK ?_
 refine RK ?_
 refine RK ?_
 refine RP rfl rfl ?_
 refine RA rfl ?_
 refine RN ?_
 refine A.sub (KC 3 rfl (KC 4 rfl (KC 5 rfl (KC 6 rfl (KC 7 rfl (KC 8 rfl (KC 1000001 rfl KN))))))) ?_
 refine GS ?_
 refine TL ?_
 refine RM rfl ?_
 refine RS (ok_call (Height_bad m (by omega)) (A1 rfl)) ?_
 refine RM rfl ?_
 refine RS (ok_extractV rfl rfl) ?_
 refine RS (ok_extractV rfl rfl) ?_
 refine RA rfl ?_
 refine RA rfl ?_
 refine RN ?_
 refine GS ?_
 refine TL ?_
 refine RM rfl ?_
 refine RS (ok_call (Total_bad m (by omega)) (A1 rfl)) ?_
 refine RM rfl ?_
 refine RS (ok_extractV rfl rfl) ?_
 refine RS (ok_extractV rfl rfl) ?_
 refine RA rfl ?_
 refine RA rfl ?_
 refine RN ?_
 refine GS ?_
 refine TL ?_
 refine RM rfl ?_
 refine RS (ok_call (Sectors_bad m (by omega)) (A1 rfl)) ?_
 refine RM rfl ?_
 refine RS (ok_extractV rfl rfl) ?_
 refine RS (ok_extractV rfl rfl) ?_
 refine RA rfl ?_
 refine RA rfl ?_
 refine RN ?_
 refine A.seq ?_
 refine GS ?_
 refine TL ?_
 refine RM rfl ?_
 refine RBS rfl rfl rfl (.bool false) (by first | rfl | (simp; done) | (simp; omega) | (simp [*]; done) | (simp [*]; omega)) ?_
 refine RM rfl ?_
 refine RS (ok_neBoolS Try.underlying4 rfl rfl) ?_; refine RZ (.bool false) (by first | rfl | (simp; done) | (simp; omega) | (simp [*]; done) | (simp [*]; omega)) ?_
 refine RM rfl ?_
 refine RQ (ok_move rfl) ?_
 refine RQ (ok_bin rfl rfl rfl) ?_; refine RZ (.bool false) (by first | rfl | (simp; done) | (simp; omega) | (simp [*]; done) | (simp [*]; omega)) ?_
 refine RQ (ok_move rfl) ?_
 refine RQ (ok_neBoolS Try.underlying4 rfl rfl) ?_; refine RZ (.bool false) (by first | rfl | (simp; done) | (simp; omega) | (simp [*]; done) | (simp [*]; omega)) ?_
 refine RP rfl rfl ?_
 refine RM rfl ?_
 refine RQ (ok_move rfl) ?_
 refine RQ (ok_bin rfl rfl rfl) ?_; refine RZ (.bool false) (by first | rfl | (simp; done) | (simp; omega) | (simp [*]; done) | (simp [*]; omega)) ?_
 refine RQ (ok_move rfl) ?_
 refine RQ (ok_neBoolS Try.underlying4 rfl rfl) ?_; refine RZ (.bool false) (by first | rfl | (simp; done) | (simp; omega) | (simp [*]; done) | (simp [*]; omega)) ?_
 refine RP rfl rfl ?_
 refine RM rfl ?_
 refine RQ (ok_move rfl) ?_
 refine RQ (ok_call (Check_bad m (by omega)) (A1 rfl)) ?_
 refine RQ (ok_move rfl) ?_
 refine RQ (ok_bin rfl rfl rfl) ?_; refine RZ (.bool false) (by first | rfl | (simp; done) | (simp; omega) | (simp [*]; done) | (simp [*]; omega)) ?_
 refine RP rfl rfl ?_
 refine RM rfl ?_
 refine RQ (ok_move rfl) ?_
 refine RQ (ok_move rfl) ?_
 refine RQ (ok_bin rfl rfl rfl) ?_; refine RZ (.bool false) (by first | rfl | (simp; done) | (simp; omega) | (simp [*]; done) | (simp [*]; omega)) ?_
 refine RP rfl rfl ?_
 refine RM rfl ?_
 refine RQ (ok_move rfl) ?_
 refine RQ (ok_move rfl) ?_
 refine RQ (ok_bin rfl rfl rfl) ?_; refine RZ (.bool false) (by first | rfl | (simp; done) | (simp; omega) | (simp [*]; done) | (simp [*]; omega)) ?_
 refine RP rfl rfl ?_
 refine RM rfl ?_
 refine RQ (ok_move rfl) ?_
 refine RQ (ok_not rfl) ?_
 refine RQ (ok_move rfl) ?_
 refine RQ (ok_move rfl) ?_
 refine RQ (ok_bin rfl rfl rfl) ?_; refine RZ (.bool false) (by first | rfl | (simp; done) | (simp; omega) | (simp [*]; done) | (simp [*]; omega)) ?_
 refine RQ (ok_pick rfl rfl) ?_
 refine RP rfl rfl ?_
 refine RN ?_
 refine A.sub (KC 3 rfl (KC 4 rfl (KC 5 rfl (KC 6 rfl (KC 7 rfl (KC 8 rfl (KC 106 rfl (KC 1000001 rfl KN)))))))) ?_
 refine A.no rfl ?_
 refine A.skip ?_
 refine EN ?_
 refine GS ?_
 refine TL ?_
 refine RM rfl ?_
 refine RM rfl ?_
 refine RS (ok_call (Count_bad m (by omega) l) (A2 rfl rfl)) ?_
 refine RM rfl ?_
 refine RS (ok_extractV rfl rfl) ?_
 refine RS (ok_extractV rfl rfl) ?_
 refine RA rfl ?_
 refine RA rfl ?_
 refine RN ?_
 refine A.seq ?_
 refine GS ?_
 refine TL ?_
 refine RM rfl ?_
 refine RBS rfl rfl rfl (.bool false) (by first | rfl | (simp; done) | (simp; omega) | (simp [*]; done) | (simp [*]; omega)) ?_
 refine RM rfl ?_
 refine RM rfl ?_
 refine RK ?_
 refine RK ?_
 refine RK ?_
 refine RP rfl rfl ?_
 refine RS (ok_neBoolS Try.underlying4 rfl rfl) ?_; refine RZ (.bool false) (by first | rfl | (simp; done) | (simp; omega) | (simp [*]; done) | (simp [*]; omega)) ?_
 refine RM rfl ?_
 refine RQ (ok_move rfl) ?_
 refine RQ (ok_bin rfl rfl rfl) ?_; refine RZ (.bool true) (by first | rfl | (simp; done) | (simp; omega) | (simp [*]; done) | (simp [*]; omega)) ?_
 refine RQ (ok_move rfl) ?_
 refine RQ (ok_move rfl) ?_
 refine RQ (ok_bin rfl rfl rfl) ?_; refine RZ (.bool false) (by first | rfl | (simp; done) | (simp; omega) | (simp [*]; done) | (simp [*]; omega)) ?_
 refine RQ (ok_move rfl) ?_
 refine RQ (ok_move rfl) ?_
 refine RQ (ok_bin rfl rfl rfl) ?_; refine RZ (.bool false) (by first | rfl | (simp; done) | (simp; omega) | (simp [*]; done) | (simp [*]; omega)) ?_
 refine RQ (ok_pick rfl rfl) ?_
 refine RQ (ok_pick rfl rfl) ?_
 refine RP rfl rfl ?_
 refine RN ?_
 refine A.sub (KC 3 rfl (KC 4 rfl (KC 5 rfl (KC 6 rfl (KC 7 rfl (KC 8 rfl (KC 133 rfl (KC 1000001 rfl KN)))))))) ?_
 refine A.no rfl ?_
 refine A.skip ?_
 refine EN ?_
 refine GS ?_
 refine TL ?_
 refine RM rfl ?_
 refine RM rfl ?_
 refine RM rfl ?_
 refine RS (ok_call (Parts_bad m (by omega) l j) (A3 rfl rfl rfl)) ?_
 refine RM rfl ?_
 refine RS (ok_extractV rfl rfl) ?_
 refine RS (ok_extractV rfl rfl) ?_
 refine RA rfl ?_
 refine RA rfl ?_
 refine RN ?_
 refine GS ?_
 refine TL ?_
 refine RM rfl ?_
 refine RM rfl ?_
 refine RM rfl ?_
 refine RS (ok_call (place_fn (l : Int) (j : Int)) (A2 rfl rfl)) ?_
 refine RS (ok_call (Blocks_bad m (by omega) l j) (A2 rfl rfl)) ?_
 refine RM rfl ?_
 refine RS (ok_extractV rfl rfl) ?_
 refine RS (ok_extractV rfl rfl) ?_
 refine RS (ok_extractV rfl rfl) ?_
 refine RA rfl ?_
 refine RA rfl ?_
 refine RA rfl ?_
 refine RN ?_
 refine GS ?_
 refine TL ?_
 refine RM rfl ?_
 refine RM rfl ?_
 refine RM rfl ?_
 refine RM rfl ?_
 refine RS (ok_call (Node_bad m (by omega) l j s) (Args.cons rfl (Le.refl _) (A3 rfl rfl rfl))) ?_
 refine RM rfl ?_
 refine RS (ok_extractV rfl rfl) ?_
 refine RS (ok_extractV rfl rfl) ?_
 refine RA rfl ?_
 refine RA rfl ?_
 refine RN ?_
 refine A.sub (KC 3 rfl (KC 4 rfl (KC 5 rfl (KC 6 rfl (KC 7 rfl (KC 8 rfl (KC 15 rfl (KC 16 rfl (KC 17 rfl (KC 18 rfl (KC 19 rfl (KC 20 rfl (KC 21 rfl (KC 1000001 rfl KN)))))))))))))) ?_
 refine A.seq ?_
 refine GS ?_
 refine TL ?_
 refine RM rfl ?_
 refine RBS rfl rfl rfl (.bool false) (by first | rfl | (simp; done) | (simp; omega) | (simp [*]; done) | (simp [*]; omega)) ?_
 refine RM rfl ?_
 refine RS (ok_neBoolS Try.underlying4 rfl rfl) ?_; refine RZ (.bool false) (by first | rfl | (simp; done) | (simp; omega) | (simp [*]; done) | (simp [*]; omega)) ?_
 refine RM rfl ?_
 refine RQ (ok_move rfl) ?_
 refine RQ (ok_bin rfl rfl rfl) ?_; refine RZ (.bool false) (by first | rfl | (simp; done) | (simp; omega) | (simp [*]; done) | (simp [*]; omega)) ?_
 refine RQ (ok_move rfl) ?_
 refine RQ (ok_neBoolS Try.underlying4 rfl rfl) ?_; refine RZ (.bool false) (by first | rfl | (simp; done) | (simp; omega) | (simp [*]; done) | (simp [*]; omega)) ?_
 refine RP rfl rfl ?_
 refine RM rfl ?_
 refine RQ (ok_move rfl) ?_
 refine RQ (ok_bin rfl rfl rfl) ?_; refine RZ (.bool false) (by first | rfl | (simp; done) | (simp; omega) | (simp [*]; done) | (simp [*]; omega)) ?_
 refine RQ (ok_move rfl) ?_
 refine RQ (ok_move rfl) ?_
 refine RK ?_
 refine RK ?_
 refine RK ?_
 refine RunK.skippedU rfl rfl rfl rfl ?_
 refine RunK.skippedU rfl rfl rfl rfl ?_
 refine RK ?_
 refine RQ (ok_pick rfl rfl) ?_
 refine RQ (ok_neBoolS Try.underlying4 rfl rfl) ?_; refine RZ (.bool false) (by first | rfl | (simp; done) | (simp; omega) | (simp [*]; done) | (simp [*]; omega)) ?_
 refine RP rfl rfl ?_
 refine RN ?_
 refine A.no rfl ?_
 refine A.skip ?_
 refine EN ?_
 refine A.seq ?_
 refine GS ?_
 refine TL ?_
 refine RM rfl ?_
 refine RBS rfl rfl rfl (.bool true) (by first | rfl | (simp; done) | (simp; omega) | (simp [*]; done) | (simp [*]; omega)) ?_
 refine RM rfl ?_
 refine RQ (ok_move rfl) ?_
 refine RQ (ok_bin rfl rfl rfl) ?_; refine RZ (.bool false) (by first | rfl | (simp; done) | (simp; omega) | (simp [*]; done) | (simp [*]; omega)) ?_
 refine RQ (ok_move rfl) ?_
 refine RQ (ok_move rfl) ?_
 refine RQ (ok_bin rfl rfl rfl) ?_; refine RZ (.bool false) (by first | rfl | (simp; done) | (simp; omega) | (simp [*]; done) | (simp [*]; omega)) ?_
 refine RQ (ok_pick rfl rfl) ?_
 refine RQ (ok_move rfl) ?_
 refine RQ (ok_move rfl) ?_
 refine RQ (ok_bin rfl rfl rfl) ?_; refine RZ (.bool false) (by first | rfl | (simp; done) | (simp; omega) | (simp [*]; done) | (simp [*]; omega)) ?_
 refine RQ (ok_pick rfl rfl) ?_
 refine RQ (ok_move rfl) ?_
 refine RQ (ok_move rfl) ?_
 refine RQ (ok_bin rfl rfl rfl) ?_; refine RZ (.bool false) (by first | rfl | (simp; done) | (simp; omega) | (simp [*]; done) | (simp [*]; omega)) ?_
 refine RQ (ok_pick rfl rfl) ?_
 refine RQ (ok_move rfl) ?_
 refine RQ (ok_move rfl) ?_
 refine RQ (ok_bin rfl rfl rfl) ?_; refine RZ (.bool false) (by first | rfl | (simp; done) | (simp; omega) | (simp [*]; done) | (simp [*]; omega)) ?_
 refine RQ (ok_pick rfl rfl) ?_
 refine RP rfl rfl ?_
 refine RM rfl ?_
 refine RQ (ok_move rfl) ?_
 refine RQ (ok_bin rfl rfl rfl) ?_; refine RZ (.bool true) (by first | rfl | (simp; done) | (simp; omega) | (simp [*]; done) | (simp [*]; omega)) ?_
 refine RQ (ok_move rfl) ?_
 refine RQ (ok_move rfl) ?_
 refine RQ (ok_bin rfl rfl rfl) ?_; refine RZ (.bool false) (by first | rfl | (simp; done) | (simp; omega) | (simp [*]; done) | (simp [*]; omega)) ?_
 refine RQ (ok_move rfl) ?_
 refine RQ (ok_move rfl) ?_
 refine RQ (ok_bin rfl rfl rfl) ?_; refine RZ (.bool false) (by first | rfl | (simp; done) | (simp; omega) | (simp [*]; done) | (simp [*]; omega)) ?_
 refine RQ (ok_pick rfl rfl) ?_
 refine RQ (ok_pick rfl rfl) ?_
 refine RP rfl rfl ?_
 refine RN ?_
 refine A.sub (KC 3 rfl (KC 4 rfl (KC 5 rfl (KC 6 rfl (KC 7 rfl (KC 8 rfl (KC 215 rfl (KC 1000001 rfl KN)))))))) ?_
 refine A.no rfl ?_
 refine A.skip ?_
 refine EN ?_
 refine GS ?_
 refine TN 9 ?_
 refine RM rfl ?_
 refine RM rfl ?_
 refine RM rfl ?_
 refine RS (ok_call (place_fn (l : Int) (j : Int)) (A2 rfl rfl)) ?_
 refine RS (ok_call (Parent_bad m (by omega) l j) (A2 rfl rfl)) ?_
 refine RM rfl ?_
 refine RS (ok_extractV rfl rfl) ?_
 refine RS (ok_extractV rfl rfl) ?_
 refine RS (ok_extractV rfl rfl) ?_
 refine RN ?_
 refine ⟨_, _, eff_alloc (n := 390) (d := 22) (k := 1000022) zero45 (by decide), fun b22 hb22 => ?_⟩
 have hBb22 := hb22.1
 refine TF 10 ?_
 refine RN ?_
 refine ⟨_, eff_storeA (n := 390) (s := 1000022) (size45.of (rfl)) rfl rfl (rfl) hBb22 rfl (rfl) (LV 3 rfl (LV 4 rfl (LV 5 rfl (LV 6 rfl (LV 7 rfl (LV 8 rfl (LV 22 rfl (LV 223 rfl (LV 224 rfl (LT 1000001 rfl LN)))))))))), ?_⟩
 refine TL ?_
 refine RA rfl ?_
 refine RA rfl ?_
 refine RN ?_
 refine GS ?_
 refine TN 9 ?_
 refine RM rfl ?_
 refine RM rfl ?_
 refine RM rfl ?_
 refine RS (ok_call (place_fn (l : Int) (j : Int)) (A2 rfl rfl)) ?_
 refine RM rfl ?_
 refine RS (ok_call (Child_bad m (by omega) l j s) (A3 rfl rfl rfl)) ?_
 refine RM rfl ?_
 refine RS (ok_extractV rfl rfl) ?_
 refine RS (ok_extractV rfl rfl) ?_
 refine RN ?_
 refine ⟨_, _, eff_alloc (n := 390) (d := 25) (k := 1000025) zero45 (by decide), fun b25 hb25 => ?_⟩
 have hBb25 := hb25.1
 have hlt_b22_b25 : b22 < b25 := hb25.2 1000022 _ _ _ rfl
 refine TF 10 ?_
 refine RN ?_
 refine ⟨_, eff_storeA (n := 390) (s := 1000025) (size45.of (rfl)) rfl rfl (rfl) hBb25 rfl (rfl) (LV 3 rfl (LV 5 rfl (LV 6 rfl (LV 7 rfl (LV 8 rfl (LV 22 rfl (LV 23 rfl (LV 24 rfl (LV 25 rfl (LV 233 rfl (LT 1000001 rfl (LB 1000022 rfl LN)))))))))))), ?_⟩
 refine TL ?_
 refine RA rfl ?_
 refine RN ?_
 refine A.sub (KC 3 rfl (KC 5 rfl (KC 6 rfl (KC 7 rfl (KC 8 rfl (KC 22 rfl (KC 23 rfl (KC 24 rfl (KC 25 rfl (KC 26 rfl (KC 1000001 rfl (KC 1000022 rfl (KC 1000025 rfl KN))))))))))))) ?_
 refine A.seq ?_
 refine GD ?_
 refine TL ?_
 refine RM rfl ?_
 refine RS (ok_not rfl) ?_
 refine RM rfl ?_
 refine RQ (ok_move rfl) ?_
 refine RQ (ok_bin rfl rfl rfl) ?_; refine RZ (.bool false) (by first | rfl | (simp; done) | (simp; omega) | (simp [*]; done) | (simp [*]; omega)) ?_
 refine RQ (ok_move rfl) ?_
 refine RQ (ok_loadA (s := 1000022) (by decide) Try.underlying45 rfl (size45.of (rfl)) rfl rfl) ?_
 refine RQ (ok_call (place_fn 0 0) (A2 rfl rfl)) ?_
 refine RQ (ok_neqT 3 true flatP (by decide) (by kernel_rfl) (by kernel_rfl) rfl rfl (kinP _ _) (kinP _ _) (iff_of_true rfl rfl)) ?_; refine RZ (.bool false) (by first | rfl | (simp; done) | (simp; omega) | (simp [*]; done) | (simp [*]; omega)) ?_
 refine RQ (ok_pick rfl rfl) ?_
 refine RQ (ok_move rfl) ?_
 refine RQ (ok_move rfl) ?_
 refine RQ (ok_bin rfl rfl rfl) ?_; refine RZ (.bool false) (by first | rfl | (simp; done) | (simp; omega) | (simp [*]; done) | (simp [*]; omega)) ?_
 refine RQ (ok_pick rfl rfl) ?_
 refine RP rfl rfl ?_
 refine RM rfl ?_
 refine RQ (ok_move rfl) ?_
 refine RQ (ok_not rfl) ?_
 refine RQ (ok_move rfl) ?_
 refine RK ?_
 refine RK ?_
 refine RQ (ok_pick rfl rfl) ?_
 refine RQ (ok_move rfl) ?_
 refine RK ?_
 refine RK ?_
 refine RQ (ok_pick rfl rfl) ?_
 refine RQ (ok_move rfl) ?_
 refine RQ (ok_move rfl) ?_
 refine RQ (ok_bin rfl rfl rfl) ?_; refine RZ (.bool false) (by first | rfl | (simp; done) | (simp; omega) | (simp [*]; done) | (simp [*]; omega)) ?_
 refine RQ (ok_move rfl) ?_
 refine RQ (ok_loadA (s := 1000025) (by decide) Try.underlying45 rfl (size45.of (rfl)) rfl rfl) ?_
 refine RQ (ok_call (place_fn 0 0) (A2 rfl rfl)) ?_
 refine RQ (ok_neqT 3 true flatP (by decide) (by kernel_rfl) (by kernel_rfl) rfl rfl (kinP _ _) (kinP _ _) (iff_of_true rfl rfl)) ?_; refine RZ (.bool false) (by first | rfl | (simp; done) | (simp; omega) | (simp [*]; done) | (simp [*]; omega)) ?_
 refine RQ (ok_pick rfl rfl) ?_
 refine RQ (ok_pick rfl rfl) ?_
 refine RP rfl rfl ?_
 refine RN ?_
 refine A.sub (KC 3 rfl (KC 5 rfl (KC 6 rfl (KC 7 rfl (KC 269 rfl (KC 1000001 rfl (KC 1000022 rfl (KC 1000025 rfl KN)))))))) ?_
 refine A.no rfl ?_
 refine A.skip ?_
 refine EN ?_
 refine GS ?_
 refine TL ?_
 refine RM rfl ?_
 refine RM rfl ?_
 refine RK ?_
 refine RK ?_
 refine RP rfl rfl ?_
 refine RM rfl ?_
 refine RK ?_
 refine RK ?_
 refine RK ?_
 refine RP rfl rfl ?_
 refine RA rfl ?_
 refine RN ?_
 refine GS ?_
 refine TL ?_
 refine RM rfl ?_
 refine RM rfl ?_
 refine RS (ok_call (Path_bad m (by omega) j) (A2 rfl rfl)) ?_
 refine RM rfl ?_
 refine RS (ok_extractV rfl rfl) ?_
 refine RS (ok_extractV rfl rfl) ?_
 refine RA rfl ?_
 refine RA rfl ?_
 refine RN ?_
 refine GS ?_
 refine TL ?_
 refine RM rfl ?_
 refine RM rfl ?_
 refine RS (ok_call (Group_bad m (by omega) j) (A2 rfl rfl)) ?_
 refine RM rfl ?_
 refine RS (ok_extractV rfl rfl) ?_
 refine RS (ok_extractV rfl rfl) ?_
 refine RS (ok_extractV rfl rfl) ?_
 refine RA rfl ?_
 refine RN ?_
 refine A.sub (KC 3 rfl (KC 5 rfl (KC 6 rfl (KC 7 rfl (KC 16 rfl (KC 19 rfl (KC 27 rfl (KC 28 rfl (KC 1000001 rfl (KC 1000022 rfl (KC 1000025 rfl KN))))))))))) ?_
 refine GS ?_
 refine TL ?_
 refine RM rfl ?_
 refine RM rfl ?_
 refine RM rfl ?_
 refine RS (ok_call (Data_bad m (by omega) j s) (A3 rfl rfl rfl)) ?_
 refine RM rfl ?_
 refine RS (ok_extractV rfl rfl) ?_
 refine RS (ok_extractV rfl rfl) ?_
 refine RA rfl ?_
 refine RA rfl ?_
 refine RN ?_
 refine A.seq ?_
 refine GS ?_
 refine TL ?_
 refine RM rfl ?_
 refine RBS rfl rfl rfl (.bool false) (by first | rfl | (simp; done) | (simp; omega) | (simp [*]; done) | (simp [*]; omega)) ?_
 refine RM rfl ?_
 refine RS (ok_neBoolS Try.underlying4 rfl rfl) ?_; refine RZ (.bool false) (by first | rfl | (simp; done) | (simp; omega) | (simp [*]; done) | (simp [*]; omega)) ?_
 refine RM rfl ?_
 refine RQ (ok_move rfl) ?_
 refine RQ (ok_bin rfl rfl rfl) ?_; refine RZ (.bool false) (by first | rfl | (simp; done) | (simp; omega) | (simp [*]; done) | (simp [*]; omega)) ?_
 refine RQ (ok_move rfl) ?_
 refine RQ (ok_neBoolS Try.underlying4 rfl rfl) ?_; refine RZ (.bool false) (by first | rfl | (simp; done) | (simp; omega) | (simp [*]; done) | (simp [*]; omega)) ?_
 refine RP rfl rfl ?_
 refine RM rfl ?_
 refine RQ (ok_move rfl) ?_
 refine RQ (ok_bin rfl rfl rfl) ?_; refine RZ (.bool false) (by first | rfl | (simp; done) | (simp; omega) | (simp [*]; done) | (simp [*]; omega)) ?_
 refine RQ (ok_move rfl) ?_
 refine RQ (ok_move rfl) ?_
 refine RK ?_
 refine RK ?_
 refine RK ?_
 refine RunK.skippedU rfl rfl rfl rfl ?_
 refine RunK.skippedU rfl rfl rfl rfl ?_
 refine RK ?_
 refine RQ (ok_pick rfl rfl) ?_
 refine RQ (ok_neBoolS Try.underlying4 rfl rfl) ?_; refine RZ (.bool false) (by first | rfl | (simp; done) | (simp; omega) | (simp [*]; done) | (simp [*]; omega)) ?_
 refine RP rfl rfl ?_
 refine RM rfl ?_
 refine RQ (ok_move rfl) ?_
 refine RQ (ok_bin rfl rfl rfl) ?_; refine RZ (.bool true) (by first | rfl | (simp; done) | (simp; omega) | (simp [*]; done) | (simp [*]; omega)) ?_
 refine RQ (ok_move rfl) ?_
 refine RQ (ok_move rfl) ?_
 refine RQ (ok_lenV Try.underlying54 rfl) ?_
 refine RQ (ok_bin rfl rfl rfl) ?_; refine RZ (.bool false) (by first | rfl | (simp; done) | (simp; omega) | (simp [*]; done) | (simp [*]; omega)) ?_
 refine RQ (ok_move rfl) ?_
 refine RQ (ok_move rfl) ?_
 refine RQ (ok_bin rfl rfl rfl) ?_; refine RZ (.bool false) (by first | rfl | (simp; done) | (simp; omega) | (simp [*]; done) | (simp [*]; omega)) ?_
 refine RQ (ok_pick rfl rfl) ?_
 refine RQ (ok_move rfl) ?_
 refine RQ (ok_move rfl) ?_
 refine RQ (ok_move rfl) ?_
 refine RQ (ok_bin rfl rfl rfl) ?_; refine RZ (.bool false) (by first | rfl | (simp; done) | (simp; omega) | (simp [*]; done) | (simp [*]; omega)) ?_
 refine RQ (ok_pick rfl rfl) ?_
 refine RQ (ok_pick rfl rfl) ?_
 refine RP rfl rfl ?_
 refine RM rfl ?_
 refine RQ (ok_move rfl) ?_
 refine RQ (ok_bin rfl rfl rfl) ?_; refine RZ (.bool true) (by first | rfl | (simp; done) | (simp; omega) | (simp [*]; done) | (simp [*]; omega)) ?_
 refine RQ (ok_move rfl) ?_
 refine RQ (ok_move rfl) ?_
 refine RQ (ok_bin rfl rfl rfl) ?_; refine RZ (.bool false) (by first | rfl | (simp; done) | (simp; omega) | (simp [*]; done) | (simp [*]; omega)) ?_
 refine RQ (ok_move rfl) ?_
 refine RQ (ok_move rfl) ?_
 refine RQ (ok_bin rfl rfl rfl) ?_; refine RZ (.bool false) (by first | rfl | (simp; done) | (simp; omega) | (simp [*]; done) | (simp [*]; omega)) ?_
 refine RQ (ok_pick rfl rfl) ?_
 refine RQ (ok_pick rfl rfl) ?_
 refine RP rfl rfl ?_
 refine RN ?_
 refine A.sub (KC 3 rfl (KC 5 rfl (KC 7 rfl (KC 353 rfl (KC 1000001 rfl (KC 1000022 rfl (KC 1000025 rfl KN))))))) ?_
 refine A.no rfl ?_
 refine A.skip ?_
 refine EN ?_
 refine GS ?_
 refine TN 6 ?_
 refine RM rfl ?_
 refine RM rfl ?_
 refine RS (ok_call (Of_bad m (by omega) j) (A2 rfl rfl)) ?_
 refine RM rfl ?_
 refine RS (ok_extractV rfl rfl) ?_
 refine RS (ok_extractV rfl rfl) ?_
 refine RN ?_
 refine ⟨_, _, eff_alloc (n := 390) (d := 29) (k := 1000029) zero31 (by decide), fun b29 hb29 => ?_⟩
 have hBb29 := hb29.1
 refine TF 7 ?_
 refine RN ?_
 refine ⟨_, eff_storeA (n := 390) (s := 1000029) (size31.of (rfl)) rfl rfl (rfl) hBb29 rfl (rfl) (LV 3 rfl (LV 5 rfl (LV 7 rfl (LV 29 rfl (LV 359 rfl (LT 1000001 rfl (LT 1000022 rfl (LT 1000025 rfl LN)))))))), ?_⟩
 refine TL ?_
 refine RA rfl ?_
 refine RN ?_
 refine GS ?_
 refine TL ?_
 refine RM rfl ?_
 refine RM rfl ?_
 refine RK ?_
 refine RK ?_
 refine RP rfl rfl ?_
 refine RM rfl ?_
 refine RK ?_
 refine RK ?_
 refine RK ?_
 refine RK ?_
 refine RP rfl rfl ?_
 refine RA rfl ?_
 refine RN ?_
 refine GS ?_
 refine TL ?_
 refine RM rfl ?_
 refine RBS rfl rfl rfl (.bool false) (by first | rfl | (simp; done) | (simp; omega) | (simp [*]; done) | (simp [*]; omega)) ?_
 refine RM rfl ?_
 refine RS (ok_eqBool Try.underlying4 rfl rfl) ?_; refine RZ (.bool true) (by first | rfl | (simp; done) | (simp; omega) | (simp [*]; done) | (simp [*]; omega)) ?_
 refine RM rfl ?_
 refine RQ (ok_move rfl) ?_
 refine RQ (ok_move rfl) ?_
 refine RQ (ok_move rfl) ?_
 refine RQ (ok_bin rfl rfl rfl) ?_; refine RZ (.bool true) (by first | rfl | (simp; done) | (simp; omega) | (simp [*]; done) | (simp [*]; omega)) ?_
 refine RQ (ok_move rfl) ?_
 refine RQ (ok_loadA (s := 1000029) (by decide) Try.underlying31 rfl (size31.of (rfl)) rfl rfl) ?_
 refine RQ (ok_lit [] ([.bool false] ++ [.int .i64 0] ++ [.int .i64 0] ++ [.int .i64 0]) (fun _ _ => rfl) (by kernel_rfl)) ?_
 refine RQ (ok_eqlS (d' := false) (l' := 0) (j' := 0) (s' := 0) (by kernel_rfl) (by kernel_rfl) (tb := 4) (ti := 3) (by kernel_rfl) Try.underlying4 Try.underlying3 (by kernel_rfl) rfl rfl) ?_; refine RZ (.bool true) (congrArg Value.bool (by decide)) ?_
 refine RQ (ok_pick rfl rfl) ?_
 refine RQ (ok_pick rfl rfl) ?_
 refine RP rfl rfl ?_
 refine RM rfl ?_
 refine RQ (ok_call (lives12_fn) Args.nil) ?_
 refine RP rfl rfl ?_
 refine RA rfl ?_
 refine RN ?_
 refine A.sub (KC 2 rfl (KC 1000001 rfl (KC 1000022 rfl (KC 1000025 rfl (KC 1000029 rfl KN))))) ?_
 refine A.ret ?_
 exact End.ret1 rfl rfl (by first | exact Le.refl _ | exact Le.old _ _)
set_option maxHeartbeats 2000000 in
theorem serr_hi (m l j s : Int) (hm : 4096 < m)  : Fn Try.prog 7 [.v (aggV [.int .i64 (m), .int .i64 (l), .int .i64 (j), .int .i64 (s)])] (.v (.bool true)) := by
 skip
 refine Fn.of Try.func7 rfl (by kernel_rfl) Try.ntmps7 (by simp) (fun w => [(0, .v (aggV [.int .i64 (m), .int .i64 (l), .int .i64 (j), .int .i64 (s)]))]) (fun w => (Start.v rfl Start.nil)) fun w₀ => ?_
 refine GS ?_
 refine TN 0 ?_
 refine RN ?_
 refine ⟨_, _, eff_box (n := 390) (d := 1) (k := 1000001) rfl (by decide), fun b1 hb1 => ?_⟩
 have hBb1 := hb1.1
 refine TL ?_
 refine RA rfl ?_
 refine RN ?_
 refine GD ?_
 refine TL ?_
 refine RS (ok_index0 (0) Try.underlying58 info3 rfl rfl (rfl) (by decide)) ?_
 refine RS (ok_loadV (s := 1000001) (by decide) Try.underlying3 rfl rfl rfl (rfl)) ?_
 refine RS (ok_index0 (1) Try.underlying58 info3 rfl rfl (rfl) (by decide)) ?_
 refine RS (ok_loadV (s := 1000001) (by decide) Try.underlying3 rfl rfl rfl (rfl)) ?_
 refine RS (ok_index0 (2) Try.underlying58 info3 rfl rfl (rfl) (by decide)) ?_
 refine RS (ok_loadV (s := 1000001) (by decide) Try.underlying3 rfl rfl rfl (rfl)) ?_
 refine RS (ok_index0 (3) Try.underlying58 info3 rfl rfl (rfl) (by decide)) ?_
 refine RS (ok_loadV (s := 1000001) (by decide) Try.underlying3 rfl rfl rfl (rfl)) ?_
 refine RA rfl ?_
 refine RA rfl ?_
 refine RA rfl ?_
 refine RA rfl ?_
 refine RN ?_
 refine GS ?_
 refine TL ?_
 refine RM rfl ?_
 refine RBS rfl rfl rfl (.bool true) (by first | rfl | (simp; done) | (simp; omega) | (simp [*]; done) | (simp [*]; omega)) ?_
 refine RM rfl ?_
 refine RQ (ok_move rfl) ?_
 refine RQ (ok_bin rfl rfl rfl) ?_; refine RZ (.bool false) (by first | rfl | (simp; done) | (simp; omega) | (simp [*]; done) | (simp [*]; omega)) ?_
 refine RP rfl rfl ?_
 refine RA rfl ?_
 refine RN ?_
 refine GS ?_
 refine TL ?_
 refine RM rfl ?_
 refine RM rfl ?_
 refine RK ?_
 refine RK ?_
 refine RK ?_
 refine RK ?_
 refine RP rfl rfl ?_
 refine RA rfl ?_
 refine RN ?_
 refine A.sub (KC 3 rfl (KC 4 rfl (KC 5 rfl (KC 6 rfl (KC 7 rfl (KC 8 rfl (KC 1000001 rfl KN))))))) ?_
 refine GS ?_
 refine TL ?_
 refine RM rfl ?_
 refine RS (ok_call (Height_bad m (by omega)) (A1 rfl)) ?_
 refine RM rfl ?_
 refine RS (ok_extractV rfl rfl) ?_
 refine RS (ok_extractV rfl rfl) ?_
 refine RA rfl ?_
 refine RA rfl ?_
 refine RN ?_
 refine GS ?_
 refine TL ?_
 refine RM rfl ?_
 refine RS (ok_call (Total_bad m (by omega)) (A1 rfl)) ?_
 refine RM rfl ?_
 refine RS (ok_extractV rfl rfl) ?_
 refine RS (ok_extractV rfl rfl) ?_
 refine RA rfl ?_
 refine RA rfl ?_
 refine RN ?_
 refine GS ?_
 refine TL ?_
 refine RM rfl ?_
 refine RS (ok_call (Sectors_bad m (by omega)) (A1 rfl)) ?_
 refine RM rfl ?_
 refine RS (ok_extractV rfl rfl) ?_
 refine RS (ok_extractV rfl rfl) ?_
 refine RA rfl ?_
 refine RA rfl ?_
 refine RN ?_
 refine A.seq ?_
 refine GS ?_
 refine TL ?_
 refine RM rfl ?_
 refine RBS rfl rfl rfl (.bool false) (by first | rfl | (simp; done) | (simp; omega) | (simp [*]; done) | (simp [*]; omega)) ?_
 refine RM rfl ?_
 refine RS (ok_neBoolS Try.underlying4 rfl rfl) ?_; refine RZ (.bool false) (by first | rfl | (simp; done) | (simp; omega) | (simp [*]; done) | (simp [*]; omega)) ?_
 refine RM rfl ?_
 refine RQ (ok_move rfl) ?_
 refine RQ (ok_bin rfl rfl rfl) ?_; refine RZ (.bool false) (by first | rfl | (simp; done) | (simp; omega) | (simp [*]; done) | (simp [*]; omega)) ?_
 refine RQ (ok_move rfl) ?_
 refine RQ (ok_neBoolS Try.underlying4 rfl rfl) ?_; refine RZ (.bool false) (by first | rfl | (simp; done) | (simp; omega) | (simp [*]; done) | (simp [*]; omega)) ?_
 refine RP rfl rfl ?_
 refine RM rfl ?_
 refine RQ (ok_move rfl) ?_
 refine RQ (ok_bin rfl rfl rfl) ?_; refine RZ (.bool false) (by first | rfl | (simp; done) | (simp; omega) | (simp [*]; done) | (simp [*]; omega)) ?_
 refine RQ (ok_move rfl) ?_
 refine RQ (ok_neBoolS Try.underlying4 rfl rfl) ?_; refine RZ (.bool false) (by first | rfl | (simp; done) | (simp; omega) | (simp [*]; done) | (simp [*]; omega)) ?_
 refine RP rfl rfl ?_
 refine RM rfl ?_
 refine RQ (ok_move rfl) ?_
 refine RQ (ok_call (Check_bad m (by omega)) (A1 rfl)) ?_
 refine RQ (ok_move rfl) ?_
 refine RQ (ok_bin rfl rfl rfl) ?_; refine RZ (.bool false) (by first | rfl | (simp; done) | (simp; omega) | (simp [*]; done) | (simp [*]; omega)) ?_
 refine RP rfl rfl ?_
 refine RM rfl ?_
 refine RQ (ok_move rfl) ?_
 refine RQ (ok_move rfl) ?_
 refine RQ (ok_bin rfl rfl rfl) ?_; refine RZ (.bool false) (by first | rfl | (simp; done) | (simp; omega) | (simp [*]; done) | (simp [*]; omega)) ?_
 refine RP rfl rfl ?_
 refine RM rfl ?_
 refine RQ (ok_move rfl) ?_
 refine RQ (ok_move rfl) ?_
 refine RQ (ok_bin rfl rfl rfl) ?_; refine RZ (.bool false) (by first | rfl | (simp; done) | (simp; omega) | (simp [*]; done) | (simp [*]; omega)) ?_
 refine RP rfl rfl ?_
 refine RM rfl ?_
 refine RQ (ok_move rfl) ?_
 refine RQ (ok_not rfl) ?_
 refine RQ (ok_move rfl) ?_
 refine RQ (ok_move rfl) ?_
 refine RQ (ok_bin rfl rfl rfl) ?_; refine RZ (.bool false) (by first | rfl | (simp; done) | (simp; omega) | (simp [*]; done) | (simp [*]; omega)) ?_
 refine RQ (ok_pick rfl rfl) ?_
 refine RP rfl rfl ?_
 refine RN ?_
 refine A.sub (KC 3 rfl (KC 4 rfl (KC 5 rfl (KC 6 rfl (KC 7 rfl (KC 8 rfl (KC 106 rfl (KC 1000001 rfl KN)))))))) ?_
 refine A.no rfl ?_
 refine A.skip ?_
 refine EN ?_
 refine GS ?_
 refine TL ?_
 refine RM rfl ?_
 refine RM rfl ?_
 refine RS (ok_call (Count_bad m (by omega) l) (A2 rfl rfl)) ?_
 refine RM rfl ?_
 refine RS (ok_extractV rfl rfl) ?_
 refine RS (ok_extractV rfl rfl) ?_
 refine RA rfl ?_
 refine RA rfl ?_
 refine RN ?_
 refine A.seq ?_
 refine GS ?_
 refine TL ?_
 refine RM rfl ?_
 refine RBS rfl rfl rfl (.bool false) (by first | rfl | (simp; done) | (simp; omega) | (simp [*]; done) | (simp [*]; omega)) ?_
 refine RM rfl ?_
 refine RM rfl ?_
 refine RK ?_
 refine RK ?_
 refine RK ?_
 refine RP rfl rfl ?_
 refine RS (ok_neBoolS Try.underlying4 rfl rfl) ?_; refine RZ (.bool false) (by first | rfl | (simp; done) | (simp; omega) | (simp [*]; done) | (simp [*]; omega)) ?_
 refine RM rfl ?_
 refine RQ (ok_move rfl) ?_
 refine RQ (ok_bin rfl rfl rfl) ?_; refine RZ (.bool true) (by first | rfl | (simp; done) | (simp; omega) | (simp [*]; done) | (simp [*]; omega)) ?_
 refine RQ (ok_move rfl) ?_
 refine RQ (ok_move rfl) ?_
 refine RQ (ok_bin rfl rfl rfl) ?_; refine RZ (.bool false) (by first | rfl | (simp; done) | (simp; omega) | (simp [*]; done) | (simp [*]; omega)) ?_
 refine RQ (ok_move rfl) ?_
 refine RQ (ok_move rfl) ?_
 refine RQ (ok_bin rfl rfl rfl) ?_; refine RZ (.bool false) (by first | rfl | (simp; done) | (simp; omega) | (simp [*]; done) | (simp [*]; omega)) ?_
 refine RQ (ok_pick rfl rfl) ?_
 refine RQ (ok_pick rfl rfl) ?_
 refine RP rfl rfl ?_
 refine RN ?_
 refine A.sub (KC 3 rfl (KC 4 rfl (KC 5 rfl (KC 6 rfl (KC 7 rfl (KC 8 rfl (KC 133 rfl (KC 1000001 rfl KN)))))))) ?_
 refine A.no rfl ?_
 refine A.skip ?_
 refine EN ?_
 refine GS ?_
 refine TL ?_
 refine RM rfl ?_
 refine RM rfl ?_
 refine RM rfl ?_
 refine RS (ok_call (Parts_bad m (by omega) l j) (A3 rfl rfl rfl)) ?_
 refine RM rfl ?_
 refine RS (ok_extractV rfl rfl) ?_
 refine RS (ok_extractV rfl rfl) ?_
 refine RA rfl ?_
 refine RA rfl ?_
 refine RN ?_
 refine GS ?_
 refine TL ?_
 refine RM rfl ?_
 refine RM rfl ?_
 refine RM rfl ?_
 refine RS (ok_call (place_fn (l : Int) (j : Int)) (A2 rfl rfl)) ?_
 refine RS (ok_call (Blocks_bad m (by omega) l j) (A2 rfl rfl)) ?_
 refine RM rfl ?_
 refine RS (ok_extractV rfl rfl) ?_
 refine RS (ok_extractV rfl rfl) ?_
 refine RS (ok_extractV rfl rfl) ?_
 refine RA rfl ?_
 refine RA rfl ?_
 refine RA rfl ?_
 refine RN ?_
 refine GS ?_
 refine TL ?_
 refine RM rfl ?_
 refine RM rfl ?_
 refine RM rfl ?_
 refine RM rfl ?_
 refine RS (ok_call (Node_bad m (by omega) l j s) (Args.cons rfl (Le.refl _) (A3 rfl rfl rfl))) ?_
 refine RM rfl ?_
 refine RS (ok_extractV rfl rfl) ?_
 refine RS (ok_extractV rfl rfl) ?_
 refine RA rfl ?_
 refine RA rfl ?_
 refine RN ?_
 refine A.sub (KC 3 rfl (KC 4 rfl (KC 5 rfl (KC 6 rfl (KC 7 rfl (KC 8 rfl (KC 15 rfl (KC 16 rfl (KC 17 rfl (KC 18 rfl (KC 19 rfl (KC 20 rfl (KC 21 rfl (KC 1000001 rfl KN)))))))))))))) ?_
 refine A.seq ?_
 refine GS ?_
 refine TL ?_
 refine RM rfl ?_
 refine RBS rfl rfl rfl (.bool false) (by first | rfl | (simp; done) | (simp; omega) | (simp [*]; done) | (simp [*]; omega)) ?_
 refine RM rfl ?_
 refine RS (ok_neBoolS Try.underlying4 rfl rfl) ?_; refine RZ (.bool false) (by first | rfl | (simp; done) | (simp; omega) | (simp [*]; done) | (simp [*]; omega)) ?_
 refine RM rfl ?_
 refine RQ (ok_move rfl) ?_
 refine RQ (ok_bin rfl rfl rfl) ?_; refine RZ (.bool false) (by first | rfl | (simp; done) | (simp; omega) | (simp [*]; done) | (simp [*]; omega)) ?_
 refine RQ (ok_move rfl) ?_
 refine RQ (ok_neBoolS Try.underlying4 rfl rfl) ?_; refine RZ (.bool false) (by first | rfl | (simp; done) | (simp; omega) | (simp [*]; done) | (simp [*]; omega)) ?_
 refine RP rfl rfl ?_
 refine RM rfl ?_
 refine RQ (ok_move rfl) ?_
 refine RQ (ok_bin rfl rfl rfl) ?_; refine RZ (.bool false) (by first | rfl | (simp; done) | (simp; omega) | (simp [*]; done) | (simp [*]; omega)) ?_
 refine RQ (ok_move rfl) ?_
 refine RQ (ok_move rfl) ?_
 refine RK ?_
 refine RK ?_
 refine RK ?_
 refine RunK.skippedU rfl rfl rfl rfl ?_
 refine RunK.skippedU rfl rfl rfl rfl ?_
 refine RK ?_
 refine RQ (ok_pick rfl rfl) ?_
 refine RQ (ok_neBoolS Try.underlying4 rfl rfl) ?_; refine RZ (.bool false) (by first | rfl | (simp; done) | (simp; omega) | (simp [*]; done) | (simp [*]; omega)) ?_
 refine RP rfl rfl ?_
 refine RN ?_
 refine A.no rfl ?_
 refine A.skip ?_
 refine EN ?_
 refine A.seq ?_
 refine GS ?_
 refine TL ?_
 refine RM rfl ?_
 refine RBS rfl rfl rfl (.bool true) (by first | rfl | (simp; done) | (simp; omega) | (simp [*]; done) | (simp [*]; omega)) ?_
 refine RM rfl ?_
 refine RQ (ok_move rfl) ?_
 refine RQ (ok_bin rfl rfl rfl) ?_; refine RZ (.bool false) (by first | rfl | (simp; done) | (simp; omega) | (simp [*]; done) | (simp [*]; omega)) ?_
 refine RQ (ok_move rfl) ?_
 refine RQ (ok_move rfl) ?_
 refine RQ (ok_bin rfl rfl rfl) ?_; refine RZ (.bool false) (by first | rfl | (simp; done) | (simp; omega) | (simp [*]; done) | (simp [*]; omega)) ?_
 refine RQ (ok_pick rfl rfl) ?_
 refine RQ (ok_move rfl) ?_
 refine RQ (ok_move rfl) ?_
 refine RQ (ok_bin rfl rfl rfl) ?_; refine RZ (.bool false) (by first | rfl | (simp; done) | (simp; omega) | (simp [*]; done) | (simp [*]; omega)) ?_
 refine RQ (ok_pick rfl rfl) ?_
 refine RQ (ok_move rfl) ?_
 refine RQ (ok_move rfl) ?_
 refine RQ (ok_bin rfl rfl rfl) ?_; refine RZ (.bool false) (by first | rfl | (simp; done) | (simp; omega) | (simp [*]; done) | (simp [*]; omega)) ?_
 refine RQ (ok_pick rfl rfl) ?_
 refine RQ (ok_move rfl) ?_
 refine RQ (ok_move rfl) ?_
 refine RQ (ok_bin rfl rfl rfl) ?_; refine RZ (.bool false) (by first | rfl | (simp; done) | (simp; omega) | (simp [*]; done) | (simp [*]; omega)) ?_
 refine RQ (ok_pick rfl rfl) ?_
 refine RP rfl rfl ?_
 refine RM rfl ?_
 refine RQ (ok_move rfl) ?_
 refine RQ (ok_bin rfl rfl rfl) ?_; refine RZ (.bool true) (by first | rfl | (simp; done) | (simp; omega) | (simp [*]; done) | (simp [*]; omega)) ?_
 refine RQ (ok_move rfl) ?_
 refine RQ (ok_move rfl) ?_
 refine RQ (ok_bin rfl rfl rfl) ?_; refine RZ (.bool false) (by first | rfl | (simp; done) | (simp; omega) | (simp [*]; done) | (simp [*]; omega)) ?_
 refine RQ (ok_move rfl) ?_
 refine RQ (ok_move rfl) ?_
 refine RQ (ok_bin rfl rfl rfl) ?_; refine RZ (.bool false) (by first | rfl | (simp; done) | (simp; omega) | (simp [*]; done) | (simp [*]; omega)) ?_
 refine RQ (ok_pick rfl rfl) ?_
 refine RQ (ok_pick rfl rfl) ?_
 refine RP rfl rfl ?_
 refine RN ?_
 refine A.sub (KC 3 rfl (KC 4 rfl (KC 5 rfl (KC 6 rfl (KC 7 rfl (KC 8 rfl (KC 215 rfl (KC 1000001 rfl KN)))))))) ?_
 refine A.no rfl ?_
 refine A.skip ?_
 refine EN ?_
 refine GS ?_
 refine TN 9 ?_
 refine RM rfl ?_
 refine RM rfl ?_
 refine RM rfl ?_
 refine RS (ok_call (place_fn (l : Int) (j : Int)) (A2 rfl rfl)) ?_
 refine RS (ok_call (Parent_bad m (by omega) l j) (A2 rfl rfl)) ?_
 refine RM rfl ?_
 refine RS (ok_extractV rfl rfl) ?_
 refine RS (ok_extractV rfl rfl) ?_
 refine RS (ok_extractV rfl rfl) ?_
 refine RN ?_
 refine ⟨_, _, eff_alloc (n := 390) (d := 22) (k := 1000022) zero45 (by decide), fun b22 hb22 => ?_⟩
 have hBb22 := hb22.1
 refine TF 10 ?_
 refine RN ?_
 refine ⟨_, eff_storeA (n := 390) (s := 1000022) (size45.of (rfl)) rfl rfl (rfl) hBb22 rfl (rfl) (LV 3 rfl (LV 4 rfl (LV 5 rfl (LV 6 rfl (LV 7 rfl (LV 8 rfl (LV 22 rfl (LV 223 rfl (LV 224 rfl (LT 1000001 rfl LN)))))))))), ?_⟩
 refine TL ?_
 refine RA rfl ?_
 refine RA rfl ?_
 refine RN ?_
 refine GS ?_
 refine TN 9 ?_
 refine RM rfl ?_
 refine RM rfl ?_
 refine RM rfl ?_
 refine RS (ok_call (place_fn (l : Int) (j : Int)) (A2 rfl rfl)) ?_
 refine RM rfl ?_
 refine RS (ok_call (Child_bad m (by omega) l j s) (A3 rfl rfl rfl)) ?_
 refine RM rfl ?_
 refine RS (ok_extractV rfl rfl) ?_
 refine RS (ok_extractV rfl rfl) ?_
 refine RN ?_
 refine ⟨_, _, eff_alloc (n := 390) (d := 25) (k := 1000025) zero45 (by decide), fun b25 hb25 => ?_⟩
 have hBb25 := hb25.1
 have hlt_b22_b25 : b22 < b25 := hb25.2 1000022 _ _ _ rfl
 refine TF 10 ?_
 refine RN ?_
 refine ⟨_, eff_storeA (n := 390) (s := 1000025) (size45.of (rfl)) rfl rfl (rfl) hBb25 rfl (rfl) (LV 3 rfl (LV 5 rfl (LV 6 rfl (LV 7 rfl (LV 8 rfl (LV 22 rfl (LV 23 rfl (LV 24 rfl (LV 25 rfl (LV 233 rfl (LT 1000001 rfl (LB 1000022 rfl LN)))))))))))), ?_⟩
 refine TL ?_
 refine RA rfl ?_
 refine RN ?_
 refine A.sub (KC 3 rfl (KC 5 rfl (KC 6 rfl (KC 7 rfl (KC 8 rfl (KC 22 rfl (KC 23 rfl (KC 24 rfl (KC 25 rfl (KC 26 rfl (KC 1000001 rfl (KC 1000022 rfl (KC 1000025 rfl KN))))))))))))) ?_
 refine A.seq ?_
 refine GD ?_
 refine TL ?_
 refine RM rfl ?_
 refine RS (ok_not rfl) ?_
 refine RM rfl ?_
 refine RQ (ok_move rfl) ?_
 refine RQ (ok_bin rfl rfl rfl) ?_; refine RZ (.bool false) (by first | rfl | (simp; done) | (simp; omega) | (simp [*]; done) | (simp [*]; omega)) ?_
 refine RQ (ok_move rfl) ?_
 refine RQ (ok_loadA (s := 1000022) (by decide) Try.underlying45 rfl (size45.of (rfl)) rfl rfl) ?_
 refine RQ (ok_call (place_fn 0 0) (A2 rfl rfl)) ?_
 refine RQ (ok_neqT 3 true flatP (by decide) (by kernel_rfl) (by kernel_rfl) rfl rfl (kinP _ _) (kinP _ _) (iff_of_true rfl rfl)) ?_; refine RZ (.bool false) (by first | rfl | (simp; done) | (simp; omega) | (simp [*]; done) | (simp [*]; omega)) ?_
 refine RQ (ok_pick rfl rfl) ?_
 refine RQ (ok_move rfl) ?_
 refine RQ (ok_move rfl) ?_
 refine RQ (ok_bin rfl rfl rfl) ?_; refine RZ (.bool false) (by first | rfl | (simp; done) | (simp; omega) | (simp [*]; done) | (simp [*]; omega)) ?_
 refine RQ (ok_pick rfl rfl) ?_
 refine RP rfl rfl ?_
 refine RM rfl ?_
 refine RQ (ok_move rfl) ?_
 refine RQ (ok_not rfl) ?_
 refine RQ (ok_move rfl) ?_
 refine RK ?_
 refine RK ?_
 refine RQ (ok_pick rfl rfl) ?_
 refine RQ (ok_move rfl) ?_
 refine RK ?_
 refine RK ?_
 refine RQ (ok_pick rfl rfl) ?_
 refine RQ (ok_move rfl) ?_
 refine RQ (ok_move rfl) ?_
 refine RQ (ok_bin rfl rfl rfl) ?_; refine RZ (.bool false) (by first | rfl | (simp; done) | (simp; omega) | (simp [*]; done) | (simp [*]; omega)) ?_
 refine RQ (ok_move rfl) ?_
 refine RQ (ok_loadA (s := 1000025) (by decide) Try.underlying45 rfl (size45.of (rfl)) rfl rfl) ?_
 refine RQ (ok_call (place_fn 0 0) (A2 rfl rfl)) ?_
 refine RQ (ok_neqT 3 true flatP (by decide) (by kernel_rfl) (by kernel_rfl) rfl rfl (kinP _ _) (kinP _ _) (iff_of_true rfl rfl)) ?_; refine RZ (.bool false) (by first | rfl | (simp; done) | (simp; omega) | (simp [*]; done) | (simp [*]; omega)) ?_
 refine RQ (ok_pick rfl rfl) ?_
 refine RQ (ok_pick rfl rfl) ?_
 refine RP rfl rfl ?_
 refine RN ?_
 refine A.sub (KC 3 rfl (KC 5 rfl (KC 6 rfl (KC 7 rfl (KC 269 rfl (KC 1000001 rfl (KC 1000022 rfl (KC 1000025 rfl KN)))))))) ?_
 refine A.no rfl ?_
 refine A.skip ?_
 refine EN ?_
 refine GS ?_
 refine TL ?_
 refine RM rfl ?_
 refine RM rfl ?_
 refine RK ?_
 refine RK ?_
 refine RP rfl rfl ?_
 refine RM rfl ?_
 refine RK ?_
 refine RK ?_
 refine RK ?_
 refine RP rfl rfl ?_
 refine RA rfl ?_
 refine RN ?_
 refine GS ?_
 refine TL ?_
 refine RM rfl ?_
 refine RM rfl ?_
 refine RS (ok_call (Path_bad m (by omega) j) (A2 rfl rfl)) ?_
 refine RM rfl ?_
 refine RS (ok_extractV rfl rfl) ?_
 refine RS (ok_extractV rfl rfl) ?_
 refine RA rfl ?_
 refine RA rfl ?_
 refine RN ?_
 refine GS ?_
 refine TL ?_
 refine RM rfl ?_
 refine RM rfl ?_
 refine RS (ok_call (Group_bad m (by omega) j) (A2 rfl rfl)) ?_
 refine RM rfl ?_
 refine RS (ok_extractV rfl rfl) ?_
 refine RS (ok_extractV rfl rfl) ?_
 refine RS (ok_extractV rfl rfl) ?_
 refine RA rfl ?_
 refine RN ?_
 refine A.sub (KC 3 rfl (KC 5 rfl (KC 6 rfl (KC 7 rfl (KC 16 rfl (KC 19 rfl (KC 27 rfl (KC 28 rfl (KC 1000001 rfl (KC 1000022 rfl (KC 1000025 rfl KN))))))))))) ?_
 refine GS ?_
 refine TL ?_
 refine RM rfl ?_
 refine RM rfl ?_
 refine RM rfl ?_
 refine RS (ok_call (Data_bad m (by omega) j s) (A3 rfl rfl rfl)) ?_
 refine RM rfl ?_
 refine RS (ok_extractV rfl rfl) ?_
 refine RS (ok_extractV rfl rfl) ?_
 refine RA rfl ?_
 refine RA rfl ?_
 refine RN ?_
 refine A.seq ?_
 refine GS ?_
 refine TL ?_
 refine RM rfl ?_
 refine RBS rfl rfl rfl (.bool false) (by first | rfl | (simp; done) | (simp; omega) | (simp [*]; done) | (simp [*]; omega)) ?_
 refine RM rfl ?_
 refine RS (ok_neBoolS Try.underlying4 rfl rfl) ?_; refine RZ (.bool false) (by first | rfl | (simp; done) | (simp; omega) | (simp [*]; done) | (simp [*]; omega)) ?_
 refine RM rfl ?_
 refine RQ (ok_move rfl) ?_
 refine RQ (ok_bin rfl rfl rfl) ?_; refine RZ (.bool false) (by first | rfl | (simp; done) | (simp; omega) | (simp [*]; done) | (simp [*]; omega)) ?_
 refine RQ (ok_move rfl) ?_
 refine RQ (ok_neBoolS Try.underlying4 rfl rfl) ?_; refine RZ (.bool false) (by first | rfl | (simp; done) | (simp; omega) | (simp [*]; done) | (simp [*]; omega)) ?_
 refine RP rfl rfl ?_
 refine RM rfl ?_
 refine RQ (ok_move rfl) ?_
 refine RQ (ok_bin rfl rfl rfl) ?_; refine RZ (.bool false) (by first | rfl | (simp; done) | (simp; omega) | (simp [*]; done) | (simp [*]; omega)) ?_
 refine RQ (ok_move rfl) ?_
 refine RQ (ok_move rfl) ?_
 refine RK ?_
 refine RK ?_
 refine RK ?_
 refine RunK.skippedU rfl rfl rfl rfl ?_
 refine RunK.skippedU rfl rfl rfl rfl ?_
 refine RK ?_
 refine RQ (ok_pick rfl rfl) ?_
 refine RQ (ok_neBoolS Try.underlying4 rfl rfl) ?_; refine RZ (.bool false) (by first | rfl | (simp; done) | (simp; omega) | (simp [*]; done) | (simp [*]; omega)) ?_
 refine RP rfl rfl ?_
 refine RM rfl ?_
 refine RQ (ok_move rfl) ?_
 refine RQ (ok_bin rfl rfl rfl) ?_; refine RZ (.bool true) (by first | rfl | (simp; done) | (simp; omega) | (simp [*]; done) | (simp [*]; omega)) ?_
 refine RQ (ok_move rfl) ?_
 refine RQ (ok_move rfl) ?_
 refine RQ (ok_lenV Try.underlying54 rfl) ?_
 refine RQ (ok_bin rfl rfl rfl) ?_; refine RZ (.bool false) (by first | rfl | (simp; done) | (simp; omega) | (simp [*]; done) | (simp [*]; omega)) ?_
 refine RQ (ok_move rfl) ?_
 refine RQ (ok_move rfl) ?_
 refine RQ (ok_bin rfl rfl rfl) ?_; refine RZ (.bool false) (by first | rfl | (simp; done) | (simp; omega) | (simp [*]; done) | (simp [*]; omega)) ?_
 refine RQ (ok_pick rfl rfl) ?_
 refine RQ (ok_move rfl) ?_
 refine RQ (ok_move rfl) ?_
 refine RQ (ok_move rfl) ?_
 refine RQ (ok_bin rfl rfl rfl) ?_; refine RZ (.bool false) (by first | rfl | (simp; done) | (simp; omega) | (simp [*]; done) | (simp [*]; omega)) ?_
 refine RQ (ok_pick rfl rfl) ?_
 refine RQ (ok_pick rfl rfl) ?_
 refine RP rfl rfl ?_
 refine RM rfl ?_
 refine RQ (ok_move rfl) ?_
 refine RQ (ok_bin rfl rfl rfl) ?_; refine RZ (.bool true) (by first | rfl | (simp; done) | (simp; omega) | (simp [*]; done) | (simp [*]; omega)) ?_
 refine RQ (ok_move rfl) ?_
 refine RQ (ok_move rfl) ?_
 refine RQ (ok_bin rfl rfl rfl) ?_; refine RZ (.bool false) (by first | rfl | (simp; done) | (simp; omega) | (simp [*]; done) | (simp [*]; omega)) ?_
 refine RQ (ok_move rfl) ?_
 refine RQ (ok_move rfl) ?_
 refine RQ (ok_bin rfl rfl rfl) ?_; refine RZ (.bool false) (by first | rfl | (simp; done) | (simp; omega) | (simp [*]; done) | (simp [*]; omega)) ?_
 refine RQ (ok_pick rfl rfl) ?_
 refine RQ (ok_pick rfl rfl) ?_
 refine RP rfl rfl ?_
 refine RN ?_
 refine A.sub (KC 3 rfl (KC 5 rfl (KC 7 rfl (KC 353 rfl (KC 1000001 rfl (KC 1000022 rfl (KC 1000025 rfl KN))))))) ?_
 refine A.no rfl ?_
 refine A.skip ?_
 refine EN ?_
 refine GS ?_
 refine TN 6 ?_
 refine RM rfl ?_
 refine RM rfl ?_
 refine RS (ok_call (Of_bad m (by omega) j) (A2 rfl rfl)) ?_
 refine RM rfl ?_
 refine RS (ok_extractV rfl rfl) ?_
 refine RS (ok_extractV rfl rfl) ?_
 refine RN ?_
 refine ⟨_, _, eff_alloc (n := 390) (d := 29) (k := 1000029) zero31 (by decide), fun b29 hb29 => ?_⟩
 have hBb29 := hb29.1
 refine TF 7 ?_
 refine RN ?_
 refine ⟨_, eff_storeA (n := 390) (s := 1000029) (size31.of (rfl)) rfl rfl (rfl) hBb29 rfl (rfl) (LV 3 rfl (LV 5 rfl (LV 7 rfl (LV 29 rfl (LV 359 rfl (LT 1000001 rfl (LT 1000022 rfl (LT 1000025 rfl LN)))))))), ?_⟩
 refine TL ?_
 refine RA rfl ?_
 refine RN ?_
 refine GS ?_
 refine TL ?_
 refine RM rfl ?_
 refine RM rfl ?_
 refine RK ?_
 refine RK ?_
 refine RP rfl rfl ?_
 refine RM rfl ?_
 refine RK ?_
 refine RK ?_
 refine RK ?_
 refine RK ?_
 refine RP rfl rfl ?_
 refine RA rfl ?_
 refine RN ?_
 refine GS ?_
 refine TL ?_
 refine RM rfl ?_
 refine RBS rfl rfl rfl (.bool false) (by first | rfl | (simp; done) | (simp; omega) | (simp [*]; done) | (simp [*]; omega)) ?_
 refine RM rfl ?_
 refine RS (ok_eqBool Try.underlying4 rfl rfl) ?_; refine RZ (.bool true) (by first | rfl | (simp; done) | (simp; omega) | (simp [*]; done) | (simp [*]; omega)) ?_
 refine RM rfl ?_
 refine RQ (ok_move rfl) ?_
 refine RQ (ok_move rfl) ?_
 refine RQ (ok_move rfl) ?_
 refine RQ (ok_bin rfl rfl rfl) ?_; refine RZ (.bool true) (by first | rfl | (simp; done) | (simp; omega) | (simp [*]; done) | (simp [*]; omega)) ?_
 refine RQ (ok_move rfl) ?_
 refine RQ (ok_loadA (s := 1000029) (by decide) Try.underlying31 rfl (size31.of (rfl)) rfl rfl) ?_
 refine RQ (ok_lit [] ([.bool false] ++ [.int .i64 0] ++ [.int .i64 0] ++ [.int .i64 0]) (fun _ _ => rfl) (by kernel_rfl)) ?_
 refine RQ (ok_eqlS (d' := false) (l' := 0) (j' := 0) (s' := 0) (by kernel_rfl) (by kernel_rfl) (tb := 4) (ti := 3) (by kernel_rfl) Try.underlying4 Try.underlying3 (by kernel_rfl) rfl rfl) ?_; refine RZ (.bool true) (congrArg Value.bool (by decide)) ?_
 refine RQ (ok_pick rfl rfl) ?_
 refine RQ (ok_pick rfl rfl) ?_
 refine RP rfl rfl ?_
 refine RM rfl ?_
 refine RQ (ok_call (lives12_fn) Args.nil) ?_
 refine RP rfl rfl ?_
 refine RA rfl ?_
 refine RN ?_
 refine A.sub (KC 2 rfl (KC 1000001 rfl (KC 1000022 rfl (KC 1000025 rfl (KC 1000029 rfl KN))))) ?_
 refine A.ret ?_
 exact End.ret1 rfl rfl (by first | exact Le.refl _ | exact Le.old _ _)
set_option maxHeartbeats 2000000 in
theorem serr_yB0 (n : Nat) (h1 : 1 ≤ n) (h2 : n ≤ 4096) (l : Nat) (hl : l ≤ hg n) (j : Nat) (hj : j < n) (hp : ¬ IsP n l j) : Fn Try.prog 7 [.v (aggV [nI (n), nI (l), nI (j), .int .i64 (0)])] (.v (.bool true)) := by
 have hh := hg_le n
 have hz := bs_zero n
 have hb0 := bs_mono (n := n) (Nat.zero_le (hg n + 1))
 refine Fn.of Try.func7 rfl (by kernel_rfl) Try.ntmps7 (by simp) (fun w => [(0, .v (aggV [nI (n), nI (l), nI (j), .int .i64 (0)]))]) (fun w => (Start.v rfl Start.nil)) fun w₀ => ?_
 refine GS ?_
 refine TN 0 ?_
 refine RN ?_
 refine ⟨_, _, eff_box (n := 390) (d := 1) (k := 1000001) rfl (by decide), fun b1 hb1 => ?_⟩
 have hBb1 := hb1.1
 refine TL ?_
 refine RA rfl ?_
 refine RN ?_
 refine GD ?_
 refine TL ?_
 refine RS (ok_index0 (0) Try.underlying58 info3 rfl rfl (rfl) (by decide)) ?_
 refine RS (ok_loadV (s := 1000001) (by decide) Try.underlying3 rfl rfl rfl (rfl)) ?_
 refine RS (ok_index0 (1) Try.underlying58 info3 rfl rfl (rfl) (by decide)) ?_
 refine RS (ok_loadV (s := 1000001) (by decide) Try.underlying3 rfl rfl rfl (rfl)) ?_
 refine RS (ok_index0 (2) Try.underlying58 info3 rfl rfl (rfl) (by decide)) ?_
 refine RS (ok_loadV (s := 1000001) (by decide) Try.underlying3 rfl rfl rfl (rfl)) ?_
 refine RS (ok_index0 (3) Try.underlying58 info3 rfl rfl (rfl) (by decide)) ?_
 refine RS (ok_loadV (s := 1000001) (by decide) Try.underlying3 rfl rfl rfl (rfl)) ?_
 refine RA rfl ?_
 refine RA rfl ?_
 refine RA rfl ?_
 refine RA rfl ?_
 refine RN ?_
 refine GS ?_
 refine TL ?_
 refine RM rfl ?_
 refine RBS rfl rfl rfl (.bool true) (by first | rfl | (simp; done) | (simp; omega) | (simp [*]; done) | (simp [*]; omega)) ?_
 refine RM rfl ?_
 refine RQ (ok_move rfl) ?_
 refine RQ (ok_bin rfl rfl rfl) ?_; refine RZ (.bool true) (by first | rfl | (simp; done) | (simp; omega) | (simp [*]; done) | (simp [*]; omega)) ?_
 refine RP rfl rfl ?_
 refine RA rfl ?_
 refine RN ?_
 refine GS ?_
 refine TL ?_
 refine RM rfl ?_
 refine RM rfl ?_
 refine RQ (ok_move rfl) ?_
 refine RQ (ok_move rfl) ?_
 refine RQ (ok_move rfl) ?_
 refine RQ (ok_call (rIs_n n h1 h2 l j hp) (A3 rfl rfl rfl)) ?_
 refine RP rfl rfl ?_
 refine RA rfl ?_
 refine RN ?_
 refine A.sub (KC 3 rfl (KC 4 rfl (KC 5 rfl (KC 6 rfl (KC 7 rfl (KC 8 rfl (KC 1000001 rfl KN))))))) ?_
 refine GS ?_
 refine TL ?_
 refine RM rfl ?_
 refine RS (ok_call (Height_ok n h1 h2) (A1 rfl)) ?_
 refine RM rfl ?_
 refine RS (ok_extractV rfl rfl) ?_
 refine RS (ok_extractV rfl rfl) ?_
 refine RA rfl ?_
 refine RA rfl ?_
 refine RN ?_
 refine GS ?_
 refine TL ?_
 refine RM rfl ?_
 refine RS (ok_call (Total_ok n h1 h2) (A1 rfl)) ?_
 refine RM rfl ?_
 refine RS (ok_extractV rfl rfl) ?_
 refine RS (ok_extractV rfl rfl) ?_
 refine RA rfl ?_
 refine RA rfl ?_
 refine RN ?_
 refine GS ?_
 refine TL ?_
 refine RM rfl ?_
 refine RS (ok_call (Sectors_ok n h1 h2) (A1 rfl)) ?_
 refine RM rfl ?_
 refine RS (ok_extractV rfl rfl) ?_
 refine RS (ok_extractV rfl rfl) ?_
 refine RA rfl ?_
 refine RA rfl ?_
 refine RN ?_
 refine A.seq ?_
 refine GS ?_
 refine TL ?_
 refine RM rfl ?_
 refine RBS rfl rfl rfl (.bool true) (by first | rfl | (simp; done) | (simp; omega) | (simp [*]; done) | (simp [*]; omega)) ?_
 refine RM rfl ?_
 refine RS (ok_neBoolS Try.underlying4 rfl rfl) ?_; refine RZ (.bool false) (by first | rfl | (simp; done) | (simp; omega) | (simp [*]; done) | (simp [*]; omega)) ?_
 refine RM rfl ?_
 refine RQ (ok_move rfl) ?_
 refine RQ (ok_bin rfl rfl rfl) ?_; refine RZ (.bool true) (by first | rfl | (simp; done) | (simp; omega) | (simp [*]; done) | (simp [*]; omega)) ?_
 refine RQ (ok_move rfl) ?_
 refine RQ (ok_neBoolS Try.underlying4 rfl rfl) ?_; refine RZ (.bool false) (by first | rfl | (simp; done) | (simp; omega) | (simp [*]; done) | (simp [*]; omega)) ?_
 refine RP rfl rfl ?_
 refine RM rfl ?_
 refine RQ (ok_move rfl) ?_
 refine RQ (ok_bin rfl rfl rfl) ?_; refine RZ (.bool true) (by first | rfl | (simp; done) | (simp; omega) | (simp [*]; done) | (simp [*]; omega)) ?_
 refine RQ (ok_move rfl) ?_
 refine RQ (ok_neBoolS Try.underlying4 rfl rfl) ?_; refine RZ (.bool false) (by first | rfl | (simp; done) | (simp; omega) | (simp [*]; done) | (simp [*]; omega)) ?_
 refine RP rfl rfl ?_
 refine RM rfl ?_
 refine RQ (ok_move rfl) ?_
 refine RQ (ok_call (Check_ok n h1 h2) (A1 rfl)) ?_
 refine RQ (ok_move rfl) ?_
 refine RQ (ok_bin rfl rfl rfl) ?_; refine RZ (.bool false) (by first | rfl | (simp; done) | (simp; omega) | (simp [*]; done) | (simp [*]; omega)) ?_
 refine RP rfl rfl ?_
 refine RM rfl ?_
 refine RQ (ok_move rfl) ?_
 refine RQ (ok_move rfl) ?_
 refine RQ (ok_bin rfl rfl rfl) ?_; refine RZ (.bool false) (by first | rfl | (simp; done) | (simp; omega) | (simp [*]; done) | (simp [*]; omega)) ?_
 refine RP rfl rfl ?_
 refine RM rfl ?_
 refine RQ (ok_move rfl) ?_
 refine RQ (ok_move rfl) ?_
 refine RQ (ok_bin rfl rfl rfl) ?_; refine RZ (.bool false) (by first | rfl | (simp; done) | (simp; omega) | (simp [*]; done) | (simp [*]; omega)) ?_
 refine RP rfl rfl ?_
 refine RM rfl ?_
 refine RQ (ok_move rfl) ?_
 refine RQ (ok_not rfl) ?_
 refine RQ (ok_move rfl) ?_
 refine RK ?_
 refine RK ?_
 refine RQ (ok_pick rfl rfl) ?_
 refine RP rfl rfl ?_
 refine RN ?_
 refine A.sub (KC 3 rfl (KC 4 rfl (KC 5 rfl (KC 6 rfl (KC 7 rfl (KC 8 rfl (KC 106 rfl (KC 1000001 rfl KN)))))))) ?_
 refine A.no rfl ?_
 refine A.skip ?_
 refine EN ?_
 refine GS ?_
 refine TL ?_
 refine RM rfl ?_
 refine RM rfl ?_
 refine RS (ok_call (Count_ok n h1 h2 l hl) (A2 rfl rfl)) ?_
 refine RM rfl ?_
 refine RS (ok_extractV rfl rfl) ?_
 refine RS (ok_extractV rfl rfl) ?_
 refine RA rfl ?_
 refine RA rfl ?_
 refine RN ?_
 refine A.seq ?_
 refine GS ?_
 refine TL ?_
 refine RM rfl ?_
 refine RBS rfl rfl rfl (.bool true) (by first | rfl | (simp; done) | (simp; omega) | (simp [*]; done) | (simp [*]; omega)) ?_
 refine RM rfl ?_
 refine RM rfl ?_
 refine RQ (ok_move rfl) ?_
 refine RQ (ok_move rfl) ?_
 refine RQ (ok_call (rIs_y n h1 h2 l 0 hl (un_pos h1 _)) (A3 rfl rfl rfl)) ?_
 refine RP rfl rfl ?_
 refine RS (ok_neBoolS Try.underlying4 rfl rfl) ?_; refine RZ (.bool false) (by first | rfl | (simp; done) | (simp; omega) | (simp [*]; done) | (simp [*]; omega)) ?_
 refine RM rfl ?_
 refine RQ (ok_move rfl) ?_
 refine RQ (ok_bin rfl rfl rfl) ?_; refine RZ (.bool false) (by first | rfl | (simp; done) | (simp; omega) | (simp [*]; done) | (simp [*]; omega)) ?_
 refine RQ (ok_move rfl) ?_
 refine RK ?_
 refine RK ?_
 refine RK ?_
 refine RunK.skippedU rfl rfl rfl rfl ?_
 refine RunK.skippedU rfl rfl rfl rfl ?_
 refine RK ?_
 refine RQ (ok_pick rfl rfl) ?_
 refine RP rfl rfl ?_
 refine RN ?_
 refine A.sub (KC 3 rfl (KC 4 rfl (KC 5 rfl (KC 6 rfl (KC 7 rfl (KC 8 rfl (KC 133 rfl (KC 1000001 rfl KN)))))))) ?_
 refine A.no rfl ?_
 refine A.skip ?_
 refine EN ?_
 refine GS ?_
 refine TL ?_
 refine RM rfl ?_
 refine RM rfl ?_
 refine RM rfl ?_
 refine RS (ok_call (Parts_no n h1 h2 l j hp) (A3 rfl rfl rfl)) ?_
 refine RM rfl ?_
 refine RS (ok_extractV rfl rfl) ?_
 refine RS (ok_extractV rfl rfl) ?_
 refine RA rfl ?_
 refine RA rfl ?_
 refine RN ?_
 refine GS ?_
 refine TL ?_
 refine RM rfl ?_
 refine RM rfl ?_
 refine RM rfl ?_
 refine RS (ok_call (place_fn (l : Int) (j : Int)) (A2 rfl rfl)) ?_
 refine RS (ok_call (Blocks_no n h1 h2 l j hp) (A2 rfl rfl)) ?_
 refine RM rfl ?_
 refine RS (ok_extractV rfl rfl) ?_
 refine RS (ok_extractV rfl rfl) ?_
 refine RS (ok_extractV rfl rfl) ?_
 refine RA rfl ?_
 refine RA rfl ?_
 refine RA rfl ?_
 refine RN ?_
 refine GS ?_
 refine TL ?_
 refine RM rfl ?_
 refine RM rfl ?_
 refine RM rfl ?_
 refine RM rfl ?_
 refine RS (ok_call (Node_no n h1 h2 l j hp 0) (Args.cons rfl (Le.refl _) (A3 rfl rfl rfl))) ?_
 refine RM rfl ?_
 refine RS (ok_extractV rfl rfl) ?_
 refine RS (ok_extractV rfl rfl) ?_
 refine RA rfl ?_
 refine RA rfl ?_
 refine RN ?_
 refine A.sub (KC 3 rfl (KC 4 rfl (KC 5 rfl (KC 6 rfl (KC 7 rfl (KC 8 rfl (KC 15 rfl (KC 16 rfl (KC 17 rfl (KC 18 rfl (KC 19 rfl (KC 20 rfl (KC 21 rfl (KC 1000001 rfl KN)))))))))))))) ?_
 refine A.seq ?_
 refine GS ?_
 refine TL ?_
 refine RM rfl ?_
 refine RBS rfl rfl rfl (.bool false) (by first | rfl | (simp; done) | (simp; omega) | (simp [*]; done) | (simp [*]; omega)) ?_
 refine RM rfl ?_
 refine RS (ok_neBoolS Try.underlying4 rfl rfl) ?_; refine RZ (.bool false) (by first | rfl | (simp; done) | (simp; omega) | (simp [*]; done) | (simp [*]; omega)) ?_
 refine RM rfl ?_
 refine RQ (ok_move rfl) ?_
 refine RQ (ok_bin rfl rfl rfl) ?_; refine RZ (.bool false) (by first | rfl | (simp; done) | (simp; omega) | (simp [*]; done) | (simp [*]; omega)) ?_
 refine RQ (ok_move rfl) ?_
 refine RQ (ok_neBoolS Try.underlying4 rfl rfl) ?_; refine RZ (.bool false) (by first | rfl | (simp; done) | (simp; omega) | (simp [*]; done) | (simp [*]; omega)) ?_
 refine RP rfl rfl ?_
 refine RM rfl ?_
 refine RQ (ok_move rfl) ?_
 refine RQ (ok_bin rfl rfl rfl) ?_; refine RZ (.bool false) (by first | rfl | (simp; done) | (simp; omega) | (simp [*]; done) | (simp [*]; omega)) ?_
 refine RQ (ok_move rfl) ?_
 refine RQ (ok_move rfl) ?_
 refine RK ?_
 refine RK ?_
 refine RK ?_
 refine RunK.skippedU rfl rfl rfl rfl ?_
 refine RunK.skippedU rfl rfl rfl rfl ?_
 refine RK ?_
 refine RQ (ok_pick rfl rfl) ?_
 refine RQ (ok_neBoolS Try.underlying4 rfl rfl) ?_; refine RZ (.bool false) (by first | rfl | (simp; done) | (simp; omega) | (simp [*]; done) | (simp [*]; omega)) ?_
 refine RP rfl rfl ?_
 refine RN ?_
 refine A.no rfl ?_
 refine A.skip ?_
 refine EN ?_
 refine A.seq ?_
 refine GS ?_
 refine TL ?_
 refine RM rfl ?_
 refine RBS rfl rfl rfl (.bool true) (by first | rfl | (simp; done) | (simp; omega) | (simp [*]; done) | (simp [*]; omega)) ?_
 refine RM rfl ?_
 refine RQ (ok_move rfl) ?_
 refine RQ (ok_bin rfl rfl rfl) ?_; refine RZ (.bool false) (by first | rfl | (simp; done) | (simp; omega) | (simp [*]; done) | (simp [*]; omega)) ?_
 refine RQ (ok_move rfl) ?_
 refine RQ (ok_move rfl) ?_
 refine RQ (ok_bin rfl rfl rfl) ?_; refine RZ (.bool false) (by first | rfl | (simp; done) | (simp; omega) | (simp [*]; done) | (simp [*]; omega)) ?_
 refine RQ (ok_pick rfl rfl) ?_
 refine RQ (ok_move rfl) ?_
 refine RQ (ok_move rfl) ?_
 refine RQ (ok_bin rfl rfl rfl) ?_; refine RZ (.bool false) (by first | rfl | (simp; done) | (simp; omega) | (simp [*]; done) | (simp [*]; omega)) ?_
 refine RQ (ok_pick rfl rfl) ?_
 refine RQ (ok_move rfl) ?_
 refine RQ (ok_move rfl) ?_
 refine RQ (ok_bin rfl rfl rfl) ?_; refine RZ (.bool false) (by first | rfl | (simp; done) | (simp; omega) | (simp [*]; done) | (simp [*]; omega)) ?_
 refine RQ (ok_pick rfl rfl) ?_
 refine RQ (ok_move rfl) ?_
 refine RQ (ok_move rfl) ?_
 refine RQ (ok_bin rfl rfl rfl) ?_; refine RZ (.bool false) (by first | rfl | (simp; done) | (simp; omega) | (simp [*]; done) | (simp [*]; omega)) ?_
 refine RQ (ok_pick rfl rfl) ?_
 refine RP rfl rfl ?_
 refine RM rfl ?_
 refine RQ (ok_move rfl) ?_
 refine RQ (ok_bin rfl rfl rfl) ?_; refine RZ (.bool true) (by first | rfl | (simp; done) | (simp; omega) | (simp [*]; done) | (simp [*]; omega)) ?_
 refine RQ (ok_move rfl) ?_
 refine RQ (ok_move rfl) ?_
 refine RQ (ok_bin rfl rfl rfl) ?_; refine RZ (.bool false) (by first | rfl | (simp; done) | (simp; omega) | (simp [*]; done) | (simp [*]; omega)) ?_
 refine RQ (ok_move rfl) ?_
 refine RQ (ok_move rfl) ?_
 refine RQ (ok_bin rfl rfl rfl) ?_; refine RZ (.bool false) (by first | rfl | (simp; done) | (simp; omega) | (simp [*]; done) | (simp [*]; omega)) ?_
 refine RQ (ok_pick rfl rfl) ?_
 refine RQ (ok_pick rfl rfl) ?_
 refine RP rfl rfl ?_
 refine RN ?_
 refine A.sub (KC 3 rfl (KC 4 rfl (KC 5 rfl (KC 6 rfl (KC 7 rfl (KC 8 rfl (KC 215 rfl (KC 1000001 rfl KN)))))))) ?_
 refine A.no rfl ?_
 refine A.skip ?_
 refine EN ?_
 refine GS ?_
 refine TN 9 ?_
 refine RM rfl ?_
 refine RM rfl ?_
 refine RM rfl ?_
 refine RS (ok_call (place_fn (l : Int) (j : Int)) (A2 rfl rfl)) ?_
 refine RS (ok_call (Parent_no n h1 h2 l j hp) (A2 rfl rfl)) ?_
 refine RM rfl ?_
 refine RS (ok_extractV rfl rfl) ?_
 refine RS (ok_extractV rfl rfl) ?_
 refine RS (ok_extractV rfl rfl) ?_
 refine RN ?_
 refine ⟨_, _, eff_alloc (n := 390) (d := 22) (k := 1000022) zero45 (by decide), fun b22 hb22 => ?_⟩
 have hBb22 := hb22.1
 refine TF 10 ?_
 refine RN ?_
 refine ⟨_, eff_storeA (n := 390) (s := 1000022) (size45.of (rfl)) rfl rfl (rfl) hBb22 rfl (rfl) (LV 3 rfl (LV 4 rfl (LV 5 rfl (LV 6 rfl (LV 7 rfl (LV 8 rfl (LV 22 rfl (LV 223 rfl (LV 224 rfl (LT 1000001 rfl LN)))))))))), ?_⟩
 refine TL ?_
 refine RA rfl ?_
 refine RA rfl ?_
 refine RN ?_
 refine GS ?_
 refine TN 9 ?_
 refine RM rfl ?_
 refine RM rfl ?_
 refine RM rfl ?_
 refine RS (ok_call (place_fn (l : Int) (j : Int)) (A2 rfl rfl)) ?_
 refine RM rfl ?_
 refine RS (ok_call (Child_no n h1 h2 l j hp 0) (A3 rfl rfl rfl)) ?_
 refine RM rfl ?_
 refine RS (ok_extractV rfl rfl) ?_
 refine RS (ok_extractV rfl rfl) ?_
 refine RN ?_
 refine ⟨_, _, eff_alloc (n := 390) (d := 25) (k := 1000025) zero45 (by decide), fun b25 hb25 => ?_⟩
 have hBb25 := hb25.1
 have hlt_b22_b25 : b22 < b25 := hb25.2 1000022 _ _ _ rfl
 refine TF 10 ?_
 refine RN ?_
 refine ⟨_, eff_storeA (n := 390) (s := 1000025) (size45.of (rfl)) rfl rfl (rfl) hBb25 rfl (rfl) (LV 3 rfl (LV 5 rfl (LV 6 rfl (LV 7 rfl (LV 8 rfl (LV 22 rfl (LV 23 rfl (LV 24 rfl (LV 25 rfl (LV 233 rfl (LT 1000001 rfl (LB 1000022 rfl LN)))))))))))), ?_⟩
 refine TL ?_
 refine RA rfl ?_
 refine RN ?_
 refine A.sub (KC 3 rfl (KC 5 rfl (KC 6 rfl (KC 7 rfl (KC 8 rfl (KC 22 rfl (KC 23 rfl (KC 24 rfl (KC 25 rfl (KC 26 rfl (KC 1000001 rfl (KC 1000022 rfl (KC 1000025 rfl KN))))))))))))) ?_
 refine A.seq ?_
 refine GD ?_
 refine TL ?_
 refine RM rfl ?_
 refine RS (ok_not rfl) ?_
 refine RM rfl ?_
 refine RQ (ok_move rfl) ?_
 refine RQ (ok_bin rfl rfl rfl) ?_; refine RZ (.bool false) (by first | rfl | (simp; done) | (simp; omega) | (simp [*]; done) | (simp [*]; omega)) ?_
 refine RQ (ok_move rfl) ?_
 refine RQ (ok_loadA (s := 1000022) (by decide) Try.underlying45 rfl (size45.of (rfl)) rfl rfl) ?_
 refine RQ (ok_call (place_fn 0 0) (A2 rfl rfl)) ?_
 refine RQ (ok_neqT 3 true flatP (by decide) (by kernel_rfl) (by kernel_rfl) rfl rfl (kinP _ _) (kinP _ _) (iff_of_true rfl rfl)) ?_; refine RZ (.bool false) (by first | rfl | (simp; done) | (simp; omega) | (simp [*]; done) | (simp [*]; omega)) ?_
 refine RQ (ok_pick rfl rfl) ?_
 refine RQ (ok_move rfl) ?_
 refine RQ (ok_move rfl) ?_
 refine RQ (ok_bin rfl rfl rfl) ?_; refine RZ (.bool false) (by first | rfl | (simp; done) | (simp; omega) | (simp [*]; done) | (simp [*]; omega)) ?_
 refine RQ (ok_pick rfl rfl) ?_
 refine RP rfl rfl ?_
 refine RM rfl ?_
 refine RQ (ok_move rfl) ?_
 refine RQ (ok_not rfl) ?_
 refine RQ (ok_move rfl) ?_
 refine RK ?_
 refine RK ?_
 refine RQ (ok_pick rfl rfl) ?_
 refine RQ (ok_move rfl) ?_
 refine RK ?_
 refine RK ?_
 refine RQ (ok_pick rfl rfl) ?_
 refine RQ (ok_move rfl) ?_
 refine RQ (ok_move rfl) ?_
 refine RQ (ok_bin rfl rfl rfl) ?_; refine RZ (.bool false) (by first | rfl | (simp; done) | (simp; omega) | (simp [*]; done) | (simp [*]; omega)) ?_
 refine RQ (ok_move rfl) ?_
 refine RQ (ok_loadA (s := 1000025) (by decide) Try.underlying45 rfl (size45.of (rfl)) rfl rfl) ?_
 refine RQ (ok_call (place_fn 0 0) (A2 rfl rfl)) ?_
 refine RQ (ok_neqT 3 true flatP (by decide) (by kernel_rfl) (by kernel_rfl) rfl rfl (kinP _ _) (kinP _ _) (iff_of_true rfl rfl)) ?_; refine RZ (.bool false) (by first | rfl | (simp; done) | (simp; omega) | (simp [*]; done) | (simp [*]; omega)) ?_
 refine RQ (ok_pick rfl rfl) ?_
 refine RQ (ok_pick rfl rfl) ?_
 refine RP rfl rfl ?_
 refine RN ?_
 refine A.sub (KC 3 rfl (KC 5 rfl (KC 6 rfl (KC 7 rfl (KC 269 rfl (KC 1000001 rfl (KC 1000022 rfl (KC 1000025 rfl KN)))))))) ?_
 refine A.no rfl ?_
 refine A.skip ?_
 refine EN ?_
 refine GS ?_
 refine TL ?_
 refine RM rfl ?_
 refine RM rfl ?_
 refine RQ (ok_move rfl) ?_
 refine RQ (ok_bin rfl rfl rfl) ?_; refine RZ (.bool true) (by first | rfl | (simp; done) | (simp; omega) | (simp [*]; done) | (simp [*]; omega)) ?_
 refine RP rfl rfl ?_
 refine RM rfl ?_
 refine RQ (ok_move rfl) ?_
 refine RQ (ok_move rfl) ?_
 refine RQ (ok_bin rfl rfl rfl) ?_; refine RZ (.bool true) (by first | rfl | (simp; done) | (simp; omega) | (simp [*]; done) | (simp [*]; omega)) ?_
 refine RP rfl rfl ?_
 refine RA rfl ?_
 refine RN ?_
 refine GS ?_
 refine TN 2 ?_
 refine RM rfl ?_
 refine RM rfl ?_
 refine RN ?_
 refine ⟨_, _, eff_name (n := 390) (d := 283) (k := 1000283) rfl rfl (fun B' => ok_callB (Path_fnB n h1 h2 j hj) (fun _ _ h => newD_mono _ _ h) (A2 rfl rfl)) (by decide) (by decide), fun b283 hb283 => ?_⟩
 have hBb283 := hb283.1
 have hlt_b1_b283 : b1 < b283 := hb283.2 1000001 _ _ _ rfl
 have hlt_b22_b283 : b22 < b283 := hb283.2 1000022 _ _ _ rfl
 have hlt_b25_b283 : b25 < b283 := hb283.2 1000025 _ _ _ rfl
 refine TL ?_
 refine RM rfl ?_
 refine RS (ok_extractV rfl rfl) ?_
 refine RS (ok_extractV rfl rfl) ?_
 refine RA rfl ?_
 refine RA rfl ?_
 refine RN ?_
 refine GS ?_
 refine TL ?_
 refine RM rfl ?_
 refine RM rfl ?_
 refine RS (ok_call (Group_ok n h1 h2 j hj) (A2 rfl rfl)) ?_
 refine RM rfl ?_
 refine RS (ok_extractV rfl rfl) ?_
 refine RS (ok_extractV rfl rfl) ?_
 refine RS (ok_extractV rfl rfl) ?_
 refine RA rfl ?_
 refine RN ?_
 refine A.sub (KC 3 rfl (KC 5 rfl (KC 6 rfl (KC 7 rfl (KC 16 rfl (KC 19 rfl (KC 27 rfl (KC 28 rfl (KC 1000001 rfl (KC 1000022 rfl (KC 1000025 rfl (KC 1000283 rfl KN)))))))))))) ?_
 refine GS ?_
 refine TL ?_
 refine RM rfl ?_
 refine RM rfl ?_
 refine RM rfl ?_
 refine RS (ok_call (Data_ok n h1 h2 j hj 0 (by decide)) (A3 rfl rfl rfl)) ?_
 refine RM rfl ?_
 refine RS (ok_extractV rfl rfl) ?_
 refine RS (ok_extractV rfl rfl) ?_
 refine RA rfl ?_
 refine RA rfl ?_
 refine RN ?_
 refine A.seq ?_
 refine GS ?_
 refine TL ?_
 refine RM rfl ?_
 refine RBS rfl rfl rfl (.bool true) (by first | rfl | (simp; done) | (simp; omega) | (simp [*]; done) | (simp [*]; omega)) ?_
 refine RM rfl ?_
 refine RS (ok_neBoolS Try.underlying4 rfl rfl) ?_; refine RZ (.bool false) (by first | rfl | (simp; done) | (simp; omega) | (simp [*]; done) | (simp [*]; omega)) ?_
 refine RM rfl ?_
 refine RQ (ok_move rfl) ?_
 refine RQ (ok_bin rfl rfl rfl) ?_; refine RZ (.bool true) (by first | rfl | (simp; done) | (simp; omega) | (simp [*]; done) | (simp [*]; omega)) ?_
 refine RQ (ok_move rfl) ?_
 refine RQ (ok_neBoolS Try.underlying4 rfl rfl) ?_; refine RZ (.bool false) (by first | rfl | (simp; done) | (simp; omega) | (simp [*]; done) | (simp [*]; omega)) ?_
 refine RP rfl rfl ?_
 refine RM rfl ?_
 refine RQ (ok_move rfl) ?_
 refine RQ (ok_bin rfl rfl rfl) ?_; refine RZ (.bool true) (by first | rfl | (simp; done) | (simp; omega) | (simp [*]; done) | (simp [*]; omega)) ?_
 refine RQ (ok_move rfl) ?_
 refine RQ (ok_move rfl) ?_
 refine RQ (ok_move rfl) ?_
 refine RQ (ok_bin rfl rfl rfl) ?_; refine RZ (.bool true) (by first | rfl | (simp; done) | (simp; omega) | (simp [*]; done) | (simp [*]; omega)) ?_
 refine RQ (ok_move rfl) ?_
 refine RK ?_
 refine RK ?_
 refine RQ (ok_pick rfl rfl) ?_
 refine RQ (ok_pick rfl rfl) ?_
 refine RQ (ok_neBoolS Try.underlying4 rfl rfl) ?_; refine RZ (.bool false) (by first | rfl | (simp; done) | (simp; omega) | (simp [*]; done) | (simp [*]; omega)) ?_
 refine RP rfl rfl ?_
 refine RM rfl ?_
 refine RQ (ok_move rfl) ?_
 refine RQ (ok_bin rfl rfl rfl) ?_; refine RZ (.bool false) (by first | rfl | (simp; done) | (simp; omega) | (simp [*]; done) | (simp [*]; omega)) ?_
 refine RQ (ok_move rfl) ?_
 refine RK ?_
 refine RK ?_
 refine RK ?_
 refine RK ?_
 refine RunK.skippedU rfl rfl rfl rfl ?_
 refine RunK.skippedU rfl rfl rfl rfl ?_
 refine RK ?_
 refine RK ?_
 refine RunK.skippedU rfl rfl rfl rfl ?_
 refine RunK.skippedU rfl rfl rfl rfl ?_
 refine RunK.skippedU rfl rfl rfl rfl ?_
 refine RK ?_
 refine RQ (ok_pick rfl rfl) ?_
 refine RP rfl rfl ?_
 refine RM rfl ?_
 refine RQ (ok_move rfl) ?_
 refine RQ (ok_bin rfl rfl rfl) ?_; refine RZ (.bool false) (by first | rfl | (simp; done) | (simp; omega) | (simp [*]; done) | (simp [*]; omega)) ?_
 refine RQ (ok_move rfl) ?_
 refine RK ?_
 refine RK ?_
 refine RK ?_
 refine RunK.skippedU rfl rfl rfl rfl ?_
 refine RunK.skippedU rfl rfl rfl rfl ?_
 refine RK ?_
 refine RQ (ok_pick rfl rfl) ?_
 refine RP rfl rfl ?_
 refine RN ?_
 refine A.sub (KC 3 rfl (KC 5 rfl (KC 7 rfl (KC 353 rfl (KC 1000001 rfl (KC 1000022 rfl (KC 1000025 rfl (KC 1000283 rfl KN)))))))) ?_
 refine A.no rfl ?_
 refine A.skip ?_
 refine EN ?_
 refine GS ?_
 refine TN 6 ?_
 refine RM rfl ?_
 refine RM rfl ?_
 refine RS (ok_call (Of_data n h1 h2 j (by omega)) (A2 rfl rfl)) ?_
 refine RM rfl ?_
 refine RS (ok_extractV rfl rfl) ?_
 refine RS (ok_extractV rfl rfl) ?_
 refine RN ?_
 refine ⟨_, _, eff_alloc (n := 390) (d := 29) (k := 1000029) zero31 (by decide), fun b29 hb29 => ?_⟩
 have hBb29 := hb29.1
 refine TF 7 ?_
 refine RN ?_
 refine ⟨_, eff_storeA (n := 390) (s := 1000029) (size31.of (rfl)) rfl rfl (rfl) hBb29 rfl (rfl) (LV 3 rfl (LV 5 rfl (LV 7 rfl (LV 29 rfl (LV 359 rfl (LT 1000001 rfl (LT 1000022 rfl (LT 1000025 rfl (LT 1000283 rfl LN))))))))), ?_⟩
 refine TL ?_
 refine RA rfl ?_
 refine RN ?_
 refine GS ?_
 refine TL ?_
 refine RM rfl ?_
 refine RM rfl ?_
 refine RQ (ok_move rfl) ?_
 refine RQ (ok_bin rfl rfl rfl) ?_; refine RZ (.bool true) (by first | rfl | (simp; done) | (simp; omega) | (simp [*]; done) | (simp [*]; omega)) ?_
 refine RP rfl rfl ?_
 refine RM rfl ?_
 refine RQ (ok_move rfl) ?_
 refine RQ (ok_move rfl) ?_
 refine RQ (ok_call (rSectors_fn n h1 h2) (A1 rfl)) ?_
 refine RQ (ok_bin rfl rfl rfl) ?_; refine RZ (.bool true) (by first | rfl | (simp; done) | (simp; omega) | (simp [*]; done) | (simp [*]; omega)) ?_
 refine RP rfl rfl ?_
 refine RA rfl ?_
 refine RN ?_
 refine GS ?_
 refine TL ?_
 refine RM rfl ?_
 refine RBS rfl rfl rfl (.bool true) (by first | rfl | (simp; done) | (simp; omega) | (simp [*]; done) | (simp [*]; omega)) ?_
 refine RM rfl ?_
 refine RS (ok_eqBool Try.underlying4 rfl rfl) ?_; refine RZ (.bool true) (by first | rfl | (simp; done) | (simp; omega) | (simp [*]; done) | (simp [*]; omega)) ?_
 refine RM rfl ?_
 refine RQ (ok_move rfl) ?_
 refine RQ (ok_move rfl) ?_
 refine RK ?_
 refine RK ?_
 refine RK ?_
 refine RunK.skippedU rfl rfl rfl rfl ?_
 refine RunK.skippedU rfl rfl rfl rfl ?_
 refine RunK.skippedU rfl rfl rfl rfl ?_
 refine RK ?_
 refine RQ (ok_pick rfl rfl) ?_
 refine RP rfl rfl ?_
 refine RM rfl ?_
 refine RQ (ok_call (lives12_fn) Args.nil) ?_
 refine RP rfl rfl ?_
 refine RA rfl ?_
 refine RN ?_
 refine A.sub (KC 2 rfl (KC 1000001 rfl (KC 1000022 rfl (KC 1000025 rfl (KC 1000029 rfl (KC 1000283 rfl KN)))))) ?_
 refine A.ret ?_
 exact End.ret1 rfl rfl (by first | exact Le.refl _ | exact Le.old _ _)
set_option maxHeartbeats 2000000 in
theorem serr_yB1 (n : Nat) (h1 : 1 ≤ n) (h2 : n ≤ 4096) (l : Nat) (hl : l ≤ hg n) (j : Nat) (hj : j < n) (hp : ¬ IsP n l j) : Fn Try.prog 7 [.v (aggV [nI (n), nI (l), nI (j), .int .i64 (1)])] (.v (.bool true)) := by
 have hh := hg_le n
 have hz := bs_zero n
 have hb0 := bs_mono (n := n) (Nat.zero_le (hg n + 1))
 refine Fn.of Try.func7 rfl (by kernel_rfl) Try.ntmps7 (by simp) (fun w => [(0, .v (aggV [nI (n), nI (l), nI (j), .int .i64 (1)]))]) (fun w => (Start.v rfl Start.nil)) fun w₀ => ?_
 refine GS ?_
 refine TN 0 ?_
 refine RN ?_
 refine ⟨_, _, eff_box (n := 390) (d := 1) (k := 1000001) rfl (by decide), fun b1 hb1 => ?_⟩
 have hBb1 := hb1.1
 refine TL ?_
 refine RA rfl ?_
 refine RN ?_
 refine GD ?_
 refine TL ?_
 refine RS (ok_index0 (0) Try.underlying58 info3 rfl rfl (rfl) (by decide)) ?_
 refine RS (ok_loadV (s := 1000001) (by decide) Try.underlying3 rfl rfl rfl (rfl)) ?_
 refine RS (ok_index0 (1) Try.underlying58 info3 rfl rfl (rfl) (by decide)) ?_
 refine RS (ok_loadV (s := 1000001) (by decide) Try.underlying3 rfl rfl rfl (rfl)) ?_
 refine RS (ok_index0 (2) Try.underlying58 info3 rfl rfl (rfl) (by decide)) ?_
 refine RS (ok_loadV (s := 1000001) (by decide) Try.underlying3 rfl rfl rfl (rfl)) ?_
 refine RS (ok_index0 (3) Try.underlying58 info3 rfl rfl (rfl) (by decide)) ?_
 refine RS (ok_loadV (s := 1000001) (by decide) Try.underlying3 rfl rfl rfl (rfl)) ?_
 refine RA rfl ?_
 refine RA rfl ?_
 refine RA rfl ?_
 refine RA rfl ?_
 refine RN ?_
 refine GS ?_
 refine TL ?_
 refine RM rfl ?_
 refine RBS rfl rfl rfl (.bool true) (by first | rfl | (simp; done) | (simp; omega) | (simp [*]; done) | (simp [*]; omega)) ?_
 refine RM rfl ?_
 refine RQ (ok_move rfl) ?_
 refine RQ (ok_bin rfl rfl rfl) ?_; refine RZ (.bool true) (by first | rfl | (simp; done) | (simp; omega) | (simp [*]; done) | (simp [*]; omega)) ?_
 refine RP rfl rfl ?_
 refine RA rfl ?_
 refine RN ?_
 refine GS ?_
 refine TL ?_
 refine RM rfl ?_
 refine RM rfl ?_
 refine RQ (ok_move rfl) ?_
 refine RQ (ok_move rfl) ?_
 refine RQ (ok_move rfl) ?_
 refine RQ (ok_call (rIs_n n h1 h2 l j hp) (A3 rfl rfl rfl)) ?_
 refine RP rfl rfl ?_
 refine RA rfl ?_
 refine RN ?_
 refine A.sub (KC 3 rfl (KC 4 rfl (KC 5 rfl (KC 6 rfl (KC 7 rfl (KC 8 rfl (KC 1000001 rfl KN))))))) ?_
 refine GS ?_
 refine TL ?_
 refine RM rfl ?_
 refine RS (ok_call (Height_ok n h1 h2) (A1 rfl)) ?_
 refine RM rfl ?_
 refine RS (ok_extractV rfl rfl) ?_
 refine RS (ok_extractV rfl rfl) ?_
 refine RA rfl ?_
 refine RA rfl ?_
 refine RN ?_
 refine GS ?_
 refine TL ?_
 refine RM rfl ?_
 refine RS (ok_call (Total_ok n h1 h2) (A1 rfl)) ?_
 refine RM rfl ?_
 refine RS (ok_extractV rfl rfl) ?_
 refine RS (ok_extractV rfl rfl) ?_
 refine RA rfl ?_
 refine RA rfl ?_
 refine RN ?_
 refine GS ?_
 refine TL ?_
 refine RM rfl ?_
 refine RS (ok_call (Sectors_ok n h1 h2) (A1 rfl)) ?_
 refine RM rfl ?_
 refine RS (ok_extractV rfl rfl) ?_
 refine RS (ok_extractV rfl rfl) ?_
 refine RA rfl ?_
 refine RA rfl ?_
 refine RN ?_
 refine A.seq ?_
 refine GS ?_
 refine TL ?_
 refine RM rfl ?_
 refine RBS rfl rfl rfl (.bool true) (by first | rfl | (simp; done) | (simp; omega) | (simp [*]; done) | (simp [*]; omega)) ?_
 refine RM rfl ?_
 refine RS (ok_neBoolS Try.underlying4 rfl rfl) ?_; refine RZ (.bool false) (by first | rfl | (simp; done) | (simp; omega) | (simp [*]; done) | (simp [*]; omega)) ?_
 refine RM rfl ?_
 refine RQ (ok_move rfl) ?_
 refine RQ (ok_bin rfl rfl rfl) ?_; refine RZ (.bool true) (by first | rfl | (simp; done) | (simp; omega) | (simp [*]; done) | (simp [*]; omega)) ?_
 refine RQ (ok_move rfl) ?_
 refine RQ (ok_neBoolS Try.underlying4 rfl rfl) ?_; refine RZ (.bool false) (by first | rfl | (simp; done) | (simp; omega) | (simp [*]; done) | (simp [*]; omega)) ?_
 refine RP rfl rfl ?_
 refine RM rfl ?_
 refine RQ (ok_move rfl) ?_
 refine RQ (ok_bin rfl rfl rfl) ?_; refine RZ (.bool true) (by first | rfl | (simp; done) | (simp; omega) | (simp [*]; done) | (simp [*]; omega)) ?_
 refine RQ (ok_move rfl) ?_
 refine RQ (ok_neBoolS Try.underlying4 rfl rfl) ?_; refine RZ (.bool false) (by first | rfl | (simp; done) | (simp; omega) | (simp [*]; done) | (simp [*]; omega)) ?_
 refine RP rfl rfl ?_
 refine RM rfl ?_
 refine RQ (ok_move rfl) ?_
 refine RQ (ok_call (Check_ok n h1 h2) (A1 rfl)) ?_
 refine RQ (ok_move rfl) ?_
 refine RQ (ok_bin rfl rfl rfl) ?_; refine RZ (.bool false) (by first | rfl | (simp; done) | (simp; omega) | (simp [*]; done) | (simp [*]; omega)) ?_
 refine RP rfl rfl ?_
 refine RM rfl ?_
 refine RQ (ok_move rfl) ?_
 refine RQ (ok_move rfl) ?_
 refine RQ (ok_bin rfl rfl rfl) ?_; refine RZ (.bool false) (by first | rfl | (simp; done) | (simp; omega) | (simp [*]; done) | (simp [*]; omega)) ?_
 refine RP rfl rfl ?_
 refine RM rfl ?_
 refine RQ (ok_move rfl) ?_
 refine RQ (ok_move rfl) ?_
 refine RQ (ok_bin rfl rfl rfl) ?_; refine RZ (.bool false) (by first | rfl | (simp; done) | (simp; omega) | (simp [*]; done) | (simp [*]; omega)) ?_
 refine RP rfl rfl ?_
 refine RM rfl ?_
 refine RQ (ok_move rfl) ?_
 refine RQ (ok_not rfl) ?_
 refine RQ (ok_move rfl) ?_
 refine RK ?_
 refine RK ?_
 refine RQ (ok_pick rfl rfl) ?_
 refine RP rfl rfl ?_
 refine RN ?_
 refine A.sub (KC 3 rfl (KC 4 rfl (KC 5 rfl (KC 6 rfl (KC 7 rfl (KC 8 rfl (KC 106 rfl (KC 1000001 rfl KN)))))))) ?_
 refine A.no rfl ?_
 refine A.skip ?_
 refine EN ?_
 refine GS ?_
 refine TL ?_
 refine RM rfl ?_
 refine RM rfl ?_
 refine RS (ok_call (Count_ok n h1 h2 l hl) (A2 rfl rfl)) ?_
 refine RM rfl ?_
 refine RS (ok_extractV rfl rfl) ?_
 refine RS (ok_extractV rfl rfl) ?_
 refine RA rfl ?_
 refine RA rfl ?_
 refine RN ?_
 refine A.seq ?_
 refine GS ?_
 refine TL ?_
 refine RM rfl ?_
 refine RBS rfl rfl rfl (.bool true) (by first | rfl | (simp; done) | (simp; omega) | (simp [*]; done) | (simp [*]; omega)) ?_
 refine RM rfl ?_
 refine RM rfl ?_
 refine RQ (ok_move rfl) ?_
 refine RQ (ok_move rfl) ?_
 refine RQ (ok_call (rIs_y n h1 h2 l 0 hl (un_pos h1 _)) (A3 rfl rfl rfl)) ?_
 refine RP rfl rfl ?_
 refine RS (ok_neBoolS Try.underlying4 rfl rfl) ?_; refine RZ (.bool false) (by first | rfl | (simp; done) | (simp; omega) | (simp [*]; done) | (simp [*]; omega)) ?_
 refine RM rfl ?_
 refine RQ (ok_move rfl) ?_
 refine RQ (ok_bin rfl rfl rfl) ?_; refine RZ (.bool false) (by first | rfl | (simp; done) | (simp; omega) | (simp [*]; done) | (simp [*]; omega)) ?_
 refine RQ (ok_move rfl) ?_
 refine RK ?_
 refine RK ?_
 refine RK ?_
 refine RunK.skippedU rfl rfl rfl rfl ?_
 refine RunK.skippedU rfl rfl rfl rfl ?_
 refine RK ?_
 refine RQ (ok_pick rfl rfl) ?_
 refine RP rfl rfl ?_
 refine RN ?_
 refine A.sub (KC 3 rfl (KC 4 rfl (KC 5 rfl (KC 6 rfl (KC 7 rfl (KC 8 rfl (KC 133 rfl (KC 1000001 rfl KN)))))))) ?_
 refine A.no rfl ?_
 refine A.skip ?_
 refine EN ?_
 refine GS ?_
 refine TL ?_
 refine RM rfl ?_
 refine RM rfl ?_
 refine RM rfl ?_
 refine RS (ok_call (Parts_no n h1 h2 l j hp) (A3 rfl rfl rfl)) ?_
 refine RM rfl ?_
 refine RS (ok_extractV rfl rfl) ?_
 refine RS (ok_extractV rfl rfl) ?_
 refine RA rfl ?_
 refine RA rfl ?_
 refine RN ?_
 refine GS ?_
 refine TL ?_
 refine RM rfl ?_
 refine RM rfl ?_
 refine RM rfl ?_
 refine RS (ok_call (place_fn (l : Int) (j : Int)) (A2 rfl rfl)) ?_
 refine RS (ok_call (Blocks_no n h1 h2 l j hp) (A2 rfl rfl)) ?_
 refine RM rfl ?_
 refine RS (ok_extractV rfl rfl) ?_
 refine RS (ok_extractV rfl rfl) ?_
 refine RS (ok_extractV rfl rfl) ?_
 refine RA rfl ?_
 refine RA rfl ?_
 refine RA rfl ?_
 refine RN ?_
 refine GS ?_
 refine TL ?_
 refine RM rfl ?_
 refine RM rfl ?_
 refine RM rfl ?_
 refine RM rfl ?_
 refine RS (ok_call (Node_no n h1 h2 l j hp 1) (Args.cons rfl (Le.refl _) (A3 rfl rfl rfl))) ?_
 refine RM rfl ?_
 refine RS (ok_extractV rfl rfl) ?_
 refine RS (ok_extractV rfl rfl) ?_
 refine RA rfl ?_
 refine RA rfl ?_
 refine RN ?_
 refine A.sub (KC 3 rfl (KC 4 rfl (KC 5 rfl (KC 6 rfl (KC 7 rfl (KC 8 rfl (KC 15 rfl (KC 16 rfl (KC 17 rfl (KC 18 rfl (KC 19 rfl (KC 20 rfl (KC 21 rfl (KC 1000001 rfl KN)))))))))))))) ?_
 refine A.seq ?_
 refine GS ?_
 refine TL ?_
 refine RM rfl ?_
 refine RBS rfl rfl rfl (.bool false) (by first | rfl | (simp; done) | (simp; omega) | (simp [*]; done) | (simp [*]; omega)) ?_
 refine RM rfl ?_
 refine RS (ok_neBoolS Try.underlying4 rfl rfl) ?_; refine RZ (.bool false) (by first | rfl | (simp; done) | (simp; omega) | (simp [*]; done) | (simp [*]; omega)) ?_
 refine RM rfl ?_
 refine RQ (ok_move rfl) ?_
 refine RQ (ok_bin rfl rfl rfl) ?_; refine RZ (.bool false) (by first | rfl | (simp; done) | (simp; omega) | (simp [*]; done) | (simp [*]; omega)) ?_
 refine RQ (ok_move rfl) ?_
 refine RQ (ok_neBoolS Try.underlying4 rfl rfl) ?_; refine RZ (.bool false) (by first | rfl | (simp; done) | (simp; omega) | (simp [*]; done) | (simp [*]; omega)) ?_
 refine RP rfl rfl ?_
 refine RM rfl ?_
 refine RQ (ok_move rfl) ?_
 refine RQ (ok_bin rfl rfl rfl) ?_; refine RZ (.bool false) (by first | rfl | (simp; done) | (simp; omega) | (simp [*]; done) | (simp [*]; omega)) ?_
 refine RQ (ok_move rfl) ?_
 refine RQ (ok_move rfl) ?_
 refine RK ?_
 refine RK ?_
 refine RK ?_
 refine RunK.skippedU rfl rfl rfl rfl ?_
 refine RunK.skippedU rfl rfl rfl rfl ?_
 refine RK ?_
 refine RQ (ok_pick rfl rfl) ?_
 refine RQ (ok_neBoolS Try.underlying4 rfl rfl) ?_; refine RZ (.bool false) (by first | rfl | (simp; done) | (simp; omega) | (simp [*]; done) | (simp [*]; omega)) ?_
 refine RP rfl rfl ?_
 refine RN ?_
 refine A.no rfl ?_
 refine A.skip ?_
 refine EN ?_
 refine A.seq ?_
 refine GS ?_
 refine TL ?_
 refine RM rfl ?_
 refine RBS rfl rfl rfl (.bool true) (by first | rfl | (simp; done) | (simp; omega) | (simp [*]; done) | (simp [*]; omega)) ?_
 refine RM rfl ?_
 refine RQ (ok_move rfl) ?_
 refine RQ (ok_bin rfl rfl rfl) ?_; refine RZ (.bool false) (by first | rfl | (simp; done) | (simp; omega) | (simp [*]; done) | (simp [*]; omega)) ?_
 refine RQ (ok_move rfl) ?_
 refine RQ (ok_move rfl) ?_
 refine RQ (ok_bin rfl rfl rfl) ?_; refine RZ (.bool false) (by first | rfl | (simp; done) | (simp; omega) | (simp [*]; done) | (simp [*]; omega)) ?_
 refine RQ (ok_pick rfl rfl) ?_
 refine RQ (ok_move rfl) ?_
 refine RQ (ok_move rfl) ?_
 refine RQ (ok_bin rfl rfl rfl) ?_; refine RZ (.bool false) (by first | rfl | (simp; done) | (simp; omega) | (simp [*]; done) | (simp [*]; omega)) ?_
 refine RQ (ok_pick rfl rfl) ?_
 refine RQ (ok_move rfl) ?_
 refine RQ (ok_move rfl) ?_
 refine RQ (ok_bin rfl rfl rfl) ?_; refine RZ (.bool false) (by first | rfl | (simp; done) | (simp; omega) | (simp [*]; done) | (simp [*]; omega)) ?_
 refine RQ (ok_pick rfl rfl) ?_
 refine RQ (ok_move rfl) ?_
 refine RQ (ok_move rfl) ?_
 refine RQ (ok_bin rfl rfl rfl) ?_; refine RZ (.bool false) (by first | rfl | (simp; done) | (simp; omega) | (simp [*]; done) | (simp [*]; omega)) ?_
 refine RQ (ok_pick rfl rfl) ?_
 refine RP rfl rfl ?_
 refine RM rfl ?_
 refine RQ (ok_move rfl) ?_
 refine RQ (ok_bin rfl rfl rfl) ?_; refine RZ (.bool true) (by first | rfl | (simp; done) | (simp; omega) | (simp [*]; done) | (simp [*]; omega)) ?_
 refine RQ (ok_move rfl) ?_
 refine RQ (ok_move rfl) ?_
 refine RQ (ok_bin rfl rfl rfl) ?_; refine RZ (.bool false) (by first | rfl | (simp; done) | (simp; omega) | (simp [*]; done) | (simp [*]; omega)) ?_
 refine RQ (ok_move rfl) ?_
 refine RQ (ok_move rfl) ?_
 refine RQ (ok_bin rfl rfl rfl) ?_; refine RZ (.bool false) (by first | rfl | (simp; done) | (simp; omega) | (simp [*]; done) | (simp [*]; omega)) ?_
 refine RQ (ok_pick rfl rfl) ?_
 refine RQ (ok_pick rfl rfl) ?_
 refine RP rfl rfl ?_
 refine RN ?_
 refine A.sub (KC 3 rfl (KC 4 rfl (KC 5 rfl (KC 6 rfl (KC 7 rfl (KC 8 rfl (KC 215 rfl (KC 1000001 rfl KN)))))))) ?_
 refine A.no rfl ?_
 refine A.skip ?_
 refine EN ?_
 refine GS ?_
 refine TN 9 ?_
 refine RM rfl ?_
 refine RM rfl ?_
 refine RM rfl ?_
 refine RS (ok_call (place_fn (l : Int) (j : Int)) (A2 rfl rfl)) ?_
 refine RS (ok_call (Parent_no n h1 h2 l j hp) (A2 rfl rfl)) ?_
 refine RM rfl ?_
 refine RS (ok_extractV rfl rfl) ?_
 refine RS (ok_extractV rfl rfl) ?_
 refine RS (ok_extractV rfl rfl) ?_
 refine RN ?_
 refine ⟨_, _, eff_alloc (n := 390) (d := 22) (k := 1000022) zero45 (by decide), fun b22 hb22 => ?_⟩
 have hBb22 := hb22.1
 refine TF 10 ?_
 refine RN ?_
 refine ⟨_, eff_storeA (n := 390) (s := 1000022) (size45.of (rfl)) rfl rfl (rfl) hBb22 rfl (rfl) (LV 3 rfl (LV 4 rfl (LV 5 rfl (LV 6 rfl (LV 7 rfl (LV 8 rfl (LV 22 rfl (LV 223 rfl (LV 224 rfl (LT 1000001 rfl LN)))))))))), ?_⟩
 refine TL ?_
 refine RA rfl ?_
 refine RA rfl ?_
 refine RN ?_
 refine GS ?_
 refine TN 9 ?_
 refine RM rfl ?_
 refine RM rfl ?_
 refine RM rfl ?_
 refine RS (ok_call (place_fn (l : Int) (j : Int)) (A2 rfl rfl)) ?_
 refine RM rfl ?_
 refine RS (ok_call (Child_no n h1 h2 l j hp 1) (A3 rfl rfl rfl)) ?_
 refine RM rfl ?_
 refine RS (ok_extractV rfl rfl) ?_
 refine RS (ok_extractV rfl rfl) ?_
 refine RN ?_
 refine ⟨_, _, eff_alloc (n := 390) (d := 25) (k := 1000025) zero45 (by decide), fun b25 hb25 => ?_⟩
 have hBb25 := hb25.1
 have hlt_b22_b25 : b22 < b25 := hb25.2 1000022 _ _ _ rfl
 refine TF 10 ?_
 refine RN ?_
 refine ⟨_, eff_storeA (n := 390) (s := 1000025) (size45.of (rfl)) rfl rfl (rfl) hBb25 rfl (rfl) (LV 3 rfl (LV 5 rfl (LV 6 rfl (LV 7 rfl (LV 8 rfl (LV 22 rfl (LV 23 rfl (LV 24 rfl (LV 25 rfl (LV 233 rfl (LT 1000001 rfl (LB 1000022 rfl LN)))))))))))), ?_⟩
 refine TL ?_
 refine RA rfl ?_
 refine RN ?_
 refine A.sub (KC 3 rfl (KC 5 rfl (KC 6 rfl (KC 7 rfl (KC 8 rfl (KC 22 rfl (KC 23 rfl (KC 24 rfl (KC 25 rfl (KC 26 rfl (KC 1000001 rfl (KC 1000022 rfl (KC 1000025 rfl KN))))))))))))) ?_
 refine A.seq ?_
 refine GD ?_
 refine TL ?_
 refine RM rfl ?_
 refine RS (ok_not rfl) ?_
 refine RM rfl ?_
 refine RQ (ok_move rfl) ?_
 refine RQ (ok_bin rfl rfl rfl) ?_; refine RZ (.bool false) (by first | rfl | (simp; done) | (simp; omega) | (simp [*]; done) | (simp [*]; omega)) ?_
 refine RQ (ok_move rfl) ?_
 refine RQ (ok_loadA (s := 1000022) (by decide) Try.underlying45 rfl (size45.of (rfl)) rfl rfl) ?_
 refine RQ (ok_call (place_fn 0 0) (A2 rfl rfl)) ?_
 refine RQ (ok_neqT 3 true flatP (by decide) (by kernel_rfl) (by kernel_rfl) rfl rfl (kinP _ _) (kinP _ _) (iff_of_true rfl rfl)) ?_; refine RZ (.bool false) (by first | rfl | (simp; done) | (simp; omega) | (simp [*]; done) | (simp [*]; omega)) ?_
 refine RQ (ok_pick rfl rfl) ?_
 refine RQ (ok_move rfl) ?_
 refine RQ (ok_move rfl) ?_
 refine RQ (ok_bin rfl rfl rfl) ?_; refine RZ (.bool false) (by first | rfl | (simp; done) | (simp; omega) | (simp [*]; done) | (simp [*]; omega)) ?_
 refine RQ (ok_pick rfl rfl) ?_
 refine RP rfl rfl ?_
 refine RM rfl ?_
 refine RQ (ok_move rfl) ?_
 refine RQ (ok_not rfl) ?_
 refine RQ (ok_move rfl) ?_
 refine RK ?_
 refine RK ?_
 refine RQ (ok_pick rfl rfl) ?_
 refine RQ (ok_move rfl) ?_
 refine RK ?_
 refine RK ?_
 refine RQ (ok_pick rfl rfl) ?_
 refine RQ (ok_move rfl) ?_
 refine RQ (ok_move rfl) ?_
 refine RQ (ok_bin rfl rfl rfl) ?_; refine RZ (.bool false) (by first | rfl | (simp; done) | (simp; omega) | (simp [*]; done) | (simp [*]; omega)) ?_
 refine RQ (ok_move rfl) ?_
 refine RQ (ok_loadA (s := 1000025) (by decide) Try.underlying45 rfl (size45.of (rfl)) rfl rfl) ?_
 refine RQ (ok_call (place_fn 0 0) (A2 rfl rfl)) ?_
 refine RQ (ok_neqT 3 true flatP (by decide) (by kernel_rfl) (by kernel_rfl) rfl rfl (kinP _ _) (kinP _ _) (iff_of_true rfl rfl)) ?_; refine RZ (.bool false) (by first | rfl | (simp; done) | (simp; omega) | (simp [*]; done) | (simp [*]; omega)) ?_
 refine RQ (ok_pick rfl rfl) ?_
 refine RQ (ok_pick rfl rfl) ?_
 refine RP rfl rfl ?_
 refine RN ?_
 refine A.sub (KC 3 rfl (KC 5 rfl (KC 6 rfl (KC 7 rfl (KC 269 rfl (KC 1000001 rfl (KC 1000022 rfl (KC 1000025 rfl KN)))))))) ?_
 refine A.no rfl ?_
 refine A.skip ?_
 refine EN ?_
 refine GS ?_
 refine TL ?_
 refine RM rfl ?_
 refine RM rfl ?_
 refine RQ (ok_move rfl) ?_
 refine RQ (ok_bin rfl rfl rfl) ?_; refine RZ (.bool true) (by first | rfl | (simp; done) | (simp; omega) | (simp [*]; done) | (simp [*]; omega)) ?_
 refine RP rfl rfl ?_
 refine RM rfl ?_
 refine RQ (ok_move rfl) ?_
 refine RQ (ok_move rfl) ?_
 refine RQ (ok_bin rfl rfl rfl) ?_; refine RZ (.bool true) (by first | rfl | (simp; done) | (simp; omega) | (simp [*]; done) | (simp [*]; omega)) ?_
 refine RP rfl rfl ?_
 refine RA rfl ?_
 refine RN ?_
 refine GS ?_
 refine TN 2 ?_
 refine RM rfl ?_
 refine RM rfl ?_
 refine RN ?_
 refine ⟨_, _, eff_name (n := 390) (d := 283) (k := 1000283) rfl rfl (fun B' => ok_callB (Path_fnB n h1 h2 j hj) (fun _ _ h => newD_mono _ _ h) (A2 rfl rfl)) (by decide) (by decide), fun b283 hb283 => ?_⟩
 have hBb283 := hb283.1
 have hlt_b1_b283 : b1 < b283 := hb283.2 1000001 _ _ _ rfl
 have hlt_b22_b283 : b22 < b283 := hb283.2 1000022 _ _ _ rfl
 have hlt_b25_b283 : b25 < b283 := hb283.2 1000025 _ _ _ rfl
 refine TL ?_
 refine RM rfl ?_
 refine RS (ok_extractV rfl rfl) ?_
 refine RS (ok_extractV rfl rfl) ?_
 refine RA rfl ?_
 refine RA rfl ?_
 refine RN ?_
 refine GS ?_
 refine TL ?_
 refine RM rfl ?_
 refine RM rfl ?_
 refine RS (ok_call (Group_ok n h1 h2 j hj) (A2 rfl rfl)) ?_
 refine RM rfl ?_
 refine RS (ok_extractV rfl rfl) ?_
 refine RS (ok_extractV rfl rfl) ?_
 refine RS (ok_extractV rfl rfl) ?_
 refine RA rfl ?_
 refine RN ?_
 refine A.sub (KC 3 rfl (KC 5 rfl (KC 6 rfl (KC 7 rfl (KC 16 rfl (KC 19 rfl (KC 27 rfl (KC 28 rfl (KC 1000001 rfl (KC 1000022 rfl (KC 1000025 rfl (KC 1000283 rfl KN)))))))))))) ?_
 refine GS ?_
 refine TL ?_
 refine RM rfl ?_
 refine RM rfl ?_
 refine RM rfl ?_
 refine RS (ok_call (Data_ok n h1 h2 j hj 1 (by decide)) (A3 rfl rfl rfl)) ?_
 refine RM rfl ?_
 refine RS (ok_extractV rfl rfl) ?_
 refine RS (ok_extractV rfl rfl) ?_
 refine RA rfl ?_
 refine RA rfl ?_
 refine RN ?_
 refine A.seq ?_
 refine GS ?_
 refine TL ?_
 refine RM rfl ?_
 refine RBS rfl rfl rfl (.bool true) (by first | rfl | (simp; done) | (simp; omega) | (simp [*]; done) | (simp [*]; omega)) ?_
 refine RM rfl ?_
 refine RS (ok_neBoolS Try.underlying4 rfl rfl) ?_; refine RZ (.bool false) (by first | rfl | (simp; done) | (simp; omega) | (simp [*]; done) | (simp [*]; omega)) ?_
 refine RM rfl ?_
 refine RQ (ok_move rfl) ?_
 refine RQ (ok_bin rfl rfl rfl) ?_; refine RZ (.bool true) (by first | rfl | (simp; done) | (simp; omega) | (simp [*]; done) | (simp [*]; omega)) ?_
 refine RQ (ok_move rfl) ?_
 refine RQ (ok_neBoolS Try.underlying4 rfl rfl) ?_; refine RZ (.bool false) (by first | rfl | (simp; done) | (simp; omega) | (simp [*]; done) | (simp [*]; omega)) ?_
 refine RP rfl rfl ?_
 refine RM rfl ?_
 refine RQ (ok_move rfl) ?_
 refine RQ (ok_bin rfl rfl rfl) ?_; refine RZ (.bool true) (by first | rfl | (simp; done) | (simp; omega) | (simp [*]; done) | (simp [*]; omega)) ?_
 refine RQ (ok_move rfl) ?_
 refine RQ (ok_move rfl) ?_
 refine RQ (ok_move rfl) ?_
 refine RQ (ok_bin rfl rfl rfl) ?_; refine RZ (.bool false) (by first | rfl | (simp; done) | (simp; omega) | (simp [*]; done) | (simp [*]; omega)) ?_
 refine RQ (ok_move rfl) ?_
 refine RQ (ok_move rfl) ?_
 refine RQ (ok_bin rfl rfl rfl) ?_; refine RZ (.bool true) (by first | rfl | (simp; done) | (simp; omega) | (simp [*]; done) | (simp [*]; omega)) ?_
 refine RQ (ok_pick rfl rfl) ?_
 refine RQ (ok_pick rfl rfl) ?_
 refine RQ (ok_neBoolS Try.underlying4 rfl rfl) ?_; refine RZ (.bool false) (by first | rfl | (simp; done) | (simp; omega) | (simp [*]; done) | (simp [*]; omega)) ?_
 refine RP rfl rfl ?_
 refine RM rfl ?_
 refine RQ (ok_move rfl) ?_
 refine RQ (ok_bin rfl rfl rfl) ?_; refine RZ (.bool false) (by first | rfl | (simp; done) | (simp; omega) | (simp [*]; done) | (simp [*]; omega)) ?_
 refine RQ (ok_move rfl) ?_
 refine RK ?_
 refine RK ?_
 refine RK ?_
 refine RK ?_
 refine RunK.skippedU rfl rfl rfl rfl ?_
 refine RunK.skippedU rfl rfl rfl rfl ?_
 refine RK ?_
 refine RK ?_
 refine RunK.skippedU rfl rfl rfl rfl ?_
 refine RunK.skippedU rfl rfl rfl rfl ?_
 refine RunK.skippedU rfl rfl rfl rfl ?_
 refine RK ?_
 refine RQ (ok_pick rfl rfl) ?_
 refine RP rfl rfl ?_
 refine RM rfl ?_
 refine RQ (ok_move rfl) ?_
 refine RQ (ok_bin rfl rfl rfl) ?_; refine RZ (.bool false) (by first | rfl | (simp; done) | (simp; omega) | (simp [*]; done) | (simp [*]; omega)) ?_
 refine RQ (ok_move rfl) ?_
 refine RK ?_
 refine RK ?_
 refine RK ?_
 refine RunK.skippedU rfl rfl rfl rfl ?_
 refine RunK.skippedU rfl rfl rfl rfl ?_
 refine RK ?_
 refine RQ (ok_pick rfl rfl) ?_
 refine RP rfl rfl ?_
 refine RN ?_
 refine A.sub (KC 3 rfl (KC 5 rfl (KC 7 rfl (KC 353 rfl (KC 1000001 rfl (KC 1000022 rfl (KC 1000025 rfl (KC 1000283 rfl KN)))))))) ?_
 refine A.no rfl ?_
 refine A.skip ?_
 refine EN ?_
 refine GS ?_
 refine TN 6 ?_
 refine RM rfl ?_
 refine RM rfl ?_
 refine RS (ok_call (Of_data n h1 h2 j (by omega)) (A2 rfl rfl)) ?_
 refine RM rfl ?_
 refine RS (ok_extractV rfl rfl) ?_
 refine RS (ok_extractV rfl rfl) ?_
 refine RN ?_
 refine ⟨_, _, eff_alloc (n := 390) (d := 29) (k := 1000029) zero31 (by decide), fun b29 hb29 => ?_⟩
 have hBb29 := hb29.1
 refine TF 7 ?_
 refine RN ?_
 refine ⟨_, eff_storeA (n := 390) (s := 1000029) (size31.of (rfl)) rfl rfl (rfl) hBb29 rfl (rfl) (LV 3 rfl (LV 5 rfl (LV 7 rfl (LV 29 rfl (LV 359 rfl (LT 1000001 rfl (LT 1000022 rfl (LT 1000025 rfl (LT 1000283 rfl LN))))))))), ?_⟩
 refine TL ?_
 refine RA rfl ?_
 refine RN ?_
 refine GS ?_
 refine TL ?_
 refine RM rfl ?_
 refine RM rfl ?_
 refine RQ (ok_move rfl) ?_
 refine RQ (ok_bin rfl rfl rfl) ?_; refine RZ (.bool true) (by first | rfl | (simp; done) | (simp; omega) | (simp [*]; done) | (simp [*]; omega)) ?_
 refine RP rfl rfl ?_
 refine RM rfl ?_
 refine RQ (ok_move rfl) ?_
 refine RQ (ok_move rfl) ?_
 refine RQ (ok_call (rSectors_fn n h1 h2) (A1 rfl)) ?_
 refine RQ (ok_bin rfl rfl rfl) ?_; refine RZ (.bool true) (by first | rfl | (simp; done) | (simp; omega) | (simp [*]; done) | (simp [*]; omega)) ?_
 refine RP rfl rfl ?_
 refine RA rfl ?_
 refine RN ?_
 refine GS ?_
 refine TL ?_
 refine RM rfl ?_
 refine RBS rfl rfl rfl (.bool true) (by first | rfl | (simp; done) | (simp; omega) | (simp [*]; done) | (simp [*]; omega)) ?_
 refine RM rfl ?_
 refine RS (ok_eqBool Try.underlying4 rfl rfl) ?_; refine RZ (.bool true) (by first | rfl | (simp; done) | (simp; omega) | (simp [*]; done) | (simp [*]; omega)) ?_
 refine RM rfl ?_
 refine RQ (ok_move rfl) ?_
 refine RQ (ok_move rfl) ?_
 refine RK ?_
 refine RK ?_
 refine RK ?_
 refine RunK.skippedU rfl rfl rfl rfl ?_
 refine RunK.skippedU rfl rfl rfl rfl ?_
 refine RunK.skippedU rfl rfl rfl rfl ?_
 refine RK ?_
 refine RQ (ok_pick rfl rfl) ?_
 refine RP rfl rfl ?_
 refine RM rfl ?_
 refine RQ (ok_call (lives12_fn) Args.nil) ?_
 refine RP rfl rfl ?_
 refine RA rfl ?_
 refine RN ?_
 refine A.sub (KC 2 rfl (KC 1000001 rfl (KC 1000022 rfl (KC 1000025 rfl (KC 1000029 rfl (KC 1000283 rfl KN)))))) ?_
 refine A.ret ?_
 exact End.ret1 rfl rfl (by first | exact Le.refl _ | exact Le.old _ _)
set_option maxHeartbeats 2000000 in
theorem serr_yBo (n : Nat) (h1 : 1 ≤ n) (h2 : n ≤ 4096) (l : Nat) (hl : l ≤ hg n) (j : Nat) (hj : j < n) (s : Int) (hs : ¬ (0 ≤ s ∧ s < 2)) (hp : ¬ IsP n l j) : Fn Try.prog 7 [.v (aggV [nI (n), nI (l), nI (j), .int .i64 (s)])] (.v (.bool true)) := by
 have hh := hg_le n
 have hz := bs_zero n
 have hb0 := bs_mono (n := n) (Nat.zero_le (hg n + 1))
 refine Fn.of Try.func7 rfl (by kernel_rfl) Try.ntmps7 (by simp) (fun w => [(0, .v (aggV [nI (n), nI (l), nI (j), .int .i64 (s)]))]) (fun w => (Start.v rfl Start.nil)) fun w₀ => ?_
 refine GS ?_
 refine TN 0 ?_
 refine RN ?_
 refine ⟨_, _, eff_box (n := 390) (d := 1) (k := 1000001) rfl (by decide), fun b1 hb1 => ?_⟩
 have hBb1 := hb1.1
 refine TL ?_
 refine RA rfl ?_
 refine RN ?_
 refine GD ?_
 refine TL ?_
 refine RS (ok_index0 (0) Try.underlying58 info3 rfl rfl (rfl) (by decide)) ?_
 refine RS (ok_loadV (s := 1000001) (by decide) Try.underlying3 rfl rfl rfl (rfl)) ?_
 refine RS (ok_index0 (1) Try.underlying58 info3 rfl rfl (rfl) (by decide)) ?_
 refine RS (ok_loadV (s := 1000001) (by decide) Try.underlying3 rfl rfl rfl (rfl)) ?_
 refine RS (ok_index0 (2) Try.underlying58 info3 rfl rfl (rfl) (by decide)) ?_
 refine RS (ok_loadV (s := 1000001) (by decide) Try.underlying3 rfl rfl rfl (rfl)) ?_
 refine RS (ok_index0 (3) Try.underlying58 info3 rfl rfl (rfl) (by decide)) ?_
 refine RS (ok_loadV (s := 1000001) (by decide) Try.underlying3 rfl rfl rfl (rfl)) ?_
 refine RA rfl ?_
 refine RA rfl ?_
 refine RA rfl ?_
 refine RA rfl ?_
 refine RN ?_
 refine GS ?_
 refine TL ?_
 refine RM rfl ?_
 refine RBS rfl rfl rfl (.bool true) (by first | rfl | (simp; done) | (simp; omega) | (simp [*]; done) | (simp [*]; omega)) ?_
 refine RM rfl ?_
 refine RQ (ok_move rfl) ?_
 refine RQ (ok_bin rfl rfl rfl) ?_; refine RZ (.bool true) (by first | rfl | (simp; done) | (simp; omega) | (simp [*]; done) | (simp [*]; omega)) ?_
 refine RP rfl rfl ?_
 refine RA rfl ?_
 refine RN ?_
 refine GS ?_
 refine TL ?_
 refine RM rfl ?_
 refine RM rfl ?_
 refine RQ (ok_move rfl) ?_
 refine RQ (ok_move rfl) ?_
 refine RQ (ok_move rfl) ?_
 refine RQ (ok_call (rIs_n n h1 h2 l j hp) (A3 rfl rfl rfl)) ?_
 refine RP rfl rfl ?_
 refine RA rfl ?_
 refine RN ?_
 refine A.sub (KC 3 rfl (KC 4 rfl (KC 5 rfl (KC 6 rfl (KC 7 rfl (KC 8 rfl (KC 1000001 rfl KN))))))) ?_
 refine GS ?_
 refine TL ?_
 refine RM rfl ?_
 refine RS (ok_call (Height_ok n h1 h2) (A1 rfl)) ?_
 refine RM rfl ?_
 refine RS (ok_extractV rfl rfl) ?_
 refine RS (ok_extractV rfl rfl) ?_
 refine RA rfl ?_
 refine RA rfl ?_
 refine RN ?_
 refine GS ?_
 refine TL ?_
 refine RM rfl ?_
 refine RS (ok_call (Total_ok n h1 h2) (A1 rfl)) ?_
 refine RM rfl ?_
 refine RS (ok_extractV rfl rfl) ?_
 refine RS (ok_extractV rfl rfl) ?_
 refine RA rfl ?_
 refine RA rfl ?_
 refine RN ?_
 refine GS ?_
 refine TL ?_
 refine RM rfl ?_
 refine RS (ok_call (Sectors_ok n h1 h2) (A1 rfl)) ?_
 refine RM rfl ?_
 refine RS (ok_extractV rfl rfl) ?_
 refine RS (ok_extractV rfl rfl) ?_
 refine RA rfl ?_
 refine RA rfl ?_
 refine RN ?_
 refine A.seq ?_
 refine GS ?_
 refine TL ?_
 refine RM rfl ?_
 refine RBS rfl rfl rfl (.bool true) (by first | rfl | (simp; done) | (simp; omega) | (simp [*]; done) | (simp [*]; omega)) ?_
 refine RM rfl ?_
 refine RS (ok_neBoolS Try.underlying4 rfl rfl) ?_; refine RZ (.bool false) (by first | rfl | (simp; done) | (simp; omega) | (simp [*]; done) | (simp [*]; omega)) ?_
 refine RM rfl ?_
 refine RQ (ok_move rfl) ?_
 refine RQ (ok_bin rfl rfl rfl) ?_; refine RZ (.bool true) (by first | rfl | (simp; done) | (simp; omega) | (simp [*]; done) | (simp [*]; omega)) ?_
 refine RQ (ok_move rfl) ?_
 refine RQ (ok_neBoolS Try.underlying4 rfl rfl) ?_; refine RZ (.bool false) (by first | rfl | (simp; done) | (simp; omega) | (simp [*]; done) | (simp [*]; omega)) ?_
 refine RP rfl rfl ?_
 refine RM rfl ?_
 refine RQ (ok_move rfl) ?_
 refine RQ (ok_bin rfl rfl rfl) ?_; refine RZ (.bool true) (by first | rfl | (simp; done) | (simp; omega) | (simp [*]; done) | (simp [*]; omega)) ?_
 refine RQ (ok_move rfl) ?_
 refine RQ (ok_neBoolS Try.underlying4 rfl rfl) ?_; refine RZ (.bool false) (by first | rfl | (simp; done) | (simp; omega) | (simp [*]; done) | (simp [*]; omega)) ?_
 refine RP rfl rfl ?_
 refine RM rfl ?_
 refine RQ (ok_move rfl) ?_
 refine RQ (ok_call (Check_ok n h1 h2) (A1 rfl)) ?_
 refine RQ (ok_move rfl) ?_
 refine RQ (ok_bin rfl rfl rfl) ?_; refine RZ (.bool false) (by first | rfl | (simp; done) | (simp; omega) | (simp [*]; done) | (simp [*]; omega)) ?_
 refine RP rfl rfl ?_
 refine RM rfl ?_
 refine RQ (ok_move rfl) ?_
 refine RQ (ok_move rfl) ?_
 refine RQ (ok_bin rfl rfl rfl) ?_; refine RZ (.bool false) (by first | rfl | (simp; done) | (simp; omega) | (simp [*]; done) | (simp [*]; omega)) ?_
 refine RP rfl rfl ?_
 refine RM rfl ?_
 refine RQ (ok_move rfl) ?_
 refine RQ (ok_move rfl) ?_
 refine RQ (ok_bin rfl rfl rfl) ?_; refine RZ (.bool false) (by first | rfl | (simp; done) | (simp; omega) | (simp [*]; done) | (simp [*]; omega)) ?_
 refine RP rfl rfl ?_
 refine RM rfl ?_
 refine RQ (ok_move rfl) ?_
 refine RQ (ok_not rfl) ?_
 refine RQ (ok_move rfl) ?_
 refine RK ?_
 refine RK ?_
 refine RQ (ok_pick rfl rfl) ?_
 refine RP rfl rfl ?_
 refine RN ?_
 refine A.sub (KC 3 rfl (KC 4 rfl (KC 5 rfl (KC 6 rfl (KC 7 rfl (KC 8 rfl (KC 106 rfl (KC 1000001 rfl KN)))))))) ?_
 refine A.no rfl ?_
 refine A.skip ?_
 refine EN ?_
 refine GS ?_
 refine TL ?_
 refine RM rfl ?_
 refine RM rfl ?_
 refine RS (ok_call (Count_ok n h1 h2 l hl) (A2 rfl rfl)) ?_
 refine RM rfl ?_
 refine RS (ok_extractV rfl rfl) ?_
 refine RS (ok_extractV rfl rfl) ?_
 refine RA rfl ?_
 refine RA rfl ?_
 refine RN ?_
 refine A.seq ?_
 refine GS ?_
 refine TL ?_
 refine RM rfl ?_
 refine RBS rfl rfl rfl (.bool true) (by first | rfl | (simp; done) | (simp; omega) | (simp [*]; done) | (simp [*]; omega)) ?_
 refine RM rfl ?_
 refine RM rfl ?_
 refine RQ (ok_move rfl) ?_
 refine RQ (ok_move rfl) ?_
 refine RQ (ok_call (rIs_y n h1 h2 l 0 hl (un_pos h1 _)) (A3 rfl rfl rfl)) ?_
 refine RP rfl rfl ?_
 refine RS (ok_neBoolS Try.underlying4 rfl rfl) ?_; refine RZ (.bool false) (by first | rfl | (simp; done) | (simp; omega) | (simp [*]; done) | (simp [*]; omega)) ?_
 refine RM rfl ?_
 refine RQ (ok_move rfl) ?_
 refine RQ (ok_bin rfl rfl rfl) ?_; refine RZ (.bool false) (by first | rfl | (simp; done) | (simp; omega) | (simp [*]; done) | (simp [*]; omega)) ?_
 refine RQ (ok_move rfl) ?_
 refine RK ?_
 refine RK ?_
 refine RK ?_
 refine RunK.skippedU rfl rfl rfl rfl ?_
 refine RunK.skippedU rfl rfl rfl rfl ?_
 refine RK ?_
 refine RQ (ok_pick rfl rfl) ?_
 refine RP rfl rfl ?_
 refine RN ?_
 refine A.sub (KC 3 rfl (KC 4 rfl (KC 5 rfl (KC 6 rfl (KC 7 rfl (KC 8 rfl (KC 133 rfl (KC 1000001 rfl KN)))))))) ?_
 refine A.no rfl ?_
 refine A.skip ?_
 refine EN ?_
 refine GS ?_
 refine TL ?_
 refine RM rfl ?_
 refine RM rfl ?_
 refine RM rfl ?_
 refine RS (ok_call (Parts_no n h1 h2 l j hp) (A3 rfl rfl rfl)) ?_
 refine RM rfl ?_
 refine RS (ok_extractV rfl rfl) ?_
 refine RS (ok_extractV rfl rfl) ?_
 refine RA rfl ?_
 refine RA rfl ?_
 refine RN ?_
 refine GS ?_
 refine TL ?_
 refine RM rfl ?_
 refine RM rfl ?_
 refine RM rfl ?_
 refine RS (ok_call (place_fn (l : Int) (j : Int)) (A2 rfl rfl)) ?_
 refine RS (ok_call (Blocks_no n h1 h2 l j hp) (A2 rfl rfl)) ?_
 refine RM rfl ?_
 refine RS (ok_extractV rfl rfl) ?_
 refine RS (ok_extractV rfl rfl) ?_
 refine RS (ok_extractV rfl rfl) ?_
 refine RA rfl ?_
 refine RA rfl ?_
 refine RA rfl ?_
 refine RN ?_
 refine GS ?_
 refine TL ?_
 refine RM rfl ?_
 refine RM rfl ?_
 refine RM rfl ?_
 refine RM rfl ?_
 refine RS (ok_call (Node_no n h1 h2 l j hp s) (Args.cons rfl (Le.refl _) (A3 rfl rfl rfl))) ?_
 refine RM rfl ?_
 refine RS (ok_extractV rfl rfl) ?_
 refine RS (ok_extractV rfl rfl) ?_
 refine RA rfl ?_
 refine RA rfl ?_
 refine RN ?_
 refine A.sub (KC 3 rfl (KC 4 rfl (KC 5 rfl (KC 6 rfl (KC 7 rfl (KC 8 rfl (KC 15 rfl (KC 16 rfl (KC 17 rfl (KC 18 rfl (KC 19 rfl (KC 20 rfl (KC 21 rfl (KC 1000001 rfl KN)))))))))))))) ?_
 refine A.seq ?_
 refine GS ?_
 refine TL ?_
 refine RM rfl ?_
 refine RBS rfl rfl rfl (.bool false) (by first | rfl | (simp; done) | (simp; omega) | (simp [*]; done) | (simp [*]; omega)) ?_
 refine RM rfl ?_
 refine RS (ok_neBoolS Try.underlying4 rfl rfl) ?_; refine RZ (.bool false) (by first | rfl | (simp; done) | (simp; omega) | (simp [*]; done) | (simp [*]; omega)) ?_
 refine RM rfl ?_
 refine RQ (ok_move rfl) ?_
 refine RQ (ok_bin rfl rfl rfl) ?_; refine RZ (.bool false) (by first | rfl | (simp; done) | (simp; omega) | (simp [*]; done) | (simp [*]; omega)) ?_
 refine RQ (ok_move rfl) ?_
 refine RQ (ok_neBoolS Try.underlying4 rfl rfl) ?_; refine RZ (.bool false) (by first | rfl | (simp; done) | (simp; omega) | (simp [*]; done) | (simp [*]; omega)) ?_
 refine RP rfl rfl ?_
 refine RM rfl ?_
 refine RQ (ok_move rfl) ?_
 refine RQ (ok_bin rfl rfl rfl) ?_; refine RZ (.bool false) (by first | rfl | (simp; done) | (simp; omega) | (simp [*]; done) | (simp [*]; omega)) ?_
 refine RQ (ok_move rfl) ?_
 refine RQ (ok_move rfl) ?_
 refine RK ?_
 refine RK ?_
 refine RK ?_
 refine RunK.skippedU rfl rfl rfl rfl ?_
 refine RunK.skippedU rfl rfl rfl rfl ?_
 refine RK ?_
 refine RQ (ok_pick rfl rfl) ?_
 refine RQ (ok_neBoolS Try.underlying4 rfl rfl) ?_; refine RZ (.bool false) (by first | rfl | (simp; done) | (simp; omega) | (simp [*]; done) | (simp [*]; omega)) ?_
 refine RP rfl rfl ?_
 refine RN ?_
 refine A.no rfl ?_
 refine A.skip ?_
 refine EN ?_
 refine A.seq ?_
 refine GS ?_
 refine TL ?_
 refine RM rfl ?_
 refine RBS rfl rfl rfl (.bool true) (by first | rfl | (simp; done) | (simp; omega) | (simp [*]; done) | (simp [*]; omega)) ?_
 refine RM rfl ?_
 refine RQ (ok_move rfl) ?_
 refine RQ (ok_bin rfl rfl rfl) ?_; refine RZ (.bool false) (by first | rfl | (simp; done) | (simp; omega) | (simp [*]; done) | (simp [*]; omega)) ?_
 refine RQ (ok_move rfl) ?_
 refine RQ (ok_move rfl) ?_
 refine RQ (ok_bin rfl rfl rfl) ?_; refine RZ (.bool false) (by first | rfl | (simp; done) | (simp; omega) | (simp [*]; done) | (simp [*]; omega)) ?_
 refine RQ (ok_pick rfl rfl) ?_
 refine RQ (ok_move rfl) ?_
 refine RQ (ok_move rfl) ?_
 refine RQ (ok_bin rfl rfl rfl) ?_; refine RZ (.bool false) (by first | rfl | (simp; done) | (simp; omega) | (simp [*]; done) | (simp [*]; omega)) ?_
 refine RQ (ok_pick rfl rfl) ?_
 refine RQ (ok_move rfl) ?_
 refine RQ (ok_move rfl) ?_
 refine RQ (ok_bin rfl rfl rfl) ?_; refine RZ (.bool false) (by first | rfl | (simp; done) | (simp; omega) | (simp [*]; done) | (simp [*]; omega)) ?_
 refine RQ (ok_pick rfl rfl) ?_
 refine RQ (ok_move rfl) ?_
 refine RQ (ok_move rfl) ?_
 refine RQ (ok_bin rfl rfl rfl) ?_; refine RZ (.bool false) (by first | rfl | (simp; done) | (simp; omega) | (simp [*]; done) | (simp [*]; omega)) ?_
 refine RQ (ok_pick rfl rfl) ?_
 refine RP rfl rfl ?_
 refine RM rfl ?_
 refine RQ (ok_move rfl) ?_
 refine RQ (ok_bin rfl rfl rfl) ?_; refine RZ (.bool true) (by first | rfl | (simp; done) | (simp; omega) | (simp [*]; done) | (simp [*]; omega)) ?_
 refine RQ (ok_move rfl) ?_
 refine RQ (ok_move rfl) ?_
 refine RQ (ok_bin rfl rfl rfl) ?_; refine RZ (.bool false) (by first | rfl | (simp; done) | (simp; omega) | (simp [*]; done) | (simp [*]; omega)) ?_
 refine RQ (ok_move rfl) ?_
 refine RQ (ok_move rfl) ?_
 refine RQ (ok_bin rfl rfl rfl) ?_; refine RZ (.bool false) (by first | rfl | (simp; done) | (simp; omega) | (simp [*]; done) | (simp [*]; omega)) ?_
 refine RQ (ok_pick rfl rfl) ?_
 refine RQ (ok_pick rfl rfl) ?_
 refine RP rfl rfl ?_
 refine RN ?_
 refine A.sub (KC 3 rfl (KC 4 rfl (KC 5 rfl (KC 6 rfl (KC 7 rfl (KC 8 rfl (KC 215 rfl (KC 1000001 rfl KN)))))))) ?_
 refine A.no rfl ?_
 refine A.skip ?_
 refine EN ?_
 refine GS ?_
 refine TN 9 ?_
 refine RM rfl ?_
 refine RM rfl ?_
 refine RM rfl ?_
 refine RS (ok_call (place_fn (l : Int) (j : Int)) (A2 rfl rfl)) ?_
 refine RS (ok_call (Parent_no n h1 h2 l j hp) (A2 rfl rfl)) ?_
 refine RM rfl ?_
 refine RS (ok_extractV rfl rfl) ?_
 refine RS (ok_extractV rfl rfl) ?_
 refine RS (ok_extractV rfl rfl) ?_
 refine RN ?_
 refine ⟨_, _, eff_alloc (n := 390) (d := 22) (k := 1000022) zero45 (by decide), fun b22 hb22 => ?_⟩
 have hBb22 := hb22.1
 refine TF 10 ?_
 refine RN ?_
 refine ⟨_, eff_storeA (n := 390) (s := 1000022) (size45.of (rfl)) rfl rfl (rfl) hBb22 rfl (rfl) (LV 3 rfl (LV 4 rfl (LV 5 rfl (LV 6 rfl (LV 7 rfl (LV 8 rfl (LV 22 rfl (LV 223 rfl (LV 224 rfl (LT 1000001 rfl LN)))))))))), ?_⟩
 refine TL ?_
 refine RA rfl ?_
 refine RA rfl ?_
 refine RN ?_
 refine GS ?_
 refine TN 9 ?_
 refine RM rfl ?_
 refine RM rfl ?_
 refine RM rfl ?_
 refine RS (ok_call (place_fn (l : Int) (j : Int)) (A2 rfl rfl)) ?_
 refine RM rfl ?_
 refine RS (ok_call (Child_no n h1 h2 l j hp s) (A3 rfl rfl rfl)) ?_
 refine RM rfl ?_
 refine RS (ok_extractV rfl rfl) ?_
 refine RS (ok_extractV rfl rfl) ?_
 refine RN ?_
 refine ⟨_, _, eff_alloc (n := 390) (d := 25) (k := 1000025) zero45 (by decide), fun b25 hb25 => ?_⟩
 have hBb25 := hb25.1
 have hlt_b22_b25 : b22 < b25 := hb25.2 1000022 _ _ _ rfl
 refine TF 10 ?_
 refine RN ?_
 refine ⟨_, eff_storeA (n := 390) (s := 1000025) (size45.of (rfl)) rfl rfl (rfl) hBb25 rfl (rfl) (LV 3 rfl (LV 5 rfl (LV 6 rfl (LV 7 rfl (LV 8 rfl (LV 22 rfl (LV 23 rfl (LV 24 rfl (LV 25 rfl (LV 233 rfl (LT 1000001 rfl (LB 1000022 rfl LN)))))))))))), ?_⟩
 refine TL ?_
 refine RA rfl ?_
 refine RN ?_
 refine A.sub (KC 3 rfl (KC 5 rfl (KC 6 rfl (KC 7 rfl (KC 8 rfl (KC 22 rfl (KC 23 rfl (KC 24 rfl (KC 25 rfl (KC 26 rfl (KC 1000001 rfl (KC 1000022 rfl (KC 1000025 rfl KN))))))))))))) ?_
 refine A.seq ?_
 refine GD ?_
 refine TL ?_
 refine RM rfl ?_
 refine RS (ok_not rfl) ?_
 refine RM rfl ?_
 refine RQ (ok_move rfl) ?_
 refine RQ (ok_bin rfl rfl rfl) ?_; refine RZ (.bool false) (by first | rfl | (simp; done) | (simp; omega) | (simp [*]; done) | (simp [*]; omega)) ?_
 refine RQ (ok_move rfl) ?_
 refine RQ (ok_loadA (s := 1000022) (by decide) Try.underlying45 rfl (size45.of (rfl)) rfl rfl) ?_
 refine RQ (ok_call (place_fn 0 0) (A2 rfl rfl)) ?_
 refine RQ (ok_neqT 3 true flatP (by decide) (by kernel_rfl) (by kernel_rfl) rfl rfl (kinP _ _) (kinP _ _) (iff_of_true rfl rfl)) ?_; refine RZ (.bool false) (by first | rfl | (simp; done) | (simp; omega) | (simp [*]; done) | (simp [*]; omega)) ?_
 refine RQ (ok_pick rfl rfl) ?_
 refine RQ (ok_move rfl) ?_
 refine RQ (ok_move rfl) ?_
 refine RQ (ok_bin rfl rfl rfl) ?_; refine RZ (.bool false) (by first | rfl | (simp; done) | (simp; omega) | (simp [*]; done) | (simp [*]; omega)) ?_
 refine RQ (ok_pick rfl rfl) ?_
 refine RP rfl rfl ?_
 refine RM rfl ?_
 refine RQ (ok_move rfl) ?_
 refine RQ (ok_not rfl) ?_
 refine RQ (ok_move rfl) ?_
 refine RK ?_
 refine RK ?_
 refine RQ (ok_pick rfl rfl) ?_
 refine RQ (ok_move rfl) ?_
 refine RK ?_
 refine RK ?_
 refine RQ (ok_pick rfl rfl) ?_
 refine RQ (ok_move rfl) ?_
 refine RQ (ok_move rfl) ?_
 refine RQ (ok_bin rfl rfl rfl) ?_; refine RZ (.bool false) (by first | rfl | (simp; done) | (simp; omega) | (simp [*]; done) | (simp [*]; omega)) ?_
 refine RQ (ok_move rfl) ?_
 refine RQ (ok_loadA (s := 1000025) (by decide) Try.underlying45 rfl (size45.of (rfl)) rfl rfl) ?_
 refine RQ (ok_call (place_fn 0 0) (A2 rfl rfl)) ?_
 refine RQ (ok_neqT 3 true flatP (by decide) (by kernel_rfl) (by kernel_rfl) rfl rfl (kinP _ _) (kinP _ _) (iff_of_true rfl rfl)) ?_; refine RZ (.bool false) (by first | rfl | (simp; done) | (simp; omega) | (simp [*]; done) | (simp [*]; omega)) ?_
 refine RQ (ok_pick rfl rfl) ?_
 refine RQ (ok_pick rfl rfl) ?_
 refine RP rfl rfl ?_
 refine RN ?_
 refine A.sub (KC 3 rfl (KC 5 rfl (KC 6 rfl (KC 7 rfl (KC 269 rfl (KC 1000001 rfl (KC 1000022 rfl (KC 1000025 rfl KN)))))))) ?_
 refine A.no rfl ?_
 refine A.skip ?_
 refine EN ?_
 refine GS ?_
 refine TL ?_
 refine RM rfl ?_
 refine RM rfl ?_
 refine RQ (ok_move rfl) ?_
 refine RQ (ok_bin rfl rfl rfl) ?_; refine RZ (.bool true) (by first | rfl | (simp; done) | (simp; omega) | (simp [*]; done) | (simp [*]; omega)) ?_
 refine RP rfl rfl ?_
 refine RM rfl ?_
 refine RQ (ok_move rfl) ?_
 refine RQ (ok_move rfl) ?_
 refine RQ (ok_bin rfl rfl rfl) ?_; refine RZ (.bool true) (by first | rfl | (simp; done) | (simp; omega) | (simp [*]; done) | (simp [*]; omega)) ?_
 refine RP rfl rfl ?_
 refine RA rfl ?_
 refine RN ?_
 refine GS ?_
 refine TN 2 ?_
 refine RM rfl ?_
 refine RM rfl ?_
 refine RN ?_
 refine ⟨_, _, eff_name (n := 390) (d := 283) (k := 1000283) rfl rfl (fun B' => ok_callB (Path_fnB n h1 h2 j hj) (fun _ _ h => newD_mono _ _ h) (A2 rfl rfl)) (by decide) (by decide), fun b283 hb283 => ?_⟩
 have hBb283 := hb283.1
 have hlt_b1_b283 : b1 < b283 := hb283.2 1000001 _ _ _ rfl
 have hlt_b22_b283 : b22 < b283 := hb283.2 1000022 _ _ _ rfl
 have hlt_b25_b283 : b25 < b283 := hb283.2 1000025 _ _ _ rfl
 refine TL ?_
 refine RM rfl ?_
 refine RS (ok_extractV rfl rfl) ?_
 refine RS (ok_extractV rfl rfl) ?_
 refine RA rfl ?_
 refine RA rfl ?_
 refine RN ?_
 refine GS ?_
 refine TL ?_
 refine RM rfl ?_
 refine RM rfl ?_
 refine RS (ok_call (Group_ok n h1 h2 j hj) (A2 rfl rfl)) ?_
 refine RM rfl ?_
 refine RS (ok_extractV rfl rfl) ?_
 refine RS (ok_extractV rfl rfl) ?_
 refine RS (ok_extractV rfl rfl) ?_
 refine RA rfl ?_
 refine RN ?_
 refine A.sub (KC 3 rfl (KC 5 rfl (KC 6 rfl (KC 7 rfl (KC 16 rfl (KC 19 rfl (KC 27 rfl (KC 28 rfl (KC 1000001 rfl (KC 1000022 rfl (KC 1000025 rfl (KC 1000283 rfl KN)))))))))))) ?_
 refine GS ?_
 refine TL ?_
 refine RM rfl ?_
 refine RM rfl ?_
 refine RM rfl ?_
 refine RS (ok_call (Data_slot n h1 h2 j hj (s : Int) (by omega)) (A3 rfl rfl rfl)) ?_
 refine RM rfl ?_
 refine RS (ok_extractV rfl rfl) ?_
 refine RS (ok_extractV rfl rfl) ?_
 refine RA rfl ?_
 refine RA rfl ?_
 refine RN ?_
 refine A.seq ?_
 refine GS ?_
 refine TL ?_
 refine RM rfl ?_
 refine RBS rfl rfl rfl (.bool true) (by first | rfl | (simp; done) | (simp; omega) | (simp [*]; done) | (simp [*]; omega)) ?_
 refine RM rfl ?_
 refine RS (ok_neBoolS Try.underlying4 rfl rfl) ?_; refine RZ (.bool false) (by first | rfl | (simp; done) | (simp; omega) | (simp [*]; done) | (simp [*]; omega)) ?_
 refine RM rfl ?_
 refine RQ (ok_move rfl) ?_
 refine RQ (ok_bin rfl rfl rfl) ?_; refine RZ (.bool true) (by first | rfl | (simp; done) | (simp; omega) | (simp [*]; done) | (simp [*]; omega)) ?_
 refine RQ (ok_move rfl) ?_
 refine RQ (ok_neBoolS Try.underlying4 rfl rfl) ?_; refine RZ (.bool false) (by first | rfl | (simp; done) | (simp; omega) | (simp [*]; done) | (simp [*]; omega)) ?_
 refine RP rfl rfl ?_
 refine RM rfl ?_
 refine RQ (ok_move rfl) ?_
 refine RQ (ok_bin rfl rfl rfl) ?_; refine RZ (.bool false) (by first | rfl | (simp; done) | (simp; omega) | (simp [*]; done) | (simp [*]; omega)) ?_
 refine RQ (ok_move rfl) ?_
 refine RQ (ok_move rfl) ?_
 refine RQ (ok_move rfl) ?_
 refine RQ (ok_bin rfl rfl rfl) ?_; refine RZ (.bool false) (by first | rfl | (simp; done) | (simp; omega) | (simp [*]; done) | (simp [*]; omega)) ?_
 refine RQ (ok_move rfl) ?_
 refine RQ (ok_move rfl) ?_
 refine RQ (ok_bin rfl rfl rfl) ?_; refine RZ (.bool false) (by first | rfl | (simp; done) | (simp; omega) | (simp [*]; done) | (simp [*]; omega)) ?_
 refine RQ (ok_pick rfl rfl) ?_
 refine RQ (ok_pick rfl rfl) ?_
 refine RQ (ok_neBoolS Try.underlying4 rfl rfl) ?_; refine RZ (.bool false) (by first | rfl | (simp; done) | (simp; omega) | (simp [*]; done) | (simp [*]; omega)) ?_
 refine RP rfl rfl ?_
 refine RM rfl ?_
 refine RQ (ok_move rfl) ?_
 refine RQ (ok_bin rfl rfl rfl) ?_; refine RZ (.bool false) (by first | rfl | (simp; done) | (simp; omega) | (simp [*]; done) | (simp [*]; omega)) ?_
 refine RQ (ok_move rfl) ?_
 refine RK ?_
 refine RK ?_
 refine RK ?_
 refine RK ?_
 refine RunK.skippedU rfl rfl rfl rfl ?_
 refine RunK.skippedU rfl rfl rfl rfl ?_
 refine RK ?_
 refine RK ?_
 refine RunK.skippedU rfl rfl rfl rfl ?_
 refine RunK.skippedU rfl rfl rfl rfl ?_
 refine RunK.skippedU rfl rfl rfl rfl ?_
 refine RK ?_
 refine RQ (ok_pick rfl rfl) ?_
 refine RP rfl rfl ?_
 refine RM rfl ?_
 refine RQ (ok_move rfl) ?_
 refine RQ (ok_bin rfl rfl rfl) ?_; refine RZ (.bool true) (by first | rfl | (simp; done) | (simp; omega) | (simp [*]; done) | (simp [*]; omega)) ?_
 refine RQ (ok_move rfl) ?_
 refine RQ (ok_move rfl) ?_
 refine RQ (ok_bin rfl rfl rfl) ?_; refine RZ (.bool false) (by first | rfl | (simp; done) | (simp; omega) | (simp [*]; done) | (simp [*]; omega)) ?_
 refine RQ (ok_move rfl) ?_
 refine RQ (ok_move rfl) ?_
 refine RQ (ok_bin rfl rfl rfl) ?_; refine RZ (.bool false) (by first | rfl | (simp; done) | (simp; omega) | (simp [*]; done) | (simp [*]; omega)) ?_
 refine RQ (ok_pick rfl rfl) ?_
 refine RQ (ok_pick rfl rfl) ?_
 refine RP rfl rfl ?_
 refine RN ?_
 refine A.sub (KC 3 rfl (KC 5 rfl (KC 7 rfl (KC 353 rfl (KC 1000001 rfl (KC 1000022 rfl (KC 1000025 rfl (KC 1000283 rfl KN)))))))) ?_
 refine A.no rfl ?_
 refine A.skip ?_
 refine EN ?_
 refine GS ?_
 refine TN 6 ?_
 refine RM rfl ?_
 refine RM rfl ?_
 refine RS (ok_call (Of_data n h1 h2 j (by omega)) (A2 rfl rfl)) ?_
 refine RM rfl ?_
 refine RS (ok_extractV rfl rfl) ?_
 refine RS (ok_extractV rfl rfl) ?_
 refine RN ?_
 refine ⟨_, _, eff_alloc (n := 390) (d := 29) (k := 1000029) zero31 (by decide), fun b29 hb29 => ?_⟩
 have hBb29 := hb29.1
 refine TF 7 ?_
 refine RN ?_
 refine ⟨_, eff_storeA (n := 390) (s := 1000029) (size31.of (rfl)) rfl rfl (rfl) hBb29 rfl (rfl) (LV 3 rfl (LV 5 rfl (LV 7 rfl (LV 29 rfl (LV 359 rfl (LT 1000001 rfl (LT 1000022 rfl (LT 1000025 rfl (LT 1000283 rfl LN))))))))), ?_⟩
 refine TL ?_
 refine RA rfl ?_
 refine RN ?_
 refine GS ?_
 refine TL ?_
 refine RM rfl ?_
 refine RM rfl ?_
 refine RQ (ok_move rfl) ?_
 refine RQ (ok_bin rfl rfl rfl) ?_; refine RZ (.bool true) (by first | rfl | (simp; done) | (simp; omega) | (simp [*]; done) | (simp [*]; omega)) ?_
 refine RP rfl rfl ?_
 refine RM rfl ?_
 refine RQ (ok_move rfl) ?_
 refine RQ (ok_move rfl) ?_
 refine RQ (ok_call (rSectors_fn n h1 h2) (A1 rfl)) ?_
 refine RQ (ok_bin rfl rfl rfl) ?_; refine RZ (.bool true) (by first | rfl | (simp; done) | (simp; omega) | (simp [*]; done) | (simp [*]; omega)) ?_
 refine RP rfl rfl ?_
 refine RA rfl ?_
 refine RN ?_
 refine GS ?_
 refine TL ?_
 refine RM rfl ?_
 refine RBS rfl rfl rfl (.bool true) (by first | rfl | (simp; done) | (simp; omega) | (simp [*]; done) | (simp [*]; omega)) ?_
 refine RM rfl ?_
 refine RS (ok_eqBool Try.underlying4 rfl rfl) ?_; refine RZ (.bool true) (by first | rfl | (simp; done) | (simp; omega) | (simp [*]; done) | (simp [*]; omega)) ?_
 refine RM rfl ?_
 refine RQ (ok_move rfl) ?_
 refine RQ (ok_move rfl) ?_
 refine RK ?_
 refine RK ?_
 refine RK ?_
 refine RunK.skippedU rfl rfl rfl rfl ?_
 refine RunK.skippedU rfl rfl rfl rfl ?_
 refine RunK.skippedU rfl rfl rfl rfl ?_
 refine RK ?_
 refine RQ (ok_pick rfl rfl) ?_
 refine RP rfl rfl ?_
 refine RM rfl ?_
 refine RQ (ok_call (lives12_fn) Args.nil) ?_
 refine RP rfl rfl ?_
 refine RA rfl ?_
 refine RN ?_
 refine A.sub (KC 2 rfl (KC 1000001 rfl (KC 1000022 rfl (KC 1000025 rfl (KC 1000029 rfl (KC 1000283 rfl KN)))))) ?_
 refine A.ret ?_
 exact End.ret1 rfl rfl (by first | exact Le.refl _ | exact Le.old _ _)
set_option maxHeartbeats 2000000 in
theorem serr_yGa (n : Nat) (h1 : 1 ≤ n) (h2 : n ≤ 4096) (l : Nat) (hl : l ≤ hg n) (j : Nat) (hj : n ≤ j) (hj' : j < bs n (hg n + 1)) (s : Int) (hp : ¬ IsP n l j) : Fn Try.prog 7 [.v (aggV [nI (n), nI (l), nI (j), .int .i64 (s)])] (.v (.bool true)) := by
 have hh := hg_le n
 have hz := bs_zero n
 have hb0 := bs_mono (n := n) (Nat.zero_le (hg n + 1))
 refine Fn.of Try.func7 rfl (by kernel_rfl) Try.ntmps7 (by simp) (fun w => [(0, .v (aggV [nI (n), nI (l), nI (j), .int .i64 (s)]))]) (fun w => (Start.v rfl Start.nil)) fun w₀ => ?_
 refine GS ?_
 refine TN 0 ?_
 refine RN ?_
 refine ⟨_, _, eff_box (n := 390) (d := 1) (k := 1000001) rfl (by decide), fun b1 hb1 => ?_⟩
 have hBb1 := hb1.1
 refine TL ?_
 refine RA rfl ?_
 refine RN ?_
 refine GD ?_
 refine TL ?_
 refine RS (ok_index0 (0) Try.underlying58 info3 rfl rfl (rfl) (by decide)) ?_
 refine RS (ok_loadV (s := 1000001) (by decide) Try.underlying3 rfl rfl rfl (rfl)) ?_
 refine RS (ok_index0 (1) Try.underlying58 info3 rfl rfl (rfl) (by decide)) ?_
 refine RS (ok_loadV (s := 1000001) (by decide) Try.underlying3 rfl rfl rfl (rfl)) ?_
 refine RS (ok_index0 (2) Try.underlying58 info3 rfl rfl (rfl) (by decide)) ?_
 refine RS (ok_loadV (s := 1000001) (by decide) Try.underlying3 rfl rfl rfl (rfl)) ?_
 refine RS (ok_index0 (3) Try.underlying58 info3 rfl rfl (rfl) (by decide)) ?_
 refine RS (ok_loadV (s := 1000001) (by decide) Try.underlying3 rfl rfl rfl (rfl)) ?_
 refine RA rfl ?_
 refine RA rfl ?_
 refine RA rfl ?_
 refine RA rfl ?_
 refine RN ?_
 refine GS ?_
 refine TL ?_
 refine RM rfl ?_
 refine RBS rfl rfl rfl (.bool true) (by first | rfl | (simp; done) | (simp; omega) | (simp [*]; done) | (simp [*]; omega)) ?_
 refine RM rfl ?_
 refine RQ (ok_move rfl) ?_
 refine RQ (ok_bin rfl rfl rfl) ?_; refine RZ (.bool true) (by first | rfl | (simp; done) | (simp; omega) | (simp [*]; done) | (simp [*]; omega)) ?_
 refine RP rfl rfl ?_
 refine RA rfl ?_
 refine RN ?_
 refine GS ?_
 refine TL ?_
 refine RM rfl ?_
 refine RM rfl ?_
 refine RQ (ok_move rfl) ?_
 refine RQ (ok_move rfl) ?_
 refine RQ (ok_move rfl) ?_
 refine RQ (ok_call (rIs_n n h1 h2 l j hp) (A3 rfl rfl rfl)) ?_
 refine RP rfl rfl ?_
 refine RA rfl ?_
 refine RN ?_
 refine A.sub (KC 3 rfl (KC 4 rfl (KC 5 rfl (KC 6 rfl (KC 7 rfl (KC 8 rfl (KC 1000001 rfl KN))))))) ?_
 refine GS ?_
 refine TL ?_
 refine RM rfl ?_
 refine RS (ok_call (Height_ok n h1 h2) (A1 rfl)) ?_
 refine RM rfl ?_
 refine RS (ok_extractV rfl rfl) ?_
 refine RS (ok_extractV rfl rfl) ?_
 refine RA rfl ?_
 refine RA rfl ?_
 refine RN ?_
 refine GS ?_
 refine TL ?_
 refine RM rfl ?_
 refine RS (ok_call (Total_ok n h1 h2) (A1 rfl)) ?_
 refine RM rfl ?_
 refine RS (ok_extractV rfl rfl) ?_
 refine RS (ok_extractV rfl rfl) ?_
 refine RA rfl ?_
 refine RA rfl ?_
 refine RN ?_
 refine GS ?_
 refine TL ?_
 refine RM rfl ?_
 refine RS (ok_call (Sectors_ok n h1 h2) (A1 rfl)) ?_
 refine RM rfl ?_
 refine RS (ok_extractV rfl rfl) ?_
 refine RS (ok_extractV rfl rfl) ?_
 refine RA rfl ?_
 refine RA rfl ?_
 refine RN ?_
 refine A.seq ?_
 refine GS ?_
 refine TL ?_
 refine RM rfl ?_
 refine RBS rfl rfl rfl (.bool true) (by first | rfl | (simp; done) | (simp; omega) | (simp [*]; done) | (simp [*]; omega)) ?_
 refine RM rfl ?_
 refine RS (ok_neBoolS Try.underlying4 rfl rfl) ?_; refine RZ (.bool false) (by first | rfl | (simp; done) | (simp; omega) | (simp [*]; done) | (simp [*]; omega)) ?_
 refine RM rfl ?_
 refine RQ (ok_move rfl) ?_
 refine RQ (ok_bin rfl rfl rfl) ?_; refine RZ (.bool true) (by first | rfl | (simp; done) | (simp; omega) | (simp [*]; done) | (simp [*]; omega)) ?_
 refine RQ (ok_move rfl) ?_
 refine RQ (ok_neBoolS Try.underlying4 rfl rfl) ?_; refine RZ (.bool false) (by first | rfl | (simp; done) | (simp; omega) | (simp [*]; done) | (simp [*]; omega)) ?_
 refine RP rfl rfl ?_
 refine RM rfl ?_
 refine RQ (ok_move rfl) ?_
 refine RQ (ok_bin rfl rfl rfl) ?_; refine RZ (.bool true) (by first | rfl | (simp; done) | (simp; omega) | (simp [*]; done) | (simp [*]; omega)) ?_
 refine RQ (ok_move rfl) ?_
 refine RQ (ok_neBoolS Try.underlying4 rfl rfl) ?_; refine RZ (.bool false) (by first | rfl | (simp; done) | (simp; omega) | (simp [*]; done) | (simp [*]; omega)) ?_
 refine RP rfl rfl ?_
 refine RM rfl ?_
 refine RQ (ok_move rfl) ?_
 refine RQ (ok_call (Check_ok n h1 h2) (A1 rfl)) ?_
 refine RQ (ok_move rfl) ?_
 refine RQ (ok_bin rfl rfl rfl) ?_; refine RZ (.bool false) (by first | rfl | (simp; done) | (simp; omega) | (simp [*]; done) | (simp [*]; omega)) ?_
 refine RP rfl rfl ?_
 refine RM rfl ?_
 refine RQ (ok_move rfl) ?_
 refine RQ (ok_move rfl) ?_
 refine RQ (ok_bin rfl rfl rfl) ?_; refine RZ (.bool false) (by first | rfl | (simp; done) | (simp; omega) | (simp [*]; done) | (simp [*]; omega)) ?_
 refine RP rfl rfl ?_
 refine RM rfl ?_
 refine RQ (ok_move rfl) ?_
 refine RQ (ok_move rfl) ?_
 refine RQ (ok_bin rfl rfl rfl) ?_; refine RZ (.bool false) (by first | rfl | (simp; done) | (simp; omega) | (simp [*]; done) | (simp [*]; omega)) ?_
 refine RP rfl rfl ?_
 refine RM rfl ?_
 refine RQ (ok_move rfl) ?_
 refine RQ (ok_not rfl) ?_
 refine RQ (ok_move rfl) ?_
 refine RK ?_
 refine RK ?_
 refine RQ (ok_pick rfl rfl) ?_
 refine RP rfl rfl ?_
 refine RN ?_
 refine A.sub (KC 3 rfl (KC 4 rfl (KC 5 rfl (KC 6 rfl (KC 7 rfl (KC 8 rfl (KC 106 rfl (KC 1000001 rfl KN)))))))) ?_
 refine A.no rfl ?_
 refine A.skip ?_
 refine EN ?_
 refine GS ?_
 refine TL ?_
 refine RM rfl ?_
 refine RM rfl ?_
 refine RS (ok_call (Count_ok n h1 h2 l hl) (A2 rfl rfl)) ?_
 refine RM rfl ?_
 refine RS (ok_extractV rfl rfl) ?_
 refine RS (ok_extractV rfl rfl) ?_
 refine RA rfl ?_
 refine RA rfl ?_
 refine RN ?_
 refine A.seq ?_
 refine GS ?_
 refine TL ?_
 refine RM rfl ?_
 refine RBS rfl rfl rfl (.bool true) (by first | rfl | (simp; done) | (simp; omega) | (simp [*]; done) | (simp [*]; omega)) ?_
 refine RM rfl ?_
 refine RM rfl ?_
 refine RQ (ok_move rfl) ?_
 refine RQ (ok_move rfl) ?_
 refine RQ (ok_call (rIs_y n h1 h2 l 0 hl (un_pos h1 _)) (A3 rfl rfl rfl)) ?_
 refine RP rfl rfl ?_
 refine RS (ok_neBoolS Try.underlying4 rfl rfl) ?_; refine RZ (.bool false) (by first | rfl | (simp; done) | (simp; omega) | (simp [*]; done) | (simp [*]; omega)) ?_
 refine RM rfl ?_
 refine RQ (ok_move rfl) ?_
 refine RQ (ok_bin rfl rfl rfl) ?_; refine RZ (.bool false) (by first | rfl | (simp; done) | (simp; omega) | (simp [*]; done) | (simp [*]; omega)) ?_
 refine RQ (ok_move rfl) ?_
 refine RK ?_
 refine RK ?_
 refine RK ?_
 refine RunK.skippedU rfl rfl rfl rfl ?_
 refine RunK.skippedU rfl rfl rfl rfl ?_
 refine RK ?_
 refine RQ (ok_pick rfl rfl) ?_
 refine RP rfl rfl ?_
 refine RN ?_
 refine A.sub (KC 3 rfl (KC 4 rfl (KC 5 rfl (KC 6 rfl (KC 7 rfl (KC 8 rfl (KC 133 rfl (KC 1000001 rfl KN)))))))) ?_
 refine A.no rfl ?_
 refine A.skip ?_
 refine EN ?_
 refine GS ?_
 refine TL ?_
 refine RM rfl ?_
 refine RM rfl ?_
 refine RM rfl ?_
 refine RS (ok_call (Parts_no n h1 h2 l j hp) (A3 rfl rfl rfl)) ?_
 refine RM rfl ?_
 refine RS (ok_extractV rfl rfl) ?_
 refine RS (ok_extractV rfl rfl) ?_
 refine RA rfl ?_
 refine RA rfl ?_
 refine RN ?_
 refine GS ?_
 refine TL ?_
 refine RM rfl ?_
 refine RM rfl ?_
 refine RM rfl ?_
 refine RS (ok_call (place_fn (l : Int) (j : Int)) (A2 rfl rfl)) ?_
 refine RS (ok_call (Blocks_no n h1 h2 l j hp) (A2 rfl rfl)) ?_
 refine RM rfl ?_
 refine RS (ok_extractV rfl rfl) ?_
 refine RS (ok_extractV rfl rfl) ?_
 refine RS (ok_extractV rfl rfl) ?_
 refine RA rfl ?_
 refine RA rfl ?_
 refine RA rfl ?_
 refine RN ?_
 refine GS ?_
 refine TL ?_
 refine RM rfl ?_
 refine RM rfl ?_
 refine RM rfl ?_
 refine RM rfl ?_
 refine RS (ok_call (Node_no n h1 h2 l j hp s) (Args.cons rfl (Le.refl _) (A3 rfl rfl rfl))) ?_
 refine RM rfl ?_
 refine RS (ok_extractV rfl rfl) ?_
 refine RS (ok_extractV rfl rfl) ?_
 refine RA rfl ?_
 refine RA rfl ?_
 refine RN ?_
 refine A.sub (KC 3 rfl (KC 4 rfl (KC 5 rfl (KC 6 rfl (KC 7 rfl (KC 8 rfl (KC 15 rfl (KC 16 rfl (KC 17 rfl (KC 18 rfl (KC 19 rfl (KC 20 rfl (KC 21 rfl (KC 1000001 rfl KN)))))))))))))) ?_
 refine A.seq ?_
 refine GS ?_
 refine TL ?_
 refine RM rfl ?_
 refine RBS rfl rfl rfl (.bool false) (by first | rfl | (simp; done) | (simp; omega) | (simp [*]; done) | (simp [*]; omega)) ?_
 refine RM rfl ?_
 refine RS (ok_neBoolS Try.underlying4 rfl rfl) ?_; refine RZ (.bool false) (by first | rfl | (simp; done) | (simp; omega) | (simp [*]; done) | (simp [*]; omega)) ?_
 refine RM rfl ?_
 refine RQ (ok_move rfl) ?_
 refine RQ (ok_bin rfl rfl rfl) ?_; refine RZ (.bool false) (by first | rfl | (simp; done) | (simp; omega) | (simp [*]; done) | (simp [*]; omega)) ?_
 refine RQ (ok_move rfl) ?_
 refine RQ (ok_neBoolS Try.underlying4 rfl rfl) ?_; refine RZ (.bool false) (by first | rfl | (simp; done) | (simp; omega) | (simp [*]; done) | (simp [*]; omega)) ?_
 refine RP rfl rfl ?_
 refine RM rfl ?_
 refine RQ (ok_move rfl) ?_
 refine RQ (ok_bin rfl rfl rfl) ?_; refine RZ (.bool false) (by first | rfl | (simp; done) | (simp; omega) | (simp [*]; done) | (simp [*]; omega)) ?_
 refine RQ (ok_move rfl) ?_
 refine RQ (ok_move rfl) ?_
 refine RK ?_
 refine RK ?_
 refine RK ?_
 refine RunK.skippedU rfl rfl rfl rfl ?_
 refine RunK.skippedU rfl rfl rfl rfl ?_
 refine RK ?_
 refine RQ (ok_pick rfl rfl) ?_
 refine RQ (ok_neBoolS Try.underlying4 rfl rfl) ?_; refine RZ (.bool false) (by first | rfl | (simp; done) | (simp; omega) | (simp [*]; done) | (simp [*]; omega)) ?_
 refine RP rfl rfl ?_
 refine RN ?_
 refine A.no rfl ?_
 refine A.skip ?_
 refine EN ?_
 refine A.seq ?_
 refine GS ?_
 refine TL ?_
 refine RM rfl ?_
 refine RBS rfl rfl rfl (.bool true) (by first | rfl | (simp; done) | (simp; omega) | (simp [*]; done) | (simp [*]; omega)) ?_
 refine RM rfl ?_
 refine RQ (ok_move rfl) ?_
 refine RQ (ok_bin rfl rfl rfl) ?_; refine RZ (.bool false) (by first | rfl | (simp; done) | (simp; omega) | (simp [*]; done) | (simp [*]; omega)) ?_
 refine RQ (ok_move rfl) ?_
 refine RQ (ok_move rfl) ?_
 refine RQ (ok_bin rfl rfl rfl) ?_; refine RZ (.bool false) (by first | rfl | (simp; done) | (simp; omega) | (simp [*]; done) | (simp [*]; omega)) ?_
 refine RQ (ok_pick rfl rfl) ?_
 refine RQ (ok_move rfl) ?_
 refine RQ (ok_move rfl) ?_
 refine RQ (ok_bin rfl rfl rfl) ?_; refine RZ (.bool false) (by first | rfl | (simp; done) | (simp; omega) | (simp [*]; done) | (simp [*]; omega)) ?_
 refine RQ (ok_pick rfl rfl) ?_
 refine RQ (ok_move rfl) ?_
 refine RQ (ok_move rfl) ?_
 refine RQ (ok_bin rfl rfl rfl) ?_; refine RZ (.bool false) (by first | rfl | (simp; done) | (simp; omega) | (simp [*]; done) | (simp [*]; omega)) ?_
 refine RQ (ok_pick rfl rfl) ?_
 refine RQ (ok_move rfl) ?_
 refine RQ (ok_move rfl) ?_
 refine RQ (ok_bin rfl rfl rfl) ?_; refine RZ (.bool false) (by first | rfl | (simp; done) | (simp; omega) | (simp [*]; done) | (simp [*]; omega)) ?_
 refine RQ (ok_pick rfl rfl) ?_
 refine RP rfl rfl ?_
 refine RM rfl ?_
 refine RQ (ok_move rfl) ?_
 refine RQ (ok_bin rfl rfl rfl) ?_; refine RZ (.bool true) (by first | rfl | (simp; done) | (simp; omega) | (simp [*]; done) | (simp [*]; omega)) ?_
 refine RQ (ok_move rfl) ?_
 refine RQ (ok_move rfl) ?_
 refine RQ (ok_bin rfl rfl rfl) ?_; refine RZ (.bool false) (by first | rfl | (simp; done) | (simp; omega) | (simp [*]; done) | (simp [*]; omega)) ?_
 refine RQ (ok_move rfl) ?_
 refine RQ (ok_move rfl) ?_
 refine RQ (ok_bin rfl rfl rfl) ?_; refine RZ (.bool false) (by first | rfl | (simp; done) | (simp; omega) | (simp [*]; done) | (simp [*]; omega)) ?_
 refine RQ (ok_pick rfl rfl) ?_
 refine RQ (ok_pick rfl rfl) ?_
 refine RP rfl rfl ?_
 refine RN ?_
 refine A.sub (KC 3 rfl (KC 4 rfl (KC 5 rfl (KC 6 rfl (KC 7 rfl (KC 8 rfl (KC 215 rfl (KC 1000001 rfl KN)))))))) ?_
 refine A.no rfl ?_
 refine A.skip ?_
 refine EN ?_
 refine GS ?_
 refine TN 9 ?_
 refine RM rfl ?_
 refine RM rfl ?_
 refine RM rfl ?_
 refine RS (ok_call (place_fn (l : Int) (j : Int)) (A2 rfl rfl)) ?_
 refine RS (ok_call (Parent_no n h1 h2 l j hp) (A2 rfl rfl)) ?_
 refine RM rfl ?_
 refine RS (ok_extractV rfl rfl) ?_
 refine RS (ok_extractV rfl rfl) ?_
 refine RS (ok_extractV rfl rfl) ?_
 refine RN ?_
 refine ⟨_, _, eff_alloc (n := 390) (d := 22) (k := 1000022) zero45 (by decide), fun b22 hb22 => ?_⟩
 have hBb22 := hb22.1
 refine TF 10 ?_
 refine RN ?_
 refine ⟨_, eff_storeA (n := 390) (s := 1000022) (size45.of (rfl)) rfl rfl (rfl) hBb22 rfl (rfl) (LV 3 rfl (LV 4 rfl (LV 5 rfl (LV 6 rfl (LV 7 rfl (LV 8 rfl (LV 22 rfl (LV 223 rfl (LV 224 rfl (LT 1000001 rfl LN)))))))))), ?_⟩
 refine TL ?_
 refine RA rfl ?_
 refine RA rfl ?_
 refine RN ?_
 refine GS ?_
 refine TN 9 ?_
 refine RM rfl ?_
 refine RM rfl ?_
 refine RM rfl ?_
 refine RS (ok_call (place_fn (l : Int) (j : Int)) (A2 rfl rfl)) ?_
 refine RM rfl ?_
 refine RS (ok_call (Child_no n h1 h2 l j hp s) (A3 rfl rfl rfl)) ?_
 refine RM rfl ?_
 refine RS (ok_extractV rfl rfl) ?_
 refine RS (ok_extractV rfl rfl) ?_
 refine RN ?_
 refine ⟨_, _, eff_alloc (n := 390) (d := 25) (k := 1000025) zero45 (by decide), fun b25 hb25 => ?_⟩
 have hBb25 := hb25.1
 have hlt_b22_b25 : b22 < b25 := hb25.2 1000022 _ _ _ rfl
 refine TF 10 ?_
 refine RN ?_
 refine ⟨_, eff_storeA (n := 390) (s := 1000025) (size45.of (rfl)) rfl rfl (rfl) hBb25 rfl (rfl) (LV 3 rfl (LV 5 rfl (LV 6 rfl (LV 7 rfl (LV 8 rfl (LV 22 rfl (LV 23 rfl (LV 24 rfl (LV 25 rfl (LV 233 rfl (LT 1000001 rfl (LB 1000022 rfl LN)))))))))))), ?_⟩
 refine TL ?_
 refine RA rfl ?_
 refine RN ?_
 refine A.sub (KC 3 rfl (KC 5 rfl (KC 6 rfl (KC 7 rfl (KC 8 rfl (KC 22 rfl (KC 23 rfl (KC 24 rfl (KC 25 rfl (KC 26 rfl (KC 1000001 rfl (KC 1000022 rfl (KC 1000025 rfl KN))))))))))))) ?_
 refine A.seq ?_
 refine GD ?_
 refine TL ?_
 refine RM rfl ?_
 refine RS (ok_not rfl) ?_
 refine RM rfl ?_
 refine RQ (ok_move rfl) ?_
 refine RQ (ok_bin rfl rfl rfl) ?_; refine RZ (.bool false) (by first | rfl | (simp; done) | (simp; omega) | (simp [*]; done) | (simp [*]; omega)) ?_
 refine RQ (ok_move rfl) ?_
 refine RQ (ok_loadA (s := 1000022) (by decide) Try.underlying45 rfl (size45.of (rfl)) rfl rfl) ?_
 refine RQ (ok_call (place_fn 0 0) (A2 rfl rfl)) ?_
 refine RQ (ok_neqT 3 true flatP (by decide) (by kernel_rfl) (by kernel_rfl) rfl rfl (kinP _ _) (kinP _ _) (iff_of_true rfl rfl)) ?_; refine RZ (.bool false) (by first | rfl | (simp; done) | (simp; omega) | (simp [*]; done) | (simp [*]; omega)) ?_
 refine RQ (ok_pick rfl rfl) ?_
 refine RQ (ok_move rfl) ?_
 refine RQ (ok_move rfl) ?_
 refine RQ (ok_bin rfl rfl rfl) ?_; refine RZ (.bool false) (by first | rfl | (simp; done) | (simp; omega) | (simp [*]; done) | (simp [*]; omega)) ?_
 refine RQ (ok_pick rfl rfl) ?_
 refine RP rfl rfl ?_
 refine RM rfl ?_
 refine RQ (ok_move rfl) ?_
 refine RQ (ok_not rfl) ?_
 refine RQ (ok_move rfl) ?_
 refine RK ?_
 refine RK ?_
 refine RQ (ok_pick rfl rfl) ?_
 refine RQ (ok_move rfl) ?_
 refine RK ?_
 refine RK ?_
 refine RQ (ok_pick rfl rfl) ?_
 refine RQ (ok_move rfl) ?_
 refine RQ (ok_move rfl) ?_
 refine RQ (ok_bin rfl rfl rfl) ?_; refine RZ (.bool false) (by first | rfl | (simp; done) | (simp; omega) | (simp [*]; done) | (simp [*]; omega)) ?_
 refine RQ (ok_move rfl) ?_
 refine RQ (ok_loadA (s := 1000025) (by decide) Try.underlying45 rfl (size45.of (rfl)) rfl rfl) ?_
 refine RQ (ok_call (place_fn 0 0) (A2 rfl rfl)) ?_
 refine RQ (ok_neqT 3 true flatP (by decide) (by kernel_rfl) (by kernel_rfl) rfl rfl (kinP _ _) (kinP _ _) (iff_of_true rfl rfl)) ?_; refine RZ (.bool false) (by first | rfl | (simp; done) | (simp; omega) | (simp [*]; done) | (simp [*]; omega)) ?_
 refine RQ (ok_pick rfl rfl) ?_
 refine RQ (ok_pick rfl rfl) ?_
 refine RP rfl rfl ?_
 refine RN ?_
 refine A.sub (KC 3 rfl (KC 5 rfl (KC 6 rfl (KC 7 rfl (KC 269 rfl (KC 1000001 rfl (KC 1000022 rfl (KC 1000025 rfl KN)))))))) ?_
 refine A.no rfl ?_
 refine A.skip ?_
 refine EN ?_
 refine GS ?_
 refine TL ?_
 refine RM rfl ?_
 refine RM rfl ?_
 refine RQ (ok_move rfl) ?_
 refine RQ (ok_bin rfl rfl rfl) ?_; refine RZ (.bool true) (by first | rfl | (simp; done) | (simp; omega) | (simp [*]; done) | (simp [*]; omega)) ?_
 refine RP rfl rfl ?_
 refine RM rfl ?_
 refine RQ (ok_move rfl) ?_
 refine RQ (ok_move rfl) ?_
 refine RQ (ok_bin rfl rfl rfl) ?_; refine RZ (.bool false) (by first | rfl | (simp; done) | (simp; omega) | (simp [*]; done) | (simp [*]; omega)) ?_
 refine RP rfl rfl ?_
 refine RA rfl ?_
 refine RN ?_
 refine GS ?_
 refine TL ?_
 refine RM rfl ?_
 refine RM rfl ?_
 refine RS (ok_call (Path_no n h1 h2 j (by omega)) (A2 rfl rfl)) ?_
 refine RM rfl ?_
 refine RS (ok_extractV rfl rfl) ?_
 refine RS (ok_extractV rfl rfl) ?_
 refine RA rfl ?_
 refine RA rfl ?_
 refine RN ?_
 refine GS ?_
 refine TL ?_
 refine RM rfl ?_
 refine RM rfl ?_
 refine RS (ok_call (Group_no n h1 h2 j (by omega)) (A2 rfl rfl)) ?_
 refine RM rfl ?_
 refine RS (ok_extractV rfl rfl) ?_
 refine RS (ok_extractV rfl rfl) ?_
 refine RS (ok_extractV rfl rfl) ?_
 refine RA rfl ?_
 refine RN ?_
 refine A.sub (KC 3 rfl (KC 5 rfl (KC 6 rfl (KC 7 rfl (KC 16 rfl (KC 19 rfl (KC 27 rfl (KC 28 rfl (KC 1000001 rfl (KC 1000022 rfl (KC 1000025 rfl KN))))))))))) ?_
 refine GS ?_
 refine TL ?_
 refine RM rfl ?_
 refine RM rfl ?_
 refine RM rfl ?_
 refine RS (ok_call (Data_no n h1 h2 j (by omega) s) (A3 rfl rfl rfl)) ?_
 refine RM rfl ?_
 refine RS (ok_extractV rfl rfl) ?_
 refine RS (ok_extractV rfl rfl) ?_
 refine RA rfl ?_
 refine RA rfl ?_
 refine RN ?_
 refine A.seq ?_
 refine GS ?_
 refine TL ?_
 refine RM rfl ?_
 refine RBS rfl rfl rfl (.bool false) (by first | rfl | (simp; done) | (simp; omega) | (simp [*]; done) | (simp [*]; omega)) ?_
 refine RM rfl ?_
 refine RS (ok_neBoolS Try.underlying4 rfl rfl) ?_; refine RZ (.bool false) (by first | rfl | (simp; done) | (simp; omega) | (simp [*]; done) | (simp [*]; omega)) ?_
 refine RM rfl ?_
 refine RQ (ok_move rfl) ?_
 refine RQ (ok_bin rfl rfl rfl) ?_; refine RZ (.bool false) (by first | rfl | (simp; done) | (simp; omega) | (simp [*]; done) | (simp [*]; omega)) ?_
 refine RQ (ok_move rfl) ?_
 refine RQ (ok_neBoolS Try.underlying4 rfl rfl) ?_; refine RZ (.bool false) (by first | rfl | (simp; done) | (simp; omega) | (simp [*]; done) | (simp [*]; omega)) ?_
 refine RP rfl rfl ?_
 refine RM rfl ?_
 refine RQ (ok_move rfl) ?_
 refine RQ (ok_bin rfl rfl rfl) ?_; refine RZ (.bool false) (by first | rfl | (simp; done) | (simp; omega) | (simp [*]; done) | (simp [*]; omega)) ?_
 refine RQ (ok_move rfl) ?_
 refine RQ (ok_move rfl) ?_
 refine RK ?_
 refine RK ?_
 refine RK ?_
 refine RunK.skippedU rfl rfl rfl rfl ?_
 refine RunK.skippedU rfl rfl rfl rfl ?_
 refine RK ?_
 refine RQ (ok_pick rfl rfl) ?_
 refine RQ (ok_neBoolS Try.underlying4 rfl rfl) ?_; refine RZ (.bool false) (by first | rfl | (simp; done) | (simp; omega) | (simp [*]; done) | (simp [*]; omega)) ?_
 refine RP rfl rfl ?_
 refine RM rfl ?_
 refine RQ (ok_move rfl) ?_
 refine RQ (ok_bin rfl rfl rfl) ?_; refine RZ (.bool true) (by first | rfl | (simp; done) | (simp; omega) | (simp [*]; done) | (simp [*]; omega)) ?_
 refine RQ (ok_move rfl) ?_
 refine RQ (ok_move rfl) ?_
 refine RQ (ok_lenV Try.underlying54 rfl) ?_
 refine RQ (ok_bin rfl rfl rfl) ?_; refine RZ (.bool false) (by first | rfl | (simp; done) | (simp; omega) | (simp [*]; done) | (simp [*]; omega)) ?_
 refine RQ (ok_move rfl) ?_
 refine RQ (ok_move rfl) ?_
 refine RQ (ok_bin rfl rfl rfl) ?_; refine RZ (.bool false) (by first | rfl | (simp; done) | (simp; omega) | (simp [*]; done) | (simp [*]; omega)) ?_
 refine RQ (ok_pick rfl rfl) ?_
 refine RQ (ok_move rfl) ?_
 refine RQ (ok_move rfl) ?_
 refine RQ (ok_move rfl) ?_
 refine RQ (ok_bin rfl rfl rfl) ?_; refine RZ (.bool false) (by first | rfl | (simp; done) | (simp; omega) | (simp [*]; done) | (simp [*]; omega)) ?_
 refine RQ (ok_pick rfl rfl) ?_
 refine RQ (ok_pick rfl rfl) ?_
 refine RP rfl rfl ?_
 refine RM rfl ?_
 refine RQ (ok_move rfl) ?_
 refine RQ (ok_bin rfl rfl rfl) ?_; refine RZ (.bool true) (by first | rfl | (simp; done) | (simp; omega) | (simp [*]; done) | (simp [*]; omega)) ?_
 refine RQ (ok_move rfl) ?_
 refine RQ (ok_move rfl) ?_
 refine RQ (ok_bin rfl rfl rfl) ?_; refine RZ (.bool false) (by first | rfl | (simp; done) | (simp; omega) | (simp [*]; done) | (simp [*]; omega)) ?_
 refine RQ (ok_move rfl) ?_
 refine RQ (ok_move rfl) ?_
 refine RQ (ok_bin rfl rfl rfl) ?_; refine RZ (.bool false) (by first | rfl | (simp; done) | (simp; omega) | (simp [*]; done) | (simp [*]; omega)) ?_
 refine RQ (ok_pick rfl rfl) ?_
 refine RQ (ok_pick rfl rfl) ?_
 refine RP rfl rfl ?_
 refine RN ?_
 refine A.sub (KC 3 rfl (KC 5 rfl (KC 7 rfl (KC 353 rfl (KC 1000001 rfl (KC 1000022 rfl (KC 1000025 rfl KN))))))) ?_
 refine A.no rfl ?_
 refine A.skip ?_
 refine EN ?_
 refine GS ?_
 refine TN 6 ?_
 refine RM rfl ?_
 refine RM rfl ?_
 refine RS (ok_call (Of_any n h1 h2 j hj') (A2 rfl rfl)) ?_
 refine RM rfl ?_
 refine RS (ok_extractV rfl rfl) ?_
 refine RS (ok_extractV rfl rfl) ?_
 refine RN ?_
 refine ⟨_, _, eff_alloc (n := 390) (d := 29) (k := 1000029) zero31 (by decide), fun b29 hb29 => ?_⟩
 have hBb29 := hb29.1
 refine TF 7 ?_
 refine RN ?_
 refine ⟨_, eff_storeA (n := 390) (s := 1000029) (size31.of (ofR_len _ _)) rfl rfl (ofR_one _ _) hBb29 rfl (by rw [ofR_len]; rfl) (LV 3 rfl (LV 5 rfl (LV 7 rfl (LV 29 rfl (LV 359 rfl (LT 1000001 rfl (LT 1000022 rfl (LT 1000025 rfl LN)))))))), ?_⟩
 refine TL ?_
 refine RA rfl ?_
 refine RN ?_
 refine GS ?_
 refine TL ?_
 refine RM rfl ?_
 refine RM rfl ?_
 refine RQ (ok_move rfl) ?_
 refine RQ (ok_bin rfl rfl rfl) ?_; refine RZ (.bool true) (by first | rfl | (simp; done) | (simp; omega) | (simp [*]; done) | (simp [*]; omega)) ?_
 refine RP rfl rfl ?_
 refine RM rfl ?_
 refine RQ (ok_move rfl) ?_
 refine RQ (ok_move rfl) ?_
 refine RQ (ok_call (rSectors_fn n h1 h2) (A1 rfl)) ?_
 refine RQ (ok_bin rfl rfl rfl) ?_; refine RZ (.bool true) (by first | rfl | (simp; done) | (simp; omega) | (simp [*]; done) | (simp [*]; omega)) ?_
 refine RP rfl rfl ?_
 refine RA rfl ?_
 refine RN ?_
 refine GS ?_
 refine TL ?_
 refine RM rfl ?_
 refine RBS rfl rfl rfl (.bool true) (by first | rfl | (simp; done) | (simp; omega) | (simp [*]; done) | (simp [*]; omega)) ?_
 refine RM rfl ?_
 refine RS (ok_eqBool Try.underlying4 rfl rfl) ?_; refine RZ (.bool true) (by first | rfl | (simp; done) | (simp; omega) | (simp [*]; done) | (simp [*]; omega)) ?_
 refine RM rfl ?_
 refine RQ (ok_move rfl) ?_
 refine RQ (ok_move rfl) ?_
 refine RK ?_
 refine RK ?_
 refine RK ?_
 refine RunK.skippedU rfl rfl rfl rfl ?_
 refine RunK.skippedU rfl rfl rfl rfl ?_
 refine RunK.skippedU rfl rfl rfl rfl ?_
 refine RK ?_
 refine RQ (ok_pick rfl rfl) ?_
 refine RP rfl rfl ?_
 refine RM rfl ?_
 refine RQ (ok_call (lives12_fn) Args.nil) ?_
 refine RP rfl rfl ?_
 refine RA rfl ?_
 refine RN ?_
 refine A.sub (KC 2 rfl (KC 1000001 rfl (KC 1000022 rfl (KC 1000025 rfl (KC 1000029 rfl KN))))) ?_
 refine A.ret ?_
 exact End.ret1 rfl rfl (by first | exact Le.refl _ | exact Le.old _ _)
set_option maxHeartbeats 2000000 in
theorem serr_yMa (n : Nat) (h1 : 1 ≤ n) (h2 : n ≤ 4096) (l : Nat) (hl : l ≤ hg n) (j : Int) (hj : j < 0) (s : Int) (hp : ¬ IsP n l j) : Fn Try.prog 7 [.v (aggV [nI (n), nI (l), .int .i64 (j), .int .i64 (s)])] (.v (.bool true)) := by
 have hh := hg_le n
 have hz := bs_zero n
 have hb0 := bs_mono (n := n) (Nat.zero_le (hg n + 1))
 refine Fn.of Try.func7 rfl (by kernel_rfl) Try.ntmps7 (by simp) (fun w => [(0, .v (aggV [nI (n), nI (l), .int .i64 (j), .int .i64 (s)]))]) (fun w => (Start.v rfl Start.nil)) fun w₀ => ?_
 refine GS ?_
 refine TN 0 ?_
 refine RN ?_
 refine ⟨_, _, eff_box (n := 390) (d := 1) (k := 1000001) rfl (by decide), fun b1 hb1 => ?_⟩
 have hBb1 := hb1.1
 refine TL ?_
 refine RA rfl ?_
 refine RN ?_
 refine GD ?_
 refine TL ?_
 refine RS (ok_index0 (0) Try.underlying58 info3 rfl rfl (rfl) (by decide)) ?_
 refine RS (ok_loadV (s := 1000001) (by decide) Try.underlying3 rfl rfl rfl (rfl)) ?_
 refine RS (ok_index0 (1) Try.underlying58 info3 rfl rfl (rfl) (by decide)) ?_
 refine RS (ok_loadV (s := 1000001) (by decide) Try.underlying3 rfl rfl rfl (rfl)) ?_
 refine RS (ok_index0 (2) Try.underlying58 info3 rfl rfl (rfl) (by decide)) ?_
 refine RS (ok_loadV (s := 1000001) (by decide) Try.underlying3 rfl rfl rfl (rfl)) ?_
 refine RS (ok_index0 (3) Try.underlying58 info3 rfl rfl (rfl) (by decide)) ?_
 refine RS (ok_loadV (s := 1000001) (by decide) Try.underlying3 rfl rfl rfl (rfl)) ?_
 refine RA rfl ?_
 refine RA rfl ?_
 refine RA rfl ?_
 refine RA rfl ?_
 refine RN ?_
 refine GS ?_
 refine TL ?_
 refine RM rfl ?_
 refine RBS rfl rfl rfl (.bool true) (by first | rfl | (simp; done) | (simp; omega) | (simp [*]; done) | (simp [*]; omega)) ?_
 refine RM rfl ?_
 refine RQ (ok_move rfl) ?_
 refine RQ (ok_bin rfl rfl rfl) ?_; refine RZ (.bool true) (by first | rfl | (simp; done) | (simp; omega) | (simp [*]; done) | (simp [*]; omega)) ?_
 refine RP rfl rfl ?_
 refine RA rfl ?_
 refine RN ?_
 refine GS ?_
 refine TL ?_
 refine RM rfl ?_
 refine RM rfl ?_
 refine RQ (ok_move rfl) ?_
 refine RQ (ok_move rfl) ?_
 refine RQ (ok_move rfl) ?_
 refine RQ (ok_call (rIs_n n h1 h2 l j hp) (A3 rfl rfl rfl)) ?_
 refine RP rfl rfl ?_
 refine RA rfl ?_
 refine RN ?_
 refine A.sub (KC 3 rfl (KC 4 rfl (KC 5 rfl (KC 6 rfl (KC 7 rfl (KC 8 rfl (KC 1000001 rfl KN))))))) ?_
 refine GS ?_
 refine TL ?_
 refine RM rfl ?_
 refine RS (ok_call (Height_ok n h1 h2) (A1 rfl)) ?_
 refine RM rfl ?_
 refine RS (ok_extractV rfl rfl) ?_
 refine RS (ok_extractV rfl rfl) ?_
 refine RA rfl ?_
 refine RA rfl ?_
 refine RN ?_
 refine GS ?_
 refine TL ?_
 refine RM rfl ?_
 refine RS (ok_call (Total_ok n h1 h2) (A1 rfl)) ?_
 refine RM rfl ?_
 refine RS (ok_extractV rfl rfl) ?_
 refine RS (ok_extractV rfl rfl) ?_
 refine RA rfl ?_
 refine RA rfl ?_
 refine RN ?_
 refine GS ?_
 refine TL ?_
 refine RM rfl ?_
 refine RS (ok_call (Sectors_ok n h1 h2) (A1 rfl)) ?_
 refine RM rfl ?_
 refine RS (ok_extractV rfl rfl) ?_
 refine RS (ok_extractV rfl rfl) ?_
 refine RA rfl ?_
 refine RA rfl ?_
 refine RN ?_
 refine A.seq ?_
 refine GS ?_
 refine TL ?_
 refine RM rfl ?_
 refine RBS rfl rfl rfl (.bool true) (by first | rfl | (simp; done) | (simp; omega) | (simp [*]; done) | (simp [*]; omega)) ?_
 refine RM rfl ?_
 refine RS (ok_neBoolS Try.underlying4 rfl rfl) ?_; refine RZ (.bool false) (by first | rfl | (simp; done) | (simp; omega) | (simp [*]; done) | (simp [*]; omega)) ?_
 refine RM rfl ?_
 refine RQ (ok_move rfl) ?_
 refine RQ (ok_bin rfl rfl rfl) ?_; refine RZ (.bool true) (by first | rfl | (simp; done) | (simp; omega) | (simp [*]; done) | (simp [*]; omega)) ?_
 refine RQ (ok_move rfl) ?_
 refine RQ (ok_neBoolS Try.underlying4 rfl rfl) ?_; refine RZ (.bool false) (by first | rfl | (simp; done) | (simp; omega) | (simp [*]; done) | (simp [*]; omega)) ?_
 refine RP rfl rfl ?_
 refine RM rfl ?_
 refine RQ (ok_move rfl) ?_
 refine RQ (ok_bin rfl rfl rfl) ?_; refine RZ (.bool true) (by first | rfl | (simp; done) | (simp; omega) | (simp [*]; done) | (simp [*]; omega)) ?_
 refine RQ (ok_move rfl) ?_
 refine RQ (ok_neBoolS Try.underlying4 rfl rfl) ?_; refine RZ (.bool false) (by first | rfl | (simp; done) | (simp; omega) | (simp [*]; done) | (simp [*]; omega)) ?_
 refine RP rfl rfl ?_
 refine RM rfl ?_
 refine RQ (ok_move rfl) ?_
 refine RQ (ok_call (Check_ok n h1 h2) (A1 rfl)) ?_
 refine RQ (ok_move rfl) ?_
 refine RQ (ok_bin rfl rfl rfl) ?_; refine RZ (.bool false) (by first | rfl | (simp; done) | (simp; omega) | (simp [*]; done) | (simp [*]; omega)) ?_
 refine RP rfl rfl ?_
 refine RM rfl ?_
 refine RQ (ok_move rfl) ?_
 refine RQ (ok_move rfl) ?_
 refine RQ (ok_bin rfl rfl rfl) ?_; refine RZ (.bool false) (by first | rfl | (simp; done) | (simp; omega) | (simp [*]; done) | (simp [*]; omega)) ?_
 refine RP rfl rfl ?_
 refine RM rfl ?_
 refine RQ (ok_move rfl) ?_
 refine RQ (ok_move rfl) ?_
 refine RQ (ok_bin rfl rfl rfl) ?_; refine RZ (.bool false) (by first | rfl | (simp; done) | (simp; omega) | (simp [*]; done) | (simp [*]; omega)) ?_
 refine RP rfl rfl ?_
 refine RM rfl ?_
 refine RQ (ok_move rfl) ?_
 refine RQ (ok_not rfl) ?_
 refine RQ (ok_move rfl) ?_
 refine RK ?_
 refine RK ?_
 refine RQ (ok_pick rfl rfl) ?_
 refine RP rfl rfl ?_
 refine RN ?_
 refine A.sub (KC 3 rfl (KC 4 rfl (KC 5 rfl (KC 6 rfl (KC 7 rfl (KC 8 rfl (KC 106 rfl (KC 1000001 rfl KN)))))))) ?_
 refine A.no rfl ?_
 refine A.skip ?_
 refine EN ?_
 refine GS ?_
 refine TL ?_
 refine RM rfl ?_
 refine RM rfl ?_
 refine RS (ok_call (Count_ok n h1 h2 l hl) (A2 rfl rfl)) ?_
 refine RM rfl ?_
 refine RS (ok_extractV rfl rfl) ?_
 refine RS (ok_extractV rfl rfl) ?_
 refine RA rfl ?_
 refine RA rfl ?_
 refine RN ?_
 refine A.seq ?_
 refine GS ?_
 refine TL ?_
 refine RM rfl ?_
 refine RBS rfl rfl rfl (.bool true) (by first | rfl | (simp; done) | (simp; omega) | (simp [*]; done) | (simp [*]; omega)) ?_
 refine RM rfl ?_
 refine RM rfl ?_
 refine RQ (ok_move rfl) ?_
 refine RQ (ok_move rfl) ?_
 refine RQ (ok_call (rIs_y n h1 h2 l 0 hl (un_pos h1 _)) (A3 rfl rfl rfl)) ?_
 refine RP rfl rfl ?_
 refine RS (ok_neBoolS Try.underlying4 rfl rfl) ?_; refine RZ (.bool false) (by first | rfl | (simp; done) | (simp; omega) | (simp [*]; done) | (simp [*]; omega)) ?_
 refine RM rfl ?_
 refine RQ (ok_move rfl) ?_
 refine RQ (ok_bin rfl rfl rfl) ?_; refine RZ (.bool false) (by first | rfl | (simp; done) | (simp; omega) | (simp [*]; done) | (simp [*]; omega)) ?_
 refine RQ (ok_move rfl) ?_
 refine RK ?_
 refine RK ?_
 refine RK ?_
 refine RunK.skippedU rfl rfl rfl rfl ?_
 refine RunK.skippedU rfl rfl rfl rfl ?_
 refine RK ?_
 refine RQ (ok_pick rfl rfl) ?_
 refine RP rfl rfl ?_
 refine RN ?_
 refine A.sub (KC 3 rfl (KC 4 rfl (KC 5 rfl (KC 6 rfl (KC 7 rfl (KC 8 rfl (KC 133 rfl (KC 1000001 rfl KN)))))))) ?_
 refine A.no rfl ?_
 refine A.skip ?_
 refine EN ?_
 refine GS ?_
 refine TL ?_
 refine RM rfl ?_
 refine RM rfl ?_
 refine RM rfl ?_
 refine RS (ok_call (Parts_no n h1 h2 l j hp) (A3 rfl rfl rfl)) ?_
 refine RM rfl ?_
 refine RS (ok_extractV rfl rfl) ?_
 refine RS (ok_extractV rfl rfl) ?_
 refine RA rfl ?_
 refine RA rfl ?_
 refine RN ?_
 refine GS ?_
 refine TL ?_
 refine RM rfl ?_
 refine RM rfl ?_
 refine RM rfl ?_
 refine RS (ok_call (place_fn (l : Int) (j : Int)) (A2 rfl rfl)) ?_
 refine RS (ok_call (Blocks_no n h1 h2 l j hp) (A2 rfl rfl)) ?_
 refine RM rfl ?_
 refine RS (ok_extractV rfl rfl) ?_
 refine RS (ok_extractV rfl rfl) ?_
 refine RS (ok_extractV rfl rfl) ?_
 refine RA rfl ?_
 refine RA rfl ?_
 refine RA rfl ?_
 refine RN ?_
 refine GS ?_
 refine TL ?_
 refine RM rfl ?_
 refine RM rfl ?_
 refine RM rfl ?_
 refine RM rfl ?_
 refine RS (ok_call (Node_no n h1 h2 l j hp s) (Args.cons rfl (Le.refl _) (A3 rfl rfl rfl))) ?_
 refine RM rfl ?_
 refine RS (ok_extractV rfl rfl) ?_
 refine RS (ok_extractV rfl rfl) ?_
 refine RA rfl ?_
 refine RA rfl ?_
 refine RN ?_
 refine A.sub (KC 3 rfl (KC 4 rfl (KC 5 rfl (KC 6 rfl (KC 7 rfl (KC 8 rfl (KC 15 rfl (KC 16 rfl (KC 17 rfl (KC 18 rfl (KC 19 rfl (KC 20 rfl (KC 21 rfl (KC 1000001 rfl KN)))))))))))))) ?_
 refine A.seq ?_
 refine GS ?_
 refine TL ?_
 refine RM rfl ?_
 refine RBS rfl rfl rfl (.bool false) (by first | rfl | (simp; done) | (simp; omega) | (simp [*]; done) | (simp [*]; omega)) ?_
 refine RM rfl ?_
 refine RS (ok_neBoolS Try.underlying4 rfl rfl) ?_; refine RZ (.bool false) (by first | rfl | (simp; done) | (simp; omega) | (simp [*]; done) | (simp [*]; omega)) ?_
 refine RM rfl ?_
 refine RQ (ok_move rfl) ?_
 refine RQ (ok_bin rfl rfl rfl) ?_; refine RZ (.bool false) (by first | rfl | (simp; done) | (simp; omega) | (simp [*]; done) | (simp [*]; omega)) ?_
 refine RQ (ok_move rfl) ?_
 refine RQ (ok_neBoolS Try.underlying4 rfl rfl) ?_; refine RZ (.bool false) (by first | rfl | (simp; done) | (simp; omega) | (simp [*]; done) | (simp [*]; omega)) ?_
 refine RP rfl rfl ?_
 refine RM rfl ?_
 refine RQ (ok_move rfl) ?_
 refine RQ (ok_bin rfl rfl rfl) ?_; refine RZ (.bool false) (by first | rfl | (simp; done) | (simp; omega) | (simp [*]; done) | (simp [*]; omega)) ?_
 refine RQ (ok_move rfl) ?_
 refine RQ (ok_move rfl) ?_
 refine RK ?_
 refine RK ?_
 refine RK ?_
 refine RunK.skippedU rfl rfl rfl rfl ?_
 refine RunK.skippedU rfl rfl rfl rfl ?_
 refine RK ?_
 refine RQ (ok_pick rfl rfl) ?_
 refine RQ (ok_neBoolS Try.underlying4 rfl rfl) ?_; refine RZ (.bool false) (by first | rfl | (simp; done) | (simp; omega) | (simp [*]; done) | (simp [*]; omega)) ?_
 refine RP rfl rfl ?_
 refine RN ?_
 refine A.no rfl ?_
 refine A.skip ?_
 refine EN ?_
 refine A.seq ?_
 refine GS ?_
 refine TL ?_
 refine RM rfl ?_
 refine RBS rfl rfl rfl (.bool true) (by first | rfl | (simp; done) | (simp; omega) | (simp [*]; done) | (simp [*]; omega)) ?_
 refine RM rfl ?_
 refine RQ (ok_move rfl) ?_
 refine RQ (ok_bin rfl rfl rfl) ?_; refine RZ (.bool false) (by first | rfl | (simp; done) | (simp; omega) | (simp [*]; done) | (simp [*]; omega)) ?_
 refine RQ (ok_move rfl) ?_
 refine RQ (ok_move rfl) ?_
 refine RQ (ok_bin rfl rfl rfl) ?_; refine RZ (.bool false) (by first | rfl | (simp; done) | (simp; omega) | (simp [*]; done) | (simp [*]; omega)) ?_
 refine RQ (ok_pick rfl rfl) ?_
 refine RQ (ok_move rfl) ?_
 refine RQ (ok_move rfl) ?_
 refine RQ (ok_bin rfl rfl rfl) ?_; refine RZ (.bool false) (by first | rfl | (simp; done) | (simp; omega) | (simp [*]; done) | (simp [*]; omega)) ?_
 refine RQ (ok_pick rfl rfl) ?_
 refine RQ (ok_move rfl) ?_
 refine RQ (ok_move rfl) ?_
 refine RQ (ok_bin rfl rfl rfl) ?_; refine RZ (.bool false) (by first | rfl | (simp; done) | (simp; omega) | (simp [*]; done) | (simp [*]; omega)) ?_
 refine RQ (ok_pick rfl rfl) ?_
 refine RQ (ok_move rfl) ?_
 refine RQ (ok_move rfl) ?_
 refine RQ (ok_bin rfl rfl rfl) ?_; refine RZ (.bool false) (by first | rfl | (simp; done) | (simp; omega) | (simp [*]; done) | (simp [*]; omega)) ?_
 refine RQ (ok_pick rfl rfl) ?_
 refine RP rfl rfl ?_
 refine RM rfl ?_
 refine RQ (ok_move rfl) ?_
 refine RQ (ok_bin rfl rfl rfl) ?_; refine RZ (.bool true) (by first | rfl | (simp; done) | (simp; omega) | (simp [*]; done) | (simp [*]; omega)) ?_
 refine RQ (ok_move rfl) ?_
 refine RQ (ok_move rfl) ?_
 refine RQ (ok_bin rfl rfl rfl) ?_; refine RZ (.bool false) (by first | rfl | (simp; done) | (simp; omega) | (simp [*]; done) | (simp [*]; omega)) ?_
 refine RQ (ok_move rfl) ?_
 refine RQ (ok_move rfl) ?_
 refine RQ (ok_bin rfl rfl rfl) ?_; refine RZ (.bool false) (by first | rfl | (simp; done) | (simp; omega) | (simp [*]; done) | (simp [*]; omega)) ?_
 refine RQ (ok_pick rfl rfl) ?_
 refine RQ (ok_pick rfl rfl) ?_
 refine RP rfl rfl ?_
 refine RN ?_
 refine A.sub (KC 3 rfl (KC 4 rfl (KC 5 rfl (KC 6 rfl (KC 7 rfl (KC 8 rfl (KC 215 rfl (KC 1000001 rfl KN)))))))) ?_
 refine A.no rfl ?_
 refine A.skip ?_
 refine EN ?_
 refine GS ?_
 refine TN 9 ?_
 refine RM rfl ?_
 refine RM rfl ?_
 refine RM rfl ?_
 refine RS (ok_call (place_fn (l : Int) (j : Int)) (A2 rfl rfl)) ?_
 refine RS (ok_call (Parent_no n h1 h2 l j hp) (A2 rfl rfl)) ?_
 refine RM rfl ?_
 refine RS (ok_extractV rfl rfl) ?_
 refine RS (ok_extractV rfl rfl) ?_
 refine RS (ok_extractV rfl rfl) ?_
 refine RN ?_
 refine ⟨_, _, eff_alloc (n := 390) (d := 22) (k := 1000022) zero45 (by decide), fun b22 hb22 => ?_⟩
 have hBb22 := hb22.1
 refine TF 10 ?_
 refine RN ?_
 refine ⟨_, eff_storeA (n := 390) (s := 1000022) (size45.of (rfl)) rfl rfl (rfl) hBb22 rfl (rfl) (LV 3 rfl (LV 4 rfl (LV 5 rfl (LV 6 rfl (LV 7 rfl (LV 8 rfl (LV 22 rfl (LV 223 rfl (LV 224 rfl (LT 1000001 rfl LN)))))))))), ?_⟩
 refine TL ?_
 refine RA rfl ?_
 refine RA rfl ?_
 refine RN ?_
 refine GS ?_
 refine TN 9 ?_
 refine RM rfl ?_
 refine RM rfl ?_
 refine RM rfl ?_
 refine RS (ok_call (place_fn (l : Int) (j : Int)) (A2 rfl rfl)) ?_
 refine RM rfl ?_
 refine RS (ok_call (Child_no n h1 h2 l j hp s) (A3 rfl rfl rfl)) ?_
 refine RM rfl ?_
 refine RS (ok_extractV rfl rfl) ?_
 refine RS (ok_extractV rfl rfl) ?_
 refine RN ?_
 refine ⟨_, _, eff_alloc (n := 390) (d := 25) (k := 1000025) zero45 (by decide), fun b25 hb25 => ?_⟩
 have hBb25 := hb25.1
 have hlt_b22_b25 : b22 < b25 := hb25.2 1000022 _ _ _ rfl
 refine TF 10 ?_
 refine RN ?_
 refine ⟨_, eff_storeA (n := 390) (s := 1000025) (size45.of (rfl)) rfl rfl (rfl) hBb25 rfl (rfl) (LV 3 rfl (LV 5 rfl (LV 6 rfl (LV 7 rfl (LV 8 rfl (LV 22 rfl (LV 23 rfl (LV 24 rfl (LV 25 rfl (LV 233 rfl (LT 1000001 rfl (LB 1000022 rfl LN)))))))))))), ?_⟩
 refine TL ?_
 refine RA rfl ?_
 refine RN ?_
 refine A.sub (KC 3 rfl (KC 5 rfl (KC 6 rfl (KC 7 rfl (KC 8 rfl (KC 22 rfl (KC 23 rfl (KC 24 rfl (KC 25 rfl (KC 26 rfl (KC 1000001 rfl (KC 1000022 rfl (KC 1000025 rfl KN))))))))))))) ?_
 refine A.seq ?_
 refine GD ?_
 refine TL ?_
 refine RM rfl ?_
 refine RS (ok_not rfl) ?_
 refine RM rfl ?_
 refine RQ (ok_move rfl) ?_
 refine RQ (ok_bin rfl rfl rfl) ?_; refine RZ (.bool false) (by first | rfl | (simp; done) | (simp; omega) | (simp [*]; done) | (simp [*]; omega)) ?_
 refine RQ (ok_move rfl) ?_
 refine RQ (ok_loadA (s := 1000022) (by decide) Try.underlying45 rfl (size45.of (rfl)) rfl rfl) ?_
 refine RQ (ok_call (place_fn 0 0) (A2 rfl rfl)) ?_
 refine RQ (ok_neqT 3 true flatP (by decide) (by kernel_rfl) (by kernel_rfl) rfl rfl (kinP _ _) (kinP _ _) (iff_of_true rfl rfl)) ?_; refine RZ (.bool false) (by first | rfl | (simp; done) | (simp; omega) | (simp [*]; done) | (simp [*]; omega)) ?_
 refine RQ (ok_pick rfl rfl) ?_
 refine RQ (ok_move rfl) ?_
 refine RQ (ok_move rfl) ?_
 refine RQ (ok_bin rfl rfl rfl) ?_; refine RZ (.bool false) (by first | rfl | (simp; done) | (simp; omega) | (simp [*]; done) | (simp [*]; omega)) ?_
 refine RQ (ok_pick rfl rfl) ?_
 refine RP rfl rfl ?_
 refine RM rfl ?_
 refine RQ (ok_move rfl) ?_
 refine RQ (ok_not rfl) ?_
 refine RQ (ok_move rfl) ?_
 refine RK ?_
 refine RK ?_
 refine RQ (ok_pick rfl rfl) ?_
 refine RQ (ok_move rfl) ?_
 refine RK ?_
 refine RK ?_
 refine RQ (ok_pick rfl rfl) ?_
 refine RQ (ok_move rfl) ?_
 refine RQ (ok_move rfl) ?_
 refine RQ (ok_bin rfl rfl rfl) ?_; refine RZ (.bool false) (by first | rfl | (simp; done) | (simp; omega) | (simp [*]; done) | (simp [*]; omega)) ?_
 refine RQ (ok_move rfl) ?_
 refine RQ (ok_loadA (s := 1000025) (by decide) Try.underlying45 rfl (size45.of (rfl)) rfl rfl) ?_
 refine RQ (ok_call (place_fn 0 0) (A2 rfl rfl)) ?_
 refine RQ (ok_neqT 3 true flatP (by decide) (by kernel_rfl) (by kernel_rfl) rfl rfl (kinP _ _) (kinP _ _) (iff_of_true rfl rfl)) ?_; refine RZ (.bool false) (by first | rfl | (simp; done) | (simp; omega) | (simp [*]; done) | (simp [*]; omega)) ?_
 refine RQ (ok_pick rfl rfl) ?_
 refine RQ (ok_pick rfl rfl) ?_
 refine RP rfl rfl ?_
 refine RN ?_
 refine A.sub (KC 3 rfl (KC 5 rfl (KC 6 rfl (KC 7 rfl (KC 269 rfl (KC 1000001 rfl (KC 1000022 rfl (KC 1000025 rfl KN)))))))) ?_
 refine A.no rfl ?_
 refine A.skip ?_
 refine EN ?_
 refine GS ?_
 refine TL ?_
 refine RM rfl ?_
 refine RM rfl ?_
 refine RQ (ok_move rfl) ?_
 refine RQ (ok_bin rfl rfl rfl) ?_; refine RZ (.bool false) (by first | rfl | (simp; done) | (simp; omega) | (simp [*]; done) | (simp [*]; omega)) ?_
 refine RP rfl rfl ?_
 refine RM rfl ?_
 refine RK ?_
 refine RK ?_
 refine RK ?_
 refine RP rfl rfl ?_
 refine RA rfl ?_
 refine RN ?_
 refine GS ?_
 refine TL ?_
 refine RM rfl ?_
 refine RM rfl ?_
 refine RS (ok_call (Path_no n h1 h2 j (by omega)) (A2 rfl rfl)) ?_
 refine RM rfl ?_
 refine RS (ok_extractV rfl rfl) ?_
 refine RS (ok_extractV rfl rfl) ?_
 refine RA rfl ?_
 refine RA rfl ?_
 refine RN ?_
 refine GS ?_
 refine TL ?_
 refine RM rfl ?_
 refine RM rfl ?_
 refine RS (ok_call (Group_no n h1 h2 j (by omega)) (A2 rfl rfl)) ?_
 refine RM rfl ?_
 refine RS (ok_extractV rfl rfl) ?_
 refine RS (ok_extractV rfl rfl) ?_
 refine RS (ok_extractV rfl rfl) ?_
 refine RA rfl ?_
 refine RN ?_
 refine A.sub (KC 3 rfl (KC 5 rfl (KC 6 rfl (KC 7 rfl (KC 16 rfl (KC 19 rfl (KC 27 rfl (KC 28 rfl (KC 1000001 rfl (KC 1000022 rfl (KC 1000025 rfl KN))))))))))) ?_
 refine GS ?_
 refine TL ?_
 refine RM rfl ?_
 refine RM rfl ?_
 refine RM rfl ?_
 refine RS (ok_call (Data_no n h1 h2 j (by omega) s) (A3 rfl rfl rfl)) ?_
 refine RM rfl ?_
 refine RS (ok_extractV rfl rfl) ?_
 refine RS (ok_extractV rfl rfl) ?_
 refine RA rfl ?_
 refine RA rfl ?_
 refine RN ?_
 refine A.seq ?_
 refine GS ?_
 refine TL ?_
 refine RM rfl ?_
 refine RBS rfl rfl rfl (.bool false) (by first | rfl | (simp; done) | (simp; omega) | (simp [*]; done) | (simp [*]; omega)) ?_
 refine RM rfl ?_
 refine RS (ok_neBoolS Try.underlying4 rfl rfl) ?_; refine RZ (.bool false) (by first | rfl | (simp; done) | (simp; omega) | (simp [*]; done) | (simp [*]; omega)) ?_
 refine RM rfl ?_
 refine RQ (ok_move rfl) ?_
 refine RQ (ok_bin rfl rfl rfl) ?_; refine RZ (.bool false) (by first | rfl | (simp; done) | (simp; omega) | (simp [*]; done) | (simp [*]; omega)) ?_
 refine RQ (ok_move rfl) ?_
 refine RQ (ok_neBoolS Try.underlying4 rfl rfl) ?_; refine RZ (.bool false) (by first | rfl | (simp; done) | (simp; omega) | (simp [*]; done) | (simp [*]; omega)) ?_
 refine RP rfl rfl ?_
 refine RM rfl ?_
 refine RQ (ok_move rfl) ?_
 refine RQ (ok_bin rfl rfl rfl) ?_; refine RZ (.bool false) (by first | rfl | (simp; done) | (simp; omega) | (simp [*]; done) | (simp [*]; omega)) ?_
 refine RQ (ok_move rfl) ?_
 refine RQ (ok_move rfl) ?_
 refine RK ?_
 refine RK ?_
 refine RK ?_
 refine RunK.skippedU rfl rfl rfl rfl ?_
 refine RunK.skippedU rfl rfl rfl rfl ?_
 refine RK ?_
 refine RQ (ok_pick rfl rfl) ?_
 refine RQ (ok_neBoolS Try.underlying4 rfl rfl) ?_; refine RZ (.bool false) (by first | rfl | (simp; done) | (simp; omega) | (simp [*]; done) | (simp [*]; omega)) ?_
 refine RP rfl rfl ?_
 refine RM rfl ?_
 refine RQ (ok_move rfl) ?_
 refine RQ (ok_bin rfl rfl rfl) ?_; refine RZ (.bool true) (by first | rfl | (simp; done) | (simp; omega) | (simp [*]; done) | (simp [*]; omega)) ?_
 refine RQ (ok_move rfl) ?_
 refine RQ (ok_move rfl) ?_
 refine RQ (ok_lenV Try.underlying54 rfl) ?_
 refine RQ (ok_bin rfl rfl rfl) ?_; refine RZ (.bool false) (by first | rfl | (simp; done) | (simp; omega) | (simp [*]; done) | (simp [*]; omega)) ?_
 refine RQ (ok_move rfl) ?_
 refine RQ (ok_move rfl) ?_
 refine RQ (ok_bin rfl rfl rfl) ?_; refine RZ (.bool false) (by first | rfl | (simp; done) | (simp; omega) | (simp [*]; done) | (simp [*]; omega)) ?_
 refine RQ (ok_pick rfl rfl) ?_
 refine RQ (ok_move rfl) ?_
 refine RQ (ok_move rfl) ?_
 refine RQ (ok_move rfl) ?_
 refine RQ (ok_bin rfl rfl rfl) ?_; refine RZ (.bool false) (by first | rfl | (simp; done) | (simp; omega) | (simp [*]; done) | (simp [*]; omega)) ?_
 refine RQ (ok_pick rfl rfl) ?_
 refine RQ (ok_pick rfl rfl) ?_
 refine RP rfl rfl ?_
 refine RM rfl ?_
 refine RQ (ok_move rfl) ?_
 refine RQ (ok_bin rfl rfl rfl) ?_; refine RZ (.bool true) (by first | rfl | (simp; done) | (simp; omega) | (simp [*]; done) | (simp [*]; omega)) ?_
 refine RQ (ok_move rfl) ?_
 refine RQ (ok_move rfl) ?_
 refine RQ (ok_bin rfl rfl rfl) ?_; refine RZ (.bool false) (by first | rfl | (simp; done) | (simp; omega) | (simp [*]; done) | (simp [*]; omega)) ?_
 refine RQ (ok_move rfl) ?_
 refine RQ (ok_move rfl) ?_
 refine RQ (ok_bin rfl rfl rfl) ?_; refine RZ (.bool false) (by first | rfl | (simp; done) | (simp; omega) | (simp [*]; done) | (simp [*]; omega)) ?_
 refine RQ (ok_pick rfl rfl) ?_
 refine RQ (ok_pick rfl rfl) ?_
 refine RP rfl rfl ?_
 refine RN ?_
 refine A.sub (KC 3 rfl (KC 5 rfl (KC 7 rfl (KC 353 rfl (KC 1000001 rfl (KC 1000022 rfl (KC 1000025 rfl KN))))))) ?_
 refine A.no rfl ?_
 refine A.skip ?_
 refine EN ?_
 refine GS ?_
 refine TN 6 ?_
 refine RM rfl ?_
 refine RM rfl ?_
 refine RS (ok_call (Of_no n h1 h2 j (by omega)) (A2 rfl rfl)) ?_
 refine RM rfl ?_
 refine RS (ok_extractV rfl rfl) ?_
 refine RS (ok_extractV rfl rfl) ?_
 refine RN ?_
 refine ⟨_, _, eff_alloc (n := 390) (d := 29) (k := 1000029) zero31 (by decide), fun b29 hb29 => ?_⟩
 have hBb29 := hb29.1
 refine TF 7 ?_
 refine RN ?_
 refine ⟨_, eff_storeA (n := 390) (s := 1000029) (size31.of (rfl)) rfl rfl (rfl) hBb29 rfl (rfl) (LV 3 rfl (LV 5 rfl (LV 7 rfl (LV 29 rfl (LV 359 rfl (LT 1000001 rfl (LT 1000022 rfl (LT 1000025 rfl LN)))))))), ?_⟩
 refine TL ?_
 refine RA rfl ?_
 refine RN ?_
 refine GS ?_
 refine TL ?_
 refine RM rfl ?_
 refine RM rfl ?_
 refine RQ (ok_move rfl) ?_
 refine RQ (ok_bin rfl rfl rfl) ?_; refine RZ (.bool false) (by first | rfl | (simp; done) | (simp; omega) | (simp [*]; done) | (simp [*]; omega)) ?_
 refine RP rfl rfl ?_
 refine RM rfl ?_
 refine RK ?_
 refine RK ?_
 refine RK ?_
 refine RK ?_
 refine RP rfl rfl ?_
 refine RA rfl ?_
 refine RN ?_
 refine GS ?_
 refine TL ?_
 refine RM rfl ?_
 refine RBS rfl rfl rfl (.bool false) (by first | rfl | (simp; done) | (simp; omega) | (simp [*]; done) | (simp [*]; omega)) ?_
 refine RM rfl ?_
 refine RS (ok_eqBool Try.underlying4 rfl rfl) ?_; refine RZ (.bool true) (by first | rfl | (simp; done) | (simp; omega) | (simp [*]; done) | (simp [*]; omega)) ?_
 refine RM rfl ?_
 refine RQ (ok_move rfl) ?_
 refine RQ (ok_move rfl) ?_
 refine RQ (ok_move rfl) ?_
 refine RQ (ok_bin rfl rfl rfl) ?_; refine RZ (.bool true) (by first | rfl | (simp; done) | (simp; omega) | (simp [*]; done) | (simp [*]; omega)) ?_
 refine RQ (ok_move rfl) ?_
 refine RQ (ok_loadA (s := 1000029) (by decide) Try.underlying31 rfl (size31.of (rfl)) rfl rfl) ?_
 refine RQ (ok_lit [] ([.bool false] ++ [.int .i64 0] ++ [.int .i64 0] ++ [.int .i64 0]) (fun _ _ => rfl) (by kernel_rfl)) ?_
 refine RQ (ok_eqlS (d' := false) (l' := 0) (j' := 0) (s' := 0) (by kernel_rfl) (by kernel_rfl) (tb := 4) (ti := 3) (by kernel_rfl) Try.underlying4 Try.underlying3 (by kernel_rfl) rfl rfl) ?_; refine RZ (.bool true) (congrArg Value.bool (by decide)) ?_
 refine RQ (ok_pick rfl rfl) ?_
 refine RQ (ok_pick rfl rfl) ?_
 refine RP rfl rfl ?_
 refine RM rfl ?_
 refine RQ (ok_call (lives12_fn) Args.nil) ?_
 refine RP rfl rfl ?_
 refine RA rfl ?_
 refine RN ?_
 refine A.sub (KC 2 rfl (KC 1000001 rfl (KC 1000022 rfl (KC 1000025 rfl (KC 1000029 rfl KN))))) ?_
 refine A.ret ?_
 exact End.ret1 rfl rfl (by first | exact Le.refl _ | exact Le.old _ _)
set_option maxHeartbeats 2000000 in
theorem serr_yXa (n : Nat) (h1 : 1 ≤ n) (h2 : n ≤ 4096) (l : Nat) (hl : l ≤ hg n) (j : Nat) (hj : bs n (hg n + 1) ≤ j) (s : Int) (hp : ¬ IsP n l j) : Fn Try.prog 7 [.v (aggV [nI (n), nI (l), nI (j), .int .i64 (s)])] (.v (.bool true)) := by
 have hh := hg_le n
 have hz := bs_zero n
 have hb0 := bs_mono (n := n) (Nat.zero_le (hg n + 1))
 refine Fn.of Try.func7 rfl (by kernel_rfl) Try.ntmps7 (by simp) (fun w => [(0, .v (aggV [nI (n), nI (l), nI (j), .int .i64 (s)]))]) (fun w => (Start.v rfl Start.nil)) fun w₀ => ?_
 refine GS ?_
 refine TN 0 ?_
 refine RN ?_
 refine ⟨_, _, eff_box (n := 390) (d := 1) (k := 1000001) rfl (by decide), fun b1 hb1 => ?_⟩
 have hBb1 := hb1.1
 refine TL ?_
 refine RA rfl ?_
 refine RN ?_
 refine GD ?_
 refine TL ?_
 refine RS (ok_index0 (0) Try.underlying58 info3 rfl rfl (rfl) (by decide)) ?_
 refine RS (ok_loadV (s := 1000001) (by decide) Try.underlying3 rfl rfl rfl (rfl)) ?_
 refine RS (ok_index0 (1) Try.underlying58 info3 rfl rfl (rfl) (by decide)) ?_
 refine RS (ok_loadV (s := 1000001) (by decide) Try.underlying3 rfl rfl rfl (rfl)) ?_
 refine RS (ok_index0 (2) Try.underlying58 info3 rfl rfl (rfl) (by decide)) ?_
 refine RS (ok_loadV (s := 1000001) (by decide) Try.underlying3 rfl rfl rfl (rfl)) ?_
 refine RS (ok_index0 (3) Try.underlying58 info3 rfl rfl (rfl) (by decide)) ?_
 refine RS (ok_loadV (s := 1000001) (by decide) Try.underlying3 rfl rfl rfl (rfl)) ?_
 refine RA rfl ?_
 refine RA rfl ?_
 refine RA rfl ?_
 refine RA rfl ?_
 refine RN ?_
 refine GS ?_
 refine TL ?_
 refine RM rfl ?_
 refine RBS rfl rfl rfl (.bool true) (by first | rfl | (simp; done) | (simp; omega) | (simp [*]; done) | (simp [*]; omega)) ?_
 refine RM rfl ?_
 refine RQ (ok_move rfl) ?_
 refine RQ (ok_bin rfl rfl rfl) ?_; refine RZ (.bool true) (by first | rfl | (simp; done) | (simp; omega) | (simp [*]; done) | (simp [*]; omega)) ?_
 refine RP rfl rfl ?_
 refine RA rfl ?_
 refine RN ?_
 refine GS ?_
 refine TL ?_
 refine RM rfl ?_
 refine RM rfl ?_
 refine RQ (ok_move rfl) ?_
 refine RQ (ok_move rfl) ?_
 refine RQ (ok_move rfl) ?_
 refine RQ (ok_call (rIs_n n h1 h2 l j hp) (A3 rfl rfl rfl)) ?_
 refine RP rfl rfl ?_
 refine RA rfl ?_
 refine RN ?_
 refine A.sub (KC 3 rfl (KC 4 rfl (KC 5 rfl (KC 6 rfl (KC 7 rfl (KC 8 rfl (KC 1000001 rfl KN))))))) ?_
 refine GS ?_
 refine TL ?_
 refine RM rfl ?_
 refine RS (ok_call (Height_ok n h1 h2) (A1 rfl)) ?_
 refine RM rfl ?_
 refine RS (ok_extractV rfl rfl) ?_
 refine RS (ok_extractV rfl rfl) ?_
 refine RA rfl ?_
 refine RA rfl ?_
 refine RN ?_
 refine GS ?_
 refine TL ?_
 refine RM rfl ?_
 refine RS (ok_call (Total_ok n h1 h2) (A1 rfl)) ?_
 refine RM rfl ?_
 refine RS (ok_extractV rfl rfl) ?_
 refine RS (ok_extractV rfl rfl) ?_
 refine RA rfl ?_
 refine RA rfl ?_
 refine RN ?_
 refine GS ?_
 refine TL ?_
 refine RM rfl ?_
 refine RS (ok_call (Sectors_ok n h1 h2) (A1 rfl)) ?_
 refine RM rfl ?_
 refine RS (ok_extractV rfl rfl) ?_
 refine RS (ok_extractV rfl rfl) ?_
 refine RA rfl ?_
 refine RA rfl ?_
 refine RN ?_
 refine A.seq ?_
 refine GS ?_
 refine TL ?_
 refine RM rfl ?_
 refine RBS rfl rfl rfl (.bool true) (by first | rfl | (simp; done) | (simp; omega) | (simp [*]; done) | (simp [*]; omega)) ?_
 refine RM rfl ?_
 refine RS (ok_neBoolS Try.underlying4 rfl rfl) ?_; refine RZ (.bool false) (by first | rfl | (simp; done) | (simp; omega) | (simp [*]; done) | (simp [*]; omega)) ?_
 refine RM rfl ?_
 refine RQ (ok_move rfl) ?_
 refine RQ (ok_bin rfl rfl rfl) ?_; refine RZ (.bool true) (by first | rfl | (simp; done) | (simp; omega) | (simp [*]; done) | (simp [*]; omega)) ?_
 refine RQ (ok_move rfl) ?_
 refine RQ (ok_neBoolS Try.underlying4 rfl rfl) ?_; refine RZ (.bool false) (by first | rfl | (simp; done) | (simp; omega) | (simp [*]; done) | (simp [*]; omega)) ?_
 refine RP rfl rfl ?_
 refine RM rfl ?_
 refine RQ (ok_move rfl) ?_
 refine RQ (ok_bin rfl rfl rfl) ?_; refine RZ (.bool true) (by first | rfl | (simp; done) | (simp; omega) | (simp [*]; done) | (simp [*]; omega)) ?_
 refine RQ (ok_move rfl) ?_
 refine RQ (ok_neBoolS Try.underlying4 rfl rfl) ?_; refine RZ (.bool false) (by first | rfl | (simp; done) | (simp; omega) | (simp [*]; done) | (simp [*]; omega)) ?_
 refine RP rfl rfl ?_
 refine RM rfl ?_
 refine RQ (ok_move rfl) ?_
 refine RQ (ok_call (Check_ok n h1 h2) (A1 rfl)) ?_
 refine RQ (ok_move rfl) ?_
 refine RQ (ok_bin rfl rfl rfl) ?_; refine RZ (.bool false) (by first | rfl | (simp; done) | (simp; omega) | (simp [*]; done) | (simp [*]; omega)) ?_
 refine RP rfl rfl ?_
 refine RM rfl ?_
 refine RQ (ok_move rfl) ?_
 refine RQ (ok_move rfl) ?_
 refine RQ (ok_bin rfl rfl rfl) ?_; refine RZ (.bool false) (by first | rfl | (simp; done) | (simp; omega) | (simp [*]; done) | (simp [*]; omega)) ?_
 refine RP rfl rfl ?_
 refine RM rfl ?_
 refine RQ (ok_move rfl) ?_
 refine RQ (ok_move rfl) ?_
 refine RQ (ok_bin rfl rfl rfl) ?_; refine RZ (.bool false) (by first | rfl | (simp; done) | (simp; omega) | (simp [*]; done) | (simp [*]; omega)) ?_
 refine RP rfl rfl ?_
 refine RM rfl ?_
 refine RQ (ok_move rfl) ?_
 refine RQ (ok_not rfl) ?_
 refine RQ (ok_move rfl) ?_
 refine RK ?_
 refine RK ?_
 refine RQ (ok_pick rfl rfl) ?_
 refine RP rfl rfl ?_
 refine RN ?_
 refine A.sub (KC 3 rfl (KC 4 rfl (KC 5 rfl (KC 6 rfl (KC 7 rfl (KC 8 rfl (KC 106 rfl (KC 1000001 rfl KN)))))))) ?_
 refine A.no rfl ?_
 refine A.skip ?_
 refine EN ?_
 refine GS ?_
 refine TL ?_
 refine RM rfl ?_
 refine RM rfl ?_
 refine RS (ok_call (Count_ok n h1 h2 l hl) (A2 rfl rfl)) ?_
 refine RM rfl ?_
 refine RS (ok_extractV rfl rfl) ?_
 refine RS (ok_extractV rfl rfl) ?_
 refine RA rfl ?_
 refine RA rfl ?_
 refine RN ?_
 refine A.seq ?_
 refine GS ?_
 refine TL ?_
 refine RM rfl ?_
 refine RBS rfl rfl rfl (.bool true) (by first | rfl | (simp; done) | (simp; omega) | (simp [*]; done) | (simp [*]; omega)) ?_
 refine RM rfl ?_
 refine RM rfl ?_
 refine RQ (ok_move rfl) ?_
 refine RQ (ok_move rfl) ?_
 refine RQ (ok_call (rIs_y n h1 h2 l 0 hl (un_pos h1 _)) (A3 rfl rfl rfl)) ?_
 refine RP rfl rfl ?_
 refine RS (ok_neBoolS Try.underlying4 rfl rfl) ?_; refine RZ (.bool false) (by first | rfl | (simp; done) | (simp; omega) | (simp [*]; done) | (simp [*]; omega)) ?_
 refine RM rfl ?_
 refine RQ (ok_move rfl) ?_
 refine RQ (ok_bin rfl rfl rfl) ?_; refine RZ (.bool false) (by first | rfl | (simp; done) | (simp; omega) | (simp [*]; done) | (simp [*]; omega)) ?_
 refine RQ (ok_move rfl) ?_
 refine RK ?_
 refine RK ?_
 refine RK ?_
 refine RunK.skippedU rfl rfl rfl rfl ?_
 refine RunK.skippedU rfl rfl rfl rfl ?_
 refine RK ?_
 refine RQ (ok_pick rfl rfl) ?_
 refine RP rfl rfl ?_
 refine RN ?_
 refine A.sub (KC 3 rfl (KC 4 rfl (KC 5 rfl (KC 6 rfl (KC 7 rfl (KC 8 rfl (KC 133 rfl (KC 1000001 rfl KN)))))))) ?_
 refine A.no rfl ?_
 refine A.skip ?_
 refine EN ?_
 refine GS ?_
 refine TL ?_
 refine RM rfl ?_
 refine RM rfl ?_
 refine RM rfl ?_
 refine RS (ok_call (Parts_no n h1 h2 l j hp) (A3 rfl rfl rfl)) ?_
 refine RM rfl ?_
 refine RS (ok_extractV rfl rfl) ?_
 refine RS (ok_extractV rfl rfl) ?_
 refine RA rfl ?_
 refine RA rfl ?_
 refine RN ?_
 refine GS ?_
 refine TL ?_
 refine RM rfl ?_
 refine RM rfl ?_
 refine RM rfl ?_
 refine RS (ok_call (place_fn (l : Int) (j : Int)) (A2 rfl rfl)) ?_
 refine RS (ok_call (Blocks_no n h1 h2 l j hp) (A2 rfl rfl)) ?_
 refine RM rfl ?_
 refine RS (ok_extractV rfl rfl) ?_
 refine RS (ok_extractV rfl rfl) ?_
 refine RS (ok_extractV rfl rfl) ?_
 refine RA rfl ?_
 refine RA rfl ?_
 refine RA rfl ?_
 refine RN ?_
 refine GS ?_
 refine TL ?_
 refine RM rfl ?_
 refine RM rfl ?_
 refine RM rfl ?_
 refine RM rfl ?_
 refine RS (ok_call (Node_no n h1 h2 l j hp s) (Args.cons rfl (Le.refl _) (A3 rfl rfl rfl))) ?_
 refine RM rfl ?_
 refine RS (ok_extractV rfl rfl) ?_
 refine RS (ok_extractV rfl rfl) ?_
 refine RA rfl ?_
 refine RA rfl ?_
 refine RN ?_
 refine A.sub (KC 3 rfl (KC 4 rfl (KC 5 rfl (KC 6 rfl (KC 7 rfl (KC 8 rfl (KC 15 rfl (KC 16 rfl (KC 17 rfl (KC 18 rfl (KC 19 rfl (KC 20 rfl (KC 21 rfl (KC 1000001 rfl KN)))))))))))))) ?_
 refine A.seq ?_
 refine GS ?_
 refine TL ?_
 refine RM rfl ?_
 refine RBS rfl rfl rfl (.bool false) (by first | rfl | (simp; done) | (simp; omega) | (simp [*]; done) | (simp [*]; omega)) ?_
 refine RM rfl ?_
 refine RS (ok_neBoolS Try.underlying4 rfl rfl) ?_; refine RZ (.bool false) (by first | rfl | (simp; done) | (simp; omega) | (simp [*]; done) | (simp [*]; omega)) ?_
 refine RM rfl ?_
 refine RQ (ok_move rfl) ?_
 refine RQ (ok_bin rfl rfl rfl) ?_; refine RZ (.bool false) (by first | rfl | (simp; done) | (simp; omega) | (simp [*]; done) | (simp [*]; omega)) ?_
 refine RQ (ok_move rfl) ?_
 refine RQ (ok_neBoolS Try.underlying4 rfl rfl) ?_; refine RZ (.bool false) (by first | rfl | (simp; done) | (simp; omega) | (simp [*]; done) | (simp [*]; omega)) ?_
 refine RP rfl rfl ?_
 refine RM rfl ?_
 refine RQ (ok_move rfl) ?_
 refine RQ (ok_bin rfl rfl rfl) ?_; refine RZ (.bool false) (by first | rfl | (simp; done) | (simp; omega) | (simp [*]; done) | (simp [*]; omega)) ?_
 refine RQ (ok_move rfl) ?_
 refine RQ (ok_move rfl) ?_
 refine RK ?_
 refine RK ?_
 refine RK ?_
 refine RunK.skippedU rfl rfl rfl rfl ?_
 refine RunK.skippedU rfl rfl rfl rfl ?_
 refine RK ?_
 refine RQ (ok_pick rfl rfl) ?_
 refine RQ (ok_neBoolS Try.underlying4 rfl rfl) ?_; refine RZ (.bool false) (by first | rfl | (simp; done) | (simp; omega) | (simp [*]; done) | (simp [*]; omega)) ?_
 refine RP rfl rfl ?_
 refine RN ?_
 refine A.no rfl ?_
 refine A.skip ?_
 refine EN ?_
 refine A.seq ?_
 refine GS ?_
 refine TL ?_
 refine RM rfl ?_
 refine RBS rfl rfl rfl (.bool true) (by first | rfl | (simp; done) | (simp; omega) | (simp [*]; done) | (simp [*]; omega)) ?_
 refine RM rfl ?_
 refine RQ (ok_move rfl) ?_
 refine RQ (ok_bin rfl rfl rfl) ?_; refine RZ (.bool false) (by first | rfl | (simp; done) | (simp; omega) | (simp [*]; done) | (simp [*]; omega)) ?_
 refine RQ (ok_move rfl) ?_
 refine RQ (ok_move rfl) ?_
 refine RQ (ok_bin rfl rfl rfl) ?_; refine RZ (.bool false) (by first | rfl | (simp; done) | (simp; omega) | (simp [*]; done) | (simp [*]; omega)) ?_
 refine RQ (ok_pick rfl rfl) ?_
 refine RQ (ok_move rfl) ?_
 refine RQ (ok_move rfl) ?_
 refine RQ (ok_bin rfl rfl rfl) ?_; refine RZ (.bool false) (by first | rfl | (simp; done) | (simp; omega) | (simp [*]; done) | (simp [*]; omega)) ?_
 refine RQ (ok_pick rfl rfl) ?_
 refine RQ (ok_move rfl) ?_
 refine RQ (ok_move rfl) ?_
 refine RQ (ok_bin rfl rfl rfl) ?_; refine RZ (.bool false) (by first | rfl | (simp; done) | (simp; omega) | (simp [*]; done) | (simp [*]; omega)) ?_
 refine RQ (ok_pick rfl rfl) ?_
 refine RQ (ok_move rfl) ?_
 refine RQ (ok_move rfl) ?_
 refine RQ (ok_bin rfl rfl rfl) ?_; refine RZ (.bool false) (by first | rfl | (simp; done) | (simp; omega) | (simp [*]; done) | (simp [*]; omega)) ?_
 refine RQ (ok_pick rfl rfl) ?_
 refine RP rfl rfl ?_
 refine RM rfl ?_
 refine RQ (ok_move rfl) ?_
 refine RQ (ok_bin rfl rfl rfl) ?_; refine RZ (.bool true) (by first | rfl | (simp; done) | (simp; omega) | (simp [*]; done) | (simp [*]; omega)) ?_
 refine RQ (ok_move rfl) ?_
 refine RQ (ok_move rfl) ?_
 refine RQ (ok_bin rfl rfl rfl) ?_; refine RZ (.bool false) (by first | rfl | (simp; done) | (simp; omega) | (simp [*]; done) | (simp [*]; omega)) ?_
 refine RQ (ok_move rfl) ?_
 refine RQ (ok_move rfl) ?_
 refine RQ (ok_bin rfl rfl rfl) ?_; refine RZ (.bool false) (by first | rfl | (simp; done) | (simp; omega) | (simp [*]; done) | (simp [*]; omega)) ?_
 refine RQ (ok_pick rfl rfl) ?_
 refine RQ (ok_pick rfl rfl) ?_
 refine RP rfl rfl ?_
 refine RN ?_
 refine A.sub (KC 3 rfl (KC 4 rfl (KC 5 rfl (KC 6 rfl (KC 7 rfl (KC 8 rfl (KC 215 rfl (KC 1000001 rfl KN)))))))) ?_
 refine A.no rfl ?_
 refine A.skip ?_
 refine EN ?_
 refine GS ?_
 refine TN 9 ?_
 refine RM rfl ?_
 refine RM rfl ?_
 refine RM rfl ?_
 refine RS (ok_call (place_fn (l : Int) (j : Int)) (A2 rfl rfl)) ?_
 refine RS (ok_call (Parent_no n h1 h2 l j hp) (A2 rfl rfl)) ?_
 refine RM rfl ?_
 refine RS (ok_extractV rfl rfl) ?_
 refine RS (ok_extractV rfl rfl) ?_
 refine RS (ok_extractV rfl rfl) ?_
 refine RN ?_
 refine ⟨_, _, eff_alloc (n := 390) (d := 22) (k := 1000022) zero45 (by decide), fun b22 hb22 => ?_⟩
 have hBb22 := hb22.1
 refine TF 10 ?_
 refine RN ?_
 refine ⟨_, eff_storeA (n := 390) (s := 1000022) (size45.of (rfl)) rfl rfl (rfl) hBb22 rfl (rfl) (LV 3 rfl (LV 4 rfl (LV 5 rfl (LV 6 rfl (LV 7 rfl (LV 8 rfl (LV 22 rfl (LV 223 rfl (LV 224 rfl (LT 1000001 rfl LN)))))))))), ?_⟩
 refine TL ?_
 refine RA rfl ?_
 refine RA rfl ?_
 refine RN ?_
 refine GS ?_
 refine TN 9 ?_
 refine RM rfl ?_
 refine RM rfl ?_
 refine RM rfl ?_
 refine RS (ok_call (place_fn (l : Int) (j : Int)) (A2 rfl rfl)) ?_
 refine RM rfl ?_
 refine RS (ok_call (Child_no n h1 h2 l j hp s) (A3 rfl rfl rfl)) ?_
 refine RM rfl ?_
 refine RS (ok_extractV rfl rfl) ?_
 refine RS (ok_extractV rfl rfl) ?_
 refine RN ?_
 refine ⟨_, _, eff_alloc (n := 390) (d := 25) (k := 1000025) zero45 (by decide), fun b25 hb25 => ?_⟩
 have hBb25 := hb25.1
 have hlt_b22_b25 : b22 < b25 := hb25.2 1000022 _ _ _ rfl
 refine TF 10 ?_
 refine RN ?_
 refine ⟨_, eff_storeA (n := 390) (s := 1000025) (size45.of (rfl)) rfl rfl (rfl) hBb25 rfl (rfl) (LV 3 rfl (LV 5 rfl (LV 6 rfl (LV 7 rfl (LV 8 rfl (LV 22 rfl (LV 23 rfl (LV 24 rfl (LV 25 rfl (LV 233 rfl (LT 1000001 rfl (LB 1000022 rfl LN)))))))))))), ?_⟩
 refine TL ?_
 refine RA rfl ?_
 refine RN ?_
 refine A.sub (KC 3 rfl (KC 5 rfl (KC 6 rfl (KC 7 rfl (KC 8 rfl (KC 22 rfl (KC 23 rfl (KC 24 rfl (KC 25 rfl (KC 26 rfl (KC 1000001 rfl (KC 1000022 rfl (KC 1000025 rfl KN))))))))))))) ?_
 refine A.seq ?_
 refine GD ?_
 refine TL ?_
 refine RM rfl ?_
 refine RS (ok_not rfl) ?_
 refine RM rfl ?_
 refine RQ (ok_move rfl) ?_
 refine RQ (ok_bin rfl rfl rfl) ?_; refine RZ (.bool false) (by first | rfl | (simp; done) | (simp; omega) | (simp [*]; done) | (simp [*]; omega)) ?_
 refine RQ (ok_move rfl) ?_
 refine RQ (ok_loadA (s := 1000022) (by decide) Try.underlying45 rfl (size45.of (rfl)) rfl rfl) ?_
 refine RQ (ok_call (place_fn 0 0) (A2 rfl rfl)) ?_
 refine RQ (ok_neqT 3 true flatP (by decide) (by kernel_rfl) (by kernel_rfl) rfl rfl (kinP _ _) (kinP _ _) (iff_of_true rfl rfl)) ?_; refine RZ (.bool false) (by first | rfl | (simp; done) | (simp; omega) | (simp [*]; done) | (simp [*]; omega)) ?_
 refine RQ (ok_pick rfl rfl) ?_
 refine RQ (ok_move rfl) ?_
 refine RQ (ok_move rfl) ?_
 refine RQ (ok_bin rfl rfl rfl) ?_; refine RZ (.bool false) (by first | rfl | (simp; done) | (simp; omega) | (simp [*]; done) | (simp [*]; omega)) ?_
 refine RQ (ok_pick rfl rfl) ?_
 refine RP rfl rfl ?_
 refine RM rfl ?_
 refine RQ (ok_move rfl) ?_
 refine RQ (ok_not rfl) ?_
 refine RQ (ok_move rfl) ?_
 refine RK ?_
 refine RK ?_
 refine RQ (ok_pick rfl rfl) ?_
 refine RQ (ok_move rfl) ?_
 refine RK ?_
 refine RK ?_
 refine RQ (ok_pick rfl rfl) ?_
 refine RQ (ok_move rfl) ?_
 refine RQ (ok_move rfl) ?_
 refine RQ (ok_bin rfl rfl rfl) ?_; refine RZ (.bool false) (by first | rfl | (simp; done) | (simp; omega) | (simp [*]; done) | (simp [*]; omega)) ?_
 refine RQ (ok_move rfl) ?_
 refine RQ (ok_loadA (s := 1000025) (by decide) Try.underlying45 rfl (size45.of (rfl)) rfl rfl) ?_
 refine RQ (ok_call (place_fn 0 0) (A2 rfl rfl)) ?_
 refine RQ (ok_neqT 3 true flatP (by decide) (by kernel_rfl) (by kernel_rfl) rfl rfl (kinP _ _) (kinP _ _) (iff_of_true rfl rfl)) ?_; refine RZ (.bool false) (by first | rfl | (simp; done) | (simp; omega) | (simp [*]; done) | (simp [*]; omega)) ?_
 refine RQ (ok_pick rfl rfl) ?_
 refine RQ (ok_pick rfl rfl) ?_
 refine RP rfl rfl ?_
 refine RN ?_
 refine A.sub (KC 3 rfl (KC 5 rfl (KC 6 rfl (KC 7 rfl (KC 269 rfl (KC 1000001 rfl (KC 1000022 rfl (KC 1000025 rfl KN)))))))) ?_
 refine A.no rfl ?_
 refine A.skip ?_
 refine EN ?_
 refine GS ?_
 refine TL ?_
 refine RM rfl ?_
 refine RM rfl ?_
 refine RQ (ok_move rfl) ?_
 refine RQ (ok_bin rfl rfl rfl) ?_; refine RZ (.bool true) (by first | rfl | (simp; done) | (simp; omega) | (simp [*]; done) | (simp [*]; omega)) ?_
 refine RP rfl rfl ?_
 refine RM rfl ?_
 refine RQ (ok_move rfl) ?_
 refine RQ (ok_move rfl) ?_
 refine RQ (ok_bin rfl rfl rfl) ?_; refine RZ (.bool false) (by first | rfl | (simp; done) | (simp; omega) | (simp [*]; done) | (simp [*]; omega)) ?_
 refine RP rfl rfl ?_
 refine RA rfl ?_
 refine RN ?_
 refine GS ?_
 refine TL ?_
 refine RM rfl ?_
 refine RM rfl ?_
 refine RS (ok_call (Path_no n h1 h2 j (by omega)) (A2 rfl rfl)) ?_
 refine RM rfl ?_
 refine RS (ok_extractV rfl rfl) ?_
 refine RS (ok_extractV rfl rfl) ?_
 refine RA rfl ?_
 refine RA rfl ?_
 refine RN ?_
 refine GS ?_
 refine TL ?_
 refine RM rfl ?_
 refine RM rfl ?_
 refine RS (ok_call (Group_no n h1 h2 j (by omega)) (A2 rfl rfl)) ?_
 refine RM rfl ?_
 refine RS (ok_extractV rfl rfl) ?_
 refine RS (ok_extractV rfl rfl) ?_
 refine RS (ok_extractV rfl rfl) ?_
 refine RA rfl ?_
 refine RN ?_
 refine A.sub (KC 3 rfl (KC 5 rfl (KC 6 rfl (KC 7 rfl (KC 16 rfl (KC 19 rfl (KC 27 rfl (KC 28 rfl (KC 1000001 rfl (KC 1000022 rfl (KC 1000025 rfl KN))))))))))) ?_
 refine GS ?_
 refine TL ?_
 refine RM rfl ?_
 refine RM rfl ?_
 refine RM rfl ?_
 refine RS (ok_call (Data_no n h1 h2 j (by omega) s) (A3 rfl rfl rfl)) ?_
 refine RM rfl ?_
 refine RS (ok_extractV rfl rfl) ?_
 refine RS (ok_extractV rfl rfl) ?_
 refine RA rfl ?_
 refine RA rfl ?_
 refine RN ?_
 refine A.seq ?_
 refine GS ?_
 refine TL ?_
 refine RM rfl ?_
 refine RBS rfl rfl rfl (.bool false) (by first | rfl | (simp; done) | (simp; omega) | (simp [*]; done) | (simp [*]; omega)) ?_
 refine RM rfl ?_
 refine RS (ok_neBoolS Try.underlying4 rfl rfl) ?_; refine RZ (.bool false) (by first | rfl | (simp; done) | (simp; omega) | (simp [*]; done) | (simp [*]; omega)) ?_
 refine RM rfl ?_
 refine RQ (ok_move rfl) ?_
 refine RQ (ok_bin rfl rfl rfl) ?_; refine RZ (.bool false) (by first | rfl | (simp; done) | (simp; omega) | (simp [*]; done) | (simp [*]; omega)) ?_
 refine RQ (ok_move rfl) ?_
 refine RQ (ok_neBoolS Try.underlying4 rfl rfl) ?_; refine RZ (.bool false) (by first | rfl | (simp; done) | (simp; omega) | (simp [*]; done) | (simp [*]; omega)) ?_
 refine RP rfl rfl ?_
 refine RM rfl ?_
 refine RQ (ok_move rfl) ?_
 refine RQ (ok_bin rfl rfl rfl) ?_; refine RZ (.bool false) (by first | rfl | (simp; done) | (simp; omega) | (simp [*]; done) | (simp [*]; omega)) ?_
 refine RQ (ok_move rfl) ?_
 refine RQ (ok_move rfl) ?_
 refine RK ?_
 refine RK ?_
 refine RK ?_
 refine RunK.skippedU rfl rfl rfl rfl ?_
 refine RunK.skippedU rfl rfl rfl rfl ?_
 refine RK ?_
 refine RQ (ok_pick rfl rfl) ?_
 refine RQ (ok_neBoolS Try.underlying4 rfl rfl) ?_; refine RZ (.bool false) (by first | rfl | (simp; done) | (simp; omega) | (simp [*]; done) | (simp [*]; omega)) ?_
 refine RP rfl rfl ?_
 refine RM rfl ?_
 refine RQ (ok_move rfl) ?_
 refine RQ (ok_bin rfl rfl rfl) ?_; refine RZ (.bool true) (by first | rfl | (simp; done) | (simp; omega) | (simp [*]; done) | (simp [*]; omega)) ?_
 refine RQ (ok_move rfl) ?_
 refine RQ (ok_move rfl) ?_
 refine RQ (ok_lenV Try.underlying54 rfl) ?_
 refine RQ (ok_bin rfl rfl rfl) ?_; refine RZ (.bool false) (by first | rfl | (simp; done) | (simp; omega) | (simp [*]; done) | (simp [*]; omega)) ?_
 refine RQ (ok_move rfl) ?_
 refine RQ (ok_move rfl) ?_
 refine RQ (ok_bin rfl rfl rfl) ?_; refine RZ (.bool false) (by first | rfl | (simp; done) | (simp; omega) | (simp [*]; done) | (simp [*]; omega)) ?_
 refine RQ (ok_pick rfl rfl) ?_
 refine RQ (ok_move rfl) ?_
 refine RQ (ok_move rfl) ?_
 refine RQ (ok_move rfl) ?_
 refine RQ (ok_bin rfl rfl rfl) ?_; refine RZ (.bool false) (by first | rfl | (simp; done) | (simp; omega) | (simp [*]; done) | (simp [*]; omega)) ?_
 refine RQ (ok_pick rfl rfl) ?_
 refine RQ (ok_pick rfl rfl) ?_
 refine RP rfl rfl ?_
 refine RM rfl ?_
 refine RQ (ok_move rfl) ?_
 refine RQ (ok_bin rfl rfl rfl) ?_; refine RZ (.bool true) (by first | rfl | (simp; done) | (simp; omega) | (simp [*]; done) | (simp [*]; omega)) ?_
 refine RQ (ok_move rfl) ?_
 refine RQ (ok_move rfl) ?_
 refine RQ (ok_bin rfl rfl rfl) ?_; refine RZ (.bool false) (by first | rfl | (simp; done) | (simp; omega) | (simp [*]; done) | (simp [*]; omega)) ?_
 refine RQ (ok_move rfl) ?_
 refine RQ (ok_move rfl) ?_
 refine RQ (ok_bin rfl rfl rfl) ?_; refine RZ (.bool false) (by first | rfl | (simp; done) | (simp; omega) | (simp [*]; done) | (simp [*]; omega)) ?_
 refine RQ (ok_pick rfl rfl) ?_
 refine RQ (ok_pick rfl rfl) ?_
 refine RP rfl rfl ?_
 refine RN ?_
 refine A.sub (KC 3 rfl (KC 5 rfl (KC 7 rfl (KC 353 rfl (KC 1000001 rfl (KC 1000022 rfl (KC 1000025 rfl KN))))))) ?_
 refine A.no rfl ?_
 refine A.skip ?_
 refine EN ?_
 refine GS ?_
 refine TN 6 ?_
 refine RM rfl ?_
 refine RM rfl ?_
 refine RS (ok_call (Of_no n h1 h2 j (by omega)) (A2 rfl rfl)) ?_
 refine RM rfl ?_
 refine RS (ok_extractV rfl rfl) ?_
 refine RS (ok_extractV rfl rfl) ?_
 refine RN ?_
 refine ⟨_, _, eff_alloc (n := 390) (d := 29) (k := 1000029) zero31 (by decide), fun b29 hb29 => ?_⟩
 have hBb29 := hb29.1
 refine TF 7 ?_
 refine RN ?_
 refine ⟨_, eff_storeA (n := 390) (s := 1000029) (size31.of (rfl)) rfl rfl (rfl) hBb29 rfl (rfl) (LV 3 rfl (LV 5 rfl (LV 7 rfl (LV 29 rfl (LV 359 rfl (LT 1000001 rfl (LT 1000022 rfl (LT 1000025 rfl LN)))))))), ?_⟩
 refine TL ?_
 refine RA rfl ?_
 refine RN ?_
 refine GS ?_
 refine TL ?_
 refine RM rfl ?_
 refine RM rfl ?_
 refine RQ (ok_move rfl) ?_
 refine RQ (ok_bin rfl rfl rfl) ?_; refine RZ (.bool true) (by first | rfl | (simp; done) | (simp; omega) | (simp [*]; done) | (simp [*]; omega)) ?_
 refine RP rfl rfl ?_
 refine RM rfl ?_
 refine RQ (ok_move rfl) ?_
 refine RQ (ok_move rfl) ?_
 refine RQ (ok_call (rSectors_fn n h1 h2) (A1 rfl)) ?_
 refine RQ (ok_bin rfl rfl rfl) ?_; refine RZ (.bool false) (by first | rfl | (simp; done) | (simp; omega) | (simp [*]; done) | (simp [*]; omega)) ?_
 refine RP rfl rfl ?_
 refine RA rfl ?_
 refine RN ?_
 refine GS ?_
 refine TL ?_
 refine RM rfl ?_
 refine RBS rfl rfl rfl (.bool false) (by first | rfl | (simp; done) | (simp; omega) | (simp [*]; done) | (simp [*]; omega)) ?_
 refine RM rfl ?_
 refine RS (ok_eqBool Try.underlying4 rfl rfl) ?_; refine RZ (.bool true) (by first | rfl | (simp; done) | (simp; omega) | (simp [*]; done) | (simp [*]; omega)) ?_
 refine RM rfl ?_
 refine RQ (ok_move rfl) ?_
 refine RQ (ok_move rfl) ?_
 refine RQ (ok_move rfl) ?_
 refine RQ (ok_bin rfl rfl rfl) ?_; refine RZ (.bool true) (by first | rfl | (simp; done) | (simp; omega) | (simp [*]; done) | (simp [*]; omega)) ?_
 refine RQ (ok_move rfl) ?_
 refine RQ (ok_loadA (s := 1000029) (by decide) Try.underlying31 rfl (size31.of (rfl)) rfl rfl) ?_
 refine RQ (ok_lit [] ([.bool false] ++ [.int .i64 0] ++ [.int .i64 0] ++ [.int .i64 0]) (fun _ _ => rfl) (by kernel_rfl)) ?_
 refine RQ (ok_eqlS (d' := false) (l' := 0) (j' := 0) (s' := 0) (by kernel_rfl) (by kernel_rfl) (tb := 4) (ti := 3) (by kernel_rfl) Try.underlying4 Try.underlying3 (by kernel_rfl) rfl rfl) ?_; refine RZ (.bool true) (congrArg Value.bool (by decide)) ?_
 refine RQ (ok_pick rfl rfl) ?_
 refine RQ (ok_pick rfl rfl) ?_
 refine RP rfl rfl ?_
 refine RM rfl ?_
 refine RQ (ok_call (lives12_fn) Args.nil) ?_
 refine RP rfl rfl ?_
 refine RA rfl ?_
 refine RN ?_
 refine A.sub (KC 2 rfl (KC 1000001 rfl (KC 1000022 rfl (KC 1000025 rfl (KC 1000029 rfl KN))))) ?_
 refine A.ret ?_
 exact End.ret1 rfl rfl (by first | exact Le.refl _ | exact Le.old _ _)
end Go.Proofs.Ytdnblilocdddpaa
