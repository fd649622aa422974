/-
 The laws of caissonlaw12 by facts: ShapesSectors, ShapesCounts.
-/
import Derived.Test.YtdnblilocdddpaaShort
import Derived.Test.YtdnblilocdddpaaC12d
namespace Go.Proofs.Ytdnblilocdddpaa
open Go Go.RowKit
set_option linter.unusedVariables false
set_option maxRecDepth 20000

set_option maxHeartbeats 2000000 in
theorem ShapesSectors_fn (k : Nat) (hk : k < 65536) (f : Nat) (hf : f < 65536) : Fn Try.prog 3 [.v (aggV [.int .u16 (k : Int)]), .v (.int .u16 ((f : Nat) : Int))] (.v (.bool true)) := by
 obtain ⟨n, hn⟩ : ∃ n, n = nn k := ⟨_, rfl⟩
 have h1 : 1 ≤ n := hn ▸ nn1 k
 have h2 : n ≤ 4096 := hn ▸ nn2 k
 have hh := hg_le n
 have hb0 := bs_mono (n := n) (Nat.zero_le (hg n + 1))
 have hz := bs_zero n
 have hs6 := bs_small h1 h2 (l := hg n + 1) (by omega)
 refine Fn.of Try.func3 rfl (by kernel_rfl) Try.ntmps3 (by simp) (fun w => [(0, .v (aggV [.int .u16 (k : Int)])), (1, .v (.int .u16 ((f : Nat) : Int)))]) (fun w => (Start.v rfl (Start.v rfl Start.nil))) fun w₀ => ?_
 refine GS ?_
 refine TN 0 ?_
 refine RN ?_
 refine ⟨_, _, eff_box (n := 146) (d := 2) (k := 1000002) rfl (by decide), fun b2 hb2 => ?_⟩
 have hBb2 := hb2.1
 refine TL ?_
 refine RA rfl ?_
 refine RN ?_
 refine GS ?_
 refine TL ?_
 refine RS (ok_loadA (s := 1000002) (by decide) Try.underlying24 rfl (size24.of (rfl)) rfl rfl) ?_
 refine RS (ok_call (NOf_fn k hk) (A1 rfl)) ?_; refine RZ (nI (n)) (by rw [hn]) ?_
 refine RA rfl ?_
 refine RN ?_
 refine GS ?_
 refine TL ?_
 refine RM rfl ?_
 refine RS (ok_call (Sectors_ok n h1 h2) (A1 rfl)) ?_
 refine RM rfl ?_
 refine RS (ok_extractV rfl rfl) ?_
 refine RS (ok_extractV rfl rfl) ?_
 refine RA rfl ?_
 refine RA rfl ?_
 refine RN ?_
 refine A.seq ?_
 refine GS ?_
 refine TL ?_
 refine RM rfl ?_
 refine RBS rfl rfl rfl (.bool false) (by first | rfl | (simp; done) | (simp; omega) | (simp [*]; done) | (simp [*]; omega)) ?_
 refine RM rfl ?_
 refine RQ (ok_move rfl) ?_
 refine RQ (ok_bin rfl rfl rfl) ?_; refine RZ (.bool false) (by first | rfl | (simp; done) | (simp; omega) | (simp [*]; done) | (simp [*]; omega)) ?_
 refine RP rfl rfl ?_
 refine RM rfl ?_
 refine RQ (ok_move rfl) ?_
 refine RQ (ok_move rfl) ?_
 refine RQ (ok_call (rSectors_fn n h1 h2) (A1 rfl)) ?_
 refine RQ (ok_bin rfl rfl rfl) ?_; refine RZ (.bool false) (by first | rfl | (simp; done) | (simp; omega) | (simp [*]; done) | (simp [*]; omega)) ?_
 refine RP rfl rfl ?_
 refine RN ?_
 refine A.no rfl ?_
 refine A.skip ?_
 refine EN ?_
 refine A.seq ?_
 refine GS ?_
 refine TL ?_
 refine RA rfl ?_
 refine RN ?_
 refine A.sub (KC 1 rfl (KC 5 rfl (KC 6 rfl (KC 8 rfl (KC 1000002 rfl KN))))) ?_
 refine A.block ?_
 refine A.loop (ι := Nat) (fun i => i ≤ 40) (fun i => [(1, .v (.int .u16 ((f : Nat) : Int))), (5, .v (nI (n))), (6, .v (nI (bs n (hg n + 1)))), (8, .v (nI (i)))]) (fun i => 40 - i) 0 ?_ ?_ ?_
 ·exact Nat.zero_le _
 ·exact (KC 1 rfl (KC 5 rfl (KC 6 rfl (KC 8 rfl KN))))
 intro i hi
 refine A.seq ?_
 refine GS ?_
 refine TL ?_
 refine RM rfl ?_
 refine RB rfl rfl rfl ?_
 refine RN ?_
 refine A.cond rfl (fun hc35 => ?_) (fun hc35 => ?_)
 ·have hlt : i < 40 := by simp at hc35; omega
  obtain ⟨s, hs⟩ : ∃ s, s = (f + i) % bs n (hg n + 1) := ⟨_, rfl⟩
  have hsl : s < bs n (hg n + 1) := hs ▸ Nat.mod_lt _ (by omega)
  refine A.skip ?_
  refine EN ?_
  refine A.seq ?_
  refine A.block ?_
  refine GS ?_
  refine TL ?_
  refine RM rfl ?_
  refine RS (ok_conv Try.underlying22 Try.underlying3 rfl) ?_; refine RZ (nI (f)) (wrap_eq (by omega) (by omega)) ?_
  refine RM rfl ?_
  refine RBS rfl rfl rfl (nI (f + i)) (wrap_eq (by omega) (by omega)) ?_
  refine RM rfl ?_
  refine RS (ok_rem rfl rfl (by omega)) ?_; refine RZ (nI (s)) (by rw [tmod_nat, ← hs]) ?_
  refine RA rfl ?_
  refine RN ?_
  rcases sec_case hsl with hd | ⟨l, hl, ha, hb⟩
  ·refine GS ?_
   refine TN 6 ?_
   refine RM rfl ?_
   refine RM rfl ?_
   refine RS (ok_call (Of_data n h1 h2 s hd) (A2 rfl rfl)) ?_
   refine RM rfl ?_
   refine RS (ok_extractV rfl rfl) ?_
   refine RS (ok_extractV rfl rfl) ?_
   refine RN ?_
   refine ⟨_, _, eff_alloc (n := 146) (d := 10) (k := 1000010) zero31 (by decide), fun b10 hb10 => ?_⟩
   have hBb10 := hb10.1
   refine TF 7 ?_
   refine RN ?_
   refine ⟨_, eff_storeA (n := 146) (s := 1000010) (size31.of (rfl)) rfl rfl (rfl) hBb10 rfl (rfl) (LV 1 rfl (LV 5 rfl (LV 6 rfl (LV 8 rfl (LV 9 rfl (LV 10 rfl (LV 49 rfl LN))))))), ?_⟩
   refine TL ?_
   refine RA rfl ?_
   refine RN ?_
   refine A.seq ?_
   refine GS ?_
   refine TL ?_
   refine RM rfl ?_
   refine RBS rfl rfl rfl (.bool false) (by first | rfl | (simp; done) | (simp; omega) | (simp [*]; done) | (simp [*]; omega)) ?_
   refine RM rfl ?_
   refine RQ (ok_field field31_3 (by decide) rfl) ?_
   refine RQ (ok_loadV (s := 1000010) (by decide) Try.underlying3 rfl rfl rfl (rfl)) ?_
   refine RQ (ok_bin rfl rfl rfl) ?_; refine RZ (.bool false) (by first | rfl | (simp; done) | (simp; omega) | (simp [*]; done) | (simp [*]; omega)) ?_
   refine RP rfl rfl ?_
   refine RM rfl ?_
   refine RQ (ok_field field31_3 (by decide) rfl) ?_
   refine RQ (ok_loadV (s := 1000010) (by decide) Try.underlying3 rfl rfl rfl (rfl)) ?_
   refine RQ (ok_bin rfl rfl rfl) ?_; refine RZ (.bool false) (by first | rfl | (simp; done) | (simp; omega) | (simp [*]; done) | (simp [*]; omega)) ?_
   refine RP rfl rfl ?_
   refine RN ?_
   refine A.sub (KC 1 rfl (KC 5 rfl (KC 6 rfl (KC 8 rfl (KC 9 rfl (KC 10 rfl (KC 61 rfl (KC 1000010 rfl KN)))))))) ?_
   refine A.no rfl ?_
   refine A.skip ?_
   refine EN ?_
   refine A.seq ?_
   refine GS ?_
   refine TL ?_
   refine RS (ok_field field31_0 (by decide) rfl) ?_
   refine RS (ok_loadV (s := 1000010) (by decide) Try.underlying4 rfl rfl rfl (rfl)) ?_
   refine RN ?_
   refine A.yes rfl ?_
   refine GS ?_
   refine TL ?_
   refine RM rfl ?_
   refine RS (ok_field field31_2 (by decide) rfl) ?_
   refine RS (ok_loadV (s := 1000010) (by decide) Try.underlying3 rfl rfl rfl (rfl)) ?_
   refine RS (ok_field field31_3 (by decide) rfl) ?_
   refine RS (ok_loadV (s := 1000010) (by decide) Try.underlying3 rfl rfl rfl (rfl)) ?_
   refine RS (ok_call (Data_ok n h1 h2 (s / 2) (by omega) (s % 2) (by omega)) (A3 rfl rfl rfl)) ?_
   refine RM rfl ?_
   refine RS (ok_extractV rfl rfl) ?_; refine RZ (nI (s)) (congrArg nI (by omega)) ?_
   refine RS (ok_extractV rfl rfl) ?_
   refine RA rfl ?_
   refine RA rfl ?_
   refine RN ?_
   refine A.seq ?_
   refine GS ?_
   refine TL ?_
   refine RM rfl ?_
   refine RBS rfl rfl rfl (.bool false) (by first | rfl | (simp; done) | (simp; omega) | (simp [*]; done) | (simp [*]; omega)) ?_
   refine RM rfl ?_
   refine RQ (ok_move rfl) ?_
   refine RQ (ok_move rfl) ?_
   refine RQ (ok_bin rfl rfl rfl) ?_; refine RZ (.bool false) (by first | rfl | (simp; done) | (simp; omega) | (simp [*]; done) | (simp [*]; omega)) ?_
   refine RP rfl rfl ?_
   refine RM rfl ?_
   refine RQ (ok_field field31_1 (by decide) rfl) ?_
   refine RQ (ok_loadV (s := 1000010) (by decide) Try.underlying3 rfl rfl rfl (rfl)) ?_
   refine RQ (ok_bin rfl rfl rfl) ?_; refine RZ (.bool false) (by first | rfl | (simp; done) | (simp; omega) | (simp [*]; done) | (simp [*]; omega)) ?_
   refine RP rfl rfl ?_
   refine RM rfl ?_
   refine RQ (ok_move rfl) ?_
   refine RQ (ok_move rfl) ?_
   refine RQ (ok_bin rfl rfl rfl) ?_; refine RZ (nI (2 * n)) (wrap_eq (by omega) (by omega)) ?_
   refine RQ (ok_bin rfl rfl rfl) ?_; refine RZ (.bool false) (by first | rfl | (simp; done) | (simp; omega) | (simp [*]; done) | (simp [*]; omega)) ?_
   refine RP rfl rfl ?_
   refine RM rfl ?_
   refine RQ (ok_move rfl) ?_
   refine RQ (ok_field field31_2 (by decide) rfl) ?_
   refine RQ (ok_loadV (s := 1000010) (by decide) Try.underlying3 rfl rfl rfl (rfl)) ?_
   refine RQ (ok_field field31_3 (by decide) rfl) ?_
   refine RQ (ok_loadV (s := 1000010) (by decide) Try.underlying3 rfl rfl rfl (rfl)) ?_
   refine RQ (ok_call (rData_fn (s / 2) (s % 2) (by omega) (by omega)) (A2 rfl rfl)) ?_; refine RZ (nI (s)) (congrArg nI (by omega)) ?_
   refine RQ (ok_bin rfl rfl rfl) ?_; refine RZ (.bool false) (by first | rfl | (simp; done) | (simp; omega) | (simp [*]; done) | (simp [*]; omega)) ?_
   refine RP rfl rfl ?_
   refine RN ?_
   refine A.sub (KC 1 rfl (KC 5 rfl (KC 6 rfl (KC 8 rfl (KC 99 rfl (KC 1000010 rfl KN)))))) ?_
   refine A.no rfl ?_
   refine A.skip ?_
   refine EN ?_
   refine A.exit ?_
   refine End.exit_then ?_
   refine End.exit_here ?_
   refine EN ?_
   refine GE ?_
   refine TL ?_
   refine RM rfl ?_
   refine RBS rfl rfl rfl (nI (i + 1)) (wrap_eq (by omega) (by omega)) ?_
   refine RA rfl ?_
   refine RN ?_
   refine End.normal_then ?_
   refine End.again (i + 1) ?_ ?_ ?_
   ·show _ ≤ _; omega
   ·show _ - _ < _ - _; omega
   ·exact (KC 1 rfl (KC 5 rfl (KC 6 rfl (KC 8 rfl KN))))
  ·refine GS ?_
   refine TN 6 ?_
   refine RM rfl ?_
   refine RM rfl ?_
   refine RS (ok_call (Of_node n h1 h2 s l hl ha hb) (A2 rfl rfl)) ?_
   refine RM rfl ?_
   refine RS (ok_extractV rfl rfl) ?_
   refine RS (ok_extractV rfl rfl) ?_
   refine RN ?_
   refine ⟨_, _, eff_alloc (n := 146) (d := 10) (k := 1000010) zero31 (by decide), fun b10 hb10 => ?_⟩
   have hBb10 := hb10.1
   refine TF 7 ?_
   refine RN ?_
   refine ⟨_, eff_storeA (n := 146) (s := 1000010) (size31.of (rfl)) rfl rfl (rfl) hBb10 rfl (rfl) (LV 1 rfl (LV 5 rfl (LV 6 rfl (LV 8 rfl (LV 9 rfl (LV 10 rfl (LV 49 rfl LN))))))), ?_⟩
   refine TL ?_
   refine RA rfl ?_
   refine RN ?_
   refine A.seq ?_
   refine GS ?_
   refine TL ?_
   refine RM rfl ?_
   refine RBS rfl rfl rfl (.bool false) (by first | rfl | (simp; done) | (simp; omega) | (simp [*]; done) | (simp [*]; omega)) ?_
   refine RM rfl ?_
   refine RQ (ok_field field31_3 (by decide) rfl) ?_
   refine RQ (ok_loadV (s := 1000010) (by decide) Try.underlying3 rfl rfl rfl (rfl)) ?_
   refine RQ (ok_bin rfl rfl rfl) ?_; refine RZ (.bool false) (by first | rfl | (simp; done) | (simp; omega) | (simp [*]; done) | (simp [*]; omega)) ?_
   refine RP rfl rfl ?_
   refine RM rfl ?_
   refine RQ (ok_field field31_3 (by decide) rfl) ?_
   refine RQ (ok_loadV (s := 1000010) (by decide) Try.underlying3 rfl rfl rfl (rfl)) ?_
   refine RQ (ok_bin rfl rfl rfl) ?_; refine RZ (.bool false) (by first | rfl | (simp; done) | (simp; omega) | (simp [*]; done) | (simp [*]; omega)) ?_
   refine RP rfl rfl ?_
   refine RN ?_
   refine A.sub (KC 1 rfl (KC 5 rfl (KC 6 rfl (KC 8 rfl (KC 9 rfl (KC 10 rfl (KC 61 rfl (KC 1000010 rfl KN)))))))) ?_
   refine A.no rfl ?_
   refine A.skip ?_
   refine EN ?_
   refine A.seq ?_
   refine GS ?_
   refine TL ?_
   refine RS (ok_field field31_0 (by decide) rfl) ?_
   refine RS (ok_loadV (s := 1000010) (by decide) Try.underlying4 rfl rfl rfl (rfl)) ?_
   refine RN ?_
   refine A.no rfl ?_
   refine A.skip ?_
   refine EN ?_
   refine GS ?_
   refine TL ?_
   refine RM rfl ?_
   refine RS (ok_field field31_1 (by decide) rfl) ?_
   refine RS (ok_loadV (s := 1000010) (by decide) Try.underlying3 rfl rfl rfl (rfl)) ?_
   refine RS (ok_field field31_2 (by decide) rfl) ?_
   refine RS (ok_loadV (s := 1000010) (by decide) Try.underlying3 rfl rfl rfl (rfl)) ?_
   refine RS (ok_field field31_3 (by decide) rfl) ?_
   refine RS (ok_loadV (s := 1000010) (by decide) Try.underlying3 rfl rfl rfl (rfl)) ?_
   refine RS (ok_call (Node_ok n h1 h2 l ((s - bs n l) / 2) hl (by have := bs_succ n l; omega) ((s - bs n l) % 2) (by omega)) (Args.cons rfl (Le.refl _) (A3 rfl rfl rfl))) ?_
   refine RM rfl ?_
   refine RS (ok_extractV rfl rfl) ?_; refine RZ (nI (s)) (congrArg nI (by omega)) ?_
   refine RS (ok_extractV rfl rfl) ?_
   refine RA rfl ?_
   refine RA rfl ?_
   refine RN ?_
   refine GS ?_
   refine TL ?_
   refine RM rfl ?_
   refine RBS rfl rfl rfl (.bool false) (by first | rfl | (simp; done) | (simp; omega) | (simp [*]; done) | (simp [*]; omega)) ?_
   refine RM rfl ?_
   refine RQ (ok_move rfl) ?_
   refine RQ (ok_move rfl) ?_
   refine RQ (ok_bin rfl rfl rfl) ?_; refine RZ (.bool false) (by first | rfl | (simp; done) | (simp; omega) | (simp [*]; done) | (simp [*]; omega)) ?_
   refine RP rfl rfl ?_
   refine RM rfl ?_
   refine RQ (ok_move rfl) ?_
   refine RQ (ok_move rfl) ?_
   refine RQ (ok_bin rfl rfl rfl) ?_; refine RZ (nI (2 * n)) (wrap_eq (by omega) (by omega)) ?_
   refine RQ (ok_bin rfl rfl rfl) ?_; refine RZ (.bool false) (by have := bs_mono (n := n) (Nat.zero_le l); simp; omega) ?_
   refine RP rfl rfl ?_
   refine RM rfl ?_
   refine RQ (ok_move rfl) ?_
   refine RQ (ok_field field31_1 (by decide) rfl) ?_
   refine RQ (ok_loadV (s := 1000010) (by decide) Try.underlying3 rfl rfl rfl (rfl)) ?_
   refine RQ (ok_field field31_2 (by decide) rfl) ?_
   refine RQ (ok_loadV (s := 1000010) (by decide) Try.underlying3 rfl rfl rfl (rfl)) ?_
   refine RQ (ok_call (rIs_y n h1 h2 l ((s - bs n l) / 2) hl (by have := bs_succ n l; omega)) (A3 rfl rfl rfl)) ?_
   refine RQ (ok_not rfl) ?_
   refine RP rfl rfl ?_
   refine RM rfl ?_
   refine RQ (ok_move rfl) ?_
   refine RQ (ok_move rfl) ?_
   refine RQ (ok_field field31_1 (by decide) rfl) ?_
   refine RQ (ok_loadV (s := 1000010) (by decide) Try.underlying3 rfl rfl rfl (rfl)) ?_
   refine RQ (ok_field field31_2 (by decide) rfl) ?_
   refine RQ (ok_loadV (s := 1000010) (by decide) Try.underlying3 rfl rfl rfl (rfl)) ?_
   refine RQ (ok_field field31_3 (by decide) rfl) ?_
   refine RQ (ok_loadV (s := 1000010) (by decide) Try.underlying3 rfl rfl rfl (rfl)) ?_
   refine RQ (ok_call (rNode_fn n h1 h2 l ((s - bs n l) / 2) hl (by have := bs_succ n l; omega) ((s - bs n l) % 2) (by omega)) (Args.cons rfl (Le.refl _) (A3 rfl rfl rfl))) ?_; refine RZ (nI (s)) (congrArg nI (by omega)) ?_
   refine RQ (ok_bin rfl rfl rfl) ?_; refine RZ (.bool false) (by first | rfl | (simp; done) | (simp; omega) | (simp [*]; done) | (simp [*]; omega)) ?_
   refine RP rfl rfl ?_
   refine RN ?_
   refine A.sub (KC 1 rfl (KC 5 rfl (KC 6 rfl (KC 8 rfl (KC 144 rfl (KC 1000010 rfl KN)))))) ?_
   refine A.no rfl ?_
   refine A.skip ?_
   refine End.normal_block ?_
   refine EN ?_
   refine GE ?_
   refine TL ?_
   refine RM rfl ?_
   refine RBS rfl rfl rfl (nI (i + 1)) (wrap_eq (by omega) (by omega)) ?_
   refine RA rfl ?_
   refine RN ?_
   refine End.normal_then ?_
   refine End.again (i + 1) ?_ ?_ ?_
   ·show _ ≤ _; omega
   ·show _ - _ < _ - _; omega
   ·exact (KC 1 rfl (KC 5 rfl (KC 6 rfl (KC 8 rfl KN))))
 ·skip
  refine A.exit ?_
  refine End.exit_then ?_
  refine End.exit_then ?_
  refine End.exit_here ?_
  refine EN ?_
  refine GS ?_
  refine TL ?_
  refine RS (ok_call (lives12_fn) Args.nil) ?_
  refine RA rfl ?_
  refine RN ?_
  refine A.ret ?_
  exact End.ret1 rfl rfl (by first | exact Le.refl _ | exact Le.old _ _)
set_option maxHeartbeats 2000000 in
theorem ShapesCounts_fn (k : Nat) (hk : k < 65536) (f : Nat) (hf : f < 65536) : Fn Try.prog 4 [.v (aggV [.int .u16 (k : Int)]), .v (.int .u16 ((f : Nat) : Int))] (.v (.bool true)) := by
 obtain ⟨n, hn⟩ : ∃ n, n = nn k := ⟨_, rfl⟩
 have h1 : 1 ≤ n := hn ▸ nn1 k
 have h2 : n ≤ 4096 := hn ▸ nn2 k
 have hh := hg_le n
 refine Fn.of Try.func4 rfl (by kernel_rfl) Try.ntmps4 (by simp) (fun w => [(0, .v (aggV [.int .u16 (k : Int)])), (1, .v (.int .u16 ((f : Nat) : Int)))]) (fun w => (Start.v rfl (Start.v rfl Start.nil))) fun w₀ => ?_
 refine GS ?_
 refine TN 0 ?_
 refine RN ?_
 refine ⟨_, _, eff_box (n := 146) (d := 2) (k := 1000002) rfl (by decide), fun b2 hb2 => ?_⟩
 have hBb2 := hb2.1
 refine TL ?_
 refine RA rfl ?_
 refine RN ?_
 refine GS ?_
 refine TL ?_
 refine RS (ok_loadA (s := 1000002) (by decide) Try.underlying24 rfl (size24.of (rfl)) rfl rfl) ?_
 refine RS (ok_call (NOf_fn k hk) (A1 rfl)) ?_; refine RZ (nI (n)) (by rw [hn]) ?_
 refine RA rfl ?_
 refine RN ?_
 refine GS ?_
 refine TL ?_
 refine RM rfl ?_
 refine RS (ok_call (Height_ok n h1 h2) (A1 rfl)) ?_
 refine RM rfl ?_
 refine RS (ok_extractV rfl rfl) ?_
 refine RS (ok_extractV rfl rfl) ?_
 refine RA rfl ?_
 refine RA rfl ?_
 refine RN ?_
 refine A.seq ?_
 refine GS ?_
 refine TL ?_
 refine RM rfl ?_
 refine RBS rfl rfl rfl (.bool false) (by first | rfl | (simp; done) | (simp; omega) | (simp [*]; done) | (simp [*]; omega)) ?_
 refine RM rfl ?_
 refine RQ (ok_move rfl) ?_
 refine RQ (ok_call (Check_ok n h1 h2) (A1 rfl)) ?_
 refine RQ (ok_bin rfl rfl rfl) ?_; refine RZ (.bool false) (by first | rfl | (simp; done) | (simp; omega) | (simp [*]; done) | (simp [*]; omega)) ?_
 refine RP rfl rfl ?_
 refine RM rfl ?_
 refine RQ (ok_move rfl) ?_
 refine RQ (ok_move rfl) ?_
 refine RQ (ok_call (rHeight_fn n h1 h2) (A1 rfl)) ?_
 refine RQ (ok_bin rfl rfl rfl) ?_; refine RZ (.bool false) (by first | rfl | (simp; done) | (simp; omega) | (simp [*]; done) | (simp [*]; omega)) ?_
 refine RP rfl rfl ?_
 refine RN ?_
 refine A.sub (KC 1 rfl (KC 5 rfl (KC 6 rfl (KC 38 rfl (KC 1000002 rfl KN))))) ?_
 refine A.no rfl ?_
 refine A.skip ?_
 refine EN ?_
 refine GS ?_
 refine TL ?_
 refine RA rfl ?_
 refine RN ?_
 refine GS ?_
 refine TL ?_
 refine RM rfl ?_
 refine RA rfl ?_
 refine RN ?_
 refine A.seq ?_
 refine GS ?_
 refine TL ?_
 refine RA rfl ?_
 refine RN ?_
 refine A.block ?_
 refine A.loop (ι := Nat) (fun l => l ≤ hg n + 1) (fun l => [(1, .v (.int .u16 ((f : Nat) : Int))), (5, .v (nI (n))), (6, .v (nI (hg n))), (8, .v (nI (tot n l))), (9, .v (nI (un n l))), (10, .v (nI (l)))]) (fun l => hg n + 1 - l) 0 ?_ ?_ ?_
 ·exact Nat.zero_le _
 ·exact (KC 1 rfl (KC 5 rfl (KC 6 rfl (KC 8 rfl (KC 9 rfl (KC 10 rfl KN))))))
 intro l hl'
 have hu0 := un_le h1 (l)
 have hv0 := un_pos h1 (l)
 have hu1 := un_le h1 (l + 1)
 have hv1 := un_pos h1 (l + 1)
 refine A.seq ?_
 refine GS ?_
 refine TL ?_
 refine RM rfl ?_
 refine RM rfl ?_
 refine RB rfl rfl rfl ?_
 refine RN ?_
 refine A.cond rfl (fun hc42 => ?_) (fun hc42 => ?_)
 ·have hl : l ≤ hg n := by simp at hc42; omega
  refine A.skip ?_
  refine EN ?_
  refine A.seq ?_
  refine A.block ?_
  refine GS ?_
  refine TL ?_
  refine RM rfl ?_
  refine RM rfl ?_
  refine RS (ok_call (Count_ok n h1 h2 l hl) (A2 rfl rfl)) ?_
  refine RM rfl ?_
  refine RS (ok_extractV rfl rfl) ?_
  refine RS (ok_extractV rfl rfl) ?_
  refine RA rfl ?_
  refine RA rfl ?_
  refine RN ?_
  refine A.seq ?_
  refine GS ?_
  refine TL ?_
  refine RM rfl ?_
  refine RBS rfl rfl rfl (.bool false) (by first | rfl | (simp; done) | (simp; omega) | (simp [*]; done) | (simp [*]; omega)) ?_
  refine RM rfl ?_
  refine RQ (ok_move rfl) ?_
  refine RQ (ok_bin rfl rfl rfl) ?_; refine RZ (.bool false) (by first | rfl | (simp; done) | (simp; omega) | (simp [*]; done) | (simp [*]; omega)) ?_
  refine RP rfl rfl ?_
  refine RM rfl ?_
  refine RQ (ok_move rfl) ?_
  refine RQ (ok_move rfl) ?_
  refine RQ (ok_move rfl) ?_
  refine RQ (ok_call (rCount_fn n h1 h2 l hl) (A2 rfl rfl)) ?_
  refine RQ (ok_bin rfl rfl rfl) ?_; refine RZ (.bool false) (by first | rfl | (simp; done) | (simp; omega) | (simp [*]; done) | (simp [*]; omega)) ?_
  refine RP rfl rfl ?_
  refine RM rfl ?_
  refine RQ (ok_move rfl) ?_
  refine RQ (ok_move rfl) ?_
  refine RQ (ok_bin rfl rfl rfl) ?_; refine RZ (nI (un n l + 3)) (wrap_eq (by omega) (by omega)) ?_
  refine RQ (ok_div rfl rfl (by decide)) ?_; refine RZ (nI (un n (l + 1))) (by rw [tdiv_lit _ (by decide)]; exact wrap_eq rfl (by omega)) ?_
  refine RQ (ok_bin rfl rfl rfl) ?_; refine RZ (.bool false) (by first | rfl | (simp; done) | (simp; omega) | (simp [*]; done) | (simp [*]; omega)) ?_
  refine RP rfl rfl ?_
  refine RN ?_
  refine A.sub (KC 1 rfl (KC 5 rfl (KC 6 rfl (KC 8 rfl (KC 9 rfl (KC 10 rfl (KC 11 rfl (KC 70 rfl KN)))))))) ?_
  refine A.no rfl ?_
  refine A.skip ?_
  refine EN ?_
  refine A.seq ?_
  refine GS ?_
  refine TL ?_
  refine RA rfl ?_
  refine RN ?_
  refine A.block ?_
  refine A.loop (ι := Nat) (fun i => i ≤ 40) (fun i => [(1, .v (.int .u16 ((f : Nat) : Int))), (5, .v (nI (n))), (6, .v (nI (hg n))), (8, .v (nI (tot n l))), (9, .v (nI (un n l))), (10, .v (nI (l))), (11, .v (nI (un n (l + 1)))), (13, .v (nI (i)))]) (fun i => 40 - i) 0 ?_ ?_ ?_
  ·exact Nat.zero_le _
  ·exact (KC 1 rfl (KC 5 rfl (KC 6 rfl (KC 8 rfl (KC 9 rfl (KC 10 rfl (KC 11 rfl (KC 13 rfl KN))))))))
  intro i hi
  refine A.seq ?_
  refine GS ?_
  refine TL ?_
  refine RM rfl ?_
  refine RB rfl rfl rfl ?_
  refine RN ?_
  refine A.cond rfl (fun hc72 => ?_) (fun hc72 => ?_)
  ·have hlt : i < 40 := by simp at hc72; omega
   obtain ⟨j, hj0⟩ : ∃ j, j = (f + i) % un n (l + 1) := ⟨_, rfl⟩
   have hj : j < un n (l + 1) := hj0 ▸ Nat.mod_lt _ (by omega)
   refine A.skip ?_
   refine EN ?_
   refine A.seq ?_
   refine A.block ?_
   refine GS ?_
   refine TL ?_
   refine RM rfl ?_
   refine RS (ok_conv Try.underlying22 Try.underlying3 rfl) ?_; refine RZ (nI (f)) (wrap_eq (by omega) (by omega)) ?_
   refine RM rfl ?_
   refine RBS rfl rfl rfl (nI (f + i)) (wrap_eq (by omega) (by omega)) ?_
   refine RM rfl ?_
   refine RS (ok_rem rfl rfl (by omega)) ?_; refine RZ (nI (j)) (by rw [tmod_nat, ← hj0]) ?_
   refine RA rfl ?_
   refine RN ?_
   refine GS ?_
   refine TL ?_
   refine RM rfl ?_
   refine RM rfl ?_
   refine RM rfl ?_
   refine RS (ok_call (Parts_ok n h1 h2 l j hl hj) (A3 rfl rfl rfl)) ?_
   refine RM rfl ?_
   refine RS (ok_extractV rfl rfl) ?_
   refine RS (ok_extractV rfl rfl) ?_
   refine RA rfl ?_
   refine RA rfl ?_
   refine RN ?_
   have hjl : pts n l j < 4 → j = un n (l + 1) - 1 := fun hp4 => by have := un_succ n l; have := pts_pos hj; unfold pts at hp4; omega
   by_cases hp4 : pts n l j < 4
   ·refine GS ?_
    refine TL ?_
    refine RM rfl ?_
    refine RBS rfl rfl rfl (.bool false) (by first | rfl | (simp; done) | (simp; omega) | (simp [*]; done) | (simp [*]; omega)) ?_
    refine RM rfl ?_
    refine RQ (ok_move rfl) ?_
    refine RQ (ok_move rfl) ?_
    refine RQ (ok_move rfl) ?_
    refine RQ (ok_move rfl) ?_
    refine RQ (ok_call (rParts_fn n h1 h2 l j hl hj) (A3 rfl rfl rfl)) ?_
    refine RQ (ok_bin rfl rfl rfl) ?_; refine RZ (.bool false) (by first | rfl | (simp; done) | (simp; omega) | (simp [*]; done) | (simp [*]; omega)) ?_
    refine RP rfl rfl ?_
    refine RM rfl ?_
    refine RQ (ok_move rfl) ?_
    refine RQ (ok_bin rfl rfl rfl) ?_; refine RZ (.bool true) (by first | rfl | (simp; done) | (simp; omega) | (simp [*]; done) | (simp [*]; omega)) ?_
    refine RQ (ok_move rfl) ?_
    refine RQ (ok_move rfl) ?_
    refine RQ (ok_move rfl) ?_
    refine RQ (ok_bin rfl rfl rfl) ?_; refine RZ (nI (un n (l + 1) - 1)) (wrap_eq (by omega) (by omega)) ?_
    refine RQ (ok_bin rfl rfl rfl) ?_; refine RZ (.bool false) (by simp; omega) ?_
    refine RQ (ok_pick rfl rfl) ?_
    refine RP rfl rfl ?_
    refine RN ?_
    refine A.sub (KC 1 rfl (KC 5 rfl (KC 6 rfl (KC 8 rfl (KC 9 rfl (KC 10 rfl (KC 11 rfl (KC 13 rfl (KC 107 rfl KN))))))))) ?_
    refine A.no rfl ?_
    refine A.skip ?_
    refine End.normal_block ?_
    refine EN ?_
    refine GE ?_
    refine TL ?_
    refine RM rfl ?_
    refine RBS rfl rfl rfl (nI (i + 1)) (wrap_eq (by omega) (by omega)) ?_
    refine RA rfl ?_
    refine RN ?_
    refine End.normal_then ?_
    refine End.again (i + 1) ?_ ?_ ?_
    ·show _ ≤ _; omega
    ·show _ - _ < _ - _; omega
    ·exact (KC 1 rfl (KC 5 rfl (KC 6 rfl (KC 8 rfl (KC 9 rfl (KC 10 rfl (KC 11 rfl (KC 13 rfl KN))))))))
   ·refine GS ?_
    refine TL ?_
    refine RM rfl ?_
    refine RBS rfl rfl rfl (.bool false) (by first | rfl | (simp; done) | (simp; omega) | (simp [*]; done) | (simp [*]; omega)) ?_
    refine RM rfl ?_
    refine RQ (ok_move rfl) ?_
    refine RQ (ok_move rfl) ?_
    refine RQ (ok_move rfl) ?_
    refine RQ (ok_move rfl) ?_
    refine RQ (ok_call (rParts_fn n h1 h2 l j hl hj) (A3 rfl rfl rfl)) ?_
    refine RQ (ok_bin rfl rfl rfl) ?_; refine RZ (.bool false) (by first | rfl | (simp; done) | (simp; omega) | (simp [*]; done) | (simp [*]; omega)) ?_
    refine RP rfl rfl ?_
    refine RM rfl ?_
    refine RQ (ok_move rfl) ?_
    refine RQ (ok_bin rfl rfl rfl) ?_; refine RZ (.bool false) (by first | rfl | (simp; done) | (simp; omega) | (simp [*]; done) | (simp [*]; omega)) ?_
    refine RQ (ok_move rfl) ?_
    refine RK ?_
    refine RK ?_
    refine RK ?_
    refine RK ?_
    refine RQ (ok_pick rfl rfl) ?_
    refine RP rfl rfl ?_
    refine RN ?_
    refine A.sub (KC 1 rfl (KC 5 rfl (KC 6 rfl (KC 8 rfl (KC 9 rfl (KC 10 rfl (KC 11 rfl (KC 13 rfl (KC 107 rfl KN))))))))) ?_
    refine A.no rfl ?_
    refine A.skip ?_
    refine End.normal_block ?_
    refine EN ?_
    refine GE ?_
    refine TL ?_
    refine RM rfl ?_
    refine RBS rfl rfl rfl (nI (i + 1)) (wrap_eq (by omega) (by omega)) ?_
    refine RA rfl ?_
    refine RN ?_
    refine End.normal_then ?_
    refine End.again (i + 1) ?_ ?_ ?_
    ·show _ ≤ _; omega
    ·show _ - _ < _ - _; omega
    ·exact (KC 1 rfl (KC 5 rfl (KC 6 rfl (KC 8 rfl (KC 9 rfl (KC 10 rfl (KC 11 rfl (KC 13 rfl KN))))))))
  ·skip
   refine A.exit ?_
   refine End.exit_then ?_
   refine End.exit_then ?_
   refine End.exit_here ?_
   refine EN ?_
   refine GS ?_
   refine TL ?_
   refine RM rfl ?_
   refine RM rfl ?_
   refine RM rfl ?_
   refine RBS rfl rfl rfl (nI (un n (l + 1) - 1)) (wrap_eq (by omega) (by omega)) ?_
   refine RS (ok_call (Parts_ok n h1 h2 l (un n (l + 1) - 1) hl (by omega)) (A3 rfl rfl rfl)) ?_
   refine RM rfl ?_
   refine RS (ok_extractV rfl rfl) ?_
   refine RS (ok_extractV rfl rfl) ?_
   refine RA rfl ?_
   refine RA rfl ?_
   refine RN ?_
   refine A.seq ?_
   refine GS ?_
   refine TL ?_
   refine RM rfl ?_
   refine RBS rfl rfl rfl (.bool false) (by first | rfl | (simp; done) | (simp; omega) | (simp [*]; done) | (simp [*]; omega)) ?_
   refine RM rfl ?_
   refine RQ (ok_move rfl) ?_
   refine RQ (ok_bin rfl rfl rfl) ?_; refine RZ (nI (un n (l + 1) - 1)) (wrap_eq (by omega) (by omega)) ?_
   refine RQ (ok_bin rfl rfl rfl) ?_; refine RZ (nI (4 * (un n (l + 1) - 1))) (wrap_eq (by omega) (by omega)) ?_
   refine RQ (ok_move rfl) ?_
   refine RQ (ok_bin rfl rfl rfl) ?_; refine RZ (nI (un n l)) (wrap_eq (by have := un_succ n l; unfold pts; omega) (by omega)) ?_
   refine RQ (ok_move rfl) ?_
   refine RQ (ok_bin rfl rfl rfl) ?_; refine RZ (.bool false) (by first | rfl | (simp; done) | (simp; omega) | (simp [*]; done) | (simp [*]; omega)) ?_
   refine RP rfl rfl ?_
   refine RN ?_
   refine A.no rfl ?_
   refine A.skip ?_
   refine EN ?_
   refine GS ?_
   refine TL ?_
   refine RM rfl ?_
   refine RM rfl ?_
   refine RBS rfl rfl rfl (nI (tot n (l + 1))) (wrap_eq (by rw [tot_succ]; omega) (by have := tot_small h1 h2 (l := l + 1) (by omega); omega)) ?_
   refine RA rfl ?_
   refine RN ?_
   refine A.sub (KC 1 rfl (KC 5 rfl (KC 6 rfl (KC 8 rfl (KC 10 rfl (KC 11 rfl KN)))))) ?_
   refine GE ?_
   refine TL ?_
   refine RM rfl ?_
   refine RA rfl ?_
   refine RN ?_
   refine End.normal_block ?_
   refine EN ?_
   refine GE ?_
   refine TL ?_
   refine RM rfl ?_
   refine RBS rfl rfl rfl (nI (l + 1)) (wrap_eq (by omega) (by omega)) ?_
   refine RA rfl ?_
   refine RN ?_
   refine End.normal_then ?_
   refine End.again (l + 1) ?_ ?_ ?_
   ·show _ ≤ _; omega
   ·show _ - _ < _ - _; omega
   ·exact (KC 1 rfl (KC 5 rfl (KC 6 rfl (KC 8 rfl (KC 9 rfl (KC 10 rfl KN))))))
 ·have hie : l = hg n + 1 := by simp at hc42; omega
  refine A.exit ?_
  refine End.exit_then ?_
  refine End.exit_then ?_
  refine End.exit_here ?_
  refine EN ?_
  refine GS ?_
  refine TL ?_
  refine RM rfl ?_
  refine RS (ok_call (Total_ok n h1 h2) (A1 rfl)) ?_
  refine RM rfl ?_
  refine RS (ok_extractV rfl rfl) ?_
  refine RS (ok_extractV rfl rfl) ?_
  refine RA rfl ?_
  refine RA rfl ?_
  refine RN ?_
  refine GS ?_
  refine TL ?_
  refine RM rfl ?_
  refine RBS rfl rfl rfl (.bool true) (by first | rfl | (simp; done) | (simp; omega) | (simp [*]; done) | (simp [*]; omega)) ?_
  refine RM rfl ?_
  refine RQ (ok_move rfl) ?_
  refine RQ (ok_move rfl) ?_
  refine RQ (ok_bin rfl rfl rfl) ?_; refine RZ (.bool true) (by rw [hie]; simp) ?_
  refine RP rfl rfl ?_
  refine RM rfl ?_
  refine RQ (ok_call (lives12_fn) Args.nil) ?_
  refine RP rfl rfl ?_
  refine RA rfl ?_
  refine RN ?_
  refine A.ret ?_
  exact End.ret1 rfl rfl (by first | exact Le.refl _ | exact Le.old _ _)
end Go.Proofs.Ytdnblilocdddpaa
