/-
 The law ShapesKnown of caissonlaw12 by facts.
-/
import Derived.Test.YtdnblilocdddpaaShort
import Derived.Test.YtdnblilocdddpaaC12d
namespace Go.Proofs.Ytdnblilocdddpaa
open Go Go.RowKit
set_option linter.unusedVariables false
set_option maxRecDepth 20000
theorem buildN3 (l s : Int) : Try.prog.built 31 [(1, .int .i64 l), (3, .int .i64 s)] = some (secV false l 0 s).toArray := by kernel_rfl

set_option maxHeartbeats 2000000 in
theorem ShapesKnown_fn  : Fn Try.prog 8 [] (.v (.bool true)) := by
 refine Fn.of Try.func8 rfl (by kernel_rfl) Try.ntmps8 (by simp) (fun w => []) (fun w => Start.nil) fun w₀ => ?_
 refine GS ?_
 refine TL ?_
 refine RA rfl ?_
 refine RN ?_
 refine GS ?_
 refine TL ?_
 refine RS (ok_call (Sectors_ok 4096 (by decide) (by decide)) (A1 rfl)) ?_
 refine RM rfl ?_
 refine RS (ok_extractV rfl rfl) ?_
 refine RS (ok_extractV rfl rfl) ?_
 refine RA rfl ?_
 refine RA rfl ?_
 refine RN ?_
 refine GS ?_
 refine TL ?_
 refine RS (ok_call (Total_ok 4096 (by decide) (by decide)) (A1 rfl)) ?_
 refine RM rfl ?_
 refine RS (ok_extractV rfl rfl) ?_
 refine RS (ok_extractV rfl rfl) ?_
 refine RA rfl ?_
 refine RA rfl ?_
 refine RN ?_
 refine GS ?_
 refine TL ?_
 refine RS (ok_call (Sectors_ok 1 (by decide) (by decide)) (A1 rfl)) ?_
 refine RM rfl ?_
 refine RS (ok_extractV rfl rfl) ?_
 refine RS (ok_extractV rfl rfl) ?_
 refine RA rfl ?_
 refine RA rfl ?_
 refine RN ?_
 refine GS ?_
 refine TN 4 ?_
 refine RS (ok_call (Of_node 4096 (by decide) (by decide) 10921 5 (by decide) (by decide) (by decide)) (A2 rfl rfl)) ?_
 refine RM rfl ?_
 refine RS (ok_extractV rfl rfl) ?_
 refine RS (ok_extractV rfl rfl) ?_
 refine RN ?_
 refine ⟨_, _, eff_alloc (n := 147) (d := 7) (k := 1000007) zero31 (by decide), fun b7 hb7 => ?_⟩
 have hBb7 := hb7.1
 refine TF 5 ?_
 refine RN ?_
 refine ⟨_, eff_storeA (n := 147) (s := 1000007) (size31.of (rfl)) rfl rfl (rfl) hBb7 rfl (rfl) (LV 1 rfl (LV 2 rfl (LV 3 rfl (LV 4 rfl (LV 5 rfl (LV 6 rfl (LV 7 rfl (LV 37 rfl LN)))))))), ?_⟩
 refine TL ?_
 refine RA rfl ?_
 refine RN ?_
 refine A.sub (KC 1 rfl (KC 2 rfl (KC 3 rfl (KC 4 rfl (KC 5 rfl (KC 6 rfl (KC 7 rfl (KC 8 rfl (KC 1000007 rfl KN))))))))) ?_
 refine A.seq ?_
 refine GS ?_
 refine TL ?_
 refine RM rfl ?_
 refine RBS rfl rfl rfl (.bool false) (by first | rfl | decide) ?_
 refine RM rfl ?_
 refine RQ (ok_move rfl) ?_
 refine RQ (ok_bin rfl rfl rfl) ?_; refine RZ (.bool false) (by first | rfl | decide) ?_
 refine RP rfl rfl ?_
 refine RM rfl ?_
 refine RQ (ok_move rfl) ?_
 refine RQ (ok_bin rfl rfl rfl) ?_; refine RZ (.bool false) (by first | rfl | decide) ?_
 refine RP rfl rfl ?_
 refine RM rfl ?_
 refine RQ (ok_loadA (s := 1000007) (by decide) Try.underlying31 rfl (size31.of (rfl)) rfl rfl) ?_
 refine RQ (ok_litS [(1, nI 5), (3, nI 1)] (secV false 5 0 1) ⟨rfl, rfl, rfl, rfl, trivial⟩ (buildN3 _ _)) ?_
 refine RQ (ok_neqS (by kernel_rfl) (by kernel_rfl) (tb := 4) (ti := 3) (by kernel_rfl) Try.underlying4 Try.underlying3 (by kernel_rfl) rfl rfl) ?_; refine RZ (.bool false) (congrArg Value.bool (by decide)) ?_
 refine RP rfl rfl ?_
 refine RM rfl ?_
 refine RQ (ok_move rfl) ?_
 refine RQ (ok_move rfl) ?_
 refine RQ (ok_bin rfl rfl rfl) ?_; refine RZ (.int .i64 0) (by rfl) ?_
 refine RQ (ok_move rfl) ?_
 refine RQ (ok_bin rfl rfl rfl) ?_; refine RZ (.int .i64 0) (by rfl) ?_
 refine RQ (ok_move rfl) ?_
 refine RQ (ok_bin rfl rfl rfl) ?_; refine RZ (.int .i64 0) (by rfl) ?_
 refine RQ (ok_bin rfl rfl rfl) ?_; refine RZ (.bool false) (by first | rfl | decide) ?_
 refine RP rfl rfl ?_
 refine RM rfl ?_
 refine RQ (ok_call (Check_hi 4097 (by decide)) (A1 rfl)) ?_
 refine RQ (ok_bin rfl rfl rfl) ?_; refine RZ (.bool false) (by first | rfl | decide) ?_
 refine RP rfl rfl ?_
 refine RM rfl ?_
 refine RQ (ok_call (Check_lo 0 (by decide)) (A1 rfl)) ?_
 refine RQ (ok_bin rfl rfl rfl) ?_; refine RZ (.bool false) (by first | rfl | decide) ?_
 refine RP rfl rfl ?_
 refine RN ?_
 refine A.sub (KC 70 rfl (KC 1000007 rfl KN)) ?_
 refine A.no rfl ?_
 refine A.skip ?_
 refine EN ?_
 refine A.seq ?_
 refine GS ?_
 refine TL ?_
 refine RA rfl ?_
 refine RN ?_
 refine A.block ?_
 refine A.loop (ι := Nat) (fun n => 1 ≤ n ∧ n ≤ 91) (fun n => [(9, .v (nI (n)))]) (fun n => 91 - n) 1 ?_ ?_ ?_
 ·exact ⟨by decide, by decide⟩
 ·exact (KC 9 rfl KN)
 intro n hn
 obtain ⟨h1, hn91⟩ := hn
 refine A.seq ?_
 refine GS ?_
 refine TL ?_
 refine RM rfl ?_
 refine RB rfl rfl rfl ?_
 refine RN ?_
 refine A.cond rfl (fun hc72 => ?_) (fun hc72 => ?_)
 ·have h90 : n ≤ 90 := by simp at hc72; omega
  have h2 : n ≤ 4096 := by omega
  have hh := hg_le n
  refine A.skip ?_
  refine EN ?_
  refine A.seq ?_
  refine A.block ?_
  refine GS ?_
  refine TL ?_
  refine RA rfl ?_
  refine RN ?_
  refine A.seq ?_
  refine GS ?_
  refine TL ?_
  refine RA rfl ?_
  refine RN ?_
  refine A.block ?_
  refine A.loop (ι := Nat) (fun i => i ≤ n) (fun i => [(9, .v (nI (n))), (10, .v (nI (2 * i))), (11, .v (nI (i)))]) (fun i => n - i) 0 ?_ ?_ ?_
  ·exact Nat.zero_le _
  ·exact (KC 9 rfl (KC 10 rfl (KC 11 rfl KN)))
  intro i hi
  refine A.seq ?_
  refine GS ?_
  refine TL ?_
  refine RM rfl ?_
  refine RM rfl ?_
  refine RB rfl rfl rfl ?_
  refine RN ?_
  refine A.cond rfl (fun hc77 => ?_) (fun hc77 => ?_)
  ·have hilt : i < n := by simp at hc77; omega
   refine A.skip ?_
   refine EN ?_
   refine A.seq ?_
   refine A.block ?_
   refine GS ?_
   refine TL ?_
   refine RA rfl ?_
   refine RN ?_
   refine A.block ?_
   refine A.loop (ι := Nat) (fun s => s ≤ 2) (fun s => [(9, .v (nI (n))), (10, .v (nI (2 * i + s))), (11, .v (nI (i))), (12, .v (nI (s)))]) (fun s => 2 - s) 0 ?_ ?_ ?_
   ·exact Nat.zero_le _
   ·exact (KC 9 rfl (KC 10 rfl (KC 11 rfl (KC 12 rfl KN))))
   intro s hs
   refine A.seq ?_
   refine GS ?_
   refine TL ?_
   refine RM rfl ?_
   refine RB rfl rfl rfl ?_
   refine RN ?_
   refine A.cond rfl (fun hc81 => ?_) (fun hc81 => ?_)
   ·have hslt : s < 2 := by simp at hc81; omega
    refine A.skip ?_
    refine EN ?_
    refine A.seq ?_
    refine A.block ?_
    refine GS ?_
    refine TL ?_
    refine RM rfl ?_
    refine RM rfl ?_
    refine RM rfl ?_
    refine RS (ok_call (Data_ok n h1 h2 i hilt s hslt) (A3 rfl rfl rfl)) ?_
    refine RM rfl ?_
    refine RS (ok_extractV rfl rfl) ?_
    refine RS (ok_extractV rfl rfl) ?_
    refine RA rfl ?_
    refine RA rfl ?_
    refine RN ?_
    refine A.seq ?_
    refine GS ?_
    refine TL ?_
    refine RM rfl ?_
    refine RBS rfl rfl rfl (.bool false) (by first | rfl | (simp; done) | (simp; omega) | (simp [*]; done) | (simp [*]; omega)) ?_
    refine RM rfl ?_
    refine RQ (ok_move rfl) ?_
    refine RQ (ok_move rfl) ?_
    refine RQ (ok_bin rfl rfl rfl) ?_; refine RZ (.bool false) (by first | rfl | (simp; done) | (simp; omega) | (simp [*]; done) | (simp [*]; omega)) ?_
    refine RP rfl rfl ?_
    refine RN ?_
    refine A.no rfl ?_
    refine A.skip ?_
    refine EN ?_
    refine GE ?_
    refine TL ?_
    refine RM rfl ?_
    refine RBS rfl rfl rfl (nI (2 * i + (s + 1))) (wrap_eq (by omega) (by omega)) ?_
    refine RA rfl ?_
    refine RN ?_
    refine End.normal_block ?_
    refine EN ?_
    refine GE ?_
    refine TL ?_
    refine RM rfl ?_
    refine RBS rfl rfl rfl (nI (s + 1)) (wrap_eq (by omega) (by omega)) ?_
    refine RA rfl ?_
    refine RN ?_
    refine End.normal_then ?_
    refine End.again (s + 1) ?_ ?_ ?_
    ·show _ ≤ _; omega
    ·show _ - _ < _ - _; omega
    ·exact (KC 9 rfl (KC 10 rfl (KC 11 rfl (KC 12 rfl KN))))
   ·have hse : s = 2 := by simp at hc81; omega
    refine A.exit ?_
    refine End.exit_then ?_
    refine End.exit_then ?_
    refine End.exit_here ?_
    refine End.normal_block ?_
    refine EN ?_
    refine GE ?_
    refine TL ?_
    refine RM rfl ?_
    refine RBS rfl rfl rfl (nI (i + 1)) (wrap_eq (by omega) (by omega)) ?_
    refine RA rfl ?_
    refine RN ?_
    refine End.normal_then ?_
    refine End.again (i + 1) ?_ ?_ ?_
    ·show _ ≤ _; omega
    ·show _ - _ < _ - _; omega
    ·exact (KC 9 rfl (KE 10 rfl (congrArg (fun z : Nat => D.v (nI z)) (by omega)) (KC 11 rfl KN)))
  ·have hie : i = n := by simp at hc77; omega
   refine A.exit ?_
   refine End.exit_then ?_
   refine End.exit_then ?_
   refine End.exit_here ?_
   refine EN ?_
   refine A.seq ?_
   refine GS ?_
   refine TL ?_
   refine RA rfl ?_
   refine RN ?_
   refine A.block ?_
   refine A.loop (ι := Nat) (fun l => l ≤ hg n + 1) (fun l => [(9, .v (nI (n))), (10, .v (nI (bs n l))), (15, .v (nI (l)))]) (fun l => hg n + 1 - l) 0 ?_ ?_ ?_
   ·exact Nat.zero_le _
   ·exact (KC 9 rfl (KE 10 rfl (by rw [hie, bs_zero]) (KC 15 rfl KN)))
   intro l hl'
   refine A.seq ?_
   refine GS ?_
   refine TL ?_
   refine RM rfl ?_
   refine RM rfl ?_
   refine RS (ok_call (rHeight_fn n h1 h2) (A1 rfl)) ?_
   refine RB rfl rfl rfl ?_
   refine RN ?_
   refine A.cond rfl (fun hc103 => ?_) (fun hc103 => ?_)
   ·have hl : l ≤ hg n := by simp at hc103; omega
    have hu0 := un_le h1 (l)
    have hv0 := un_pos h1 (l)
    have hu1 := un_le h1 (l + 1)
    have hv1 := un_pos h1 (l + 1)
    have hbl := bs_small h1 h2 (l := l) (by omega)
    refine A.skip ?_
    refine EN ?_
    refine A.seq ?_
    refine A.block ?_
    refine GS ?_
    refine TL ?_
    refine RA rfl ?_
    refine RN ?_
    refine A.block ?_
    refine A.loop (ι := Nat) (fun j => j ≤ un n (l + 1)) (fun j => [(9, .v (nI (n))), (10, .v (nI (bs n l + 2 * j))), (15, .v (nI (l))), (16, .v (nI (j)))]) (fun j => un n (l + 1) - j) 0 ?_ ?_ ?_
    ·exact Nat.zero_le _
    ·exact (KC 9 rfl (KE 10 rfl (by rw [Nat.mul_zero, Nat.add_zero]) (KC 15 rfl (KC 16 rfl KN))))
    intro j hj
    refine A.seq ?_
    refine GS ?_
    refine TL ?_
    refine RM rfl ?_
    refine RM rfl ?_
    refine RM rfl ?_
    refine RS (ok_call (rCount_fn n h1 h2 l hl) (A2 rfl rfl)) ?_
    refine RB rfl rfl rfl ?_
    refine RN ?_
    refine A.cond rfl (fun hc110 => ?_) (fun hc110 => ?_)
    ·have hjlt : j < un n (l + 1) := by simp at hc110; omega
     refine A.skip ?_
     refine EN ?_
     refine A.seq ?_
     refine A.block ?_
     refine GS ?_
     refine TL ?_
     refine RA rfl ?_
     refine RN ?_
     refine A.block ?_
     refine A.loop (ι := Nat) (fun s => s ≤ 2) (fun s => [(9, .v (nI (n))), (10, .v (nI (bs n l + 2 * j + s))), (15, .v (nI (l))), (16, .v (nI (j))), (17, .v (nI (s)))]) (fun s => 2 - s) 0 ?_ ?_ ?_
     ·exact Nat.zero_le _
     ·exact (KC 9 rfl (KC 10 rfl (KC 15 rfl (KC 16 rfl (KC 17 rfl KN)))))
     intro s hs
     refine A.seq ?_
     refine GS ?_
     refine TL ?_
     refine RM rfl ?_
     refine RB rfl rfl rfl ?_
     refine RN ?_
     refine A.cond rfl (fun hc114 => ?_) (fun hc114 => ?_)
     ·have hslt : s < 2 := by simp at hc114; omega
      refine A.skip ?_
      refine EN ?_
      refine A.seq ?_
      refine A.block ?_
      refine GS ?_
      refine TL ?_
      refine RM rfl ?_
      refine RM rfl ?_
      refine RM rfl ?_
      refine RM rfl ?_
      refine RS (ok_call (Node_ok n h1 h2 l j hl hjlt s hslt) (Args.cons rfl (Le.refl _) (A3 rfl rfl rfl))) ?_
      refine RM rfl ?_
      refine RS (ok_extractV rfl rfl) ?_
      refine RS (ok_extractV rfl rfl) ?_
      refine RA rfl ?_
      refine RA rfl ?_
      refine RN ?_
      refine A.seq ?_
      refine GS ?_
      refine TL ?_
      refine RM rfl ?_
      refine RBS rfl rfl rfl (.bool false) (by first | rfl | (simp; done) | (simp; omega) | (simp [*]; done) | (simp [*]; omega)) ?_
      refine RM rfl ?_
      refine RQ (ok_move rfl) ?_
      refine RQ (ok_move rfl) ?_
      refine RQ (ok_bin rfl rfl rfl) ?_; refine RZ (.bool false) (by first | rfl | (simp; done) | (simp; omega) | (simp [*]; done) | (simp [*]; omega)) ?_
      refine RP rfl rfl ?_
      refine RN ?_
      refine A.no rfl ?_
      refine A.skip ?_
      refine EN ?_
      refine GE ?_
      refine TL ?_
      refine RM rfl ?_
      refine RBS rfl rfl rfl (nI (bs n l + 2 * j + (s + 1))) (wrap_eq (by omega) (by omega)) ?_
      refine RA rfl ?_
      refine RN ?_
      refine End.normal_block ?_
      refine EN ?_
      refine GE ?_
      refine TL ?_
      refine RM rfl ?_
      refine RBS rfl rfl rfl (nI (s + 1)) (wrap_eq (by omega) (by omega)) ?_
      refine RA rfl ?_
      refine RN ?_
      refine End.sub (KC 9 rfl (KC 10 rfl (KC 15 rfl (KC 16 rfl (KC 17 rfl KN))))) ?_
      refine End.normal_then ?_
      refine End.again (s + 1) ?_ ?_ ?_
      ·show _ ≤ _; omega
      ·show _ - _ < _ - _; omega
      ·exact (KC 9 rfl (KC 10 rfl (KC 15 rfl (KC 16 rfl (KC 17 rfl KN)))))
     ·have hse : s = 2 := by simp at hc114; omega
      refine A.exit ?_
      refine End.exit_then ?_
      refine End.exit_then ?_
      refine End.exit_here ?_
      refine End.normal_block ?_
      refine EN ?_
      refine GE ?_
      refine TL ?_
      refine RM rfl ?_
      refine RBS rfl rfl rfl (nI (j + 1)) (wrap_eq (by omega) (by omega)) ?_
      refine RA rfl ?_
      refine RN ?_
      refine End.normal_then ?_
      refine End.again (j + 1) ?_ ?_ ?_
      ·show _ ≤ _; omega
      ·show _ - _ < _ - _; omega
      ·exact (KC 9 rfl (KE 10 rfl (congrArg (fun z : Nat => D.v (nI z)) (by omega)) (KC 15 rfl (KC 16 rfl KN))))
    ·have hje : j = un n (l + 1) := by simp at hc110; omega
     refine A.exit ?_
     refine End.exit_then ?_
     refine End.exit_then ?_
     refine End.exit_here ?_
     refine End.normal_block ?_
     refine EN ?_
     refine GE ?_
     refine TL ?_
     refine RM rfl ?_
     refine RBS rfl rfl rfl (nI (l + 1)) (wrap_eq (by omega) (by omega)) ?_
     refine RA rfl ?_
     refine RN ?_
     refine End.normal_then ?_
     refine End.again (l + 1) ?_ ?_ ?_
     ·show _ ≤ _; omega
     ·show _ - _ < _ - _; omega
     ·exact (KC 9 rfl (KE 10 rfl (by rw [hje, bs_succ]) (KC 15 rfl KN)))
   ·have hle' : l = hg n + 1 := by simp at hc103; omega
    refine A.exit ?_
    refine End.exit_then ?_
    refine End.exit_then ?_
    refine End.exit_here ?_
    refine EN ?_
    refine GS ?_
    refine TL ?_
    refine RM rfl ?_
    refine RS (ok_call (Sectors_ok n h1 h2) (A1 rfl)) ?_
    refine RM rfl ?_
    refine RS (ok_extractV rfl rfl) ?_
    refine RS (ok_extractV rfl rfl) ?_
    refine RA rfl ?_
    refine RA rfl ?_
    refine RN ?_
    refine GS ?_
    refine TL ?_
    refine RM rfl ?_
    refine RBS rfl rfl rfl (.bool false) (by first | rfl | (simp; done) | (simp; omega) | (simp [*]; done) | (simp [*]; omega)) ?_
    refine RM rfl ?_
    refine RQ (ok_move rfl) ?_
    refine RQ (ok_move rfl) ?_
    refine RQ (ok_bin rfl rfl rfl) ?_; refine RZ (.bool false) (by rw [hle']; simp) ?_
    refine RP rfl rfl ?_
    refine RN ?_
    refine A.no rfl ?_
    refine A.skip ?_
    refine End.normal_block ?_
    refine EN ?_
    refine GE ?_
    refine TL ?_
    refine RM rfl ?_
    refine RBS rfl rfl rfl (nI (n + 1)) (wrap_eq (by omega) (by omega)) ?_
    refine RA rfl ?_
    refine RN ?_
    refine End.normal_then ?_
    refine End.again (n + 1) ?_ ?_ ?_
    ·exact ⟨by omega, by omega⟩
    ·show _ - _ < _ - _; omega
    ·exact (KC 9 rfl KN)
 ·skip
  refine A.exit ?_
  refine End.exit_then ?_
  refine End.exit_then ?_
  refine End.exit_here ?_
  refine EN ?_
  refine GS ?_
  refine TL ?_
  refine RS (ok_call (lives12_fn) Args.nil) ?_
  refine RA rfl ?_
  refine RN ?_
  refine A.ret ?_
  exact End.ret1 rfl rfl (by first | exact Le.refl _ | exact Le.old _ _)
end Go.Proofs.Ytdnblilocdddpaa
