/-
 The laws of caissonlaw08, part one: what they share.
-/
import Derived.Test.YtmedljdbamnoiaaShort
import Derived.Test.YtmedljdbamnoiaaC08b
import Derived.Test.YtmedljdbamnoiaaKeep
namespace Go.Proofs.Ytmedljdbamnoiaa
open Go Go.RowKit
set_option linter.unusedVariables false

theorem rc_A (cs : List Nat) (m l r : Nat) (h : cs.length = 0) : Fn Try.prog 13 [vlst (rowQ cs), .v (nQ m), .v (nQ l), .v (nQ r)] (.v (.int .i64 1)) := by
 refine Fn.of Try.func13 rfl (by kernel_rfl) Try.ntmps13 (by simp) (fun w => [(0, old w.heap.size (vlst (rowQ cs))), (1, .v (nQ m)), (2, .v (nQ l)), (3, .v (nQ r))]) (fun w => (Start.old rfl (Start.v rfl (Start.v rfl (Start.v rfl Start.nil))))) fun w₀ => ?_
 refine GS ?_
 refine TL ?_
 refine RA rfl ?_
 refine RN ?_
 refine A.seq ?_
 refine GS ?_
 refine TL ?_
 refine RM rfl ?_
 refine RS (ok_lenU cs.length Try.underlying34 rfl LA (rowQ_length cs)) ?_
 refine RBS rfl rfl rfl (.bool true) (by rw [h]; rfl) ?_
 refine RM rfl ?_
 refine RK ?_
 refine RK ?_
 refine RK ?_
 refine RP rfl rfl ?_
 refine RM rfl ?_
 refine RK ?_
 refine RK ?_
 refine RK ?_
 refine RP rfl rfl ?_
 refine RM rfl ?_
 refine RK ?_
 refine RK ?_
 refine RP rfl rfl ?_
 refine RM rfl ?_
 refine RK ?_
 refine RK ?_
 refine RP rfl rfl ?_
 refine RM rfl ?_
 refine RK ?_
 refine RK ?_
 refine RK ?_
 refine RP rfl rfl ?_
 refine RN ?_
 refine A.sub (KC 0 rfl (KC 1 rfl (KC 35 rfl KN))) ?_
 refine A.yes rfl ?_
 refine GS ?_
 refine TL ?_
 refine RA rfl ?_
 refine RN ?_
 refine A.ret ?_
 refine End.ret_then ?_
 exact End.ret1 rfl rfl (by first | exact Le.refl _ | exact Le.old _ _)
theorem rc_B (cs : List Nat) (m l r : Nat) (h : 8 < cs.length) : Fn Try.prog 13 [vlst (rowQ cs), .v (nQ m), .v (nQ l), .v (nQ r)] (.v (.int .i64 1)) := by
 refine Fn.of Try.func13 rfl (by kernel_rfl) Try.ntmps13 (by simp) (fun w => [(0, old w.heap.size (vlst (rowQ cs))), (1, .v (nQ m)), (2, .v (nQ l)), (3, .v (nQ r))]) (fun w => (Start.old rfl (Start.v rfl (Start.v rfl (Start.v rfl Start.nil))))) fun w₀ => ?_
 refine GS ?_
 refine TL ?_
 refine RA rfl ?_
 refine RN ?_
 refine A.seq ?_
 refine GS ?_
 refine TL ?_
 refine RM rfl ?_
 refine RS (ok_lenU cs.length Try.underlying34 rfl LA (rowQ_length cs)) ?_
 refine RBS rfl rfl rfl (.bool false) (congrArg Value.bool (beq_eq_false_iff_ne.2 (by omega))) ?_
 refine RM rfl ?_
 refine RQ (ok_move rfl) ?_
 refine RQ (ok_lenU cs.length Try.underlying34 rfl LA (rowQ_length cs)) ?_
 refine RQ (ok_bin rfl rfl rfl) ?_; refine RZ (.bool true) (by simp; omega) ?_
 refine RP rfl rfl ?_
 refine RM rfl ?_
 refine RK ?_
 refine RK ?_
 refine RK ?_
 refine RP rfl rfl ?_
 refine RM rfl ?_
 refine RK ?_
 refine RK ?_
 refine RP rfl rfl ?_
 refine RM rfl ?_
 refine RK ?_
 refine RK ?_
 refine RP rfl rfl ?_
 refine RM rfl ?_
 refine RK ?_
 refine RK ?_
 refine RK ?_
 refine RP rfl rfl ?_
 refine RN ?_
 refine A.sub (KC 0 rfl (KC 1 rfl (KC 35 rfl KN))) ?_
 refine A.yes rfl ?_
 refine GS ?_
 refine TL ?_
 refine RA rfl ?_
 refine RN ?_
 refine A.ret ?_
 refine End.ret_then ?_
 exact End.ret1 rfl rfl (by first | exact Le.refl _ | exact Le.old _ _)
theorem rc_C (cs : List Nat) (m l r : Nat) (h1 : 1 ≤ cs.length) (h2 : cs.length ≤ 8) (h3 : l < m) : Fn Try.prog 13 [vlst (rowQ cs), .v (nQ m), .v (nQ l), .v (nQ r)] (.v (.int .i64 1)) := by
 refine Fn.of Try.func13 rfl (by kernel_rfl) Try.ntmps13 (by simp) (fun w => [(0, old w.heap.size (vlst (rowQ cs))), (1, .v (nQ m)), (2, .v (nQ l)), (3, .v (nQ r))]) (fun w => (Start.old rfl (Start.v rfl (Start.v rfl (Start.v rfl Start.nil))))) fun w₀ => ?_
 refine GS ?_
 refine TL ?_
 refine RA rfl ?_
 refine RN ?_
 refine A.seq ?_
 refine GS ?_
 refine TL ?_
 refine RM rfl ?_
 refine RS (ok_lenU cs.length Try.underlying34 rfl LA (rowQ_length cs)) ?_
 refine RBS rfl rfl rfl (.bool false) (congrArg Value.bool (beq_eq_false_iff_ne.2 (by omega))) ?_
 refine RM rfl ?_
 refine RQ (ok_move rfl) ?_
 refine RQ (ok_lenU cs.length Try.underlying34 rfl LA (rowQ_length cs)) ?_
 refine RQ (ok_bin rfl rfl rfl) ?_; refine RZ (.bool false) (by simp; omega) ?_
 refine RP rfl rfl ?_
 refine RM rfl ?_
 refine RQ (ok_move rfl) ?_
 refine RQ (ok_move rfl) ?_
 refine RQ (ok_bin rfl rfl rfl) ?_; refine RZ (.bool true) (by simp; omega) ?_
 refine RP rfl rfl ?_
 refine RM rfl ?_
 refine RK ?_
 refine RK ?_
 refine RP rfl rfl ?_
 refine RM rfl ?_
 refine RK ?_
 refine RK ?_
 refine RP rfl rfl ?_
 refine RM rfl ?_
 refine RK ?_
 refine RK ?_
 refine RK ?_
 refine RP rfl rfl ?_
 refine RN ?_
 refine A.sub (KC 0 rfl (KC 1 rfl (KC 35 rfl KN))) ?_
 refine A.yes rfl ?_
 refine GS ?_
 refine TL ?_
 refine RA rfl ?_
 refine RN ?_
 refine A.ret ?_
 refine End.ret_then ?_
 exact End.ret1 rfl rfl (by first | exact Le.refl _ | exact Le.old _ _)
theorem rc_D (cs : List Nat) (m l r : Nat) (h1 : 1 ≤ cs.length) (h2 : cs.length ≤ 8) (h3 : m ≤ l) (h4 : r = 0) : Fn Try.prog 13 [vlst (rowQ cs), .v (nQ m), .v (nQ l), .v (nQ r)] (.v (.int .i64 1)) := by
 refine Fn.of Try.func13 rfl (by kernel_rfl) Try.ntmps13 (by simp) (fun w => [(0, old w.heap.size (vlst (rowQ cs))), (1, .v (nQ m)), (2, .v (nQ l)), (3, .v (nQ r))]) (fun w => (Start.old rfl (Start.v rfl (Start.v rfl (Start.v rfl Start.nil))))) fun w₀ => ?_
 refine GS ?_
 refine TL ?_
 refine RA rfl ?_
 refine RN ?_
 refine A.seq ?_
 refine GS ?_
 refine TL ?_
 refine RM rfl ?_
 refine RS (ok_lenU cs.length Try.underlying34 rfl LA (rowQ_length cs)) ?_
 refine RBS rfl rfl rfl (.bool false) (congrArg Value.bool (beq_eq_false_iff_ne.2 (by omega))) ?_
 refine RM rfl ?_
 refine RQ (ok_move rfl) ?_
 refine RQ (ok_lenU cs.length Try.underlying34 rfl LA (rowQ_length cs)) ?_
 refine RQ (ok_bin rfl rfl rfl) ?_; refine RZ (.bool false) (by simp; omega) ?_
 refine RP rfl rfl ?_
 refine RM rfl ?_
 refine RQ (ok_move rfl) ?_
 refine RQ (ok_move rfl) ?_
 refine RQ (ok_bin rfl rfl rfl) ?_; refine RZ (.bool false) (by simp; omega) ?_
 refine RP rfl rfl ?_
 refine RM rfl ?_
 refine RQ (ok_move rfl) ?_
 refine RQ (ok_bin rfl rfl rfl) ?_; refine RZ (.bool true) (by rw [h4]; rfl) ?_
 refine RP rfl rfl ?_
 refine RM rfl ?_
 refine RK ?_
 refine RK ?_
 refine RP rfl rfl ?_
 refine RM rfl ?_
 refine RK ?_
 refine RK ?_
 refine RK ?_
 refine RP rfl rfl ?_
 refine RN ?_
 refine A.sub (KC 0 rfl (KC 1 rfl (KC 35 rfl KN))) ?_
 refine A.yes rfl ?_
 refine GS ?_
 refine TL ?_
 refine RA rfl ?_
 refine RN ?_
 refine A.ret ?_
 refine End.ret_then ?_
 exact End.ret1 rfl rfl (by first | exact Le.refl _ | exact Le.old _ _)
theorem rc_E (cs : List Nat) (m l r : Nat) (h1 : 1 ≤ cs.length) (h2 : cs.length ≤ 8) (h3 : m ≤ l) (h4 : 0 < r) (h5 : 4294967296 < r) : Fn Try.prog 13 [vlst (rowQ cs), .v (nQ m), .v (nQ l), .v (nQ r)] (.v (.int .i64 1)) := by
 refine Fn.of Try.func13 rfl (by kernel_rfl) Try.ntmps13 (by simp) (fun w => [(0, old w.heap.size (vlst (rowQ cs))), (1, .v (nQ m)), (2, .v (nQ l)), (3, .v (nQ r))]) (fun w => (Start.old rfl (Start.v rfl (Start.v rfl (Start.v rfl Start.nil))))) fun w₀ => ?_
 refine GS ?_
 refine TL ?_
 refine RA rfl ?_
 refine RN ?_
 refine A.seq ?_
 refine GS ?_
 refine TL ?_
 refine RM rfl ?_
 refine RS (ok_lenU cs.length Try.underlying34 rfl LA (rowQ_length cs)) ?_
 refine RBS rfl rfl rfl (.bool false) (congrArg Value.bool (beq_eq_false_iff_ne.2 (by omega))) ?_
 refine RM rfl ?_
 refine RQ (ok_move rfl) ?_
 refine RQ (ok_lenU cs.length Try.underlying34 rfl LA (rowQ_length cs)) ?_
 refine RQ (ok_bin rfl rfl rfl) ?_; refine RZ (.bool false) (by simp; omega) ?_
 refine RP rfl rfl ?_
 refine RM rfl ?_
 refine RQ (ok_move rfl) ?_
 refine RQ (ok_move rfl) ?_
 refine RQ (ok_bin rfl rfl rfl) ?_; refine RZ (.bool false) (by simp; omega) ?_
 refine RP rfl rfl ?_
 refine RM rfl ?_
 refine RQ (ok_move rfl) ?_
 refine RQ (ok_bin rfl rfl rfl) ?_; refine RZ (.bool false) (congrArg Value.bool (beq_eq_false_iff_ne.2 (by omega))) ?_
 refine RP rfl rfl ?_
 refine RM rfl ?_
 refine RQ (ok_move rfl) ?_
 refine RQ (ok_bin rfl rfl rfl) ?_; refine RZ (.bool true) (by simp; omega) ?_
 refine RP rfl rfl ?_
 refine RM rfl ?_
 refine RK ?_
 refine RK ?_
 refine RK ?_
 refine RP rfl rfl ?_
 refine RN ?_
 refine A.sub (KC 0 rfl (KC 1 rfl (KC 35 rfl KN))) ?_
 refine A.yes rfl ?_
 refine GS ?_
 refine TL ?_
 refine RA rfl ?_
 refine RN ?_
 refine A.ret ?_
 refine End.ret_then ?_
 exact End.ret1 rfl rfl (by first | exact Le.refl _ | exact Le.old _ _)
theorem rc_F (cs : List Nat) (m l r : Nat) (h1 : 1 ≤ cs.length) (h2 : cs.length ≤ 8) (h3 : m ≤ l) (h4 : 0 < r) (h5 : r ≤ 4294967296) (h6 : l < r) : Fn Try.prog 13 [vlst (rowQ cs), .v (nQ m), .v (nQ l), .v (nQ r)] (.v (.int .i64 1)) := by
 refine Fn.of Try.func13 rfl (by kernel_rfl) Try.ntmps13 (by simp) (fun w => [(0, old w.heap.size (vlst (rowQ cs))), (1, .v (nQ m)), (2, .v (nQ l)), (3, .v (nQ r))]) (fun w => (Start.old rfl (Start.v rfl (Start.v rfl (Start.v rfl Start.nil))))) fun w₀ => ?_
 refine GS ?_
 refine TL ?_
 refine RA rfl ?_
 refine RN ?_
 refine A.seq ?_
 refine GS ?_
 refine TL ?_
 refine RM rfl ?_
 refine RS (ok_lenU cs.length Try.underlying34 rfl LA (rowQ_length cs)) ?_
 refine RBS rfl rfl rfl (.bool false) (congrArg Value.bool (beq_eq_false_iff_ne.2 (by omega))) ?_
 refine RM rfl ?_
 refine RQ (ok_move rfl) ?_
 refine RQ (ok_lenU cs.length Try.underlying34 rfl LA (rowQ_length cs)) ?_
 refine RQ (ok_bin rfl rfl rfl) ?_; refine RZ (.bool false) (by simp; omega) ?_
 refine RP rfl rfl ?_
 refine RM rfl ?_
 refine RQ (ok_move rfl) ?_
 refine RQ (ok_move rfl) ?_
 refine RQ (ok_bin rfl rfl rfl) ?_; refine RZ (.bool false) (by simp; omega) ?_
 refine RP rfl rfl ?_
 refine RM rfl ?_
 refine RQ (ok_move rfl) ?_
 refine RQ (ok_bin rfl rfl rfl) ?_; refine RZ (.bool false) (congrArg Value.bool (beq_eq_false_iff_ne.2 (by omega))) ?_
 refine RP rfl rfl ?_
 refine RM rfl ?_
 refine RQ (ok_move rfl) ?_
 refine RQ (ok_bin rfl rfl rfl) ?_; refine RZ (.bool false) (by simp; omega) ?_
 refine RP rfl rfl ?_
 refine RM rfl ?_
 refine RQ (ok_move rfl) ?_
 refine RQ (ok_move rfl) ?_
 refine RQ (ok_bin rfl rfl rfl) ?_; refine RZ (.bool true) (by simp; omega) ?_
 refine RP rfl rfl ?_
 refine RN ?_
 refine A.sub (KC 0 rfl (KC 1 rfl (KC 35 rfl KN))) ?_
 refine A.yes rfl ?_
 refine GS ?_
 refine TL ?_
 refine RA rfl ?_
 refine RN ?_
 refine A.ret ?_
 refine End.ret_then ?_
 exact End.ret1 rfl rfl (by first | exact Le.refl _ | exact Le.old _ _)
theorem mx_not {cs : List Nat} {m i : Nat} (hi : i < cs.length) (h : m < cs.getD i 0) : ¬ mx cs ≤ m := fun h1 => by
 have := getD_le (i := i) (mx_le.1 h1)
 omega
theorem rc_G (cs : List Nat) (m l r : Nat) (h1 : 1 ≤ cs.length) (h2 : cs.length ≤ 8) (h3 : m ≤ l) (h4 : 0 < r) (h5 : r ≤ 4294967296) (h6 : r ≤ l) : Fn Try.prog 13 [vlst (rowQ cs), .v (nQ m), .v (nQ l), .v (nQ r)] (.v (.int .i64 (if mx cs ≤ m then 0 else 1))) := by
 refine Fn.of Try.func13 rfl (by kernel_rfl) Try.ntmps13 (by simp) (fun w => [(0, old w.heap.size (vlst (rowQ cs))), (1, .v (nQ m)), (2, .v (nQ l)), (3, .v (nQ r))]) (fun w => (Start.old rfl (Start.v rfl (Start.v rfl (Start.v rfl Start.nil))))) fun w₀ => ?_
 refine GS ?_
 refine TL ?_
 refine RA rfl ?_
 refine RN ?_
 refine A.seq ?_
 refine GS ?_
 refine TL ?_
 refine RM rfl ?_
 refine RS (ok_lenU cs.length Try.underlying34 rfl LA (rowQ_length cs)) ?_
 refine RBS rfl rfl rfl (.bool false) (congrArg Value.bool (beq_eq_false_iff_ne.2 (by omega))) ?_
 refine RM rfl ?_
 refine RQ (ok_move rfl) ?_
 refine RQ (ok_lenU cs.length Try.underlying34 rfl LA (rowQ_length cs)) ?_
 refine RQ (ok_bin rfl rfl rfl) ?_; refine RZ (.bool false) (by simp; omega) ?_
 refine RP rfl rfl ?_
 refine RM rfl ?_
 refine RQ (ok_move rfl) ?_
 refine RQ (ok_move rfl) ?_
 refine RQ (ok_bin rfl rfl rfl) ?_; refine RZ (.bool false) (by simp; omega) ?_
 refine RP rfl rfl ?_
 refine RM rfl ?_
 refine RQ (ok_move rfl) ?_
 refine RQ (ok_bin rfl rfl rfl) ?_; refine RZ (.bool false) (congrArg Value.bool (beq_eq_false_iff_ne.2 (by omega))) ?_
 refine RP rfl rfl ?_
 refine RM rfl ?_
 refine RQ (ok_move rfl) ?_
 refine RQ (ok_bin rfl rfl rfl) ?_; refine RZ (.bool false) (by simp; omega) ?_
 refine RP rfl rfl ?_
 refine RM rfl ?_
 refine RQ (ok_move rfl) ?_
 refine RQ (ok_move rfl) ?_
 refine RQ (ok_bin rfl rfl rfl) ?_; refine RZ (.bool false) (by simp; omega) ?_
 refine RP rfl rfl ?_
 refine RN ?_
 refine A.sub (KC 0 rfl (KC 1 rfl (KC 35 rfl KN))) ?_
 refine A.no rfl ?_
 refine A.skip ?_
 refine EN ?_
 refine A.seq ?_
 refine GS ?_
 refine TL ?_
 refine RA rfl ?_
 refine RN ?_
 refine A.block ?_
 refine A.loop (ι := Nat) (fun i => i ≤ cs.length ∧ mx (cs.take i) ≤ m) (fun i => [(0, old w₀.heap.size (vlst (rowQ cs))), (1, .v (nQ m)), (9, .v (nI i))]) (fun i => cs.length - i) 0 ?_ ?_ ?_
 ·exact ⟨Nat.zero_le _, by simp [mx]⟩
 ·exact (KC 0 rfl (KC 1 rfl (KE 9 rfl (by rfl) KN)))
 intro i hi'
 refine A.seq ?_
 refine GS ?_
 refine TL ?_
 refine RM rfl ?_
 refine RM rfl ?_
 refine RS (ok_lenU cs.length Try.underlying34 rfl LA (rowQ_length cs)) ?_
 refine RB rfl rfl rfl ?_
 refine RN ?_
 refine A.cond rfl (fun hc39 => ?_) (fun hc39 => ?_)
 ·have hi : i < cs.length := by simp at hc39; omega
  refine A.skip ?_
  refine EN ?_
  refine A.seq ?_
  refine A.block ?_
  refine GS ?_
  refine TL ?_
  refine RM rfl ?_
  refine RM rfl ?_
  refine RS (ok_indexU i Try.underlying34 info23 rfl LA rfl (rowQ_get hi)) ?_
  refine RS (ok_load Try.underlying23 rfl rfl) ?_
  refine RM rfl ?_
  refine RB rfl rfl rfl ?_
  refine RN ?_
  refine A.cond rfl (fun hc47 => ?_) (fun hc47 => ?_)
  ·refine GS ?_
   refine TL ?_
   refine RA rfl ?_
   refine RN ?_
   refine A.ret ?_
   refine End.ret_block ?_
   refine End.ret_then ?_
   refine End.ret_then ?_
   refine End.ret_block ?_
   refine End.ret_then ?_
   first | exact End.ret1 rfl rfl (Le.v (congrArg (Value.int .i64) (if_neg (mx_not hi (by simpa using hc47))).symm)) | exact End.ret1 rfl rfl (Le.v (congrArg (Value.int .i64) (if_pos (by have h9 := hi'.2; rw [hi2, List.take_of_length_le (Nat.le_refl _)] at h9; exact h9)).symm))
  ·refine A.skip ?_
   refine End.normal_block ?_
   refine EN ?_
   refine GE ?_
   refine TL ?_
   refine RM rfl ?_
   refine RBS rfl rfl rfl (nI (i + 1)) (by rw [wrap_i64 (by omega) (by omega)]; exact congrArg (Value.int .i64) (by omega)) ?_
   refine RA rfl ?_
   refine RN ?_
   refine End.normal_then ?_
   refine End.again (i + 1) ?_ ?_ ?_
   ·exact ⟨by omega, by rw [mx_succ hi]; exact Nat.max_le.2 ⟨hi'.2, by simpa using hc47⟩⟩
   ·show _ - _ < _ - _; omega
   ·exact (KC 0 rfl (KC 1 rfl (KC 9 rfl KN)))
 ·have hi2 : i = cs.length := by simp at hc39; omega
  refine A.exit ?_
  refine End.exit_then ?_
  refine End.exit_then ?_
  refine End.exit_here ?_
  refine EN ?_
  refine GS ?_
  refine TL ?_
  refine RA rfl ?_
  refine RN ?_
  refine A.ret ?_
  first | exact End.ret1 rfl rfl (Le.v (congrArg (Value.int .i64) (if_neg (mx_not hi (by simpa using hc47))).symm)) | exact End.ret1 rfl rfl (Le.v (congrArg (Value.int .i64) (if_pos (by have h9 := hi'.2; rw [hi2, List.take_of_length_le (Nat.le_refl _)] at h9; exact h9)).symm))
theorem refCheck_ok (cs : List Nat) (m l r : Nat) (h : Valid cs m l r) : Fn Try.prog 13 [vlst (rowQ cs), .v (nQ m), .v (nQ l), .v (nQ r)] (.v (.int .i64 0)) := by
 obtain ⟨h1, h2, h3, h4, h5, h6, h7⟩ := h
 have := rc_G cs m l r h1 h2 h4 h5 h6 h7
 rwa [if_pos (mx_le.2 h3)] at this
theorem refCheck_bad (cs : List Nat) (m l r : Nat) (h : ¬ Valid cs m l r) : Fn Try.prog 13 [vlst (rowQ cs), .v (nQ m), .v (nQ l), .v (nQ r)] (.v (.int .i64 1)) := by
 by_cases h1 : cs.length = 0
 ·exact rc_A cs m l r h1
 by_cases h2 : 8 < cs.length
 ·exact rc_B cs m l r h2
 by_cases h3 : l < m
 ·exact rc_C cs m l r (by omega) (by omega) h3
 by_cases h4 : r = 0
 ·exact rc_D cs m l r (by omega) (by omega) (by omega) h4
 by_cases h5 : 4294967296 < r
 ·exact rc_E cs m l r (by omega) (by omega) (by omega) (by omega) h5
 by_cases h6 : l < r
 ·exact rc_F cs m l r (by omega) (by omega) (by omega) (by omega) (by omega) h6
 have := rc_G cs m l r (by omega) (by omega) (by omega) (by omega) (by omega) (by omega)
 rwa [if_neg fun h7 => h ⟨by omega, by omega, mx_le.1 h7, by omega, by omega, by omega, by omega⟩] at this
set_option maxHeartbeats 1000000 in
theorem same8_fn (cs : List Nat) (m l r : Nat) (hb : cs.length ≤ 1000) : Fn Try.prog 16 [hdD (vlist (rowQ cs) cs.length) (alR m l r), hdD (vlst (rowQ cs)) (alR m l r)] (.v (.bool true)) := by
 refine Fn.of Try.func16 rfl (by kernel_rfl) Try.ntmps16 (by simp) (fun w => [(0, old w.heap.size (hdD (vlist (rowQ cs) cs.length) (alR m l r))), (1, old w.heap.size (hdD (vlst (rowQ cs)) (alR m l r)))]) (fun w => (Start.old rfl (Start.old rfl Start.nil))) fun w₀ => ?_
 refine A.nameHd (t := 0) (k := 1000200) rfl fun v hv => ?_
 refine A.nameHd (t := 1) (k := 1000201) rfl fun v' hv' => ?_
 refine GS ?_
 refine TN 0 ?_
 refine RN ?_
 refine ⟨_, _, eff_box (n := 61) (d := 2) (k := 1000002) rfl (by decide), fun b2 hb2 => ?_⟩
 have hBb2 := hb2.1
 refine TN 1 ?_
 refine RN ?_
 refine ⟨_, _, eff_box (n := 61) (d := 3) (k := 1000003) rfl (by decide), fun b3 hb3 => ?_⟩
 have hBb3 := hb3.1
 have hlt_b2_b3 : b2 < b3 := hb3.2 1000002 _ _ _ rfl
 refine TL ?_
 refine RA rfl ?_
 refine RN ?_
 refine A.seq ?_
 refine GS ?_
 refine TL ?_
 refine RS (ok_field field36_0 (by decide) rfl) ?_
 refine RS (OpOk.valO (ok_loadV (s := 1000002) (by decide) Try.underlying34 rfl rfl rfl (rfl)) (k := 1000200) (by decide) rfl) ?_
 refine RS (ok_lenU cs.length Try.underlying34 rfl LA (rowQ_length cs)) ?_
 refine RS (ok_field field36_0 (by decide) rfl) ?_
 refine RS (OpOk.valO (ok_loadV (s := 1000003) (by decide) Try.underlying34 rfl rfl rfl (rfl)) (k := 1000201) (by decide) rfl) ?_
 refine RS (ok_lenU cs.length Try.underlying34 rfl LA (rowQ_length cs)) ?_
 refine RBS rfl rfl rfl (.bool false) (by simp) ?_
 refine RM rfl ?_
 refine RQ (ok_field field36_0 (by decide) rfl) ?_
 refine RQ (OpOk.valO (ok_loadV (s := 1000002) (by decide) Try.underlying34 rfl rfl rfl (rfl)) (k := 1000200) (by decide) rfl) ?_
 refine RQ (ok_capU Try.underlying34 rfl (Le.old _ _)) ?_
 refine RQ (ok_field field36_0 (by decide) rfl) ?_
 refine RQ (OpOk.valO (ok_loadV (s := 1000002) (by decide) Try.underlying34 rfl rfl rfl (rfl)) (k := 1000200) (by decide) rfl) ?_
 refine RQ (ok_lenU cs.length Try.underlying34 rfl LA (rowQ_length cs)) ?_
 refine RQ (ok_bin rfl rfl rfl) ?_; refine RZ (.bool false) (by simp) ?_
 refine RP rfl rfl ?_
 refine RM rfl ?_
 refine RQ (ok_field field36_1 (by decide) rfl) ?_
 refine RQ (ok_loadV (s := 1000002) (by decide) Try.underlying23 rfl rfl rfl (rfl)) ?_
 refine RQ (ok_field field36_1 (by decide) rfl) ?_
 refine RQ (ok_loadV (s := 1000003) (by decide) Try.underlying23 rfl rfl rfl (rfl)) ?_
 refine RQ (ok_bin rfl rfl rfl) ?_; refine RZ (.bool false) (by simp) ?_
 refine RP rfl rfl ?_
 refine RM rfl ?_
 refine RQ (ok_field field36_2 (by decide) rfl) ?_
 refine RQ (ok_loadV (s := 1000002) (by decide) Try.underlying23 rfl rfl rfl (rfl)) ?_
 refine RQ (ok_field field36_2 (by decide) rfl) ?_
 refine RQ (ok_loadV (s := 1000003) (by decide) Try.underlying23 rfl rfl rfl (rfl)) ?_
 refine RQ (ok_bin rfl rfl rfl) ?_; refine RZ (.bool false) (by simp) ?_
 refine RP rfl rfl ?_
 refine RM rfl ?_
 refine RQ (ok_field field36_3 (by decide) rfl) ?_
 refine RQ (ok_loadV (s := 1000002) (by decide) Try.underlying23 rfl rfl rfl (rfl)) ?_
 refine RQ (ok_field field36_3 (by decide) rfl) ?_
 refine RQ (ok_loadV (s := 1000003) (by decide) Try.underlying23 rfl rfl rfl (rfl)) ?_
 refine RQ (ok_bin rfl rfl rfl) ?_; refine RZ (.bool false) (by simp) ?_
 refine RP rfl rfl ?_
 refine RN ?_
 refine A.sub (KC 2 rfl (KC 3 rfl (KC 42 rfl (KC 1000002 rfl (KC 1000003 rfl (KC 1000200 rfl (KC 1000201 rfl KN))))))) ?_
 refine A.no rfl ?_
 refine A.skip ?_
 refine EN ?_
 refine A.seq ?_
 refine GS ?_
 refine TL ?_
 refine RA rfl ?_
 refine RN ?_
 refine A.block ?_
 refine A.loop (ι := Nat) (fun i => i ≤ cs.length) (fun i => [(1000200, old w₀.heap.size (valM v (vlist (rowQ cs) cs.length))), (1000201, old w₀.heap.size (valM v' (vlst (rowQ cs)))), (2, .v (.pointer (some ⟨b2, 0, none⟩))), (3, .v (.pointer (some ⟨b3, 0, none⟩))), (5, .v (nI i)), (1000002, blk b2 36 (v :: alR m l r)), (1000003, blk b3 36 (v' :: alR m l r))]) (fun i => cs.length - i) 0 ?_ ?_ ?_
 ·exact Nat.zero_le _
 ·exact (KC 1000200 rfl (KC 1000201 rfl (KC 2 rfl (KC 3 rfl (KE 5 rfl (by rfl) (KC 1000002 rfl (KC 1000003 rfl KN)))))))
 intro i hi'
 refine A.seq ?_
 refine GS ?_
 refine TL ?_
 refine RM rfl ?_
 refine RS (ok_field field36_0 (by decide) rfl) ?_
 refine RS (OpOk.valO (ok_loadV (s := 1000002) (by decide) Try.underlying34 rfl rfl rfl (rfl)) (k := 1000200) (by decide) rfl) ?_
 refine RS (ok_lenU cs.length Try.underlying34 rfl LA (rowQ_length cs)) ?_
 refine RB rfl rfl rfl ?_
 refine RN ?_
 refine A.cond rfl (fun hc47 => ?_) (fun hc47 => ?_)
 ·have hi : i < cs.length := by simp at hc47; omega
  refine A.skip ?_
  refine EN ?_
  refine A.seq ?_
  refine A.block ?_
  refine GD ?_
  refine TL ?_
  refine RS (ok_field field36_0 (by decide) rfl) ?_
  refine RS (OpOk.valO (ok_loadV (s := 1000002) (by decide) Try.underlying34 rfl rfl rfl (rfl)) (k := 1000200) (by decide) rfl) ?_
  refine RM rfl ?_
  refine RS (ok_indexU i Try.underlying34 info23 rfl LA rfl (rowQ_get hi)) ?_
  refine RS (ok_load Try.underlying23 rfl rfl) ?_
  refine RS (ok_field field36_0 (by decide) rfl) ?_
  refine RS (OpOk.valO (ok_loadV (s := 1000003) (by decide) Try.underlying34 rfl rfl rfl (rfl)) (k := 1000201) (by decide) rfl) ?_
  refine RM rfl ?_
  refine RS (ok_indexU i Try.underlying34 info23 rfl LA rfl (rowQ_get hi)) ?_
  refine RS (ok_load Try.underlying23 rfl rfl) ?_
  refine RBS rfl rfl rfl (.bool false) (by simp) ?_
  refine RN ?_
  refine A.no rfl ?_
  refine A.skip ?_
  refine End.normal_block ?_
  refine EN ?_
  refine GE ?_
  refine TL ?_
  refine RM rfl ?_
  refine RBS rfl rfl rfl (nI (i + 1)) (by rw [wrap_i64 (by omega) (by omega)]; exact congrArg (Value.int .i64) (by omega)) ?_
  refine RA rfl ?_
  refine RN ?_
  refine End.normal_then ?_
  refine End.again (i + 1) ?_ ?_ ?_
  ·show _ ≤ _; omega
  ·show _ - _ < _ - _; omega
  ·exact (KC 1000200 rfl (KC 1000201 rfl (KC 2 rfl (KC 3 rfl (KC 5 rfl (KC 1000002 rfl (KC 1000003 rfl KN)))))))
 ·refine A.exit ?_
  refine End.exit_then ?_
  refine End.exit_then ?_
  refine End.exit_here ?_
  refine EN ?_
  refine GS ?_
  refine TL ?_
  refine RA rfl ?_
  refine RN ?_
  refine A.ret ?_
  exact End.ret1 rfl rfl (by first | exact Le.refl _ | exact Le.old _ _)
/-- The counters as bytes of nonces. -/
def rowL (cs : List Nat) : List UInt8 := cs.flatMap fun c => nonceL 0 c
theorem rowL_length (cs : List Nat) : (rowL cs).length = 12 * cs.length := by
 induction cs with
 | nil => rfl
 | cons c cs ih => simp only [rowL, List.flatMap_cons, List.length_append, nonceL_length, List.length_cons] at ih ⊢; omega
theorem rowL_succ {cs : List Nat} {i : Nat} (h : i < cs.length) : (rowL (cs.take i)).map byteV ++ (nonceL 0 (cs.getD i 0)).map byteV = (rowL (cs.take (i + 1))).map byteV := by
 rw [List.take_add_one, List.getElem?_eq_getElem h, List.getD_eq_getElem?_getD, List.getElem?_eq_getElem h]
 simp only [rowL, List.flatMap_append, List.map_append, Option.toList_some, List.flatMap_cons, List.flatMap_nil, List.append_nil, Option.getD_some]
set_option maxHeartbeats 1000000 in
theorem rowOf_fn (cs : List Nat) (m l r : Nat) (hb : cs.length ≤ 1000) (hm : m < 18446744073709551616) (hq : ∀ c ∈ cs, c ≤ m) : Fn Try.prog 22 [hdD (vlst (rowQ cs)) (alR m l r)] (byt (rowL cs)) := by
 refine Fn.of Try.func22 rfl (by kernel_rfl) Try.ntmps22 (by simp) (fun w => [(0, old w.heap.size (hdD (vlst (rowQ cs)) (alR m l r)))]) (fun w => (Start.old rfl Start.nil)) fun w₀ => ?_
 refine A.nameHd (t := 0) (k := 1000200) rfl fun v hv => ?_
 refine GS ?_
 refine TN 0 ?_
 refine RN ?_
 refine ⟨_, _, eff_box (n := 22) (d := 1) (k := 1000001) rfl (by decide), fun b1 hb1 => ?_⟩
 have hBb1 := hb1.1
 refine TL ?_
 refine RA rfl ?_
 refine RN ?_
 refine GS ?_
 refine TL ?_
 refine RA rfl ?_
 refine RN ?_
 refine A.seq ?_
 refine GS ?_
 refine TL ?_
 refine RA rfl ?_
 refine RN ?_
 refine A.block ?_
 refine A.subL (SubL.cons (t := 1000200) rfl (Le.refl _) (SubL.cons (t := 1) rfl (Le.refl _) (SubL.cons (t := 3) rfl (own_nil (B := w₀.heap.size) (e := 5)) (SubL.cons (t := 4) rfl (Le.refl _) (SubL.cons (t := 1000001) rfl (Le.refl _) SubL.nil))))) ?_
 refine A.loop (ι := Nat) (fun i => i ≤ cs.length) (fun i => [(1000200, old w₀.heap.size (valM v (vlst (rowQ cs)))), (1, .v (.pointer (some ⟨b1, 0, none⟩))), (3, own w₀.heap.size 5 (12 * i) ((rowL (cs.take i)).map byteV)), (4, .v (nI i)), (1000001, blk b1 36 (v :: alR m l r))]) (fun i => cs.length - i) 0 ?_ ?_ ?_
 ·exact Nat.zero_le _
 ·exact (KC 1000200 rfl (KC 1 rfl (KC 3 rfl (KE 4 rfl (by rfl) (KC 1000001 rfl KN)))))
 intro i hi'
 refine A.seq ?_
 refine GS ?_
 refine TL ?_
 refine RM rfl ?_
 refine RS (ok_field field36_0 (by decide) rfl) ?_
 refine RS (OpOk.valO (ok_loadV (s := 1000001) (by decide) Try.underlying34 rfl rfl rfl (rfl)) (k := 1000200) (by decide) rfl) ?_
 refine RS (ok_lenU cs.length Try.underlying34 rfl LA (rowQ_length cs)) ?_
 refine RB rfl rfl rfl ?_
 refine RN ?_
 refine A.cond rfl (fun hc9 => ?_) (fun hc9 => ?_)
 ·have hi : i < cs.length := by simp at hc9; omega
  have hgm : cs.getD i 0 ≤ m := getD_le hq
  refine A.skip ?_
  refine EN ?_
  refine A.seq ?_
  refine A.block ?_
  refine GE ?_
  refine TF 8 ?_
  refine RM rfl ?_
  refine RS (ok_field field36_0 (by decide) rfl) ?_
  refine RS (OpOk.valO (ok_loadV (s := 1000001) (by decide) Try.underlying34 rfl rfl rfl (rfl)) (k := 1000200) (by decide) rfl) ?_
  refine RM rfl ?_
  refine RS (ok_indexU i Try.underlying34 info23 rfl LA rfl (rowQ_get hi)) ?_
  refine RS (ok_load Try.underlying23 rfl rfl) ?_
  refine RS (ok_litS [(1, nQ (cs.getD i 0))] [nW 0, nQ (cs.getD i 0)] ⟨rfl, rfl, trivial⟩ (buildN1 (cs.getD i 0))) ?_
  refine RS (ok_call (ref8Put_fn 0 (cs.getD i 0) (by decide) (by omega)) (A1 rfl)) ?_
  refine RN ?_
  refine ⟨_, eff_appendS (vs := (nonceL 0 (cs.getD i 0)).map byteV) Try.underlying26 info5 (by decide) rfl rfl rfl (Le.eq (byt_vals _)) (by simp [byteV, Value.oneCell']) (by simp only [List.length_map, nonceL_length]; omega) (by decide) (fun g hg => (LV 1 rfl (LV 4 rfl (LT 1000001 rfl (LO 1000200 rfl LN))))), ?_⟩
  refine TL ?_
  refine RA rfl ?_
  refine RN ?_
  refine End.normal_block ?_
  refine EN ?_
  refine GE ?_
  refine TL ?_
  refine RM rfl ?_
  refine RBS rfl rfl rfl (nI (i + 1)) (by rw [wrap_i64 (by omega) (by omega)]; exact congrArg (Value.int .i64) (by omega)) ?_
  refine RA rfl ?_
  refine RN ?_
  refine End.normal_then ?_
  refine End.again (i + 1) ?_ ?_ ?_
  ·show _ ≤ _; omega
  ·show _ - _ < _ - _; omega
  ·exact (KC 1000200 rfl (KC 1 rfl (KE 3 rfl (by rw [rowL_succ hi, List.length_map, nonceL_length]; exact congrArg (fun k => own w₀.heap.size 5 k _) (by omega)) (KC 4 rfl (KC 1000001 rfl KN)))))
 ·have hi2 : i = cs.length := by simp at hc9; omega
  refine A.exit ?_
  refine End.exit_then ?_
  refine End.exit_then ?_
  refine End.exit_here ?_
  refine EN ?_
  refine GS ?_
  refine TL ?_
  refine RM rfl ?_
  refine RA rfl ?_
  refine RN ?_
  refine A.ret ?_
  exact End.ret1 rfl rfl ((Le.eq (by rw [hi2, List.take_of_length_le (Nat.le_refl _)])).trans (own_byt (B := w₀.heap.size) (e := 5) (n := 12 * cs.length) (rowL_length cs).symm))
set_option maxHeartbeats 2000000 in
theorem Of_fnB (us : List Nat) (M R O r m l : Nat) (hu : ∀ a ∈ us, a < 65536) (hM : M < 256) (hR : R < 256) (hO : O < 65536) (hr : r = R % 20 + 1) (hm : m = r * (M % 10)) (hl : l = max m r + O % 100) : FnB Try.prog 21 [hdD (vlst (us.map sV)) [nB M, nB R, .int .u16 ((O : Nat) : Int)]] (fun B => hdD (own B 23 (ofC us m).length (rowQ (ofC us m))) (alR m l r)) := by
 have hm2 : m ≤ 200 := by rw [hm]; exact Nat.le_trans (Nat.mul_le_mul (show r ≤ 20 by omega) (show M % 10 ≤ 10 by omega)) (by decide)
 refine FnB.of Try.func21 rfl (by kernel_rfl) Try.ntmps21 (by simp) (fun w => [(0, old w.heap.size (hdD (vlst (us.map sV)) [nB M, nB R, .int .u16 ((O : Nat) : Int)]))]) (fun w => (Start.old rfl Start.nil)) fun w₀ => ?_
 refine A.nameHd (t := 0) (k := 1000200) rfl fun v hv => ?_
 refine GS ?_
 refine TN 0 ?_
 refine RN ?_
 refine ⟨_, _, eff_box (n := 69) (d := 1) (k := 1000001) rfl (by decide), fun b1 hb1 => ?_⟩
 have hBb1 := hb1.1
 refine TN 1 ?_
 refine RN ?_
 refine ⟨_, _, eff_alloc (n := 69) (d := 2) (k := 1000002) zero36 (by decide), fun b2 hb2 => ?_⟩
 have hBb2 := hb2.1
 refine TL ?_
 refine RN ?_
 refine GS ?_
 refine TN 6 ?_
 refine RS (ok_field field51_2 (by decide) rfl) ?_
 refine RS (ok_loadV (s := 1000001) (by decide) Try.underlying5 rfl rfl rfl (rfl)) ?_
 refine RS (ok_rem rfl rfl (by decide)) ?_; refine RZ (nB (R % 20)) (by rw [tmod_lit _ (by decide)]; rfl) ?_
 refine RS (ok_conv Try.underlying5 Try.underlying23 rfl) ?_; refine RZ (nQ (R % 20)) (by rw [wrapN_u64 (by omega)]) ?_
 refine RBS rfl rfl rfl (nQ r) (by rw [wrap_u64 (by omega) (by omega)]; exact congrArg (Value.int .u64) (by omega)) ?_
 refine RS (ok_litS [(3, qV r)] (.slice none 0 0 :: alR 0 0 r) ⟨rfl, rfl, trivial⟩ (buildA3 r)) ?_
 refine RN ?_
 refine ⟨_, _, eff_alloc (n := 69) (d := 3) (k := 1000003) zero36 (by decide), fun b3 hb3 => ?_⟩
 have hBb3 := hb3.1
 have hlt_b2_b3 : b2 < b3 := hb3.2 1000002 _ _ _ rfl
 refine TF 7 ?_
 refine RN ?_
 refine ⟨_, eff_storeA (n := 69) (s := 1000003) (size36.of (rfl)) rfl rfl (rfl) hBb3 rfl (rfl) (LV 1 rfl (LV 2 rfl (LV 3 rfl (LT 1000001 rfl (LB 1000002 rfl (LO 1000200 rfl LN)))))), ?_⟩
 refine TL ?_
 refine RN ?_
 refine GS ?_
 refine TF 8 ?_
 refine RS (ok_field field36_3 (by decide) rfl) ?_
 refine RS (ok_loadV (s := 1000003) (by decide) Try.underlying23 rfl rfl rfl (rfl)) ?_
 refine RS (ok_field field51_1 (by decide) rfl) ?_
 refine RS (ok_loadV (s := 1000001) (by decide) Try.underlying5 rfl rfl rfl (rfl)) ?_
 refine RS (ok_rem rfl rfl (by decide)) ?_; refine RZ (nB (M % 10)) (by rw [tmod_lit _ (by decide)]; rfl) ?_
 refine RS (ok_conv Try.underlying5 Try.underlying23 rfl) ?_; refine RZ (nQ (M % 10)) (by rw [wrapN_u64 (by omega)]) ?_
 refine RBS rfl rfl rfl (nQ m) (by rw [← Int.natCast_mul, ← hm, wrapN_u64 (by omega)]) ?_
 refine RS (ok_field field36_1 (by decide) rfl) ?_
 refine RN ?_
 refine ⟨_, eff_storeS (n := 69) (s := 1000003) info23 rfl rfl rfl hBb3 rfl (by simp [alR]) (LV 1 rfl (LV 2 rfl (LV 3 rfl (LT 1000001 rfl (LB 1000002 rfl (LO 1000200 rfl LN)))))), ?_⟩
 refine TL ?_
 refine RN ?_
 refine GS ?_
 refine TF 11 ?_
 refine RS (ok_field field36_1 (by decide) rfl) ?_
 refine RS (ok_loadV (s := 1000003) (by decide) Try.underlying23 rfl rfl rfl (rfl)) ?_
 refine RS (ok_field field36_3 (by decide) rfl) ?_
 refine RS (ok_loadV (s := 1000003) (by decide) Try.underlying23 rfl rfl rfl (rfl)) ?_
 refine RS (ok_maxI rfl rfl) ?_; refine RZ (nQ (max m r)) (congrArg (Value.int .u64) (by omega)) ?_
 refine RS (ok_field field51_3 (by decide) rfl) ?_
 refine RS (ok_loadV (s := 1000001) (by decide) Try.underlying49 rfl rfl rfl (rfl)) ?_
 refine RS (ok_rem rfl rfl (by decide)) ?_; refine RZ (.int .u16 ((O % 100 : Nat) : Int)) (by rw [tmod_lit _ (by decide)]; rfl) ?_
 refine RS (ok_conv Try.underlying49 Try.underlying23 rfl) ?_; refine RZ (nQ (O % 100)) (by rw [wrapN_u64 (by omega)]) ?_
 refine RBS rfl rfl rfl (nQ l) (by rw [wrap_u64 (by omega) (by omega)]; exact congrArg (Value.int .u64) (by omega)) ?_
 refine RS (ok_field field36_2 (by decide) rfl) ?_
 refine RN ?_
 refine ⟨_, eff_storeS (n := 69) (s := 1000003) info23 rfl rfl rfl hBb3 rfl (by simp [alR]) (LV 1 rfl (LV 2 rfl (LV 3 rfl (LT 1000001 rfl (LB 1000002 rfl (LO 1000200 rfl LN)))))), ?_⟩
 refine TL ?_
 refine RN ?_
 refine A.sub (KC 1 rfl (KC 2 rfl (KC 3 rfl (KC 1000001 rfl (KC 1000002 rfl (KC 1000003 rfl (KC 1000200 rfl KN))))))) ?_
 refine A.seq ?_
 refine GS ?_
 refine TL ?_
 refine RA rfl ?_
 refine RN ?_
 refine A.nilV (k := 1000203) w₀.heap.size 23 ?_
 refine A.block ?_
 refine A.loop (ι := Nat × Value) (fun s => s.1 ≤ us.length ∧ s.1 ≤ 8 ∧ s.2.oneCell' = true) (fun s => [(1000200, old w₀.heap.size (valM v (vlst (us.map sV)))), (1, .v (.pointer (some ⟨b1, 0, none⟩))), (2, .v (.pointer (some ⟨b2, 0, none⟩))), (3, .v (.pointer (some ⟨b3, 0, none⟩))), (4, .v (nI (s.1))), (1000001, blk b1 51 (v :: [nB M, nB R, .int .u16 ((O : Nat) : Int)])), (1000002, blk b2 36 [.slice none 0 0, .int .u64 0, .int .u64 0, .int .u64 0]), (1000003, blk b3 36 (s.2 :: alR m l r)), (1000203, ownM w₀.heap.size s.2 23 s.1 (ofT us m s.1))]) (fun s => 8 - s.1) (0, .slice none 0 0) ?_ ?_ ?_
 ·exact ⟨Nat.zero_le _, Nat.zero_le _, rfl⟩
 ·exact (KC 1000200 rfl (KC 1 rfl (KC 2 rfl (KC 3 rfl (KE 4 rfl (by rfl) (KC 1000001 rfl (KC 1000002 rfl (KC 1000003 rfl (KC 1000203 rfl KN)))))))))
 intro s hs
 obtain ⟨hi1, hi2, hone⟩ := hs
 refine A.seq ?_
 rcases Bool.eq_false_or_eq_true (decide (s.1 < us.length)) with hsp | hsp
 ·refine GS ?_
  refine TL ?_
  refine RM rfl ?_
  refine RS (ok_field field51_0 (by decide) rfl) ?_
  refine RS (OpOk.valO (ok_loadV (s := 1000001) (by decide) Try.underlying48 rfl rfl rfl (rfl)) (k := 1000200) (by decide) rfl) ?_
  refine RS (ok_lenU us.length Try.underlying48 rfl LA (by simp)) ?_
  refine RBS rfl rfl rfl (.bool true) (by simpa using hsp) ?_
  refine RM rfl ?_
  refine RQ (ok_move rfl) ?_
  refine RQ (ok_bin rfl rfl rfl) ?_
  refine RP rfl rfl ?_
  refine RN ?_
  refine A.cond rfl (fun hc38 => ?_) (fun hc38 => ?_)
  ·have hlt : s.1 < us.length := by simpa using hsp
   have hu1 := getD_lt hu hlt
   have hlt8 : s.1 < 8 := by simp at hc38; omega
   refine A.skip ?_
   refine EN ?_
   refine A.seq ?_
   refine A.block ?_
   refine A.reg (by kernel_rfl) (by kernel_rfl) (.inr (by kernel_rfl)) ?_
   refine RunTK.newv 13 (by decide) rfl (.inr (by kernel_rfl)) ?_
   refine RS (ok_field field36_0 (by decide) rfl) ?_
   refine RS (ok_loadV (s := 1000003) (by decide) Try.underlying34 rfl rfl rfl (rfl)) ?_
   refine RS (ok_field field51_0 (by decide) rfl) ?_
   refine RS (OpOk.valO (ok_loadV (s := 1000001) (by decide) Try.underlying48 rfl rfl rfl (rfl)) (k := 1000200) (by decide) rfl) ?_
   refine RM rfl ?_
   refine RS (ok_indexU s.1 Try.underlying48 info49 rfl LA rfl (rowH_get hlt)) ?_
   refine RS (ok_load Try.underlying49 rfl rfl) ?_
   refine RS (ok_conv Try.underlying49 Try.underlying23 rfl) ?_; refine RZ (nQ (us.getD s.1 0)) (by rw [wrapN_u64 (by omega)]) ?_
   refine RS (ok_field field36_1 (by decide) rfl) ?_
   refine RS (ok_loadV (s := 1000003) (by decide) Try.underlying23 rfl rfl rfl (rfl)) ?_
   refine RBS rfl rfl rfl (nQ (m + 1)) (by rw [wrap_u64 (by omega) (by omega)]; rfl) ?_
   refine RS (ok_rem rfl rfl (by omega)) ?_; refine RZ (nQ (us.getD s.1 0 % (m + 1))) (congrArg (Value.int .u64) (Int.ofNat_tmod _ _).symm) ?_
   refine RS (ok_build [.v (qV (us.getD s.1 0 % (m + 1)))] Try.underlying34 info23 rfl (by decide) (by decide) rfl ⟨rfl, rfl, trivial⟩ (fun d hd w x h => by simp only [List.mem_cons, List.not_mem_nil, or_false] at hd; rcases hd with rfl; exact v_one rfl h)) ?_
   refine RN ?_
   refine ⟨_, _, EffG.strong (H := fun u : Value => u.oneCell' = true) (eff_appendV (n := 69) (k := 1000203) (vs := [qV (us.getD s.1 0 % (m + 1))]) Try.underlying34 info23 (by decide) rfl rfl rfl rfl (le_lst _ _) (by simp [Value.oneCell']) (by simp; omega) (by decide) (fun g hB hg => (LV 1 rfl (LV 2 rfl (LV 3 rfl (LV 4 rfl (LV 38 rfl (LV 41 rfl (LV 42 rfl (LV 43 rfl (LO 44 rfl (LV 45 rfl (LV 47 rfl (LV 48 rfl (LV 49 rfl (LV 50 rfl (LV 51 rfl (LV 52 rfl (LT 1000001 rfl (LT 1000002 rfl (LT 1000003 rfl (LO 1000200 rfl LN)))))))))))))))))))))) (fun v κ a w h => h.oneM (k := 1000203) rfl), fun v3a hv3a => ?_⟩
   have hone_v3a := hv3a.2
   replace hv3a := hv3a.1
   refine TD 15 ?_
   refine RS (ok_field field36_0 (by decide) rfl) ?_
   refine RN ?_
   refine ⟨_, eff_storeS (n := 69) (s := 1000003) info34 rfl rfl (by assumption) hBb3 rfl (by simp) (LV 1 rfl (LV 2 rfl (LV 3 rfl (LV 4 rfl (LT 1000001 rfl (LB 1000002 rfl (LO 1000200 rfl (LeftS.cons (t := 1000203) rfl (Surv.ownMT (by decide)) LN)))))))), ?_⟩
   refine TL ?_
   refine RN ?_
   refine End.sub (KC 1 rfl (KC 2 rfl (KC 3 rfl (KC 4 rfl (KC 1000001 rfl (KC 1000002 rfl (KC 1000003 rfl (KC 1000200 rfl (KC 1000203 rfl KN))))))))) ?_
   refine End.normal_block ?_
   refine EN ?_
   refine GE ?_
   refine TL ?_
   refine RM rfl ?_
   refine RBS rfl rfl rfl (nI (s.1 + 1)) (by rw [wrap_i64 (by omega) (by omega)]; exact congrArg (Value.int .i64) (by omega)) ?_
   refine RA rfl ?_
   refine RN ?_
   refine End.normal_then ?_
   refine End.again (s.1 + 1, v3a) ?_ ?_ ?_
   ·exact ⟨by show s.1 + 1 ≤ _; omega, by show s.1 + 1 ≤ 8; omega, hone_v3a⟩
   ·show 8 - (s.1 + 1) < 8 - s.1; omega
   ·exact (KC 1000200 rfl (KC 1 rfl (KC 2 rfl (KC 3 rfl (KC 4 rfl (KC 1000001 rfl (KC 1000002 rfl (KC 1000003 rfl (KE 1000203 rfl (by rw [ofT_succ hlt]; rfl) KN)))))))))
  ·have hn8 : ¬ s.1 < 8 := by simp at hc38; omega
   refine A.exit ?_
   refine End.exit_then ?_
   refine End.exit_then ?_
   refine End.exit_here ?_
   refine EN ?_
   refine A.seq ?_
   refine GS ?_
   refine TL ?_
   refine RS (ok_field field36_0 (by decide) rfl) ?_
   refine RS (OpOk.valOwn (ok_loadV (s := 1000003) (by decide) Try.underlying34 rfl rfl rfl (rfl)) (k := 1000203) (by decide) rfl) ?_
   refine RS (ok_lenU s.1 Try.underlying34 rfl (own_vlst (ofT_length hi1).symm) (ofT_length hi1)) ?_
   refine RB rfl rfl rfl ?_
   refine RN ?_
   refine A.cond rfl (fun hc59 => ?_) (fun hc59 => ?_)
   ·have h0 : s.1 = 0 := by simp at hc59; omega
    refine GE ?_
    refine RunTK.newv 6 (by decide) rfl (.inl rfl) ?_
    refine RS (ok_field field36_0 (by decide) rfl) ?_
    refine RS (ok_loadV (s := 1000003) (by decide) Try.underlying34 rfl rfl rfl (rfl)) ?_
    refine RS (ok_field field36_1 (by decide) rfl) ?_
    refine RS (ok_loadV (s := 1000003) (by decide) Try.underlying23 rfl rfl rfl (rfl)) ?_
    refine RS (ok_div rfl rfl (by decide)) ?_; refine RZ (nQ (m / 2)) (by rw [tdiv_lit _ (by decide), show Int.toNat 2 = 2 from rfl, wrapN_u64 (by omega)]) ?_
    refine RS (ok_build [.v (qV (m / 2))] Try.underlying34 info23 rfl (by decide) (by decide) rfl ⟨rfl, rfl, trivial⟩ (fun d hd w x h => by simp only [List.mem_cons, List.not_mem_nil, or_false] at hd; rcases hd with rfl; exact v_one rfl h)) ?_
    refine RN ?_
    refine ⟨_, _, EffG.strong (H := fun u : Value => u.oneCell' = true) (eff_appendV (n := 69) (k := 1000203) (vs := [qV (m / 2)]) Try.underlying34 info23 (by decide) rfl rfl rfl rfl (le_lst _ _) (by simp [Value.oneCell']) (by simp; omega) (by decide) (fun g hB hg => (LV 2 rfl (LV 3 rfl (LV 59 rfl (LV 60 rfl (LV 61 rfl (LV 62 rfl (LV 63 rfl (LV 64 rfl (LT 1000001 rfl (LT 1000002 rfl (LT 1000003 rfl (LO 1000200 rfl LN)))))))))))))) (fun v κ a w h => h.oneM (k := 1000203) rfl), fun v3b hv3b => ?_⟩
    have hone_v3b := hv3b.2
    replace hv3b := hv3b.1
    refine TF 8 ?_
    refine RS (ok_field field36_0 (by decide) rfl) ?_
    refine RN ?_
    refine ⟨_, eff_storeS (n := 69) (s := 1000003) info34 rfl rfl (by assumption) hBb3 rfl (by simp) (LV 2 rfl (LV 3 rfl (LT 1000001 rfl (LB 1000002 rfl (LO 1000200 rfl (LeftS.cons (t := 1000203) rfl (Surv.ownMT (by decide)) LN)))))), ?_⟩
    refine TL ?_
    refine RN ?_
    refine EN ?_
    refine GS ?_
    refine TF 1 ?_
    refine RS (ok_loadA (s := 1000003) (by decide) Try.underlying36 rfl (size36.of (rfl)) rfl rfl) ?_
    refine RN ?_
    refine ⟨_, eff_storeA (n := 69) (s := 1000002) (size36.of (rfl)) rfl rfl (by first | simpa [alR, Value.oneCell'] using hone_v3b | simpa [alR, Value.oneCell'] using hone) hBb2 rfl (rfl) (LV 2 rfl (LT 1000001 rfl (LB 1000003 rfl (LO 1000200 rfl (LeftS.cons (t := 1000203) rfl (Surv.ownMT (by decide)) LN))))), ?_⟩
    refine TL ?_
    refine RN ?_
    refine A.ret ?_
    first | exact End.hdOwn (s := 1000002) (k := 1000203) rfl Try.underlying36 rfl (size36.of rfl) rfl rfl hone_v3b rfl (by rw [← rowQ_length (ofC us m), ← ofT_nil h0 (by first | (simp at hsp; omega) | omega), List.length_append, ofT_length hi1]) (ofT_nil h0 (by first | (simp at hsp; omega) | omega)) | exact End.hdOwn (s := 1000002) (k := 1000203) rfl Try.underlying36 rfl (size36.of rfl) rfl rfl hone rfl (by rw [← rowQ_length (ofC us m), ← ofT_end h0 (by first | (simp at hsp; omega) | omega), ofT_length hi1]) (ofT_end h0 (by first | (simp at hsp; omega) | omega))
   ·have h0 : s.1 ≠ 0 := by simp at hc59; omega
    refine A.skip ?_
    refine EN ?_
    refine GS ?_
    refine TF 1 ?_
    refine RS (ok_loadA (s := 1000003) (by decide) Try.underlying36 rfl (size36.of (rfl)) rfl rfl) ?_
    refine RN ?_
    refine ⟨_, eff_storeA (n := 69) (s := 1000002) (size36.of (rfl)) rfl rfl (by first | simpa [alR, Value.oneCell'] using hone_v3b | simpa [alR, Value.oneCell'] using hone) hBb2 rfl (rfl) (LV 2 rfl (LT 1000001 rfl (LB 1000003 rfl (LO 1000200 rfl (LeftS.cons (t := 1000203) rfl (Surv.ownMT (by decide)) LN))))), ?_⟩
    refine TL ?_
    refine RN ?_
    refine A.ret ?_
    first | exact End.hdOwn (s := 1000002) (k := 1000203) rfl Try.underlying36 rfl (size36.of rfl) rfl rfl hone_v3b rfl (by rw [← rowQ_length (ofC us m), ← ofT_nil h0 (by first | (simp at hsp; omega) | omega), List.length_append, ofT_length hi1]) (ofT_nil h0 (by first | (simp at hsp; omega) | omega)) | exact End.hdOwn (s := 1000002) (k := 1000203) rfl Try.underlying36 rfl (size36.of rfl) rfl rfl hone rfl (by rw [← rowQ_length (ofC us m), ← ofT_end h0 (by first | (simp at hsp; omega) | omega), ofT_length hi1]) (ofT_end h0 (by first | (simp at hsp; omega) | omega))
 ·refine GS ?_
  refine TL ?_
  refine RM rfl ?_
  refine RS (ok_field field51_0 (by decide) rfl) ?_
  refine RS (OpOk.valO (ok_loadV (s := 1000001) (by decide) Try.underlying48 rfl rfl rfl (rfl)) (k := 1000200) (by decide) rfl) ?_
  refine RS (ok_lenU us.length Try.underlying48 rfl LA (by simp)) ?_
  refine RBS rfl rfl rfl (.bool false) (by simpa using hsp) ?_
  refine RM rfl ?_
  refine RK ?_
  refine RK ?_
  refine RP rfl rfl ?_
  refine RN ?_
  refine A.no rfl ?_
  refine A.exit ?_
  refine End.exit_then ?_
  refine End.exit_then ?_
  refine End.exit_here ?_
  refine EN ?_
  refine A.seq ?_
  refine GS ?_
  refine TL ?_
  refine RS (ok_field field36_0 (by decide) rfl) ?_
  refine RS (OpOk.valOwn (ok_loadV (s := 1000003) (by decide) Try.underlying34 rfl rfl rfl (rfl)) (k := 1000203) (by decide) rfl) ?_
  refine RS (ok_lenU s.1 Try.underlying34 rfl (own_vlst (ofT_length hi1).symm) (ofT_length hi1)) ?_
  refine RB rfl rfl rfl ?_
  refine RN ?_
  refine A.cond rfl (fun hc59 => ?_) (fun hc59 => ?_)
  ·have h0 : s.1 = 0 := by simp at hc59; omega
   refine GE ?_
   refine RunTK.newv 6 (by decide) rfl (.inl rfl) ?_
   refine RS (ok_field field36_0 (by decide) rfl) ?_
   refine RS (ok_loadV (s := 1000003) (by decide) Try.underlying34 rfl rfl rfl (rfl)) ?_
   refine RS (ok_field field36_1 (by decide) rfl) ?_
   refine RS (ok_loadV (s := 1000003) (by decide) Try.underlying23 rfl rfl rfl (rfl)) ?_
   refine RS (ok_div rfl rfl (by decide)) ?_; refine RZ (nQ (m / 2)) (by rw [tdiv_lit _ (by decide), show Int.toNat 2 = 2 from rfl, wrapN_u64 (by omega)]) ?_
   refine RS (ok_build [.v (qV (m / 2))] Try.underlying34 info23 rfl (by decide) (by decide) rfl ⟨rfl, rfl, trivial⟩ (fun d hd w x h => by simp only [List.mem_cons, List.not_mem_nil, or_false] at hd; rcases hd with rfl; exact v_one rfl h)) ?_
   refine RN ?_
   refine ⟨_, _, EffG.strong (H := fun u : Value => u.oneCell' = true) (eff_appendV (n := 69) (k := 1000203) (vs := [qV (m / 2)]) Try.underlying34 info23 (by decide) rfl rfl rfl rfl (le_lst _ _) (by simp [Value.oneCell']) (by simp; omega) (by decide) (fun g hB hg => (LV 2 rfl (LV 3 rfl (LV 59 rfl (LV 60 rfl (LV 61 rfl (LV 62 rfl (LV 63 rfl (LV 64 rfl (LT 1000001 rfl (LT 1000002 rfl (LT 1000003 rfl (LO 1000200 rfl LN)))))))))))))) (fun v κ a w h => h.oneM (k := 1000203) rfl), fun v3b hv3b => ?_⟩
   have hone_v3b := hv3b.2
   replace hv3b := hv3b.1
   refine TF 8 ?_
   refine RS (ok_field field36_0 (by decide) rfl) ?_
   refine RN ?_
   refine ⟨_, eff_storeS (n := 69) (s := 1000003) info34 rfl rfl (by assumption) hBb3 rfl (by simp) (LV 2 rfl (LV 3 rfl (LT 1000001 rfl (LB 1000002 rfl (LO 1000200 rfl (LeftS.cons (t := 1000203) rfl (Surv.ownMT (by decide)) LN)))))), ?_⟩
   refine TL ?_
   refine RN ?_
   refine EN ?_
   refine GS ?_
   refine TF 1 ?_
   refine RS (ok_loadA (s := 1000003) (by decide) Try.underlying36 rfl (size36.of (rfl)) rfl rfl) ?_
   refine RN ?_
   refine ⟨_, eff_storeA (n := 69) (s := 1000002) (size36.of (rfl)) rfl rfl (by first | simpa [alR, Value.oneCell'] using hone_v3b | simpa [alR, Value.oneCell'] using hone) hBb2 rfl (rfl) (LV 2 rfl (LT 1000001 rfl (LB 1000003 rfl (LO 1000200 rfl (LeftS.cons (t := 1000203) rfl (Surv.ownMT (by decide)) LN))))), ?_⟩
   refine TL ?_
   refine RN ?_
   refine A.ret ?_
   first | exact End.hdOwn (s := 1000002) (k := 1000203) rfl Try.underlying36 rfl (size36.of rfl) rfl rfl hone_v3b rfl (by rw [← rowQ_length (ofC us m), ← ofT_nil h0 (by first | (simp at hsp; omega) | omega), List.length_append, ofT_length hi1]) (ofT_nil h0 (by first | (simp at hsp; omega) | omega)) | exact End.hdOwn (s := 1000002) (k := 1000203) rfl Try.underlying36 rfl (size36.of rfl) rfl rfl hone rfl (by rw [← rowQ_length (ofC us m), ← ofT_end h0 (by first | (simp at hsp; omega) | omega), ofT_length hi1]) (ofT_end h0 (by first | (simp at hsp; omega) | omega))
  ·have h0 : s.1 ≠ 0 := by simp at hc59; omega
   refine A.skip ?_
   refine EN ?_
   refine GS ?_
   refine TF 1 ?_
   refine RS (ok_loadA (s := 1000003) (by decide) Try.underlying36 rfl (size36.of (rfl)) rfl rfl) ?_
   refine RN ?_
   refine ⟨_, eff_storeA (n := 69) (s := 1000002) (size36.of (rfl)) rfl rfl (by first | simpa [alR, Value.oneCell'] using hone_v3b | simpa [alR, Value.oneCell'] using hone) hBb2 rfl (rfl) (LV 2 rfl (LT 1000001 rfl (LB 1000003 rfl (LO 1000200 rfl (LeftS.cons (t := 1000203) rfl (Surv.ownMT (by decide)) LN))))), ?_⟩
   refine TL ?_
   refine RN ?_
   refine A.ret ?_
   first | exact End.hdOwn (s := 1000002) (k := 1000203) rfl Try.underlying36 rfl (size36.of rfl) rfl rfl hone_v3b rfl (by rw [← rowQ_length (ofC us m), ← ofT_nil h0 (by first | (simp at hsp; omega) | omega), List.length_append, ofT_length hi1]) (ofT_nil h0 (by first | (simp at hsp; omega) | omega)) | exact End.hdOwn (s := 1000002) (k := 1000203) rfl Try.underlying36 rfl (size36.of rfl) rfl rfl hone rfl (by rw [← rowQ_length (ofC us m), ← ofT_end h0 (by first | (simp at hsp; omega) | omega), ofT_length hi1]) (ofT_end h0 (by first | (simp at hsp; omega) | omega))
end Go.Proofs.Ytmedljdbamnoiaa
