/-
 Package shapes by facts, part one: numbers of blocks, counts, what a shape has.
-/
import Derived.Test.YtdnblilocdddpaaShort
import Derived.Test.YtdnblilocdddpaaShape
import Derived.Test.YtdnblilocdddpaaProg
namespace Go.Proofs.Ytdnblilocdddpaa
open Go Go.RowKit
set_option linter.unusedVariables false
set_option maxRecDepth 20000
abbrev shM (n b : Nat) : Env := [(1900000, blk b 72 (rowU n (hg n + 1)))]

theorem info5 : InfoIs Try.prog 5 (.int .u8 0) 1 := by unfold InfoIs; kernel_rfl
theorem info3 : InfoIs Try.prog 3 (.int .i64 0) 8 := by unfold InfoIs; kernel_rfl
theorem info4 : InfoIs Try.prog 4 (.bool false) 1 := by unfold InfoIs; kernel_rfl
theorem info60 : InfoIs Try.prog 60 (.slice none 0 0) 24 := by unfold InfoIs; kernel_rfl
theorem info26 : InfoIs Try.prog 26 (.int .i64 0) 8 := by unfold InfoIs; kernel_rfl
theorem info22 : InfoIs Try.prog 22 (.int .u16 0) 2 := by unfold InfoIs; kernel_rfl
theorem zero45 : ZeroIs Try.prog 45 ([.int .i64 0] ++ [.int .i64 0]) := by unfold ZeroIs; kernel_rfl
theorem size45 : SizeIs Try.prog 45 2 := by unfold SizeIs; kernel_rfl
theorem field45_0 : FieldIs Try.prog 45 0 0 1 := by unfold FieldIs; kernel_rfl
theorem field45_1 : FieldIs Try.prog 45 1 1 1 := by unfold FieldIs; kernel_rfl
theorem zero31 : ZeroIs Try.prog 31 ([.bool false] ++ [.int .i64 0] ++ [.int .i64 0] ++ [.int .i64 0]) := by unfold ZeroIs; kernel_rfl
theorem size31 : SizeIs Try.prog 31 4 := by unfold SizeIs; kernel_rfl
theorem field31_0 : FieldIs Try.prog 31 0 0 1 := by unfold FieldIs; kernel_rfl
theorem field31_1 : FieldIs Try.prog 31 1 1 1 := by unfold FieldIs; kernel_rfl
theorem field31_2 : FieldIs Try.prog 31 2 2 1 := by unfold FieldIs; kernel_rfl
theorem field31_3 : FieldIs Try.prog 31 3 3 1 := by unfold FieldIs; kernel_rfl
theorem zero62 : ZeroIs Try.prog 62 ([.int .i64 0] ++ [.slice none 0 0]) := by unfold ZeroIs; kernel_rfl
theorem size62 : SizeIs Try.prog 62 2 := by unfold SizeIs; kernel_rfl
theorem field62_0 : FieldIs Try.prog 62 0 0 1 := by unfold FieldIs; kernel_rfl
theorem field62_1 : FieldIs Try.prog 62 1 1 1 := by unfold FieldIs; kernel_rfl
theorem zero24 : ZeroIs Try.prog 24 ([.int .u16 0]) := by unfold ZeroIs; kernel_rfl
theorem size24 : SizeIs Try.prog 24 1 := by unfold SizeIs; kernel_rfl
theorem field24_0 : FieldIs Try.prog 24 0 0 1 := by unfold FieldIs; kernel_rfl
theorem zero72 : ZeroIs Try.prog 72 (List.replicate 6 (.int .i64 0)) := by unfold ZeroIs; kernel_rfl
theorem size72 : SizeIs Try.prog 72 6 := by unfold SizeIs; kernel_rfl

theorem infoPI : InfoP Try.prog 3 (.int .i64 0) 1 8 := by unfold InfoP; kernel_rfl
theorem infoPP : InfoP Try.prog 45 (.agg #[.int .i64 0, .int .i64 0]) 2 16 := by unfold InfoP; kernel_rfl
theorem buildSh (n b c d : Nat) : Try.prog.built 62 [(0, nI n), (1, .slice (some ⟨b, 0, none⟩) c d)] = some ([nI n, .slice (some ⟨b, 0, none⟩) c d] : List Value).toArray := by kernel_rfl
theorem buildP (a b : Int) : Try.prog.built 45 [(0, .int .i64 a), (1, .int .i64 b)] = some ([.int .i64 a, .int .i64 b] : List Value).toArray := by kernel_rfl
theorem buildD (j s : Int) : Try.prog.built 31 [(0, .bool true), (2, .int .i64 j), (3, .int .i64 s)] = some (secV true 0 j s).toArray := by kernel_rfl
theorem buildN (l j s : Int) : Try.prog.built 31 [(1, .int .i64 l), (2, .int .i64 j), (3, .int .i64 s)] = some (secV false l j s).toArray := by kernel_rfl
theorem flatP : flat Try.prog 3 45 = some [.i64, .i64] := by kernel_rfl

theorem within_y (a b : Int) (h0 : 0 ≤ a) (h : a < b) : Fn Try.prog 37 [.v (.int .i64 (a)), .v (.int .i64 (b))] (.v (.bool true)) := by
 refine Fn.of Try.func37 rfl (by kernel_rfl) Try.ntmps37 (by simp) (fun w => [(0, .v (.int .i64 (a))), (1, .v (.int .i64 (b)))]) (fun w => (Start.v rfl (Start.v rfl Start.nil))) fun w₀ => ?_
 refine GS ?_
 refine TL ?_
 refine RA rfl ?_
 refine RN ?_
 refine GS ?_
 refine TL ?_
 refine RM rfl ?_
 refine RBS rfl rfl rfl (.bool true) (by first | rfl | (simp; done) | (simp; omega) | (simp [*]; done) | (simp [*]; omega)) ?_
 refine RM rfl ?_
 refine RQ (ok_move rfl) ?_
 refine RQ (ok_move rfl) ?_
 refine RQ (ok_bin rfl rfl rfl) ?_; refine RZ (.bool true) (by first | rfl | (simp; done) | (simp; omega) | (simp [*]; done) | (simp [*]; omega)) ?_
 refine RP rfl rfl ?_
 refine RA rfl ?_
 refine RN ?_
 refine A.ret ?_
 exact End.ret1 rfl rfl (by first | exact Le.refl _ | exact Le.old _ _)
theorem within_n1 (a b : Int) (h0 : ¬ 0 ≤ a) : Fn Try.prog 37 [.v (.int .i64 (a)), .v (.int .i64 (b))] (.v (.bool false)) := by
 refine Fn.of Try.func37 rfl (by kernel_rfl) Try.ntmps37 (by simp) (fun w => [(0, .v (.int .i64 (a))), (1, .v (.int .i64 (b)))]) (fun w => (Start.v rfl (Start.v rfl Start.nil))) fun w₀ => ?_
 refine GS ?_
 refine TL ?_
 refine RA rfl ?_
 refine RN ?_
 refine GS ?_
 refine TL ?_
 refine RM rfl ?_
 refine RBS rfl rfl rfl (.bool false) (by first | rfl | (simp; done) | (simp; omega) | (simp [*]; done) | (simp [*]; omega)) ?_
 refine RM rfl ?_
 refine RK ?_
 refine RK ?_
 refine RK ?_
 refine RP rfl rfl ?_
 refine RA rfl ?_
 refine RN ?_
 refine A.ret ?_
 exact End.ret1 rfl rfl (by first | exact Le.refl _ | exact Le.old _ _)
theorem within_n2 (a b : Int) (h0 : 0 ≤ a) (h : ¬ a < b) : Fn Try.prog 37 [.v (.int .i64 (a)), .v (.int .i64 (b))] (.v (.bool false)) := by
 refine Fn.of Try.func37 rfl (by kernel_rfl) Try.ntmps37 (by simp) (fun w => [(0, .v (.int .i64 (a))), (1, .v (.int .i64 (b)))]) (fun w => (Start.v rfl (Start.v rfl Start.nil))) fun w₀ => ?_
 refine GS ?_
 refine TL ?_
 refine RA rfl ?_
 refine RN ?_
 refine GS ?_
 refine TL ?_
 refine RM rfl ?_
 refine RBS rfl rfl rfl (.bool true) (by first | rfl | (simp; done) | (simp; omega) | (simp [*]; done) | (simp [*]; omega)) ?_
 refine RM rfl ?_
 refine RQ (ok_move rfl) ?_
 refine RQ (ok_move rfl) ?_
 refine RQ (ok_bin rfl rfl rfl) ?_; refine RZ (.bool false) (by first | rfl | (simp; done) | (simp; omega) | (simp [*]; done) | (simp [*]; omega)) ?_
 refine RP rfl rfl ?_
 refine RA rfl ?_
 refine RN ?_
 refine A.ret ?_
 exact End.ret1 rfl rfl (by first | exact Le.refl _ | exact Le.old _ _)
theorem within_n (a b : Int) (h : ¬ (0 ≤ a ∧ a < b)) : Fn Try.prog 37 [.v (.int .i64 (a)), .v (.int .i64 (b))] (.v (.bool false)) := by
 by_cases h0 : 0 ≤ a
 ·exact within_n2 a b h0 (by omega)
 ·exact within_n1 a b h0
theorem Check_ok (n : Nat) (h1 : 1 ≤ n) (h2 : n ≤ 4096)  : Fn Try.prog 20 [.v (nI (n))] (.v (.int .i64 (0))) := by
 refine Fn.of Try.func20 rfl (by kernel_rfl) Try.ntmps20 (by simp) (fun w => [(0, .v (nI (n)))]) (fun w => (Start.v rfl Start.nil)) fun w₀ => ?_
 refine GS ?_
 refine TL ?_
 refine RA rfl ?_
 refine RN ?_
 refine A.seq ?_
 refine GS ?_
 refine TL ?_
 refine RM rfl ?_
 refine RBS rfl rfl rfl (.bool false) (by first | rfl | (simp; done) | (simp; omega) | (simp [*]; done) | (simp [*]; omega)) ?_
 refine RM rfl ?_
 refine RQ (ok_move rfl) ?_
 refine RQ (ok_bin rfl rfl rfl) ?_; refine RZ (.bool false) (by first | rfl | (simp; done) | (simp; omega) | (simp [*]; done) | (simp [*]; omega)) ?_
 refine RP rfl rfl ?_
 refine RN ?_
 refine A.no rfl ?_
 refine A.skip ?_
 refine EN ?_
 refine GS ?_
 refine TL ?_
 refine RA rfl ?_
 refine RN ?_
 refine A.ret ?_
 exact End.ret1 rfl rfl (by first | exact Le.refl _ | exact Le.old _ _)
theorem Check_lo (m : Int) (h : m < 1) : Fn Try.prog 20 [.v (.int .i64 (m))] (.v (.int .i64 (1))) := by
 refine Fn.of Try.func20 rfl (by kernel_rfl) Try.ntmps20 (by simp) (fun w => [(0, .v (.int .i64 (m)))]) (fun w => (Start.v rfl Start.nil)) fun w₀ => ?_
 refine GS ?_
 refine TL ?_
 refine RA rfl ?_
 refine RN ?_
 refine A.seq ?_
 refine GS ?_
 refine TL ?_
 refine RM rfl ?_
 refine RBS rfl rfl rfl (.bool true) (by first | rfl | (simp; done) | (simp; omega) | (simp [*]; done) | (simp [*]; omega)) ?_
 refine RM rfl ?_
 refine RK ?_
 refine RK ?_
 refine RP rfl rfl ?_
 refine RN ?_
 refine A.yes rfl ?_
 refine GS ?_
 refine TL ?_
 refine RA rfl ?_
 refine RN ?_
 refine A.ret ?_
 refine End.ret_then ?_
 exact End.ret1 rfl rfl (by first | exact Le.refl _ | exact Le.old _ _)
theorem Check_hi (m : Int) (h : 4096 < m) : Fn Try.prog 20 [.v (.int .i64 (m))] (.v (.int .i64 (1))) := by
 refine Fn.of Try.func20 rfl (by kernel_rfl) Try.ntmps20 (by simp) (fun w => [(0, .v (.int .i64 (m)))]) (fun w => (Start.v rfl Start.nil)) fun w₀ => ?_
 refine GS ?_
 refine TL ?_
 refine RA rfl ?_
 refine RN ?_
 refine A.seq ?_
 refine GS ?_
 refine TL ?_
 refine RM rfl ?_
 refine RBS rfl rfl rfl (.bool false) (by first | rfl | (simp; done) | (simp; omega) | (simp [*]; done) | (simp [*]; omega)) ?_
 refine RM rfl ?_
 refine RQ (ok_move rfl) ?_
 refine RQ (ok_bin rfl rfl rfl) ?_; refine RZ (.bool true) (by first | rfl | (simp; done) | (simp; omega) | (simp [*]; done) | (simp [*]; omega)) ?_
 refine RP rfl rfl ?_
 refine RN ?_
 refine A.yes rfl ?_
 refine GS ?_
 refine TL ?_
 refine RA rfl ?_
 refine RN ?_
 refine A.ret ?_
 refine End.ret_then ?_
 exact End.ret1 rfl rfl (by first | exact Le.refl _ | exact Le.old _ _)
theorem Check_bad (m : Int) (hm : ¬ (1 ≤ m ∧ m ≤ 4096)) : Fn Try.prog 20 [.v (.int .i64 (m))] (.v (.int .i64 (1))) := by
 by_cases h0 : m < 1
 ·exact Check_lo m h0
 ·exact Check_hi m (by omega)
theorem span_fn (l : Nat) (hl : l ≤ 5) : Fn Try.prog 44 [.v (nI (l))] (.v (nI (4 ^ (l + 1)))) := by
 refine Fn.of Try.func44 rfl (by kernel_rfl) Try.ntmps44 (by simp) (fun w => [(0, .v (nI (l)))]) (fun w => (Start.v rfl Start.nil)) fun w₀ => ?_
 refine GS ?_
 refine TL ?_
 refine RA rfl ?_
 refine RN ?_
 refine GS ?_
 refine TL ?_
 refine RA rfl ?_
 refine RN ?_
 refine A.seq ?_
 refine GS ?_
 refine TL ?_
 refine RM rfl ?_
 refine RM rfl ?_
 refine RN ?_
 refine A.block ?_
 refine A.loop (ι := Nat) (fun i => i ≤ l) (fun i => [(3, .v (nI (4 ^ (i + 1)))), (4, .v (nI (l))), (5, .v (nI (i)))]) (fun i => l - i) 0 ?_ ?_ ?_
 ·exact Nat.zero_le _
 ·exact (KC 3 rfl (KC 4 rfl (KC 5 rfl KN)))
 intro i hi
 refine GS ?_
 refine TL ?_
 refine RB rfl rfl rfl ?_
 refine RN ?_
 refine A.seq ?_
 refine A.cond rfl (fun hc6 => ?_) (fun hc6 => ?_)
 ·have hlt : i < l := by simp at hc6; omega
  refine A.skip ?_
  refine EN ?_
  refine A.seq ?_
  refine A.block ?_
  refine GE ?_
  refine TL ?_
  refine RM rfl ?_
  refine RBS rfl rfl rfl (nI (4 ^ (i + 1 + 1))) (wrap_eq (by rw [Nat.pow_succ 4 (i + 1)]; omega) (by have := pow_small (l := i + 1 + 1) (by omega); omega)) ?_
  refine RA rfl ?_
  refine RN ?_
  refine End.normal_block ?_
  refine EN ?_
  refine GE ?_
  refine TL ?_
  refine RBS rfl rfl rfl (nI (i + 1)) (wrap_eq (by omega) (by omega)) ?_
  refine RM rfl ?_
  refine RN ?_
  refine End.normal_then ?_
  refine End.again (i + 1) ?_ ?_ ?_
  ·show _ ≤ _; omega
  ·show _ - _ < _ - _; omega
  ·exact (KC 3 rfl (KC 4 rfl (KC 5 rfl KN)))
 ·obtain rfl : i = l := by simp at hc6; omega
  refine A.exit ?_
  refine End.exit_then ?_
  refine End.exit_then ?_
  refine End.exit_here ?_
  refine EN ?_
  refine GS ?_
  refine TL ?_
  refine RM rfl ?_
  refine RA rfl ?_
  refine RN ?_
  refine A.ret ?_
  exact End.ret1 rfl rfl (by first | exact Le.refl _ | exact Le.old _ _)
theorem countsOf_fnB (n : Nat) (h1 : 1 ≤ n) (h2 : n ≤ 4096)  : FnB Try.prog 46 [.v (nI (n))] (fun B => newD B 72 (fun b => .slice (some ⟨b, 0, none⟩) (hg n + 1) 6) (rowU n (hg n + 1))) := by
 refine FnB.of Try.func46 rfl (by kernel_rfl) Try.ntmps46 (by simp) (fun w => [(0, .v (nI (n)))]) (fun w => (Start.v rfl Start.nil)) fun w₀ => ?_
 refine GS ?_
 refine TL ?_
 refine RA rfl ?_
 refine RN ?_
 refine GS ?_
 refine TN 0 ?_
 refine RN ?_
 refine ⟨_, _, eff_alloc (n := 24) (d := 3) (k := 1000003) zero72 (by decide), fun b3 hb3 => ?_⟩
 have hBb3 := hb3.1
 refine TL ?_
 refine RN ?_
 refine GS ?_
 refine TL ?_
 refine RS (ok_sliceX (l := 0) (h := 0) (m := 6) Try.underlying72 info3 rfl (.inr ⟨rfl, rfl⟩) (.inl ⟨_, _, rfl, rfl⟩) (.inl ⟨_, _, rfl, rfl⟩) (by decide) (by decide) (by decide) (.inl (by decide))) ?_; refine RZ (.slice (some ⟨b3, 0, none⟩) 0 6) (rfl) ?_
 refine RA rfl ?_
 refine RN ?_
 refine A.seq ?_
 refine GS ?_
 refine TL ?_
 refine RM rfl ?_
 refine RA rfl ?_
 refine RN ?_
 refine A.block ?_
 refine A.loop (ι := Nat) (fun k => k ≤ hg n + 1) (fun k => [(4, .v (.slice (some ⟨b3, 0, none⟩) k 6)), (5, .v (nI (un n k))), (1000003, blk b3 72 (rowU n (k)))]) (fun k => hg n + 1 - k) 0 ?_ ?_ ?_
 ·exact Nat.zero_le _
 ·exact (KC 4 rfl (KC 5 rfl (KE 1000003 rfl (congrArg _ (rowU_zero n)) KN)))
 intro k hk
 have hu0 := un_le h1 (k)
 have hv0 := un_pos h1 (k)
 have hu1 := un_le h1 (k + 1)
 have hv1 := un_pos h1 (k + 1)
 have hh := hg_le n
 refine A.seq ?_
 rcases un_case h1 h2 hk with ⟨hA, hA'⟩ | ⟨hA, hA', hA''⟩ | ⟨hA, hA', hA''⟩
 ·refine GS ?_
  refine TL ?_
  refine RM rfl ?_
  refine RBS rfl rfl rfl (.bool true) (by first | rfl | (simp; done) | (simp; omega) | (simp [*]; done) | (simp [*]; omega)) ?_
  refine RM rfl ?_
  refine RK ?_
  refine RK ?_
  refine RK ?_
  refine RP rfl rfl ?_
  refine RN ?_
  refine A.yes rfl ?_
  refine A.skip ?_
  refine EN ?_
  refine A.block ?_
  refine GS ?_
  refine TL ?_
  refine RM rfl ?_
  refine RBS rfl rfl rfl (nI (un n k + 4)) (wrap_eq (by omega) (by omega)) ?_
  refine RBS rfl rfl rfl (nI (un n k + 3)) (wrap_eq (by omega) (by omega)) ?_
  refine RS (ok_div rfl rfl (by decide)) ?_; refine RZ (nI (un n (k + 1))) (by rw [tdiv_lit _ (by decide)]; exact wrap_eq rfl (by first | omega | (simp only [Int.toNat]; omega))) ?_
  refine RA rfl ?_
  refine RN ?_
  refine GE ?_
  refine TF 3 ?_
  refine RM rfl ?_
  refine RM rfl ?_
  refine RS (ok_build1N Try.underlying60 infoPI rfl rfl) ?_
  refine RN ?_
  refine ⟨_, eff_appendRoom (n := 24) (s := 1000003) (k := k) (c := 6) (us := [nI (un n (k + 1))]) Try.underlying60 infoPI rfl rfl rfl rfl (by omega) hBb3 rfl (by rw [rowU_length]; decide) (fun q hq => by rw [Try.underlying60] at hq; cases hq) (by decide) (LV 5 rfl LN), ?_⟩
  refine TL ?_
  refine RA rfl ?_
  refine RN ?_
  refine End.sub (KC 4 rfl (KC 5 rfl (KE 1000003 rfl (show blk b3 72 _ = blk b3 72 (rowU n (k + 1)) from congrArg _ (rowU_set (by omega))) KN))) ?_
  refine End.normal_block ?_
  refine End.normal_then ?_
  refine End.again (k + 1) ?_ ?_ ?_
  ·show _ ≤ _; omega
  ·show _ - _ < _ - _; omega
  ·exact (KC 4 rfl (KC 5 rfl (KC 1000003 rfl KN)))
 ·refine GS ?_
  refine TL ?_
  refine RM rfl ?_
  refine RBS rfl rfl rfl (.bool false) (by first | rfl | (simp; done) | (simp; omega) | (simp [*]; done) | (simp [*]; omega)) ?_
  refine RM rfl ?_
  refine RQ (ok_move rfl) ?_
  refine RQ (ok_lenV Try.underlying60 rfl) ?_
  refine RQ (ok_bin rfl rfl rfl) ?_; refine RZ (.bool true) (by first | rfl | (simp; done) | (simp; omega) | (simp [*]; done) | (simp [*]; omega)) ?_
  refine RP rfl rfl ?_
  refine RN ?_
  refine A.yes rfl ?_
  refine A.skip ?_
  refine EN ?_
  refine A.block ?_
  refine GS ?_
  refine TL ?_
  refine RM rfl ?_
  refine RBS rfl rfl rfl (nI (un n k + 4)) (wrap_eq (by omega) (by omega)) ?_
  refine RBS rfl rfl rfl (nI (un n k + 3)) (wrap_eq (by omega) (by omega)) ?_
  refine RS (ok_div rfl rfl (by decide)) ?_; refine RZ (nI (un n (k + 1))) (by rw [tdiv_lit _ (by decide)]; exact wrap_eq rfl (by first | omega | (simp only [Int.toNat]; omega))) ?_
  refine RA rfl ?_
  refine RN ?_
  refine GE ?_
  refine TF 3 ?_
  refine RM rfl ?_
  refine RM rfl ?_
  refine RS (ok_build1N Try.underlying60 infoPI rfl rfl) ?_
  refine RN ?_
  refine ⟨_, eff_appendRoom (n := 24) (s := 1000003) (k := k) (c := 6) (us := [nI (un n (k + 1))]) Try.underlying60 infoPI rfl rfl rfl rfl (by omega) hBb3 rfl (by rw [rowU_length]; decide) (fun q hq => by rw [Try.underlying60] at hq; cases hq) (by decide) (LV 5 rfl LN), ?_⟩
  refine TL ?_
  refine RA rfl ?_
  refine RN ?_
  refine End.sub (KC 4 rfl (KC 5 rfl (KE 1000003 rfl (show blk b3 72 _ = blk b3 72 (rowU n (k + 1)) from congrArg _ (rowU_set (by omega))) KN))) ?_
  refine End.normal_block ?_
  refine End.normal_then ?_
  refine End.again (k + 1) ?_ ?_ ?_
  ·show _ ≤ _; omega
  ·show _ - _ < _ - _; omega
  ·exact (KC 4 rfl (KC 5 rfl (KC 1000003 rfl KN)))
 ·refine GS ?_
  refine TL ?_
  refine RM rfl ?_
  refine RBS rfl rfl rfl (.bool false) (by first | rfl | (simp; done) | (simp; omega) | (simp [*]; done) | (simp [*]; omega)) ?_
  refine RM rfl ?_
  refine RQ (ok_move rfl) ?_
  refine RQ (ok_lenV Try.underlying60 rfl) ?_
  refine RQ (ok_bin rfl rfl rfl) ?_; refine RZ (.bool false) (by first | rfl | (simp; done) | (simp; omega) | (simp [*]; done) | (simp [*]; omega)) ?_
  refine RP rfl rfl ?_
  refine RN ?_
  refine A.no rfl ?_
  refine A.exit ?_
  refine End.exit_then ?_
  refine End.exit_then ?_
  refine End.exit_here ?_
  refine EN ?_
  refine GS ?_
  refine TL ?_
  refine RM rfl ?_
  refine RA rfl ?_
  refine RN ?_
  refine A.ret ?_
  exact End.newF rfl rfl (kg := 1000003) rfl hBb3 (by rw [hA'']) (by rw [hA''])
theorem shapeOf_fnB (n : Nat) (h1 : 1 ≤ n) (h2 : n ≤ 4096)  : FnB Try.prog 34 [.v (nI (n))] (fun B => newD B 72 (fun b => aggV (shV n b)) (rowU n (hg n + 1))) := by
 refine FnB.of Try.func34 rfl (by kernel_rfl) Try.ntmps34 (by simp) (fun w => [(0, .v (nI (n)))]) (fun w => (Start.v rfl Start.nil)) fun w₀ => ?_
 refine GS ?_
 refine TN 0 ?_
 refine RN ?_
 refine ⟨_, _, eff_alloc (n := 11) (d := 2) (k := 1000002) zero62 (by decide), fun b2 hb2 => ?_⟩
 have hBb2 := hb2.1
 refine TL ?_
 refine RN ?_
 refine A.seq ?_
 refine GS ?_
 refine TL ?_
 refine RM rfl ?_
 refine RS (ok_call (Check_ok n h1 h2) (A1 rfl)) ?_
 refine RBS rfl rfl rfl (.bool false) (by first | rfl | (simp; done) | (simp; omega) | (simp [*]; done) | (simp [*]; omega)) ?_
 refine RN ?_
 refine A.no rfl ?_
 refine A.skip ?_
 refine EN ?_
 refine GS ?_
 refine TN 2 ?_
 refine RM rfl ?_
 refine RM rfl ?_
 refine RN ?_
 refine ⟨_, _, eff_name (n := 11) (d := 9) (k := 1000009) rfl rfl (fun B' => ok_callB (countsOf_fnB n h1 h2) (fun _ _ h => newD_mono _ _ h) (A1 rfl)) (by decide) (by decide), fun b9 hb9 => ?_⟩
 have hBb9 := hb9.1
 have hlt_b2_b9 : b2 < b9 := hb9.2 1000002 _ _ _ rfl
 refine TF 4 ?_
 refine RS (ok_litS [(0, nI n), (1, .slice (some ⟨b9, 0, none⟩) (hg n + 1) 6)] (shV n b9) ⟨rfl, rfl, rfl, rfl, trivial⟩ (buildSh _ _ _ _)) ?_
 refine RN ?_
 refine ⟨_, eff_storeA (n := 11) (s := 1000002) (size62.of (rfl)) rfl rfl (rfl) hBb2 rfl (rfl) (LV 2 rfl (LT 1000009 rfl LN)), ?_⟩
 refine TL ?_
 refine RN ?_
 refine A.ret ?_
 exact End.new1 rfl Try.underlying62 rfl (size62.of rfl) rfl (s := 1000002) rfl (kg := 1000009) rfl hBb9 rfl rfl
theorem shapeOf0_fn (m : Int) (hm : ¬ (1 ≤ m ∧ m ≤ 4096))  : Fn Try.prog 34 [.v (.int .i64 (m))] (.v (aggV sh0)) := by
 refine Fn.of Try.func34 rfl (by kernel_rfl) Try.ntmps34 (by simp) (fun w => [(0, .v (.int .i64 (m)))]) (fun w => (Start.v rfl Start.nil)) fun w₀ => ?_
 refine GS ?_
 refine TN 0 ?_
 refine RN ?_
 refine ⟨_, _, eff_alloc (n := 11) (d := 2) (k := 1000002) zero62 (by decide), fun b2 hb2 => ?_⟩
 have hBb2 := hb2.1
 refine TL ?_
 refine RN ?_
 refine A.seq ?_
 refine GS ?_
 refine TL ?_
 refine RM rfl ?_
 refine RS (ok_call (Check_bad m hm) (A1 rfl)) ?_
 refine RBS rfl rfl rfl (.bool true) (by first | rfl | (simp; done) | (simp; omega) | (simp [*]; done) | (simp [*]; omega)) ?_
 refine RN ?_
 refine A.yes rfl ?_
 refine GS ?_
 refine TF 1 ?_
 refine RS (ok_lit [] ([.int .i64 0] ++ [.slice none 0 0]) (fun _ _ => rfl) (by kernel_rfl)) ?_
 refine RN ?_
 refine ⟨_, eff_storeA (n := 11) (s := 1000002) (size62.of (rfl)) rfl rfl (rfl) hBb2 rfl (rfl) (LV 2 rfl LN), ?_⟩
 refine TL ?_
 refine RN ?_
 refine A.ret ?_
 refine End.ret_then ?_
 exact End.cell1 (s := 1000002) rfl Try.underlying62 rfl (size62.of (rfl)) rfl rfl (Le.refl _)
theorem height_fn (n b : Nat) : Fn Try.prog 41 [.v (aggV (shV n b))] (.v (nI (hg n))) := by
 have hh := hg_le n
 refine Fn.of Try.func41 rfl (by kernel_rfl) Try.ntmps41 (by simp) (fun w => [(0, .v (aggV (shV n b)))]) (fun w => (Start.v rfl Start.nil)) fun w₀ => ?_
 refine GS ?_
 refine TN 0 ?_
 refine RN ?_
 refine ⟨_, _, eff_box (n := 7) (d := 1) (k := 1000001) rfl (by decide), fun b1 hb1 => ?_⟩
 have hBb1 := hb1.1
 refine TL ?_
 refine RA rfl ?_
 refine RN ?_
 refine GS ?_
 refine TL ?_
 refine RS (ok_field field62_1 (by decide) rfl) ?_
 refine RS (ok_loadV (s := 1000001) (by decide) Try.underlying60 rfl rfl rfl (rfl)) ?_
 refine RS (ok_lenV Try.underlying60 rfl) ?_
 refine RBS rfl rfl rfl (nI (hg n)) (wrap_eq (by omega) (by omega)) ?_
 refine RA rfl ?_
 refine RN ?_
 refine A.ret ?_
 exact End.ret1 rfl rfl (by first | exact Le.refl _ | exact Le.old _ _)
theorem hasLevel_y (n b l : Nat) (hl : l ≤ hg n) : Fn Try.prog 42 [.v (aggV (shV n b)), .v (nI (l))] (.v (.bool true)) := by
 refine Fn.of Try.func42 rfl (by kernel_rfl) Try.ntmps42 (by simp) (fun w => [(0, .v (aggV (shV n b))), (1, .v (nI (l)))]) (fun w => (Start.v rfl (Start.v rfl Start.nil))) fun w₀ => ?_
 refine GS ?_
 refine TN 0 ?_
 refine RN ?_
 refine ⟨_, _, eff_box (n := 10) (d := 2) (k := 1000002) rfl (by decide), fun b2 hb2 => ?_⟩
 have hBb2 := hb2.1
 refine TL ?_
 refine RA rfl ?_
 refine RN ?_
 refine GS ?_
 refine TL ?_
 refine RM rfl ?_
 refine RS (ok_field field62_1 (by decide) rfl) ?_
 refine RS (ok_loadV (s := 1000002) (by decide) Try.underlying60 rfl rfl rfl (rfl)) ?_
 refine RS (ok_lenV Try.underlying60 rfl) ?_
 refine RS (ok_call (within_y _ _ (by omega) (by omega)) (A2 rfl rfl)) ?_
 refine RA rfl ?_
 refine RN ?_
 refine A.ret ?_
 exact End.ret1 rfl rfl (by first | exact Le.refl _ | exact Le.old _ _)
theorem hasLevel_n (n b : Nat) (l : Int) (hl : ¬ (0 ≤ l ∧ l ≤ hg n)) : Fn Try.prog 42 [.v (aggV (shV n b)), .v (.int .i64 (l))] (.v (.bool false)) := by
 refine Fn.of Try.func42 rfl (by kernel_rfl) Try.ntmps42 (by simp) (fun w => [(0, .v (aggV (shV n b))), (1, .v (.int .i64 (l)))]) (fun w => (Start.v rfl (Start.v rfl Start.nil))) fun w₀ => ?_
 refine GS ?_
 refine TN 0 ?_
 refine RN ?_
 refine ⟨_, _, eff_box (n := 10) (d := 2) (k := 1000002) rfl (by decide), fun b2 hb2 => ?_⟩
 have hBb2 := hb2.1
 refine TL ?_
 refine RA rfl ?_
 refine RN ?_
 refine GS ?_
 refine TL ?_
 refine RM rfl ?_
 refine RS (ok_field field62_1 (by decide) rfl) ?_
 refine RS (ok_loadV (s := 1000002) (by decide) Try.underlying60 rfl rfl rfl (rfl)) ?_
 refine RS (ok_lenV Try.underlying60 rfl) ?_
 refine RS (ok_call (within_n _ _ (by omega)) (A2 rfl rfl)) ?_
 refine RA rfl ?_
 refine RN ?_
 refine A.ret ?_
 exact End.ret1 rfl rfl (by first | exact Le.refl _ | exact Le.old _ _)
theorem hasLevel_0 (l : Int) : Fn Try.prog 42 [.v (aggV sh0), .v (.int .i64 (l))] (.v (.bool false)) := by
 refine Fn.of Try.func42 rfl (by kernel_rfl) Try.ntmps42 (by simp) (fun w => [(0, .v (aggV sh0)), (1, .v (.int .i64 (l)))]) (fun w => (Start.v rfl (Start.v rfl Start.nil))) fun w₀ => ?_
 refine GS ?_
 refine TN 0 ?_
 refine RN ?_
 refine ⟨_, _, eff_box (n := 10) (d := 2) (k := 1000002) rfl (by decide), fun b2 hb2 => ?_⟩
 have hBb2 := hb2.1
 refine TL ?_
 refine RA rfl ?_
 refine RN ?_
 refine GS ?_
 refine TL ?_
 refine RM rfl ?_
 refine RS (ok_field field62_1 (by decide) rfl) ?_
 refine RS (ok_loadV (s := 1000002) (by decide) Try.underlying60 rfl rfl rfl (rfl)) ?_
 refine RS (ok_lenV Try.underlying60 rfl) ?_
 refine RS (ok_call (within_n _ _ (by omega)) (A2 rfl rfl)) ?_
 refine RA rfl ?_
 refine RN ?_
 refine A.ret ?_
 exact End.ret1 rfl rfl (by first | exact Le.refl _ | exact Le.old _ _)
theorem has_y (n b : Nat) (l j : Nat) (hl : l ≤ hg n) (hj : j < un n (l + 1))  : FnM Try.prog 40 (shM n b) [.v (aggV (shV n b)), .v (aggV (plV l j))] (.v (.bool true)) := by
 have hh := hg_le n
 refine FnM.of Try.func40 rfl (by kernel_rfl) Try.ntmps40 (by simp) (by decide) (fun w => [(0, .v (aggV (shV n b))), (1, .v (aggV (plV l j))), (1900000, blk b 72 (rowU n (hg n + 1)))]) (fun w => (StartM.v rfl (StartM.v rfl (StartM.m (by simp [shM]) (by decide) StartM.nil)))) fun w₀ hM => ?_
 skip
 refine GS ?_
 refine TN 0 ?_
 refine RN ?_
 refine ⟨_, _, eff_box (n := 20) (d := 2) (k := 1000002) rfl (by decide), fun b2 hb2 => ?_⟩
 have hBb2 := hb2.1
 refine TN 1 ?_
 refine RN ?_
 refine ⟨_, _, eff_box (n := 20) (d := 3) (k := 1000003) rfl (by decide), fun b3 hb3 => ?_⟩
 have hBb3 := hb3.1
 refine TL ?_
 refine RA rfl ?_
 refine RN ?_
 refine GD ?_
 refine TL ?_
 refine RS (ok_loadA (s := 1000002) (by decide) Try.underlying62 rfl (size62.of (rfl)) rfl rfl) ?_
 refine RS (ok_field field45_0 (by decide) rfl) ?_
 refine RS (ok_loadV (s := 1000003) (by decide) Try.underlying3 rfl rfl rfl (rfl)) ?_
 refine RS (ok_call (hasLevel_y n b l hl) (A2 rfl rfl)) ?_
 refine RM rfl ?_
 refine RQ (ok_field field45_1 (by decide) rfl) ?_
 refine RQ (ok_loadV (s := 1000003) (by decide) Try.underlying3 rfl rfl rfl (rfl)) ?_
 refine RQ (ok_field field62_1 (by decide) rfl) ?_
 refine RQ (ok_loadV (s := 1000002) (by decide) Try.underlying60 rfl rfl rfl (rfl)) ?_
 refine RQ (ok_field field45_0 (by decide) rfl) ?_
 refine RQ (ok_loadV (s := 1000003) (by decide) Try.underlying3 rfl rfl rfl (rfl)) ?_
 refine RQ (ok_indexV l Try.underlying60 info3 rfl rfl rfl (by omega)) ?_
 refine RQ (ok_loadV (s := 1900000) (by decide) Try.underlying3 rfl rfl rfl (by rw [Nat.zero_add]; exact rowU_get (by omega) (by omega))) ?_
 refine RQ (ok_call (within_y _ _ (by omega) (by omega)) (A2 rfl rfl)) ?_
 refine RP rfl rfl ?_
 refine RA rfl ?_
 refine RN ?_
 refine A.ret ?_
 exact End.ret1 rfl rfl (by first | exact Le.refl _ | exact Le.old _ _)
theorem has_n1 (n b l : Nat) (j : Int) (hl : l ≤ hg n) (hj : ¬ (0 ≤ j ∧ j < un n (l + 1))) : FnM Try.prog 40 (shM n b) [.v (aggV (shV n b)), .v (aggV [nI l, .int .i64 j])] (.v (.bool false)) := by
 have hh := hg_le n
 refine FnM.of Try.func40 rfl (by kernel_rfl) Try.ntmps40 (by simp) (by decide) (fun w => [(0, .v (aggV (shV n b))), (1, .v (aggV [nI l, .int .i64 j])), (1900000, blk b 72 (rowU n (hg n + 1)))]) (fun w => (StartM.v rfl (StartM.v rfl (StartM.m (by simp [shM]) (by decide) StartM.nil)))) fun w₀ hM => ?_
 skip
 refine GS ?_
 refine TN 0 ?_
 refine RN ?_
 refine ⟨_, _, eff_box (n := 20) (d := 2) (k := 1000002) rfl (by decide), fun b2 hb2 => ?_⟩
 have hBb2 := hb2.1
 refine TN 1 ?_
 refine RN ?_
 refine ⟨_, _, eff_box (n := 20) (d := 3) (k := 1000003) rfl (by decide), fun b3 hb3 => ?_⟩
 have hBb3 := hb3.1
 refine TL ?_
 refine RA rfl ?_
 refine RN ?_
 refine GD ?_
 refine TL ?_
 refine RS (ok_loadA (s := 1000002) (by decide) Try.underlying62 rfl (size62.of (rfl)) rfl rfl) ?_
 refine RS (ok_field field45_0 (by decide) rfl) ?_
 refine RS (ok_loadV (s := 1000003) (by decide) Try.underlying3 rfl rfl rfl (rfl)) ?_
 refine RS (ok_call (hasLevel_y n b l hl) (A2 rfl rfl)) ?_
 refine RM rfl ?_
 refine RQ (ok_field field45_1 (by decide) rfl) ?_
 refine RQ (ok_loadV (s := 1000003) (by decide) Try.underlying3 rfl rfl rfl (rfl)) ?_
 refine RQ (ok_field field62_1 (by decide) rfl) ?_
 refine RQ (ok_loadV (s := 1000002) (by decide) Try.underlying60 rfl rfl rfl (rfl)) ?_
 refine RQ (ok_field field45_0 (by decide) rfl) ?_
 refine RQ (ok_loadV (s := 1000003) (by decide) Try.underlying3 rfl rfl rfl (rfl)) ?_
 refine RQ (ok_indexV l Try.underlying60 info3 rfl rfl rfl (by omega)) ?_
 refine RQ (ok_loadV (s := 1900000) (by decide) Try.underlying3 rfl rfl rfl (by rw [Nat.zero_add]; exact rowU_get (by omega) (by omega))) ?_
 refine RQ (ok_call (within_n _ _ (by omega)) (A2 rfl rfl)) ?_
 refine RP rfl rfl ?_
 refine RA rfl ?_
 refine RN ?_
 refine A.ret ?_
 exact End.ret1 rfl rfl (by first | exact Le.refl _ | exact Le.old _ _)
theorem has_n2 (n b : Nat) (l j : Int) (hl : ¬ (0 ≤ l ∧ l ≤ hg n)) : Fn Try.prog 40 [.v (aggV (shV n b)), .v (aggV [.int .i64 l, .int .i64 j])] (.v (.bool false)) := by
 refine Fn.of Try.func40 rfl (by kernel_rfl) Try.ntmps40 (by simp) (fun w => [(0, .v (aggV (shV n b))), (1, .v (aggV [.int .i64 l, .int .i64 j]))]) (fun w => (Start.v rfl (Start.v rfl Start.nil))) fun w₀ => ?_
 refine GS ?_
 refine TN 0 ?_
 refine RN ?_
 refine ⟨_, _, eff_box (n := 20) (d := 2) (k := 1000002) rfl (by decide), fun b2 hb2 => ?_⟩
 have hBb2 := hb2.1
 refine TN 1 ?_
 refine RN ?_
 refine ⟨_, _, eff_box (n := 20) (d := 3) (k := 1000003) rfl (by decide), fun b3 hb3 => ?_⟩
 have hBb3 := hb3.1
 refine TL ?_
 refine RA rfl ?_
 refine RN ?_
 refine GD ?_
 refine TL ?_
 refine RS (ok_loadA (s := 1000002) (by decide) Try.underlying62 rfl (size62.of (rfl)) rfl rfl) ?_
 refine RS (ok_field field45_0 (by decide) rfl) ?_
 refine RS (ok_loadV (s := 1000003) (by decide) Try.underlying3 rfl rfl rfl (rfl)) ?_
 refine RS (ok_call (hasLevel_n n b l hl) (A2 rfl rfl)) ?_
 refine RM rfl ?_
 refine RK ?_
 refine RK ?_
 refine RK ?_
 refine RK ?_
 refine RK ?_
 refine RK ?_
 refine RK ?_
 refine RK ?_
 refine RK ?_
 refine RP rfl rfl ?_
 refine RA rfl ?_
 refine RN ?_
 refine A.ret ?_
 exact End.ret1 rfl rfl (by first | exact Le.refl _ | exact Le.old _ _)
theorem has_0 (l j : Int) : Fn Try.prog 40 [.v (aggV sh0), .v (aggV [.int .i64 l, .int .i64 j])] (.v (.bool false)) := by
 refine Fn.of Try.func40 rfl (by kernel_rfl) Try.ntmps40 (by simp) (fun w => [(0, .v (aggV sh0)), (1, .v (aggV [.int .i64 l, .int .i64 j]))]) (fun w => (Start.v rfl (Start.v rfl Start.nil))) fun w₀ => ?_
 refine GS ?_
 refine TN 0 ?_
 refine RN ?_
 refine ⟨_, _, eff_box (n := 20) (d := 2) (k := 1000002) rfl (by decide), fun b2 hb2 => ?_⟩
 have hBb2 := hb2.1
 refine TN 1 ?_
 refine RN ?_
 refine ⟨_, _, eff_box (n := 20) (d := 3) (k := 1000003) rfl (by decide), fun b3 hb3 => ?_⟩
 have hBb3 := hb3.1
 refine TL ?_
 refine RA rfl ?_
 refine RN ?_
 refine GD ?_
 refine TL ?_
 refine RS (ok_loadA (s := 1000002) (by decide) Try.underlying62 rfl (size62.of (rfl)) rfl rfl) ?_
 refine RS (ok_field field45_0 (by decide) rfl) ?_
 refine RS (ok_loadV (s := 1000003) (by decide) Try.underlying3 rfl rfl rfl (rfl)) ?_
 refine RS (ok_call (hasLevel_0 l) (A2 rfl rfl)) ?_
 refine RM rfl ?_
 refine RK ?_
 refine RK ?_
 refine RK ?_
 refine RK ?_
 refine RK ?_
 refine RK ?_
 refine RK ?_
 refine RK ?_
 refine RK ?_
 refine RP rfl rfl ?_
 refine RA rfl ?_
 refine RN ?_
 refine A.ret ?_
 exact End.ret1 rfl rfl (by first | exact Le.refl _ | exact Le.old _ _)
theorem has_n (n b : Nat) (l j : Int) (h : ¬ IsP n l j) : FnM Try.prog 40 (shM n b) [.v (aggV (shV n b)), .v (aggV [.int .i64 l, .int .i64 j])] (.v (.bool false)) := by
 by_cases hl : 0 ≤ l ∧ l ≤ hg n
 ·obtain ⟨a, rfl⟩ : ∃ a : Nat, l = (a : Int) := ⟨l.toNat, by omega⟩
  refine has_n1 n b a j (by omega) fun hj => h ⟨a, j.toNat, rfl, by omega, by omega, by omega⟩
 ·exact (has_n2 n b l j hl).m
theorem parts_fn (n b : Nat) (h1 : 1 ≤ n) (h2 : n ≤ 4096) (l j : Nat) (hl : l ≤ hg n) (hj : j < un n (l + 1))  : FnM Try.prog 43 (shM n b) [.v (aggV (shV n b)), .v (aggV (plV l j))] (.v (nI (pts n l j))) := by
 have hu0 := un_le h1 (l)
 have hv0 := un_pos h1 (l)
 have hu1 := un_le h1 (l + 1)
 have hv1 := un_pos h1 (l + 1)
 have hh := hg_le n
 have hp := pts_pos hj
 refine FnM.of Try.func43 rfl (by kernel_rfl) Try.ntmps43 (by simp) (by decide) (fun w => [(0, .v (aggV (shV n b))), (1, .v (aggV (plV l j))), (1900000, blk b 72 (rowU n (hg n + 1)))]) (fun w => (StartM.v rfl (StartM.v rfl (StartM.m (by simp [shM]) (by decide) StartM.nil)))) fun w₀ hM => ?_
 skip
 refine GS ?_
 refine TN 0 ?_
 refine RN ?_
 refine ⟨_, _, eff_box (n := 24) (d := 2) (k := 1000002) rfl (by decide), fun b2 hb2 => ?_⟩
 have hBb2 := hb2.1
 refine TN 1 ?_
 refine RN ?_
 refine ⟨_, _, eff_box (n := 24) (d := 3) (k := 1000003) rfl (by decide), fun b3 hb3 => ?_⟩
 have hBb3 := hb3.1
 refine TL ?_
 refine RA rfl ?_
 refine RN ?_
 refine GS ?_
 refine TL ?_
 refine RS (ok_field field62_0 (by decide) rfl) ?_
 refine RS (ok_loadV (s := 1000002) (by decide) Try.underlying3 rfl rfl rfl (rfl)) ?_
 refine RA rfl ?_
 refine RN ?_
 refine A.seq ?_
 refine GS ?_
 refine TL ?_
 refine RS (ok_field field45_0 (by decide) rfl) ?_
 refine RS (ok_loadV (s := 1000003) (by decide) Try.underlying3 rfl rfl rfl (rfl)) ?_
 refine RB rfl rfl rfl ?_
 refine RN ?_
 refine A.cond rfl (fun hc10 => ?_) (fun hc10 => ?_)
 ·have hl0 : 0 < l := by simp at hc10; omega
  refine GE ?_
  refine TL ?_
  refine RS (ok_field field62_1 (by decide) rfl) ?_
  refine RS (ok_loadV (s := 1000002) (by decide) Try.underlying60 rfl rfl rfl (rfl)) ?_
  refine RS (ok_field field45_0 (by decide) rfl) ?_
  refine RS (ok_loadV (s := 1000003) (by decide) Try.underlying3 rfl rfl rfl (rfl)) ?_
  refine RBS rfl rfl rfl (nI (l - 1)) (wrap_eq (by omega) (by omega)) ?_
  refine RS (ok_indexV (l - 1) Try.underlying60 info3 rfl rfl rfl (by omega)) ?_
  refine RS (ok_loadV (s := 1900000) (by decide) Try.underlying3 rfl rfl rfl (by rw [Nat.zero_add]; exact rowU_get (by omega) (by omega))) ?_; refine RZ (nI (un n l)) (by rw [show l - 1 + 1 = l from by omega]) ?_
  refine RA rfl ?_
  refine RN ?_
  refine EN ?_
  refine GS ?_
  refine TL ?_
  refine RM rfl ?_; refine RZ (nI (un n l)) (by first | rfl | (rw [hl0]; rfl)) ?_
  refine RS (ok_field field45_1 (by decide) rfl) ?_
  refine RS (ok_loadV (s := 1000003) (by decide) Try.underlying3 rfl rfl rfl (rfl)) ?_
  refine RBS rfl rfl rfl (nI (j * 4)) (wrap_eq (by omega) (by omega)) ?_
  refine RBS rfl rfl rfl (nI (un n l - j * 4)) (wrap_eq (by omega) (by omega)) ?_
  refine RS (ok_min rfl rfl) ?_; refine RZ (nI (pts n l j)) (congrArg (Value.int .i64) (by unfold pts; omega)) ?_
  refine RA rfl ?_
  refine RN ?_
  refine A.ret ?_
  exact End.ret1 rfl rfl (by first | exact Le.refl _ | exact Le.old _ _)
 ·have hl0 : l = 0 := by simp at hc10; omega
  refine A.skip ?_
  refine EN ?_
  refine GS ?_
  refine TL ?_
  refine RM rfl ?_; refine RZ (nI (un n l)) (by first | rfl | (rw [hl0]; rfl)) ?_
  refine RS (ok_field field45_1 (by decide) rfl) ?_
  refine RS (ok_loadV (s := 1000003) (by decide) Try.underlying3 rfl rfl rfl (rfl)) ?_
  refine RBS rfl rfl rfl (nI (j * 4)) (wrap_eq (by omega) (by omega)) ?_
  refine RBS rfl rfl rfl (nI (un n l - j * 4)) (wrap_eq (by omega) (by omega)) ?_
  refine RS (ok_min rfl rfl) ?_; refine RZ (nI (pts n l j)) (congrArg (Value.int .i64) (by unfold pts; omega)) ?_
  refine RA rfl ?_
  refine RN ?_
  refine A.ret ?_
  exact End.ret1 rfl rfl (by first | exact Le.refl _ | exact Le.old _ _)
theorem base_fn (n b : Nat) (h1 : 1 ≤ n) (h2 : n ≤ 4096) (l : Nat) (hl : l ≤ hg n + 1) : FnM Try.prog 38 (shM n b) [.v (aggV (shV n b)), .v (nI (l))] (.v (nI (bs n l))) := by
 have hh := hg_le n
 refine FnM.of Try.func38 rfl (by kernel_rfl) Try.ntmps38 (by simp) (by decide) (fun w => [(0, .v (aggV (shV n b))), (1, .v (nI (l))), (1900000, blk b 72 (rowU n (hg n + 1)))]) (fun w => (StartM.v rfl (StartM.v rfl (StartM.m (by simp [shM]) (by decide) StartM.nil)))) fun w₀ hM => ?_
 skip
 refine GS ?_
 refine TN 0 ?_
 refine RN ?_
 refine ⟨_, _, eff_box (n := 26) (d := 2) (k := 1000002) rfl (by decide), fun b2 hb2 => ?_⟩
 have hBb2 := hb2.1
 refine TL ?_
 refine RA rfl ?_
 refine RN ?_
 refine GS ?_
 refine TL ?_
 refine RS (ok_field field62_0 (by decide) rfl) ?_
 refine RS (ok_loadV (s := 1000002) (by decide) Try.underlying3 rfl rfl rfl (rfl)) ?_
 refine RBS rfl rfl rfl (nI (bs n 0)) (wrap_eq (by rw [bs_zero]; omega) (by rw [bs_zero]; omega)) ?_
 refine RA rfl ?_
 refine RN ?_
 refine A.seq ?_
 refine GS ?_
 refine TL ?_
 refine RS (ok_field field62_1 (by decide) rfl) ?_
 refine RS (ok_loadV (s := 1000002) (by decide) Try.underlying60 rfl rfl rfl (rfl)) ?_
 refine RM rfl ?_
 refine RS (ok_sliceS (l := 0) (h := l) (m := 6) Try.underlying60 info3 rfl (.inr ⟨rfl, rfl⟩) (.inl ⟨_, _, rfl, rfl⟩) (.inr ⟨rfl, rfl⟩) (Nat.zero_le _) (by omega) (by decide) (.inl (by decide))) ?_; refine RZ (.slice (some ⟨b, 0, none⟩) l 6) (by rfl) ?_
 refine RS (ok_lenV Try.underlying60 rfl) ?_
 refine RM rfl ?_
 refine RN ?_
 refine A.block ?_
 refine A.loop (ι := Nat) (fun i => i ≤ l) (fun i => [(5, .v (nI (bs n i))), (14, .v (.slice (some ⟨b, 0, none⟩) l 6)), (15, .v (nI (l))), (16, .v (nI (i))), (1900000, blk b 72 (rowU n (hg n + 1)))]) (fun i => l - i) 0 ?_ ?_ ?_
 ·exact Nat.zero_le _
 ·exact (KC 5 rfl (KC 14 rfl (KC 15 rfl (KC 16 rfl (KC 1900000 rfl KN)))))
 intro i hi
 have hu0 := un_le h1 (i + 1)
 have hv0 := un_pos h1 (i + 1)
 refine GS ?_
 refine TL ?_
 refine RB rfl rfl rfl ?_
 refine RN ?_
 refine A.seq ?_
 refine A.cond rfl (fun hc17 => ?_) (fun hc17 => ?_)
 ·have hlt : i < l := by simp at hc17; omega
  refine A.skip ?_
  refine EN ?_
  refine A.seq ?_
  refine A.block ?_
  refine GS ?_
  refine TL ?_
  refine RS (ok_indexV i Try.underlying60 info3 rfl rfl rfl (by omega)) ?_
  refine RS (ok_loadV (s := 1900000) (by decide) Try.underlying3 rfl rfl rfl (by rw [Nat.zero_add]; exact rowU_get (by omega) (by omega))) ?_
  refine RA rfl ?_
  refine RN ?_
  refine GE ?_
  refine TL ?_
  refine RM rfl ?_
  refine RM rfl ?_
  refine RBS rfl rfl rfl (nI (un n (i + 1) * 2)) (wrap_eq (by omega) (by omega)) ?_
  refine RBS rfl rfl rfl (nI (bs n (i + 1))) (wrap_eq (by rw [bs_succ]; omega) (by have := bs_small h1 h2 (l := i + 1) (by omega); omega)) ?_
  refine RA rfl ?_
  refine RN ?_
  refine End.normal_block ?_
  refine EN ?_
  refine GE ?_
  refine TL ?_
  refine RBS rfl rfl rfl (nI (i + 1)) (wrap_eq (by omega) (by omega)) ?_
  refine RM rfl ?_
  refine RN ?_
  refine End.normal_then ?_
  refine End.again (i + 1) ?_ ?_ ?_
  ·show _ ≤ _; omega
  ·show _ - _ < _ - _; omega
  ·exact (KC 5 rfl (KC 14 rfl (KC 15 rfl (KC 16 rfl (KC 1900000 rfl KN)))))
 ·obtain rfl : i = l := by simp at hc17; omega
  refine A.exit ?_
  refine End.exit_then ?_
  refine End.exit_then ?_
  refine End.exit_here ?_
  refine EN ?_
  refine GS ?_
  refine TL ?_
  refine RM rfl ?_
  refine RA rfl ?_
  refine RN ?_
  refine A.ret ?_
  exact End.ret1 rfl rfl (by first | exact Le.refl _ | exact Le.old _ _)
theorem base_0  : Fn Try.prog 38 [.v (aggV sh0), .v (.int .i64 (0))] (.v (.int .i64 (0))) := by
 refine Fn.of Try.func38 rfl (by kernel_rfl) Try.ntmps38 (by simp) (fun w => [(0, .v (aggV sh0)), (1, .v (.int .i64 (0)))]) (fun w => (Start.v rfl (Start.v rfl Start.nil))) fun w₀ => ?_
 refine GS ?_
 refine TN 0 ?_
 refine RN ?_
 refine ⟨_, _, eff_box (n := 26) (d := 2) (k := 1000002) rfl (by decide), fun b2 hb2 => ?_⟩
 have hBb2 := hb2.1
 refine TL ?_
 refine RA rfl ?_
 refine RN ?_
 refine GS ?_
 refine TL ?_
 refine RS (ok_field field62_0 (by decide) rfl) ?_
 refine RS (ok_loadV (s := 1000002) (by decide) Try.underlying3 rfl rfl rfl (rfl)) ?_
 refine RBS rfl rfl rfl (.int .i64 0) (rfl) ?_
 refine RA rfl ?_
 refine RN ?_
 refine A.seq ?_
 refine GS ?_
 refine TL ?_
 refine RS (ok_field field62_1 (by decide) rfl) ?_
 refine RS (ok_loadV (s := 1000002) (by decide) Try.underlying60 rfl rfl rfl (rfl)) ?_
 refine RM rfl ?_
 refine RS (ok_sliceNil Try.underlying60 info3 rfl rfl) ?_
 refine RS (ok_lenV Try.underlying60 rfl) ?_
 refine RM rfl ?_
 refine RN ?_
 refine A.block ?_
 refine A.loop (ι := Unit) (fun _u => True) (fun _u => [(5, .v (.int .i64 (0))), (15, .v (.int .i64 (0))), (16, .v (.int .i64 (0)))]) (fun _u => 0) () ?_ ?_ ?_
 ·exact trivial
 ·exact (KC 5 rfl (KC 15 rfl (KC 16 rfl KN)))
 intro _u hu
 refine GS ?_
 refine TL ?_
 refine RBS rfl rfl rfl (.bool false) (by first | rfl | (simp; done) | (simp; omega) | (simp [*]; done) | (simp [*]; omega)) ?_
 refine RN ?_
 refine A.seq ?_
 refine A.no rfl ?_
 refine A.exit ?_
 refine End.exit_then ?_
 refine End.exit_then ?_
 refine End.exit_here ?_
 refine EN ?_
 refine GS ?_
 refine TL ?_
 refine RM rfl ?_
 refine RA rfl ?_
 refine RN ?_
 refine A.ret ?_
 exact End.ret1 rfl rfl (by first | exact Le.refl _ | exact Le.old _ _)
theorem sectors_fn (n b : Nat) (h1 : 1 ≤ n) (h2 : n ≤ 4096) : FnM Try.prog 35 (shM n b) [.v (aggV (shV n b))] (.v (nI (bs n (hg n + 1)))) := by
 refine FnM.of Try.func35 rfl (by kernel_rfl) Try.ntmps35 (by simp) (by decide) (fun w => [(0, .v (aggV (shV n b))), (1900000, blk b 72 (rowU n (hg n + 1)))]) (fun w => (StartM.v rfl (StartM.m (by simp [shM]) (by decide) StartM.nil))) fun w₀ hM => ?_
 skip
 refine GS ?_
 refine TN 0 ?_
 refine RN ?_
 refine ⟨_, _, eff_box (n := 8) (d := 1) (k := 1000001) rfl (by decide), fun b1 hb1 => ?_⟩
 have hBb1 := hb1.1
 refine TL ?_
 refine RA rfl ?_
 refine RN ?_
 refine GS ?_
 refine TL ?_
 refine RS (ok_loadA (s := 1000001) (by decide) Try.underlying62 rfl (size62.of (rfl)) rfl rfl) ?_
 refine RS (ok_field field62_1 (by decide) rfl) ?_
 refine RS (ok_loadV (s := 1000001) (by decide) Try.underlying60 rfl rfl rfl (rfl)) ?_
 refine RS (ok_lenV Try.underlying60 rfl) ?_
 refine RS (ok_callK 1900000 (base_fn n b h1 h2 (hg n + 1) (Nat.le_refl _)) (by decide) rfl (A2 rfl rfl)) ?_
 refine RA rfl ?_
 refine RN ?_
 refine A.ret ?_
 exact End.ret1 rfl rfl (by first | exact Le.refl _ | exact Le.old _ _)
theorem sectors_0  : Fn Try.prog 35 [.v (aggV sh0)] (.v (.int .i64 (0))) := by
 refine Fn.of Try.func35 rfl (by kernel_rfl) Try.ntmps35 (by simp) (fun w => [(0, .v (aggV sh0))]) (fun w => (Start.v rfl Start.nil)) fun w₀ => ?_
 refine GS ?_
 refine TN 0 ?_
 refine RN ?_
 refine ⟨_, _, eff_box (n := 8) (d := 1) (k := 1000001) rfl (by decide), fun b1 hb1 => ?_⟩
 have hBb1 := hb1.1
 refine TL ?_
 refine RA rfl ?_
 refine RN ?_
 refine GS ?_
 refine TL ?_
 refine RS (ok_loadA (s := 1000001) (by decide) Try.underlying62 rfl (size62.of (rfl)) rfl rfl) ?_
 refine RS (ok_field field62_1 (by decide) rfl) ?_
 refine RS (ok_loadV (s := 1000001) (by decide) Try.underlying60 rfl rfl rfl (rfl)) ?_
 refine RS (ok_lenV Try.underlying60 rfl) ?_
 refine RS (ok_call (base_0) (A2 rfl rfl)) ?_
 refine RA rfl ?_
 refine RN ?_
 refine A.ret ?_
 exact End.ret1 rfl rfl (by first | exact Le.refl _ | exact Le.old _ _)
theorem hasBlock_y (n : Nat) (h1 : 1 ≤ n) (h2 : n ≤ 4096) (x : Nat) (hx : x < n) : Fn Try.prog 39 [.v (nI (n)), .v (nI (x))] (.v (.bool true)) := by
 refine Fn.of Try.func39 rfl (by kernel_rfl) Try.ntmps39 (by simp) (fun w => [(0, .v (nI (n))), (1, .v (nI (x)))]) (fun w => (Start.v rfl (Start.v rfl Start.nil))) fun w₀ => ?_
 refine GS ?_
 refine TL ?_
 refine RA rfl ?_
 refine RN ?_
 refine GS ?_
 refine TL ?_
 refine RM rfl ?_
 refine RS (ok_call (Check_ok n h1 h2) (A1 rfl)) ?_
 refine RBS rfl rfl rfl (.bool true) (by first | rfl | (simp; done) | (simp; omega) | (simp [*]; done) | (simp [*]; omega)) ?_
 refine RM rfl ?_
 refine RQ (ok_move rfl) ?_
 refine RQ (ok_move rfl) ?_
 refine RQ (ok_call (within_y _ _ (by omega) (by omega)) (A2 rfl rfl)) ?_
 refine RP rfl rfl ?_
 refine RA rfl ?_
 refine RN ?_
 refine A.ret ?_
 exact End.ret1 rfl rfl (by first | exact Le.refl _ | exact Le.old _ _)
theorem hasBlock_n (n : Nat) (h1 : 1 ≤ n) (h2 : n ≤ 4096) (x : Int) (hx : ¬ (0 ≤ x ∧ x < n)) : Fn Try.prog 39 [.v (nI (n)), .v (.int .i64 (x))] (.v (.bool false)) := by
 refine Fn.of Try.func39 rfl (by kernel_rfl) Try.ntmps39 (by simp) (fun w => [(0, .v (nI (n))), (1, .v (.int .i64 (x)))]) (fun w => (Start.v rfl (Start.v rfl Start.nil))) fun w₀ => ?_
 refine GS ?_
 refine TL ?_
 refine RA rfl ?_
 refine RN ?_
 refine GS ?_
 refine TL ?_
 refine RM rfl ?_
 refine RS (ok_call (Check_ok n h1 h2) (A1 rfl)) ?_
 refine RBS rfl rfl rfl (.bool true) (by first | rfl | (simp; done) | (simp; omega) | (simp [*]; done) | (simp [*]; omega)) ?_
 refine RM rfl ?_
 refine RQ (ok_move rfl) ?_
 refine RQ (ok_move rfl) ?_
 refine RQ (ok_call (within_n _ _ (by omega)) (A2 rfl rfl)) ?_
 refine RP rfl rfl ?_
 refine RA rfl ?_
 refine RN ?_
 refine A.ret ?_
 exact End.ret1 rfl rfl (by first | exact Le.refl _ | exact Le.old _ _)
theorem hasBlock_b (m : Int) (hm : ¬ (1 ≤ m ∧ m ≤ 4096)) (x : Int) : Fn Try.prog 39 [.v (.int .i64 (m)), .v (.int .i64 (x))] (.v (.bool false)) := by
 refine Fn.of Try.func39 rfl (by kernel_rfl) Try.ntmps39 (by simp) (fun w => [(0, .v (.int .i64 (m))), (1, .v (.int .i64 (x)))]) (fun w => (Start.v rfl (Start.v rfl Start.nil))) fun w₀ => ?_
 refine GS ?_
 refine TL ?_
 refine RA rfl ?_
 refine RN ?_
 refine GS ?_
 refine TL ?_
 refine RM rfl ?_
 refine RS (ok_call (Check_bad m hm) (A1 rfl)) ?_
 refine RBS rfl rfl rfl (.bool false) (by first | rfl | (simp; done) | (simp; omega) | (simp [*]; done) | (simp [*]; omega)) ?_
 refine RM rfl ?_
 refine RK ?_
 refine RK ?_
 refine RK ?_
 refine RP rfl rfl ?_
 refine RA rfl ?_
 refine RN ?_
 refine A.ret ?_
 exact End.ret1 rfl rfl (by first | exact Le.refl _ | exact Le.old _ _)
end Go.Proofs.Ytdnblilocdddpaa
