/-
 Package shapes by facts, part two: the functions that others call, but Path.
-/
import Derived.Test.YtdnblilocdddpaaShort
import Derived.Test.YtdnblilocdddpaaC12a
import Derived.Test.YtdnblilocdddpaaOnce
namespace Go.Proofs.Ytdnblilocdddpaa
open Go Go.RowKit
set_option linter.unusedVariables false
set_option maxRecDepth 20000

theorem Height_ok (n : Nat) (h1 : 1 ≤ n) (h2 : n ≤ 4096)  : Fn Try.prog 19 [.v (nI (n))] (.v (.tuple #[nI (hg n), .int .i64 0])) := by
 refine Fn.of Try.func19 rfl (by kernel_rfl) Try.ntmps19 (by simp) (fun w => [(0, .v (nI (n)))]) (fun w => (Start.v rfl Start.nil)) fun w₀ => ?_
 refine GS ?_
 refine TL ?_
 refine RA rfl ?_
 refine RA rfl ?_
 refine RN ?_
 refine A.seq ?_
 refine GS ?_
 refine TL ?_
 refine RM rfl ?_
 refine RS (ok_call (Check_ok n h1 h2) (A1 rfl)) ?_
 refine RA rfl ?_
 refine RN ?_
 refine GS ?_
 refine TL ?_
 refine RM rfl ?_
 refine RBS rfl rfl rfl (.bool false) (by first | rfl | (simp; done) | (simp; omega) | (simp [*]; done) | (simp [*]; omega)) ?_
 refine RN ?_
 refine A.no rfl ?_
 refine A.skip ?_
 refine EN ?_
 refine GS ?_
 refine TN 1 ?_
 refine RM rfl ?_
 refine RN ?_
 refine ⟨_, _, eff_name (n := 13) (d := 11) (k := 1000011) rfl rfl (fun B' => ok_callB (shapeOf_fnB n h1 h2) (fun _ _ h => newD_mono _ _ h) (A1 rfl)) (by decide) (by decide), fun b11 hb11 => ?_⟩
 have hBb11 := hb11.1
 refine TL ?_
 refine RS (ok_call (height_fn n b11) (A1 rfl)) ?_
 refine RA rfl ?_
 refine RA rfl ?_
 refine RN ?_
 refine A.ret ?_
 exact End.ret2V rfl rfl rfl
theorem Height_bad (m : Int) (hm : ¬ (1 ≤ m ∧ m ≤ 4096))  : Fn Try.prog 19 [.v (.int .i64 (m))] (.v (.tuple #[.int .i64 0, .int .i64 1])) := by
 refine Fn.of Try.func19 rfl (by kernel_rfl) Try.ntmps19 (by simp) (fun w => [(0, .v (.int .i64 (m)))]) (fun w => (Start.v rfl Start.nil)) fun w₀ => ?_
 refine GS ?_
 refine TL ?_
 refine RA rfl ?_
 refine RA rfl ?_
 refine RN ?_
 refine A.seq ?_
 refine GS ?_
 refine TL ?_
 refine RM rfl ?_
 refine RS (ok_call (Check_bad m hm) (A1 rfl)) ?_
 refine RA rfl ?_
 refine RN ?_
 refine GS ?_
 refine TL ?_
 refine RM rfl ?_
 refine RBS rfl rfl rfl (.bool true) (by first | rfl | (simp; done) | (simp; omega) | (simp [*]; done) | (simp [*]; omega)) ?_
 refine RN ?_
 refine A.yes rfl ?_
 refine GS ?_
 refine TL ?_
 refine RM rfl ?_
 refine RA rfl ?_
 refine RA rfl ?_
 refine RN ?_
 refine A.ret ?_
 refine End.ret_then ?_
 exact End.ret2V rfl rfl rfl
theorem Sectors_ok (n : Nat) (h1 : 1 ≤ n) (h2 : n ≤ 4096)  : Fn Try.prog 10 [.v (nI (n))] (.v (.tuple #[nI (bs n (hg n + 1)), .int .i64 0])) := by
 refine Fn.of Try.func10 rfl (by kernel_rfl) Try.ntmps10 (by simp) (fun w => [(0, .v (nI (n)))]) (fun w => (Start.v rfl Start.nil)) fun w₀ => ?_
 refine GS ?_
 refine TL ?_
 refine RA rfl ?_
 refine RA rfl ?_
 refine RN ?_
 refine A.seq ?_
 refine GS ?_
 refine TL ?_
 refine RM rfl ?_
 refine RS (ok_call (Check_ok n h1 h2) (A1 rfl)) ?_
 refine RA rfl ?_
 refine RN ?_
 refine GS ?_
 refine TL ?_
 refine RM rfl ?_
 refine RBS rfl rfl rfl (.bool false) (by first | rfl | (simp; done) | (simp; omega) | (simp [*]; done) | (simp [*]; omega)) ?_
 refine RN ?_
 refine A.no rfl ?_
 refine A.skip ?_
 refine EN ?_
 refine GS ?_
 refine TN 1 ?_
 refine RM rfl ?_
 refine RN ?_
 refine ⟨_, _, eff_name (n := 13) (d := 11) (k := 1000011) rfl rfl (fun B' => ok_callB (shapeOf_fnB n h1 h2) (fun _ _ h => newD_mono _ _ h) (A1 rfl)) (by decide) (by decide), fun b11 hb11 => ?_⟩
 have hBb11 := hb11.1
 refine TL ?_
 refine RS (ok_callK 1000011 (sectors_fn n b11 h1 h2) (by decide) rfl (A1 rfl)) ?_
 refine RA rfl ?_
 refine RA rfl ?_
 refine RN ?_
 refine A.ret ?_
 exact End.ret2V rfl rfl rfl
theorem Sectors_bad (m : Int) (hm : ¬ (1 ≤ m ∧ m ≤ 4096))  : Fn Try.prog 10 [.v (.int .i64 (m))] (.v (.tuple #[.int .i64 0, .int .i64 1])) := by
 refine Fn.of Try.func10 rfl (by kernel_rfl) Try.ntmps10 (by simp) (fun w => [(0, .v (.int .i64 (m)))]) (fun w => (Start.v rfl Start.nil)) fun w₀ => ?_
 refine GS ?_
 refine TL ?_
 refine RA rfl ?_
 refine RA rfl ?_
 refine RN ?_
 refine A.seq ?_
 refine GS ?_
 refine TL ?_
 refine RM rfl ?_
 refine RS (ok_call (Check_bad m hm) (A1 rfl)) ?_
 refine RA rfl ?_
 refine RN ?_
 refine GS ?_
 refine TL ?_
 refine RM rfl ?_
 refine RBS rfl rfl rfl (.bool true) (by first | rfl | (simp; done) | (simp; omega) | (simp [*]; done) | (simp [*]; omega)) ?_
 refine RN ?_
 refine A.yes rfl ?_
 refine GS ?_
 refine TL ?_
 refine RM rfl ?_
 refine RA rfl ?_
 refine RA rfl ?_
 refine RN ?_
 refine A.ret ?_
 refine End.ret_then ?_
 exact End.ret2V rfl rfl rfl
theorem Total_ok (n : Nat) (h1 : 1 ≤ n) (h2 : n ≤ 4096)  : Fn Try.prog 26 [.v (nI (n))] (.v (.tuple #[nI (tot n (hg n + 1)), .int .i64 0])) := by
 have hh := hg_le n
 refine Fn.of Try.func26 rfl (by kernel_rfl) Try.ntmps26 (by simp) (fun w => [(0, .v (nI (n)))]) (fun w => (Start.v rfl Start.nil)) fun w₀ => ?_
 refine GS ?_
 refine TL ?_
 refine RA rfl ?_
 refine RA rfl ?_
 refine RN ?_
 refine A.seq ?_
 refine GS ?_
 refine TL ?_
 refine RM rfl ?_
 refine RS (ok_call (Check_ok n h1 h2) (A1 rfl)) ?_
 refine RA rfl ?_
 refine RN ?_
 refine GS ?_
 refine TL ?_
 refine RM rfl ?_
 refine RBS rfl rfl rfl (.bool false) (by first | rfl | (simp; done) | (simp; omega) | (simp [*]; done) | (simp [*]; omega)) ?_
 refine RN ?_
 refine A.no rfl ?_
 refine A.skip ?_
 refine EN ?_
 refine GS ?_
 refine TL ?_
 refine RA rfl ?_
 refine RN ?_
 refine A.seq ?_
 refine GS ?_
 refine TN 1 ?_
 refine RM rfl ?_
 refine RN ?_
 refine ⟨_, _, eff_name (n := 26) (d := 14) (k := 1000014) rfl rfl (fun B' => ok_callB (shapeOf_fnB n h1 h2) (fun _ _ h => newD_mono _ _ h) (A1 rfl)) (by decide) (by decide), fun b14 hb14 => ?_⟩
 have hBb14 := hb14.1
 refine TL ?_
 refine RS (ok_fieldV (off := 1) (by kernel_rfl) rfl rfl) ?_
 refine RS (ok_lenV Try.underlying60 rfl) ?_
 refine RM rfl ?_
 refine RN ?_
 refine A.block ?_
 refine A.loop (ι := Nat) (fun i => i ≤ hg n + 1) (fun i => [(5, .v (nI (tot n i))), (15, .v (.slice (some ⟨b14, 0, none⟩) (hg n + 1) 6)), (16, .v (nI (hg n + 1))), (17, .v (nI (i))), (1000014, blk b14 72 (rowU n (hg n + 1)))]) (fun i => hg n + 1 - i) 0 ?_ ?_ ?_
 ·exact Nat.zero_le _
 ·exact (KC 5 rfl (KC 15 rfl (KC 16 rfl (KC 17 rfl (KC 1000014 rfl KN)))))
 intro i hi
 refine GS ?_
 refine TL ?_
 refine RB rfl rfl rfl ?_
 refine RN ?_
 refine A.seq ?_
 refine A.cond rfl (fun hc18 => ?_) (fun hc18 => ?_)
 ·have hlt : i < hg n + 1 := by simp at hc18; omega
  refine A.skip ?_
  refine EN ?_
  refine A.seq ?_
  refine A.block ?_
  refine GS ?_
  refine TL ?_
  refine RS (ok_indexV i Try.underlying60 info3 rfl rfl rfl (by omega)) ?_
  refine RS (ok_loadV (s := 1000014) (by decide) Try.underlying3 rfl rfl rfl (by rw [Nat.zero_add]; exact rowU_get (by omega) (by omega))) ?_
  refine RA rfl ?_
  refine RN ?_
  refine GE ?_
  refine TL ?_
  refine RM rfl ?_
  refine RM rfl ?_
  refine RBS rfl rfl rfl (nI (tot n (i + 1))) (wrap_eq (by rw [tot_succ]; omega) (by have := tot_small h1 h2 (l := i + 1) (by omega); omega)) ?_
  refine RA rfl ?_
  refine RN ?_
  refine End.normal_block ?_
  refine EN ?_
  refine GE ?_
  refine TL ?_
  refine RBS rfl rfl rfl (nI (i + 1)) (wrap_eq (by omega) (by omega)) ?_
  refine RM rfl ?_
  refine RN ?_
  refine End.normal_then ?_
  refine End.again (i + 1) ?_ ?_ ?_
  ·show _ ≤ _; omega
  ·show _ - _ < _ - _; omega
  ·exact (KC 5 rfl (KC 15 rfl (KC 16 rfl (KC 17 rfl (KC 1000014 rfl KN)))))
 ·have hie : i = hg n + 1 := by simp at hc18; omega
  refine A.exit ?_
  refine End.exit_then ?_
  refine End.exit_then ?_
  refine End.exit_here ?_
  refine EN ?_
  refine GS ?_
  refine TL ?_
  refine RM rfl ?_; refine RZ (nI (tot n (hg n + 1))) (by rw [hie]) ?_
  refine RA rfl ?_
  refine RA rfl ?_
  refine RN ?_
  refine A.ret ?_
  exact End.ret2V rfl rfl rfl
theorem Total_bad (m : Int) (hm : ¬ (1 ≤ m ∧ m ≤ 4096))  : Fn Try.prog 26 [.v (.int .i64 (m))] (.v (.tuple #[.int .i64 0, .int .i64 1])) := by
 refine Fn.of Try.func26 rfl (by kernel_rfl) Try.ntmps26 (by simp) (fun w => [(0, .v (.int .i64 (m)))]) (fun w => (Start.v rfl Start.nil)) fun w₀ => ?_
 refine GS ?_
 refine TL ?_
 refine RA rfl ?_
 refine RA rfl ?_
 refine RN ?_
 refine A.seq ?_
 refine GS ?_
 refine TL ?_
 refine RM rfl ?_
 refine RS (ok_call (Check_bad m hm) (A1 rfl)) ?_
 refine RA rfl ?_
 refine RN ?_
 refine GS ?_
 refine TL ?_
 refine RM rfl ?_
 refine RBS rfl rfl rfl (.bool true) (by first | rfl | (simp; done) | (simp; omega) | (simp [*]; done) | (simp [*]; omega)) ?_
 refine RN ?_
 refine A.yes rfl ?_
 refine GS ?_
 refine TL ?_
 refine RM rfl ?_
 refine RA rfl ?_
 refine RA rfl ?_
 refine RN ?_
 refine A.ret ?_
 refine End.ret_then ?_
 exact End.ret2V rfl rfl rfl
theorem Count_ok (n : Nat) (h1 : 1 ≤ n) (h2 : n ≤ 4096) (l : Nat) (hl : l ≤ hg n) : Fn Try.prog 22 [.v (nI (n)), .v (nI (l))] (.v (.tuple #[nI (un n (l + 1)), .int .i64 0])) := by
 have hh := hg_le n
 refine Fn.of Try.func22 rfl (by kernel_rfl) Try.ntmps22 (by simp) (fun w => [(0, .v (nI (n))), (1, .v (nI (l)))]) (fun w => (Start.v rfl (Start.v rfl Start.nil))) fun w₀ => ?_
 refine GS ?_
 refine TL ?_
 refine RA rfl ?_
 refine RA rfl ?_
 refine RN ?_
 refine GS ?_
 refine TN 1 ?_
 refine RM rfl ?_
 refine RN ?_
 refine ⟨_, _, eff_name (n := 18) (d := 8) (k := 1000008) rfl rfl (fun B' => ok_callB (shapeOf_fnB n h1 h2) (fun _ _ h => newD_mono _ _ h) (A1 rfl)) (by decide) (by decide), fun b8 hb8 => ?_⟩
 have hBb8 := hb8.1
 refine TN 2 ?_
 refine RN ?_
 refine ⟨_, _, eff_alloc (n := 18) (d := 6) (k := 1000006) zero62 (by decide), fun b6 hb6 => ?_⟩
 have hBb6 := hb6.1
 refine TF 3 ?_
 refine RN ?_
 refine ⟨_, eff_storeA (n := 18) (s := 1000006) (size62.of (rfl)) rfl rfl (rfl) hBb6 rfl (rfl) (LV 1 rfl (LV 6 rfl (LT 1000008 rfl LN))), ?_⟩
 refine TL ?_
 refine RN ?_
 refine A.seq ?_
 refine GS ?_
 refine TL ?_
 refine RS (ok_loadA (s := 1000006) (by decide) Try.underlying62 rfl (size62.of (rfl)) rfl rfl) ?_
 refine RM rfl ?_
 refine RS (ok_call (hasLevel_y n b8 l hl) (A2 rfl rfl)) ?_
 refine RS (ok_not rfl) ?_
 refine RN ?_
 refine A.no rfl ?_
 refine A.skip ?_
 refine EN ?_
 refine GS ?_
 refine TL ?_
 refine RS (ok_field field62_1 (by decide) rfl) ?_
 refine RS (ok_loadV (s := 1000006) (by decide) Try.underlying60 rfl rfl rfl (rfl)) ?_
 refine RM rfl ?_
 refine RS (ok_indexV l Try.underlying60 info3 rfl rfl rfl (by omega)) ?_
 refine RS (ok_loadV (s := 1000008) (by decide) Try.underlying3 rfl rfl rfl (by rw [Nat.zero_add]; exact rowU_get (by omega) (by omega))) ?_
 refine RA rfl ?_
 refine RA rfl ?_
 refine RN ?_
 refine A.ret ?_
 exact End.ret2V rfl rfl rfl
theorem Count_no (n : Nat) (h1 : 1 ≤ n) (h2 : n ≤ 4096) (l : Int) (hl : ¬ (0 ≤ l ∧ l ≤ hg n)) : Fn Try.prog 22 [.v (nI (n)), .v (.int .i64 (l))] (.v (.tuple #[.int .i64 0, .int .i64 1])) := by
 refine Fn.of Try.func22 rfl (by kernel_rfl) Try.ntmps22 (by simp) (fun w => [(0, .v (nI (n))), (1, .v (.int .i64 (l)))]) (fun w => (Start.v rfl (Start.v rfl Start.nil))) fun w₀ => ?_
 refine GS ?_
 refine TL ?_
 refine RA rfl ?_
 refine RA rfl ?_
 refine RN ?_
 refine GS ?_
 refine TN 1 ?_
 refine RM rfl ?_
 refine RN ?_
 refine ⟨_, _, eff_name (n := 18) (d := 8) (k := 1000008) rfl rfl (fun B' => ok_callB (shapeOf_fnB n h1 h2) (fun _ _ h => newD_mono _ _ h) (A1 rfl)) (by decide) (by decide), fun b8 hb8 => ?_⟩
 have hBb8 := hb8.1
 refine TN 2 ?_
 refine RN ?_
 refine ⟨_, _, eff_alloc (n := 18) (d := 6) (k := 1000006) zero62 (by decide), fun b6 hb6 => ?_⟩
 have hBb6 := hb6.1
 refine TF 3 ?_
 refine RN ?_
 refine ⟨_, eff_storeA (n := 18) (s := 1000006) (size62.of (rfl)) rfl rfl (rfl) hBb6 rfl (rfl) (LV 1 rfl (LV 6 rfl (LT 1000008 rfl LN))), ?_⟩
 refine TL ?_
 refine RN ?_
 refine A.seq ?_
 refine GS ?_
 refine TL ?_
 refine RS (ok_loadA (s := 1000006) (by decide) Try.underlying62 rfl (size62.of (rfl)) rfl rfl) ?_
 refine RM rfl ?_
 refine RS (ok_call (hasLevel_n n b8 l hl) (A2 rfl rfl)) ?_
 refine RS (ok_not rfl) ?_
 refine RN ?_
 refine A.yes rfl ?_
 refine GS ?_
 refine TL ?_
 refine RA rfl ?_
 refine RA rfl ?_
 refine RN ?_
 refine A.ret ?_
 refine End.ret_then ?_
 exact End.ret2V rfl rfl rfl
theorem Count_bad (m : Int) (hm : ¬ (1 ≤ m ∧ m ≤ 4096)) (l : Int) : Fn Try.prog 22 [.v (.int .i64 (m)), .v (.int .i64 (l))] (.v (.tuple #[.int .i64 0, .int .i64 1])) := by
 refine Fn.of Try.func22 rfl (by kernel_rfl) Try.ntmps22 (by simp) (fun w => [(0, .v (.int .i64 (m))), (1, .v (.int .i64 (l)))]) (fun w => (Start.v rfl (Start.v rfl Start.nil))) fun w₀ => ?_
 refine GS ?_
 refine TL ?_
 refine RA rfl ?_
 refine RA rfl ?_
 refine RN ?_
 refine GS ?_
 refine TN 2 ?_
 refine RM rfl ?_
 refine RS (ok_call (shapeOf0_fn m hm) (A1 rfl)) ?_
 refine RN ?_
 refine ⟨_, _, eff_alloc (n := 18) (d := 6) (k := 1000006) zero62 (by decide), fun b6 hb6 => ?_⟩
 have hBb6 := hb6.1
 refine TF 3 ?_
 refine RN ?_
 refine ⟨_, eff_storeA (n := 18) (s := 1000006) (size62.of (rfl)) rfl rfl (rfl) hBb6 rfl (rfl) (LV 1 rfl (LV 6 rfl LN)), ?_⟩
 refine TL ?_
 refine RN ?_
 refine A.seq ?_
 refine GS ?_
 refine TL ?_
 refine RS (ok_loadA (s := 1000006) (by decide) Try.underlying62 rfl (size62.of (rfl)) rfl rfl) ?_
 refine RM rfl ?_
 refine RS (ok_call (hasLevel_0 l) (A2 rfl rfl)) ?_
 refine RS (ok_not rfl) ?_
 refine RN ?_
 refine A.yes rfl ?_
 refine GS ?_
 refine TL ?_
 refine RA rfl ?_
 refine RA rfl ?_
 refine RN ?_
 refine A.ret ?_
 refine End.ret_then ?_
 exact End.ret2V rfl rfl rfl
theorem Parts_ok (n : Nat) (h1 : 1 ≤ n) (h2 : n ≤ 4096) (l j : Nat) (hl : l ≤ hg n) (hj : j < un n (l + 1))  : Fn Try.prog 24 [.v (nI (n)), .v (nI (l)), .v (nI (j))] (.v (.tuple #[nI (pts n l j), .int .i64 0])) := by
 refine Fn.of Try.func24 rfl (by kernel_rfl) Try.ntmps24 (by simp) (fun w => [(0, .v (nI (n))), (1, .v (nI (l))), (2, .v (nI (j)))]) (fun w => (Start.v rfl (Start.v rfl (Start.v rfl Start.nil)))) fun w₀ => ?_
 refine GS ?_
 refine TL ?_
 refine RA rfl ?_
 refine RA rfl ?_
 refine RN ?_
 refine GS ?_
 refine TN 1 ?_
 refine RM rfl ?_
 refine RN ?_
 refine ⟨_, _, eff_name (n := 22) (d := 11) (k := 1000011) rfl rfl (fun B' => ok_callB (shapeOf_fnB n h1 h2) (fun _ _ h => newD_mono _ _ h) (A1 rfl)) (by decide) (by decide), fun b11 hb11 => ?_⟩
 have hBb11 := hb11.1
 refine TN 5 ?_
 refine RM rfl ?_
 refine RM rfl ?_
 refine RS (ok_litS [(0, nI l), (1, nI j)] (plV l j) ⟨rfl, rfl, rfl, rfl, trivial⟩ (buildP _ _)) ?_
 refine RN ?_
 refine ⟨_, _, eff_alloc (n := 22) (d := 8) (k := 1000008) zero62 (by decide), fun b8 hb8 => ?_⟩
 have hBb8 := hb8.1
 refine TN 6 ?_
 refine RN ?_
 refine ⟨_, _, eff_alloc (n := 22) (d := 9) (k := 1000009) zero45 (by decide), fun b9 hb9 => ?_⟩
 have hBb9 := hb9.1
 refine TF 7 ?_
 refine RN ?_
 refine ⟨_, eff_storeA (n := 22) (s := 1000008) (size62.of (rfl)) rfl rfl (rfl) hBb8 rfl (rfl) (LV 8 rfl (LV 9 rfl (LV 14 rfl (LT 1000009 rfl (LT 1000011 rfl LN))))), ?_⟩
 refine TF 8 ?_
 refine RN ?_
 refine ⟨_, eff_storeA (n := 22) (s := 1000009) (size45.of (rfl)) rfl rfl (rfl) hBb9 rfl (rfl) (LV 8 rfl (LV 9 rfl (LT 1000008 rfl (LT 1000011 rfl LN)))), ?_⟩
 refine TL ?_
 refine RN ?_
 refine A.seq ?_
 refine GS ?_
 refine TL ?_
 refine RS (ok_loadA (s := 1000008) (by decide) Try.underlying62 rfl (size62.of (rfl)) rfl rfl) ?_
 refine RS (ok_loadA (s := 1000009) (by decide) Try.underlying45 rfl (size45.of (rfl)) rfl rfl) ?_
 refine RS (ok_callK 1000011 (has_y n b11 l j hl hj) (by decide) rfl (A2 rfl rfl)) ?_
 refine RS (ok_not rfl) ?_
 refine RN ?_
 refine A.no rfl ?_
 refine A.skip ?_
 refine EN ?_
 refine GS ?_
 refine TL ?_
 refine RS (ok_loadA (s := 1000008) (by decide) Try.underlying62 rfl (size62.of (rfl)) rfl rfl) ?_
 refine RS (ok_loadA (s := 1000009) (by decide) Try.underlying45 rfl (size45.of (rfl)) rfl rfl) ?_
 refine RS (ok_callK 1000011 (parts_fn n b11 h1 h2 l j hl hj) (by decide) rfl (A2 rfl rfl)) ?_
 refine RA rfl ?_
 refine RA rfl ?_
 refine RN ?_
 refine A.ret ?_
 exact End.ret2V rfl rfl rfl
theorem Parts_no (n : Nat) (h1 : 1 ≤ n) (h2 : n ≤ 4096) (l j : Int) (hp : ¬ IsP n l j)  : Fn Try.prog 24 [.v (nI (n)), .v (.int .i64 (l)), .v (.int .i64 (j))] (.v (.tuple #[.int .i64 0, .int .i64 1])) := by
 refine Fn.of Try.func24 rfl (by kernel_rfl) Try.ntmps24 (by simp) (fun w => [(0, .v (nI (n))), (1, .v (.int .i64 (l))), (2, .v (.int .i64 (j)))]) (fun w => (Start.v rfl (Start.v rfl (Start.v rfl Start.nil)))) fun w₀ => ?_
 refine GS ?_
 refine TL ?_
 refine RA rfl ?_
 refine RA rfl ?_
 refine RN ?_
 refine GS ?_
 refine TN 1 ?_
 refine RM rfl ?_
 refine RN ?_
 refine ⟨_, _, eff_name (n := 22) (d := 11) (k := 1000011) rfl rfl (fun B' => ok_callB (shapeOf_fnB n h1 h2) (fun _ _ h => newD_mono _ _ h) (A1 rfl)) (by decide) (by decide), fun b11 hb11 => ?_⟩
 have hBb11 := hb11.1
 refine TN 5 ?_
 refine RM rfl ?_
 refine RM rfl ?_
 refine RS (ok_litS [(0, .int .i64 (l)), (1, .int .i64 (j))] ([.int .i64 (l), .int .i64 (j)]) ⟨rfl, rfl, rfl, rfl, trivial⟩ (buildP _ _)) ?_
 refine RN ?_
 refine ⟨_, _, eff_alloc (n := 22) (d := 8) (k := 1000008) zero62 (by decide), fun b8 hb8 => ?_⟩
 have hBb8 := hb8.1
 refine TN 6 ?_
 refine RN ?_
 refine ⟨_, _, eff_alloc (n := 22) (d := 9) (k := 1000009) zero45 (by decide), fun b9 hb9 => ?_⟩
 have hBb9 := hb9.1
 refine TF 7 ?_
 refine RN ?_
 refine ⟨_, eff_storeA (n := 22) (s := 1000008) (size62.of (rfl)) rfl rfl (rfl) hBb8 rfl (rfl) (LV 8 rfl (LV 9 rfl (LV 14 rfl (LT 1000009 rfl (LT 1000011 rfl LN))))), ?_⟩
 refine TF 8 ?_
 refine RN ?_
 refine ⟨_, eff_storeA (n := 22) (s := 1000009) (size45.of (rfl)) rfl rfl (rfl) hBb9 rfl (rfl) (LV 8 rfl (LV 9 rfl (LT 1000008 rfl (LT 1000011 rfl LN)))), ?_⟩
 refine TL ?_
 refine RN ?_
 refine A.seq ?_
 refine GS ?_
 refine TL ?_
 refine RS (ok_loadA (s := 1000008) (by decide) Try.underlying62 rfl (size62.of (rfl)) rfl rfl) ?_
 refine RS (ok_loadA (s := 1000009) (by decide) Try.underlying45 rfl (size45.of (rfl)) rfl rfl) ?_
 refine RS (ok_callK 1000011 (has_n n b11 l j hp) (by decide) rfl (A2 rfl rfl)) ?_
 refine RS (ok_not rfl) ?_
 refine RN ?_
 refine A.yes rfl ?_
 refine GS ?_
 refine TL ?_
 refine RA rfl ?_
 refine RA rfl ?_
 refine RN ?_
 refine A.ret ?_
 refine End.ret_then ?_
 exact End.ret2V rfl rfl rfl
theorem Parts_bad (m : Int) (hm : ¬ (1 ≤ m ∧ m ≤ 4096)) (l j : Int) : Fn Try.prog 24 [.v (.int .i64 (m)), .v (.int .i64 (l)), .v (.int .i64 (j))] (.v (.tuple #[.int .i64 0, .int .i64 1])) := by
 refine Fn.of Try.func24 rfl (by kernel_rfl) Try.ntmps24 (by simp) (fun w => [(0, .v (.int .i64 (m))), (1, .v (.int .i64 (l))), (2, .v (.int .i64 (j)))]) (fun w => (Start.v rfl (Start.v rfl (Start.v rfl Start.nil)))) fun w₀ => ?_
 refine GS ?_
 refine TL ?_
 refine RA rfl ?_
 refine RA rfl ?_
 refine RN ?_
 refine GS ?_
 refine TN 5 ?_
 refine RM rfl ?_
 refine RS (ok_call (shapeOf0_fn m hm) (A1 rfl)) ?_
 refine RM rfl ?_
 refine RM rfl ?_
 refine RS (ok_litS [(0, .int .i64 (l)), (1, .int .i64 (j))] ([.int .i64 (l), .int .i64 (j)]) ⟨rfl, rfl, rfl, rfl, trivial⟩ (buildP _ _)) ?_
 refine RN ?_
 refine ⟨_, _, eff_alloc (n := 22) (d := 8) (k := 1000008) zero62 (by decide), fun b8 hb8 => ?_⟩
 have hBb8 := hb8.1
 refine TN 6 ?_
 refine RN ?_
 refine ⟨_, _, eff_alloc (n := 22) (d := 9) (k := 1000009) zero45 (by decide), fun b9 hb9 => ?_⟩
 have hBb9 := hb9.1
 refine TF 7 ?_
 refine RN ?_
 refine ⟨_, eff_storeA (n := 22) (s := 1000008) (size62.of (rfl)) rfl rfl (rfl) hBb8 rfl (rfl) (LV 8 rfl (LV 9 rfl (LV 14 rfl (LT 1000009 rfl LN)))), ?_⟩
 refine TF 8 ?_
 refine RN ?_
 refine ⟨_, eff_storeA (n := 22) (s := 1000009) (size45.of (rfl)) rfl rfl (rfl) hBb9 rfl (rfl) (LV 8 rfl (LV 9 rfl (LT 1000008 rfl LN))), ?_⟩
 refine TL ?_
 refine RN ?_
 refine A.seq ?_
 refine GS ?_
 refine TL ?_
 refine RS (ok_loadA (s := 1000008) (by decide) Try.underlying62 rfl (size62.of (rfl)) rfl rfl) ?_
 refine RS (ok_loadA (s := 1000009) (by decide) Try.underlying45 rfl (size45.of (rfl)) rfl rfl) ?_
 refine RS (ok_call (has_0 l j) (A2 rfl rfl)) ?_
 refine RS (ok_not rfl) ?_
 refine RN ?_
 refine A.yes rfl ?_
 refine GS ?_
 refine TL ?_
 refine RA rfl ?_
 refine RA rfl ?_
 refine RN ?_
 refine A.ret ?_
 refine End.ret_then ?_
 exact End.ret2V rfl rfl rfl
theorem Parent_root (n : Nat) (h1 : 1 ≤ n) (h2 : n ≤ 4096)  : Fn Try.prog 30 [.v (nI (n)), .v (aggV (plV (hg n) 0))] (.v (.tuple #[aggV [.int .i64 0, .int .i64 0], .int .i64 0, .int .i64 11])) := by
 refine Fn.of Try.func30 rfl (by kernel_rfl) Try.ntmps30 (by simp) (fun w => [(0, .v (nI (n))), (1, .v (aggV (plV (hg n) 0)))]) (fun w => (Start.v rfl (Start.v rfl Start.nil))) fun w₀ => ?_
 refine GS ?_
 refine TN 0 ?_
 refine RN ?_
 refine ⟨_, _, eff_box (n := 33) (d := 3) (k := 1000003) rfl (by decide), fun b3 hb3 => ?_⟩
 have hBb3 := hb3.1
 refine TN 1 ?_
 refine RN ?_
 refine ⟨_, _, eff_alloc (n := 33) (d := 4) (k := 1000004) zero45 (by decide), fun b4 hb4 => ?_⟩
 have hBb4 := hb4.1
 have hlt_b3_b4 : b3 < b4 := hb4.2 1000003 _ _ _ rfl
 refine TL ?_
 refine RA rfl ?_
 refine RA rfl ?_
 refine RN ?_
 refine GS ?_
 refine TN 1 ?_
 refine RM rfl ?_
 refine RN ?_
 refine ⟨_, _, eff_name (n := 33) (d := 9) (k := 1000009) rfl rfl (fun B' => ok_callB (shapeOf_fnB n h1 h2) (fun _ _ h => newD_mono _ _ h) (A1 rfl)) (by decide) (by decide), fun b9 hb9 => ?_⟩
 have hBb9 := hb9.1
 have hlt_b3_b9 : b3 < b9 := hb9.2 1000003 _ _ _ rfl
 have hlt_b4_b9 : b4 < b9 := hb9.2 1000004 _ _ _ rfl
 refine TN 2 ?_
 refine RN ?_
 refine ⟨_, _, eff_alloc (n := 33) (d := 7) (k := 1000007) zero62 (by decide), fun b7 hb7 => ?_⟩
 have hBb7 := hb7.1
 refine TF 3 ?_
 refine RN ?_
 refine ⟨_, eff_storeA (n := 33) (s := 1000007) (size62.of (rfl)) rfl rfl (rfl) hBb7 rfl (rfl) (LV 3 rfl (LV 4 rfl (LV 7 rfl (LT 1000003 rfl (LT 1000004 rfl (LT 1000009 rfl LN)))))), ?_⟩
 refine TL ?_
 refine RN ?_
 refine A.seq ?_
 refine A.block ?_
 refine GS ?_
 refine TL ?_
 refine RS (ok_loadA (s := 1000007) (by decide) Try.underlying62 rfl (size62.of (rfl)) rfl rfl) ?_
 refine RS (ok_loadA (s := 1000003) (by decide) Try.underlying45 rfl (size45.of (rfl)) rfl rfl) ?_
 refine RS (ok_callK 1000009 (has_y n b9 (hg n) 0 (Nat.le_refl _) (by rw [un_root h1 h2]; decide)) (by decide) rfl (A2 rfl rfl)) ?_
 refine RS (ok_not rfl) ?_
 refine RA rfl ?_
 refine RN ?_
 refine A.no rfl ?_
 refine GD ?_
 refine TL ?_
 refine RS (ok_field field45_0 (by decide) rfl) ?_
 refine RS (ok_loadV (s := 1000003) (by decide) Try.underlying3 rfl rfl rfl (rfl)) ?_
 refine RS (ok_loadA (s := 1000007) (by decide) Try.underlying62 rfl (size62.of (rfl)) rfl rfl) ?_
 refine RS (ok_call (height_fn n b9) (A1 rfl)) ?_
 refine RBS rfl rfl rfl (.bool true) (by first | rfl | (simp; done) | (simp; omega) | (simp [*]; done) | (simp [*]; omega)) ?_
 refine RA rfl ?_
 refine RN ?_
 refine A.yes rfl ?_
 refine GS ?_
 refine TF 1 ?_
 refine RS (ok_lit [] ([.int .i64 0] ++ [.int .i64 0]) (fun _ _ => rfl) (by kernel_rfl)) ?_
 refine RN ?_
 refine ⟨_, eff_storeA (n := 33) (s := 1000004) (size45.of (rfl)) rfl rfl (rfl) hBb4 rfl (rfl) (LV 4 rfl (LB 1000003 rfl (LT 1000007 rfl (LT 1000009 rfl LN)))), ?_⟩
 refine TL ?_
 refine RA rfl ?_
 refine RA rfl ?_
 refine RN ?_
 refine A.ret ?_
 refine End.ret_block ?_
 refine End.ret_then ?_
 exact End.cellVV rfl Try.underlying45 rfl (size45.of rfl) rfl (s := 1000004) rfl rfl rfl
theorem Parent_up (n : Nat) (h1 : 1 ≤ n) (h2 : n ≤ 4096) (l j : Nat) (hl : l ≤ hg n) (hj : j < un n (l + 1)) (hu : l < hg n) : Fn Try.prog 30 [.v (nI (n)), .v (aggV (plV l j))] (.v (.tuple #[aggV (plV (l + 1) (j / 4)), nI (j % 4), .int .i64 0])) := by
 have hu0 := un_le h1 (l + 1)
 have hv0 := un_pos h1 (l + 1)
 have hh := hg_le n
 refine Fn.of Try.func30 rfl (by kernel_rfl) Try.ntmps30 (by simp) (fun w => [(0, .v (nI (n))), (1, .v (aggV (plV l j)))]) (fun w => (Start.v rfl (Start.v rfl Start.nil))) fun w₀ => ?_
 refine GS ?_
 refine TN 0 ?_
 refine RN ?_
 refine ⟨_, _, eff_box (n := 33) (d := 3) (k := 1000003) rfl (by decide), fun b3 hb3 => ?_⟩
 have hBb3 := hb3.1
 refine TN 1 ?_
 refine RN ?_
 refine ⟨_, _, eff_alloc (n := 33) (d := 4) (k := 1000004) zero45 (by decide), fun b4 hb4 => ?_⟩
 have hBb4 := hb4.1
 have hlt_b3_b4 : b3 < b4 := hb4.2 1000003 _ _ _ rfl
 refine TL ?_
 refine RA rfl ?_
 refine RA rfl ?_
 refine RN ?_
 refine GS ?_
 refine TN 1 ?_
 refine RM rfl ?_
 refine RN ?_
 refine ⟨_, _, eff_name (n := 33) (d := 9) (k := 1000009) rfl rfl (fun B' => ok_callB (shapeOf_fnB n h1 h2) (fun _ _ h => newD_mono _ _ h) (A1 rfl)) (by decide) (by decide), fun b9 hb9 => ?_⟩
 have hBb9 := hb9.1
 have hlt_b3_b9 : b3 < b9 := hb9.2 1000003 _ _ _ rfl
 have hlt_b4_b9 : b4 < b9 := hb9.2 1000004 _ _ _ rfl
 refine TN 2 ?_
 refine RN ?_
 refine ⟨_, _, eff_alloc (n := 33) (d := 7) (k := 1000007) zero62 (by decide), fun b7 hb7 => ?_⟩
 have hBb7 := hb7.1
 refine TF 3 ?_
 refine RN ?_
 refine ⟨_, eff_storeA (n := 33) (s := 1000007) (size62.of (rfl)) rfl rfl (rfl) hBb7 rfl (rfl) (LV 3 rfl (LV 4 rfl (LV 7 rfl (LT 1000003 rfl (LT 1000004 rfl (LT 1000009 rfl LN)))))), ?_⟩
 refine TL ?_
 refine RN ?_
 refine A.seq ?_
 refine A.block ?_
 refine GS ?_
 refine TL ?_
 refine RS (ok_loadA (s := 1000007) (by decide) Try.underlying62 rfl (size62.of (rfl)) rfl rfl) ?_
 refine RS (ok_loadA (s := 1000003) (by decide) Try.underlying45 rfl (size45.of (rfl)) rfl rfl) ?_
 refine RS (ok_callK 1000009 (has_y n b9 l j hl hj) (by decide) rfl (A2 rfl rfl)) ?_
 refine RS (ok_not rfl) ?_
 refine RA rfl ?_
 refine RN ?_
 refine A.no rfl ?_
 refine GD ?_
 refine TL ?_
 refine RS (ok_field field45_0 (by decide) rfl) ?_
 refine RS (ok_loadV (s := 1000003) (by decide) Try.underlying3 rfl rfl rfl (rfl)) ?_
 refine RS (ok_loadA (s := 1000007) (by decide) Try.underlying62 rfl (size62.of (rfl)) rfl rfl) ?_
 refine RS (ok_call (height_fn n b9) (A1 rfl)) ?_
 refine RBS rfl rfl rfl (.bool false) (by first | rfl | (simp; done) | (simp; omega) | (simp [*]; done) | (simp [*]; omega)) ?_
 refine RA rfl ?_
 refine RN ?_
 refine A.no rfl ?_
 refine A.skip ?_
 refine End.normal_block ?_
 refine EN ?_
 refine A.regsOK (k := 1000004) (ys := plV (l + 1) (j / 4)) 10 (by kernel_rfl) (by kernel_rfl) (by kernel_rfl) rfl (KC 3 rfl (KC 4 rfl (KC 16 rfl (KC 1000003 rfl (KC 1000007 rfl (KC 1000009 rfl KN)))))) rfl hBb4 (size45.of (rfl)) (rfl) (rfl) (LV 3 rfl (LV 4 rfl (LV 16 rfl (LB 1000003 rfl (LT 1000007 rfl (LT 1000009 rfl LN)))))) ?_
 refine OncesK.cons (_) rfl rfl (.inl rfl) FromN.all (ok_field field45_0 (by decide) rfl) ?_
 refine OncesK.cons ((23, .v _) :: _) rfl rfl (.inl rfl) (FromN.op 0 (by kernel_rfl) rfl rfl FromN.all) (ok_loadV (s := 1000003) (by decide) Try.underlying3 rfl rfl rfl (rfl)) ?_
 refine OncesK.cons ((24, .v _) :: _) rfl rfl (.inl rfl) (FromN.op 1 (by kernel_rfl) rfl rfl FromN.all) (OpOk.asV (nI (l + 1)) (wrap_eq (by omega) (by omega)) (ok_bin rfl rfl rfl)) ?_
 refine OncesK.cons (_) rfl rfl (.inl rfl) FromN.all (ok_field field45_1 (by decide) rfl) ?_
 refine OncesK.cons ((26, .v _) :: _) rfl rfl (.inl rfl) (FromN.op 3 (by kernel_rfl) rfl rfl FromN.all) (ok_loadV (s := 1000003) (by decide) Try.underlying3 rfl rfl rfl (rfl)) ?_
 refine OncesK.cons ((27, .v _) :: _) rfl rfl (.inl rfl) (FromN.op 4 (by kernel_rfl) rfl rfl FromN.all) (OpOk.asV (nI ((j) / 4)) (by rw [tdiv_lit _ (by decide)]; exact wrap_eq rfl (by first | omega | (simp only [Int.toNat]; omega))) (ok_div rfl rfl (by decide))) ?_
 refine OncesK.cons ((25, .v _) :: (28, .v _) :: _) rfl rfl (.inl rfl) (FromN.op 2 (by kernel_rfl) rfl rfl (FromN.op 5 (by kernel_rfl) rfl rfl FromN.all)) (ok_litS [(0, nI (l + 1)), (1, nI (j / 4))] (plV (l + 1) (j / 4)) ⟨rfl, rfl, rfl, rfl, trivial⟩ (buildP _ _)) ?_
 refine OncesK.cons (_) rfl rfl (.inl rfl) FromN.all (ok_field field45_1 (by decide) rfl) ?_
 refine OncesK.cons ((30, .v _) :: _) rfl rfl (.inl rfl) (FromN.op 7 (by kernel_rfl) rfl rfl FromN.all) (ok_loadV (s := 1000003) (by decide) Try.underlying3 rfl rfl rfl (rfl)) ?_
 refine OncesK.cons ((31, .v _) :: _) rfl rfl (.inl rfl) (FromN.op 8 (by kernel_rfl) rfl rfl FromN.all) (OpOk.asV (nI ((j) % 4)) (by rw [tmod_lit _ (by decide)]; rfl) (ok_rem rfl rfl (by decide))) ?_
 refine OncesK.store ((29, .v _) :: _) rfl (FromN.op 6 (by kernel_rfl) rfl rfl FromN.all) rfl rfl ?_
 refine OncesK.cons ((32, .v _) :: _) rfl rfl (.inl rfl) (FromN.op 9 (by kernel_rfl) rfl rfl FromN.all) (ok_assign rfl) ?_
 refine OncesK.cons (_) rfl rfl (.inl rfl) FromN.all (ok_assign rfl) ?_
 refine OncesK.nil ⟨_, (FromE.op (t := 5) 11 rfl rfl (FromE.op (t := 6) 12 rfl rfl FromE.all)), ?_⟩
 refine A.sub (KC 4 rfl (KC 5 rfl (KC 6 rfl (KC 1000003 rfl (KC 1000004 rfl (KC 1000007 rfl (KC 1000009 rfl KN))))))) ?_
 refine A.ret ?_
 exact End.cellVV rfl Try.underlying45 rfl (size45.of rfl) rfl (s := 1000004) rfl rfl rfl
theorem Parent_no (n : Nat) (h1 : 1 ≤ n) (h2 : n ≤ 4096) (l j : Int) (hp : ¬ IsP n l j)  : Fn Try.prog 30 [.v (nI (n)), .v (aggV [.int .i64 l, .int .i64 j])] (.v (.tuple #[aggV [.int .i64 0, .int .i64 0], .int .i64 0, .int .i64 1])) := by
 refine Fn.of Try.func30 rfl (by kernel_rfl) Try.ntmps30 (by simp) (fun w => [(0, .v (nI (n))), (1, .v (aggV [.int .i64 l, .int .i64 j]))]) (fun w => (Start.v rfl (Start.v rfl Start.nil))) fun w₀ => ?_
 refine GS ?_
 refine TN 0 ?_
 refine RN ?_
 refine ⟨_, _, eff_box (n := 33) (d := 3) (k := 1000003) rfl (by decide), fun b3 hb3 => ?_⟩
 have hBb3 := hb3.1
 refine TN 1 ?_
 refine RN ?_
 refine ⟨_, _, eff_alloc (n := 33) (d := 4) (k := 1000004) zero45 (by decide), fun b4 hb4 => ?_⟩
 have hBb4 := hb4.1
 have hlt_b3_b4 : b3 < b4 := hb4.2 1000003 _ _ _ rfl
 refine TL ?_
 refine RA rfl ?_
 refine RA rfl ?_
 refine RN ?_
 refine GS ?_
 refine TN 1 ?_
 refine RM rfl ?_
 refine RN ?_
 refine ⟨_, _, eff_name (n := 33) (d := 9) (k := 1000009) rfl rfl (fun B' => ok_callB (shapeOf_fnB n h1 h2) (fun _ _ h => newD_mono _ _ h) (A1 rfl)) (by decide) (by decide), fun b9 hb9 => ?_⟩
 have hBb9 := hb9.1
 have hlt_b3_b9 : b3 < b9 := hb9.2 1000003 _ _ _ rfl
 have hlt_b4_b9 : b4 < b9 := hb9.2 1000004 _ _ _ rfl
 refine TN 2 ?_
 refine RN ?_
 refine ⟨_, _, eff_alloc (n := 33) (d := 7) (k := 1000007) zero62 (by decide), fun b7 hb7 => ?_⟩
 have hBb7 := hb7.1
 refine TF 3 ?_
 refine RN ?_
 refine ⟨_, eff_storeA (n := 33) (s := 1000007) (size62.of (rfl)) rfl rfl (rfl) hBb7 rfl (rfl) (LV 3 rfl (LV 4 rfl (LV 7 rfl (LT 1000003 rfl (LT 1000004 rfl (LT 1000009 rfl LN)))))), ?_⟩
 refine TL ?_
 refine RN ?_
 refine A.seq ?_
 refine A.block ?_
 refine GS ?_
 refine TL ?_
 refine RS (ok_loadA (s := 1000007) (by decide) Try.underlying62 rfl (size62.of (rfl)) rfl rfl) ?_
 refine RS (ok_loadA (s := 1000003) (by decide) Try.underlying45 rfl (size45.of (rfl)) rfl rfl) ?_
 refine RS (ok_callK 1000009 (has_n n b9 l j hp) (by decide) rfl (A2 rfl rfl)) ?_
 refine RS (ok_not rfl) ?_
 refine RA rfl ?_
 refine RN ?_
 refine A.yes rfl ?_
 refine GS ?_
 refine TF 1 ?_
 refine RS (ok_lit [] ([.int .i64 0] ++ [.int .i64 0]) (fun _ _ => rfl) (by kernel_rfl)) ?_
 refine RN ?_
 refine ⟨_, eff_storeA (n := 33) (s := 1000004) (size45.of (rfl)) rfl rfl (rfl) hBb4 rfl (rfl) (LV 4 rfl (LB 1000003 rfl (LT 1000007 rfl (LT 1000009 rfl LN)))), ?_⟩
 refine TL ?_
 refine RA rfl ?_
 refine RA rfl ?_
 refine RN ?_
 refine A.ret ?_
 refine End.ret_block ?_
 refine End.ret_then ?_
 exact End.cellVV rfl Try.underlying45 rfl (size45.of rfl) rfl (s := 1000004) rfl rfl rfl
theorem Parent_bad (m : Int) (hm : ¬ (1 ≤ m ∧ m ≤ 4096)) (l j : Int) : Fn Try.prog 30 [.v (.int .i64 (m)), .v (aggV [.int .i64 l, .int .i64 j])] (.v (.tuple #[aggV [.int .i64 0, .int .i64 0], .int .i64 0, .int .i64 1])) := by
 refine Fn.of Try.func30 rfl (by kernel_rfl) Try.ntmps30 (by simp) (fun w => [(0, .v (.int .i64 (m))), (1, .v (aggV [.int .i64 l, .int .i64 j]))]) (fun w => (Start.v rfl (Start.v rfl Start.nil))) fun w₀ => ?_
 refine GS ?_
 refine TN 0 ?_
 refine RN ?_
 refine ⟨_, _, eff_box (n := 33) (d := 3) (k := 1000003) rfl (by decide), fun b3 hb3 => ?_⟩
 have hBb3 := hb3.1
 refine TN 1 ?_
 refine RN ?_
 refine ⟨_, _, eff_alloc (n := 33) (d := 4) (k := 1000004) zero45 (by decide), fun b4 hb4 => ?_⟩
 have hBb4 := hb4.1
 have hlt_b3_b4 : b3 < b4 := hb4.2 1000003 _ _ _ rfl
 refine TL ?_
 refine RA rfl ?_
 refine RA rfl ?_
 refine RN ?_
 refine GS ?_
 refine TN 2 ?_
 refine RM rfl ?_
 refine RS (ok_call (shapeOf0_fn m hm) (A1 rfl)) ?_
 refine RN ?_
 refine ⟨_, _, eff_alloc (n := 33) (d := 7) (k := 1000007) zero62 (by decide), fun b7 hb7 => ?_⟩
 have hBb7 := hb7.1
 refine TF 3 ?_
 refine RN ?_
 refine ⟨_, eff_storeA (n := 33) (s := 1000007) (size62.of (rfl)) rfl rfl (rfl) hBb7 rfl (rfl) (LV 3 rfl (LV 4 rfl (LV 7 rfl (LT 1000003 rfl (LT 1000004 rfl LN))))), ?_⟩
 refine TL ?_
 refine RN ?_
 refine A.seq ?_
 refine A.block ?_
 refine GS ?_
 refine TL ?_
 refine RS (ok_loadA (s := 1000007) (by decide) Try.underlying62 rfl (size62.of (rfl)) rfl rfl) ?_
 refine RS (ok_loadA (s := 1000003) (by decide) Try.underlying45 rfl (size45.of (rfl)) rfl rfl) ?_
 refine RS (ok_call (has_0 l j) (A2 rfl rfl)) ?_
 refine RS (ok_not rfl) ?_
 refine RA rfl ?_
 refine RN ?_
 refine A.yes rfl ?_
 refine GS ?_
 refine TF 1 ?_
 refine RS (ok_lit [] ([.int .i64 0] ++ [.int .i64 0]) (fun _ _ => rfl) (by kernel_rfl)) ?_
 refine RN ?_
 refine ⟨_, eff_storeA (n := 33) (s := 1000004) (size45.of (rfl)) rfl rfl (rfl) hBb4 rfl (rfl) (LV 4 rfl (LB 1000003 rfl (LT 1000007 rfl LN))), ?_⟩
 refine TL ?_
 refine RA rfl ?_
 refine RA rfl ?_
 refine RN ?_
 refine A.ret ?_
 refine End.ret_block ?_
 refine End.ret_then ?_
 exact End.cellVV rfl Try.underlying45 rfl (size45.of rfl) rfl (s := 1000004) rfl rfl rfl
theorem Child_ok (n : Nat) (h1 : 1 ≤ n) (h2 : n ≤ 4096) (l j : Nat) (hl : l ≤ hg n) (hj : j < un n (l + 1)) (h0 : 0 < l) (x : Nat) (hx : x < pts n l j) : Fn Try.prog 29 [.v (nI (n)), .v (aggV (plV l j)), .v (nI (x))] (.v (.tuple #[aggV (plV (l - 1) (4 * j + x)), .int .i64 0])) := by
 have hu0 := un_le h1 (l)
 have hv0 := un_pos h1 (l)
 have hu1 := un_le h1 (l + 1)
 have hv1 := un_pos h1 (l + 1)
 have hh := hg_le n
 have hp := pts_pos hj
 refine Fn.of Try.func29 rfl (by kernel_rfl) Try.ntmps29 (by simp) (fun w => [(0, .v (nI (n))), (1, .v (aggV (plV l j))), (2, .v (nI (x)))]) (fun w => (Start.v rfl (Start.v rfl (Start.v rfl Start.nil)))) fun w₀ => ?_
 refine GS ?_
 refine TN 0 ?_
 refine RN ?_
 refine ⟨_, _, eff_box (n := 43) (d := 4) (k := 1000004) rfl (by decide), fun b4 hb4 => ?_⟩
 have hBb4 := hb4.1
 refine TN 1 ?_
 refine RN ?_
 refine ⟨_, _, eff_alloc (n := 43) (d := 6) (k := 1000006) zero45 (by decide), fun b6 hb6 => ?_⟩
 have hBb6 := hb6.1
 have hlt_b4_b6 : b4 < b6 := hb6.2 1000004 _ _ _ rfl
 refine TL ?_
 refine RA rfl ?_
 refine RN ?_
 refine GS ?_
 refine TN 1 ?_
 refine RM rfl ?_
 refine RN ?_
 refine ⟨_, _, eff_name (n := 43) (d := 10) (k := 1000010) rfl rfl (fun B' => ok_callB (shapeOf_fnB n h1 h2) (fun _ _ h => newD_mono _ _ h) (A1 rfl)) (by decide) (by decide), fun b10 hb10 => ?_⟩
 have hBb10 := hb10.1
 have hlt_b4_b10 : b4 < b10 := hb10.2 1000004 _ _ _ rfl
 have hlt_b6_b10 : b6 < b10 := hb10.2 1000006 _ _ _ rfl
 refine TN 2 ?_
 refine RN ?_
 refine ⟨_, _, eff_alloc (n := 43) (d := 8) (k := 1000008) zero62 (by decide), fun b8 hb8 => ?_⟩
 have hBb8 := hb8.1
 refine TF 3 ?_
 refine RN ?_
 refine ⟨_, eff_storeA (n := 43) (s := 1000008) (size62.of (rfl)) rfl rfl (rfl) hBb8 rfl (rfl) (LV 2 rfl (LV 4 rfl (LV 6 rfl (LV 8 rfl (LT 1000004 rfl (LT 1000006 rfl (LT 1000010 rfl LN))))))), ?_⟩
 refine TL ?_
 refine RN ?_
 refine A.seq ?_
 refine A.block ?_
 refine GS ?_
 refine TL ?_
 refine RS (ok_loadA (s := 1000008) (by decide) Try.underlying62 rfl (size62.of (rfl)) rfl rfl) ?_
 refine RS (ok_loadA (s := 1000004) (by decide) Try.underlying45 rfl (size45.of (rfl)) rfl rfl) ?_
 refine RS (ok_callK 1000010 (has_y n b10 l j hl hj) (by decide) rfl (A2 rfl rfl)) ?_
 refine RS (ok_not rfl) ?_
 refine RM rfl ?_
 refine RQ (ok_move rfl) ?_
 refine RQ (ok_call (within_y _ _ (by omega) (by omega)) (A2 rfl rfl)) ?_
 refine RQ (ok_not rfl) ?_
 refine RP rfl rfl ?_
 refine RA rfl ?_
 refine RN ?_
 refine A.no rfl ?_
 refine GS ?_
 refine TL ?_
 refine RS (ok_field field45_0 (by decide) rfl) ?_
 refine RS (ok_loadV (s := 1000004) (by decide) Try.underlying3 rfl rfl rfl (rfl)) ?_
 refine RBS rfl rfl rfl (.bool false) (by first | rfl | (simp; done) | (simp; omega) | (simp [*]; done) | (simp [*]; omega)) ?_
 refine RM rfl ?_
 refine RQ (ok_move rfl) ?_
 refine RQ (ok_loadA (s := 1000008) (by decide) Try.underlying62 rfl (size62.of (rfl)) rfl rfl) ?_
 refine RQ (ok_loadA (s := 1000004) (by decide) Try.underlying45 rfl (size45.of (rfl)) rfl rfl) ?_
 refine RQ (ok_callK 1000010 (parts_fn n b10 h1 h2 l j hl hj) (by decide) rfl (A2 rfl rfl)) ?_
 refine RQ (ok_bin rfl rfl rfl) ?_; refine RZ (.bool false) (by first | rfl | (simp; done) | (simp; omega) | (simp [*]; done) | (simp [*]; omega)) ?_
 refine RP rfl rfl ?_
 refine RA rfl ?_
 refine RN ?_
 refine A.sub (KC 2 rfl (KC 4 rfl (KC 6 rfl (KC 22 rfl (KC 1000004 rfl (KC 1000006 rfl (KC 1000008 rfl (KC 1000010 rfl KN)))))))) ?_
 refine A.no rfl ?_
 refine A.skip ?_
 refine End.normal_block ?_
 refine EN ?_
 refine GS ?_
 refine TF 9 ?_
 refine RS (ok_field field45_0 (by decide) rfl) ?_
 refine RS (ok_loadV (s := 1000004) (by decide) Try.underlying3 rfl rfl rfl (rfl)) ?_
 refine RBS rfl rfl rfl (nI (l - 1)) (wrap_eq (by omega) (by omega)) ?_
 refine RS (ok_field field45_1 (by decide) rfl) ?_
 refine RS (ok_loadV (s := 1000004) (by decide) Try.underlying3 rfl rfl rfl (rfl)) ?_
 refine RBS rfl rfl rfl (nI (4 * j)) (wrap_eq (by omega) (by omega)) ?_
 refine RM rfl ?_
 refine RBS rfl rfl rfl (nI (4 * j + x)) (wrap_eq (by omega) (by omega)) ?_
 refine RS (ok_litS [(0, nI (l - 1)), (1, nI (4 * j + x))] (plV (l - 1) (4 * j + x)) ⟨rfl, rfl, rfl, rfl, trivial⟩ (buildP _ _)) ?_
 refine RN ?_
 refine ⟨_, eff_storeA (n := 43) (s := 1000006) (size45.of (rfl)) rfl rfl (rfl) hBb6 rfl (rfl) (LV 6 rfl (LB 1000004 rfl (LT 1000008 rfl (LT 1000010 rfl LN)))), ?_⟩
 refine TL ?_
 refine RA rfl ?_
 refine RN ?_
 refine A.ret ?_
 exact End.cellV rfl Try.underlying45 rfl (size45.of rfl) rfl (s := 1000006) rfl rfl
theorem Child_leaf (n : Nat) (h1 : 1 ≤ n) (h2 : n ≤ 4096) (l j : Nat) (hl : l ≤ hg n) (hj : j < un n (l + 1)) (h0 : l = 0) (x : Nat) (hx : x < 4) : Fn Try.prog 29 [.v (nI (n)), .v (aggV (plV l j)), .v (nI (x))] (.v (.tuple #[aggV [.int .i64 0, .int .i64 0], .int .i64 11])) := by
 refine Fn.of Try.func29 rfl (by kernel_rfl) Try.ntmps29 (by simp) (fun w => [(0, .v (nI (n))), (1, .v (aggV (plV l j))), (2, .v (nI (x)))]) (fun w => (Start.v rfl (Start.v rfl (Start.v rfl Start.nil)))) fun w₀ => ?_
 refine GS ?_
 refine TN 0 ?_
 refine RN ?_
 refine ⟨_, _, eff_box (n := 43) (d := 4) (k := 1000004) rfl (by decide), fun b4 hb4 => ?_⟩
 have hBb4 := hb4.1
 refine TN 1 ?_
 refine RN ?_
 refine ⟨_, _, eff_alloc (n := 43) (d := 6) (k := 1000006) zero45 (by decide), fun b6 hb6 => ?_⟩
 have hBb6 := hb6.1
 have hlt_b4_b6 : b4 < b6 := hb6.2 1000004 _ _ _ rfl
 refine TL ?_
 refine RA rfl ?_
 refine RN ?_
 refine GS ?_
 refine TN 1 ?_
 refine RM rfl ?_
 refine RN ?_
 refine ⟨_, _, eff_name (n := 43) (d := 10) (k := 1000010) rfl rfl (fun B' => ok_callB (shapeOf_fnB n h1 h2) (fun _ _ h => newD_mono _ _ h) (A1 rfl)) (by decide) (by decide), fun b10 hb10 => ?_⟩
 have hBb10 := hb10.1
 have hlt_b4_b10 : b4 < b10 := hb10.2 1000004 _ _ _ rfl
 have hlt_b6_b10 : b6 < b10 := hb10.2 1000006 _ _ _ rfl
 refine TN 2 ?_
 refine RN ?_
 refine ⟨_, _, eff_alloc (n := 43) (d := 8) (k := 1000008) zero62 (by decide), fun b8 hb8 => ?_⟩
 have hBb8 := hb8.1
 refine TF 3 ?_
 refine RN ?_
 refine ⟨_, eff_storeA (n := 43) (s := 1000008) (size62.of (rfl)) rfl rfl (rfl) hBb8 rfl (rfl) (LV 2 rfl (LV 4 rfl (LV 6 rfl (LV 8 rfl (LT 1000004 rfl (LT 1000006 rfl (LT 1000010 rfl LN))))))), ?_⟩
 refine TL ?_
 refine RN ?_
 refine A.seq ?_
 refine A.block ?_
 refine GS ?_
 refine TL ?_
 refine RS (ok_loadA (s := 1000008) (by decide) Try.underlying62 rfl (size62.of (rfl)) rfl rfl) ?_
 refine RS (ok_loadA (s := 1000004) (by decide) Try.underlying45 rfl (size45.of (rfl)) rfl rfl) ?_
 refine RS (ok_callK 1000010 (has_y n b10 l j hl hj) (by decide) rfl (A2 rfl rfl)) ?_
 refine RS (ok_not rfl) ?_
 refine RM rfl ?_
 refine RQ (ok_move rfl) ?_
 refine RQ (ok_call (within_y _ _ (by omega) (by omega)) (A2 rfl rfl)) ?_
 refine RQ (ok_not rfl) ?_
 refine RP rfl rfl ?_
 refine RA rfl ?_
 refine RN ?_
 refine A.no rfl ?_
 refine GS ?_
 refine TL ?_
 refine RS (ok_field field45_0 (by decide) rfl) ?_
 refine RS (ok_loadV (s := 1000004) (by decide) Try.underlying3 rfl rfl rfl (rfl)) ?_
 refine RBS rfl rfl rfl (.bool true) (by first | rfl | (simp; done) | (simp; omega) | (simp [*]; done) | (simp [*]; omega)) ?_
 refine RM rfl ?_
 refine RK ?_
 refine RK ?_
 refine RK ?_
 refine RK ?_
 refine RK ?_
 refine RP rfl rfl ?_
 refine RA rfl ?_
 refine RN ?_
 refine A.sub (KC 2 rfl (KC 4 rfl (KC 6 rfl (KC 22 rfl (KC 1000004 rfl (KC 1000006 rfl (KC 1000008 rfl (KC 1000010 rfl KN)))))))) ?_
 refine A.yes rfl ?_
 refine GS ?_
 refine TF 1 ?_
 refine RS (ok_lit [] ([.int .i64 0] ++ [.int .i64 0]) (fun _ _ => rfl) (by kernel_rfl)) ?_
 refine RN ?_
 refine ⟨_, eff_storeA (n := 43) (s := 1000006) (size45.of (rfl)) rfl rfl (rfl) hBb6 rfl (rfl) (LV 6 rfl (LB 1000004 rfl (LT 1000008 rfl (LT 1000010 rfl LN)))), ?_⟩
 refine TL ?_
 refine RA rfl ?_
 refine RN ?_
 refine A.ret ?_
 refine End.ret_block ?_
 refine End.ret_then ?_
 exact End.cellV rfl Try.underlying45 rfl (size45.of rfl) rfl (s := 1000006) rfl rfl
theorem Child_none (n : Nat) (h1 : 1 ≤ n) (h2 : n ≤ 4096) (l j : Nat) (hl : l ≤ hg n) (hj : j < un n (l + 1)) (h0 : 0 < l) (x : Nat) (hx : x < 4) (hx' : pts n l j ≤ x) : Fn Try.prog 29 [.v (nI (n)), .v (aggV (plV l j)), .v (nI (x))] (.v (.tuple #[aggV [.int .i64 0, .int .i64 0], .int .i64 11])) := by
 refine Fn.of Try.func29 rfl (by kernel_rfl) Try.ntmps29 (by simp) (fun w => [(0, .v (nI (n))), (1, .v (aggV (plV l j))), (2, .v (nI (x)))]) (fun w => (Start.v rfl (Start.v rfl (Start.v rfl Start.nil)))) fun w₀ => ?_
 refine GS ?_
 refine TN 0 ?_
 refine RN ?_
 refine ⟨_, _, eff_box (n := 43) (d := 4) (k := 1000004) rfl (by decide), fun b4 hb4 => ?_⟩
 have hBb4 := hb4.1
 refine TN 1 ?_
 refine RN ?_
 refine ⟨_, _, eff_alloc (n := 43) (d := 6) (k := 1000006) zero45 (by decide), fun b6 hb6 => ?_⟩
 have hBb6 := hb6.1
 have hlt_b4_b6 : b4 < b6 := hb6.2 1000004 _ _ _ rfl
 refine TL ?_
 refine RA rfl ?_
 refine RN ?_
 refine GS ?_
 refine TN 1 ?_
 refine RM rfl ?_
 refine RN ?_
 refine ⟨_, _, eff_name (n := 43) (d := 10) (k := 1000010) rfl rfl (fun B' => ok_callB (shapeOf_fnB n h1 h2) (fun _ _ h => newD_mono _ _ h) (A1 rfl)) (by decide) (by decide), fun b10 hb10 => ?_⟩
 have hBb10 := hb10.1
 have hlt_b4_b10 : b4 < b10 := hb10.2 1000004 _ _ _ rfl
 have hlt_b6_b10 : b6 < b10 := hb10.2 1000006 _ _ _ rfl
 refine TN 2 ?_
 refine RN ?_
 refine ⟨_, _, eff_alloc (n := 43) (d := 8) (k := 1000008) zero62 (by decide), fun b8 hb8 => ?_⟩
 have hBb8 := hb8.1
 refine TF 3 ?_
 refine RN ?_
 refine ⟨_, eff_storeA (n := 43) (s := 1000008) (size62.of (rfl)) rfl rfl (rfl) hBb8 rfl (rfl) (LV 2 rfl (LV 4 rfl (LV 6 rfl (LV 8 rfl (LT 1000004 rfl (LT 1000006 rfl (LT 1000010 rfl LN))))))), ?_⟩
 refine TL ?_
 refine RN ?_
 refine A.seq ?_
 refine A.block ?_
 refine GS ?_
 refine TL ?_
 refine RS (ok_loadA (s := 1000008) (by decide) Try.underlying62 rfl (size62.of (rfl)) rfl rfl) ?_
 refine RS (ok_loadA (s := 1000004) (by decide) Try.underlying45 rfl (size45.of (rfl)) rfl rfl) ?_
 refine RS (ok_callK 1000010 (has_y n b10 l j hl hj) (by decide) rfl (A2 rfl rfl)) ?_
 refine RS (ok_not rfl) ?_
 refine RM rfl ?_
 refine RQ (ok_move rfl) ?_
 refine RQ (ok_call (within_y _ _ (by omega) (by omega)) (A2 rfl rfl)) ?_
 refine RQ (ok_not rfl) ?_
 refine RP rfl rfl ?_
 refine RA rfl ?_
 refine RN ?_
 refine A.no rfl ?_
 refine GS ?_
 refine TL ?_
 refine RS (ok_field field45_0 (by decide) rfl) ?_
 refine RS (ok_loadV (s := 1000004) (by decide) Try.underlying3 rfl rfl rfl (rfl)) ?_
 refine RBS rfl rfl rfl (.bool false) (by first | rfl | (simp; done) | (simp; omega) | (simp [*]; done) | (simp [*]; omega)) ?_
 refine RM rfl ?_
 refine RQ (ok_move rfl) ?_
 refine RQ (ok_loadA (s := 1000008) (by decide) Try.underlying62 rfl (size62.of (rfl)) rfl rfl) ?_
 refine RQ (ok_loadA (s := 1000004) (by decide) Try.underlying45 rfl (size45.of (rfl)) rfl rfl) ?_
 refine RQ (ok_callK 1000010 (parts_fn n b10 h1 h2 l j hl hj) (by decide) rfl (A2 rfl rfl)) ?_
 refine RQ (ok_bin rfl rfl rfl) ?_; refine RZ (.bool true) (by first | rfl | (simp; done) | (simp; omega) | (simp [*]; done) | (simp [*]; omega)) ?_
 refine RP rfl rfl ?_
 refine RA rfl ?_
 refine RN ?_
 refine A.sub (KC 2 rfl (KC 4 rfl (KC 6 rfl (KC 22 rfl (KC 1000004 rfl (KC 1000006 rfl (KC 1000008 rfl (KC 1000010 rfl KN)))))))) ?_
 refine A.yes rfl ?_
 refine GS ?_
 refine TF 1 ?_
 refine RS (ok_lit [] ([.int .i64 0] ++ [.int .i64 0]) (fun _ _ => rfl) (by kernel_rfl)) ?_
 refine RN ?_
 refine ⟨_, eff_storeA (n := 43) (s := 1000006) (size45.of (rfl)) rfl rfl (rfl) hBb6 rfl (rfl) (LV 6 rfl (LB 1000004 rfl (LT 1000008 rfl (LT 1000010 rfl LN)))), ?_⟩
 refine TL ?_
 refine RA rfl ?_
 refine RN ?_
 refine A.ret ?_
 refine End.ret_block ?_
 refine End.ret_then ?_
 exact End.cellV rfl Try.underlying45 rfl (size45.of rfl) rfl (s := 1000006) rfl rfl
theorem Child_which (n : Nat) (h1 : 1 ≤ n) (h2 : n ≤ 4096) (l j : Nat) (hl : l ≤ hg n) (hj : j < un n (l + 1)) (x : Int) (hx : ¬ (0 ≤ x ∧ x < 4)) : Fn Try.prog 29 [.v (nI (n)), .v (aggV (plV l j)), .v (.int .i64 (x))] (.v (.tuple #[aggV [.int .i64 0, .int .i64 0], .int .i64 1])) := by
 refine Fn.of Try.func29 rfl (by kernel_rfl) Try.ntmps29 (by simp) (fun w => [(0, .v (nI (n))), (1, .v (aggV (plV l j))), (2, .v (.int .i64 (x)))]) (fun w => (Start.v rfl (Start.v rfl (Start.v rfl Start.nil)))) fun w₀ => ?_
 refine GS ?_
 refine TN 0 ?_
 refine RN ?_
 refine ⟨_, _, eff_box (n := 43) (d := 4) (k := 1000004) rfl (by decide), fun b4 hb4 => ?_⟩
 have hBb4 := hb4.1
 refine TN 1 ?_
 refine RN ?_
 refine ⟨_, _, eff_alloc (n := 43) (d := 6) (k := 1000006) zero45 (by decide), fun b6 hb6 => ?_⟩
 have hBb6 := hb6.1
 have hlt_b4_b6 : b4 < b6 := hb6.2 1000004 _ _ _ rfl
 refine TL ?_
 refine RA rfl ?_
 refine RN ?_
 refine GS ?_
 refine TN 1 ?_
 refine RM rfl ?_
 refine RN ?_
 refine ⟨_, _, eff_name (n := 43) (d := 10) (k := 1000010) rfl rfl (fun B' => ok_callB (shapeOf_fnB n h1 h2) (fun _ _ h => newD_mono _ _ h) (A1 rfl)) (by decide) (by decide), fun b10 hb10 => ?_⟩
 have hBb10 := hb10.1
 have hlt_b4_b10 : b4 < b10 := hb10.2 1000004 _ _ _ rfl
 have hlt_b6_b10 : b6 < b10 := hb10.2 1000006 _ _ _ rfl
 refine TN 2 ?_
 refine RN ?_
 refine ⟨_, _, eff_alloc (n := 43) (d := 8) (k := 1000008) zero62 (by decide), fun b8 hb8 => ?_⟩
 have hBb8 := hb8.1
 refine TF 3 ?_
 refine RN ?_
 refine ⟨_, eff_storeA (n := 43) (s := 1000008) (size62.of (rfl)) rfl rfl (rfl) hBb8 rfl (rfl) (LV 2 rfl (LV 4 rfl (LV 6 rfl (LV 8 rfl (LT 1000004 rfl (LT 1000006 rfl (LT 1000010 rfl LN))))))), ?_⟩
 refine TL ?_
 refine RN ?_
 refine A.seq ?_
 refine A.block ?_
 refine GS ?_
 refine TL ?_
 refine RS (ok_loadA (s := 1000008) (by decide) Try.underlying62 rfl (size62.of (rfl)) rfl rfl) ?_
 refine RS (ok_loadA (s := 1000004) (by decide) Try.underlying45 rfl (size45.of (rfl)) rfl rfl) ?_
 refine RS (ok_callK 1000010 (has_y n b10 l j hl hj) (by decide) rfl (A2 rfl rfl)) ?_
 refine RS (ok_not rfl) ?_
 refine RM rfl ?_
 refine RQ (ok_move rfl) ?_
 refine RQ (ok_call (within_n _ _ hx) (A2 rfl rfl)) ?_
 refine RQ (ok_not rfl) ?_
 refine RP rfl rfl ?_
 refine RA rfl ?_
 refine RN ?_
 refine A.yes rfl ?_
 refine GS ?_
 refine TF 1 ?_
 refine RS (ok_lit [] ([.int .i64 0] ++ [.int .i64 0]) (fun _ _ => rfl) (by kernel_rfl)) ?_
 refine RN ?_
 refine ⟨_, eff_storeA (n := 43) (s := 1000006) (size45.of (rfl)) rfl rfl (rfl) hBb6 rfl (rfl) (LV 6 rfl (LB 1000004 rfl (LT 1000008 rfl (LT 1000010 rfl LN)))), ?_⟩
 refine TL ?_
 refine RA rfl ?_
 refine RN ?_
 refine A.ret ?_
 refine End.ret_block ?_
 refine End.ret_then ?_
 exact End.cellV rfl Try.underlying45 rfl (size45.of rfl) rfl (s := 1000006) rfl rfl
theorem Child_no (n : Nat) (h1 : 1 ≤ n) (h2 : n ≤ 4096) (l j : Int) (hp : ¬ IsP n l j) (x : Int) : Fn Try.prog 29 [.v (nI (n)), .v (aggV [.int .i64 l, .int .i64 j]), .v (.int .i64 (x))] (.v (.tuple #[aggV [.int .i64 0, .int .i64 0], .int .i64 1])) := by
 refine Fn.of Try.func29 rfl (by kernel_rfl) Try.ntmps29 (by simp) (fun w => [(0, .v (nI (n))), (1, .v (aggV [.int .i64 l, .int .i64 j])), (2, .v (.int .i64 (x)))]) (fun w => (Start.v rfl (Start.v rfl (Start.v rfl Start.nil)))) fun w₀ => ?_
 refine GS ?_
 refine TN 0 ?_
 refine RN ?_
 refine ⟨_, _, eff_box (n := 43) (d := 4) (k := 1000004) rfl (by decide), fun b4 hb4 => ?_⟩
 have hBb4 := hb4.1
 refine TN 1 ?_
 refine RN ?_
 refine ⟨_, _, eff_alloc (n := 43) (d := 6) (k := 1000006) zero45 (by decide), fun b6 hb6 => ?_⟩
 have hBb6 := hb6.1
 have hlt_b4_b6 : b4 < b6 := hb6.2 1000004 _ _ _ rfl
 refine TL ?_
 refine RA rfl ?_
 refine RN ?_
 refine GS ?_
 refine TN 1 ?_
 refine RM rfl ?_
 refine RN ?_
 refine ⟨_, _, eff_name (n := 43) (d := 10) (k := 1000010) rfl rfl (fun B' => ok_callB (shapeOf_fnB n h1 h2) (fun _ _ h => newD_mono _ _ h) (A1 rfl)) (by decide) (by decide), fun b10 hb10 => ?_⟩
 have hBb10 := hb10.1
 have hlt_b4_b10 : b4 < b10 := hb10.2 1000004 _ _ _ rfl
 have hlt_b6_b10 : b6 < b10 := hb10.2 1000006 _ _ _ rfl
 refine TN 2 ?_
 refine RN ?_
 refine ⟨_, _, eff_alloc (n := 43) (d := 8) (k := 1000008) zero62 (by decide), fun b8 hb8 => ?_⟩
 have hBb8 := hb8.1
 refine TF 3 ?_
 refine RN ?_
 refine ⟨_, eff_storeA (n := 43) (s := 1000008) (size62.of (rfl)) rfl rfl (rfl) hBb8 rfl (rfl) (LV 2 rfl (LV 4 rfl (LV 6 rfl (LV 8 rfl (LT 1000004 rfl (LT 1000006 rfl (LT 1000010 rfl LN))))))), ?_⟩
 refine TL ?_
 refine RN ?_
 refine A.seq ?_
 refine A.block ?_
 refine GS ?_
 refine TL ?_
 refine RS (ok_loadA (s := 1000008) (by decide) Try.underlying62 rfl (size62.of (rfl)) rfl rfl) ?_
 refine RS (ok_loadA (s := 1000004) (by decide) Try.underlying45 rfl (size45.of (rfl)) rfl rfl) ?_
 refine RS (ok_callK 1000010 (has_n n b10 l j hp) (by decide) rfl (A2 rfl rfl)) ?_
 refine RS (ok_not rfl) ?_
 refine RM rfl ?_
 refine RK ?_
 refine RK ?_
 refine RK ?_
 refine RP rfl rfl ?_
 refine RA rfl ?_
 refine RN ?_
 refine A.yes rfl ?_
 refine GS ?_
 refine TF 1 ?_
 refine RS (ok_lit [] ([.int .i64 0] ++ [.int .i64 0]) (fun _ _ => rfl) (by kernel_rfl)) ?_
 refine RN ?_
 refine ⟨_, eff_storeA (n := 43) (s := 1000006) (size45.of (rfl)) rfl rfl (rfl) hBb6 rfl (rfl) (LV 6 rfl (LB 1000004 rfl (LT 1000008 rfl (LT 1000010 rfl LN)))), ?_⟩
 refine TL ?_
 refine RA rfl ?_
 refine RN ?_
 refine A.ret ?_
 refine End.ret_block ?_
 refine End.ret_then ?_
 exact End.cellV rfl Try.underlying45 rfl (size45.of rfl) rfl (s := 1000006) rfl rfl
theorem Child_bad (m : Int) (hm : ¬ (1 ≤ m ∧ m ≤ 4096)) (l j x : Int) : Fn Try.prog 29 [.v (.int .i64 (m)), .v (aggV [.int .i64 l, .int .i64 j]), .v (.int .i64 (x))] (.v (.tuple #[aggV [.int .i64 0, .int .i64 0], .int .i64 1])) := by
 refine Fn.of Try.func29 rfl (by kernel_rfl) Try.ntmps29 (by simp) (fun w => [(0, .v (.int .i64 (m))), (1, .v (aggV [.int .i64 l, .int .i64 j])), (2, .v (.int .i64 (x)))]) (fun w => (Start.v rfl (Start.v rfl (Start.v rfl Start.nil)))) fun w₀ => ?_
 refine GS ?_
 refine TN 0 ?_
 refine RN ?_
 refine ⟨_, _, eff_box (n := 43) (d := 4) (k := 1000004) rfl (by decide), fun b4 hb4 => ?_⟩
 have hBb4 := hb4.1
 refine TN 1 ?_
 refine RN ?_
 refine ⟨_, _, eff_alloc (n := 43) (d := 6) (k := 1000006) zero45 (by decide), fun b6 hb6 => ?_⟩
 have hBb6 := hb6.1
 have hlt_b4_b6 : b4 < b6 := hb6.2 1000004 _ _ _ rfl
 refine TL ?_
 refine RA rfl ?_
 refine RN ?_
 refine GS ?_
 refine TN 2 ?_
 refine RM rfl ?_
 refine RS (ok_call (shapeOf0_fn m hm) (A1 rfl)) ?_
 refine RN ?_
 refine ⟨_, _, eff_alloc (n := 43) (d := 8) (k := 1000008) zero62 (by decide), fun b8 hb8 => ?_⟩
 have hBb8 := hb8.1
 refine TF 3 ?_
 refine RN ?_
 refine ⟨_, eff_storeA (n := 43) (s := 1000008) (size62.of (rfl)) rfl rfl (rfl) hBb8 rfl (rfl) (LV 2 rfl (LV 4 rfl (LV 6 rfl (LV 8 rfl (LT 1000004 rfl (LT 1000006 rfl LN)))))), ?_⟩
 refine TL ?_
 refine RN ?_
 refine A.seq ?_
 refine A.block ?_
 refine GS ?_
 refine TL ?_
 refine RS (ok_loadA (s := 1000008) (by decide) Try.underlying62 rfl (size62.of (rfl)) rfl rfl) ?_
 refine RS (ok_loadA (s := 1000004) (by decide) Try.underlying45 rfl (size45.of (rfl)) rfl rfl) ?_
 refine RS (ok_call (has_0 l j) (A2 rfl rfl)) ?_
 refine RS (ok_not rfl) ?_
 refine RM rfl ?_
 refine RK ?_
 refine RK ?_
 refine RK ?_
 refine RP rfl rfl ?_
 refine RA rfl ?_
 refine RN ?_
 refine A.yes rfl ?_
 refine GS ?_
 refine TF 1 ?_
 refine RS (ok_lit [] ([.int .i64 0] ++ [.int .i64 0]) (fun _ _ => rfl) (by kernel_rfl)) ?_
 refine RN ?_
 refine ⟨_, eff_storeA (n := 43) (s := 1000006) (size45.of (rfl)) rfl rfl (rfl) hBb6 rfl (rfl) (LV 6 rfl (LB 1000004 rfl (LT 1000008 rfl LN))), ?_⟩
 refine TL ?_
 refine RA rfl ?_
 refine RN ?_
 refine A.ret ?_
 refine End.ret_block ?_
 refine End.ret_then ?_
 exact End.cellV rfl Try.underlying45 rfl (size45.of rfl) rfl (s := 1000006) rfl rfl
theorem Group_ok (n : Nat) (h1 : 1 ≤ n) (h2 : n ≤ 4096) (x : Nat) (hx : x < n) : Fn Try.prog 32 [.v (nI (n)), .v (nI (x))] (.v (.tuple #[aggV (plV 0 (x / 4)), nI (x % 4), .int .i64 0])) := by
 refine Fn.of Try.func32 rfl (by kernel_rfl) Try.ntmps32 (by simp) (fun w => [(0, .v (nI (n))), (1, .v (nI (x)))]) (fun w => (Start.v rfl (Start.v rfl Start.nil))) fun w₀ => ?_
 refine GS ?_
 refine TN 0 ?_
 refine RN ?_
 refine ⟨_, _, eff_alloc (n := 17) (d := 4) (k := 1000004) zero45 (by decide), fun b4 hb4 => ?_⟩
 have hBb4 := hb4.1
 refine TL ?_
 refine RA rfl ?_
 refine RA rfl ?_
 refine RN ?_
 refine A.seq ?_
 refine GS ?_
 refine TL ?_
 refine RM rfl ?_
 refine RM rfl ?_
 refine RS (ok_call (hasBlock_y n h1 h2 x hx) (A2 rfl rfl)) ?_
 refine RS (ok_not rfl) ?_
 refine RN ?_
 refine A.no rfl ?_
 refine A.skip ?_
 refine EN ?_
 refine GS ?_
 refine TF 5 ?_
 refine RM rfl ?_
 refine RS (ok_div rfl rfl (by decide)) ?_; refine RZ (nI ((x) / 4)) (by rw [tdiv_lit _ (by decide)]; exact wrap_eq rfl (by first | omega | (simp only [Int.toNat]; omega))) ?_
 refine RS (ok_litS [(0, nI 0), (1, nI (x / 4))] (plV 0 (x / 4)) ⟨rfl, rfl, rfl, rfl, trivial⟩ (buildP _ _)) ?_
 refine RM rfl ?_
 refine RS (ok_rem rfl rfl (by decide)) ?_; refine RZ (nI ((x) % 4)) (by rw [tmod_lit _ (by decide)]; rfl) ?_
 refine RN ?_
 refine ⟨_, eff_storeA (n := 17) (s := 1000004) (size45.of (rfl)) rfl rfl (rfl) hBb4 rfl (rfl) (LV 4 rfl (LV 16 rfl LN)), ?_⟩
 refine TL ?_
 refine RA rfl ?_
 refine RA rfl ?_
 refine RN ?_
 refine A.ret ?_
 exact End.cellVV rfl Try.underlying45 rfl (size45.of rfl) rfl (s := 1000004) rfl rfl rfl
theorem Group_no (n : Nat) (h1 : 1 ≤ n) (h2 : n ≤ 4096) (x : Int) (hx : ¬ (0 ≤ x ∧ x < n)) : Fn Try.prog 32 [.v (nI (n)), .v (.int .i64 (x))] (.v (.tuple #[aggV [.int .i64 0, .int .i64 0], .int .i64 0, .int .i64 1])) := by
 refine Fn.of Try.func32 rfl (by kernel_rfl) Try.ntmps32 (by simp) (fun w => [(0, .v (nI (n))), (1, .v (.int .i64 (x)))]) (fun w => (Start.v rfl (Start.v rfl Start.nil))) fun w₀ => ?_
 refine GS ?_
 refine TN 0 ?_
 refine RN ?_
 refine ⟨_, _, eff_alloc (n := 17) (d := 4) (k := 1000004) zero45 (by decide), fun b4 hb4 => ?_⟩
 have hBb4 := hb4.1
 refine TL ?_
 refine RA rfl ?_
 refine RA rfl ?_
 refine RN ?_
 refine A.seq ?_
 refine GS ?_
 refine TL ?_
 refine RM rfl ?_
 refine RM rfl ?_
 refine RS (ok_call (hasBlock_n n h1 h2 x hx) (A2 rfl rfl)) ?_
 refine RS (ok_not rfl) ?_
 refine RN ?_
 refine A.yes rfl ?_
 refine GS ?_
 refine TF 1 ?_
 refine RS (ok_lit [] ([.int .i64 0] ++ [.int .i64 0]) (fun _ _ => rfl) (by kernel_rfl)) ?_
 refine RN ?_
 refine ⟨_, eff_storeA (n := 17) (s := 1000004) (size45.of (rfl)) rfl rfl (rfl) hBb4 rfl (rfl) (LV 4 rfl LN), ?_⟩
 refine TL ?_
 refine RA rfl ?_
 refine RA rfl ?_
 refine RN ?_
 refine A.ret ?_
 refine End.ret_then ?_
 exact End.cellVV rfl Try.underlying45 rfl (size45.of rfl) rfl (s := 1000004) rfl rfl rfl
theorem Group_bad (m : Int) (hm : ¬ (1 ≤ m ∧ m ≤ 4096)) (x : Int) : Fn Try.prog 32 [.v (.int .i64 (m)), .v (.int .i64 (x))] (.v (.tuple #[aggV [.int .i64 0, .int .i64 0], .int .i64 0, .int .i64 1])) := by
 refine Fn.of Try.func32 rfl (by kernel_rfl) Try.ntmps32 (by simp) (fun w => [(0, .v (.int .i64 (m))), (1, .v (.int .i64 (x)))]) (fun w => (Start.v rfl (Start.v rfl Start.nil))) fun w₀ => ?_
 refine GS ?_
 refine TN 0 ?_
 refine RN ?_
 refine ⟨_, _, eff_alloc (n := 17) (d := 4) (k := 1000004) zero45 (by decide), fun b4 hb4 => ?_⟩
 have hBb4 := hb4.1
 refine TL ?_
 refine RA rfl ?_
 refine RA rfl ?_
 refine RN ?_
 refine A.seq ?_
 refine GS ?_
 refine TL ?_
 refine RM rfl ?_
 refine RM rfl ?_
 refine RS (ok_call (hasBlock_b m hm x) (A2 rfl rfl)) ?_
 refine RS (ok_not rfl) ?_
 refine RN ?_
 refine A.yes rfl ?_
 refine GS ?_
 refine TF 1 ?_
 refine RS (ok_lit [] ([.int .i64 0] ++ [.int .i64 0]) (fun _ _ => rfl) (by kernel_rfl)) ?_
 refine RN ?_
 refine ⟨_, eff_storeA (n := 17) (s := 1000004) (size45.of (rfl)) rfl rfl (rfl) hBb4 rfl (rfl) (LV 4 rfl LN), ?_⟩
 refine TL ?_
 refine RA rfl ?_
 refine RA rfl ?_
 refine RN ?_
 refine A.ret ?_
 refine End.ret_then ?_
 exact End.cellVV rfl Try.underlying45 rfl (size45.of rfl) rfl (s := 1000004) rfl rfl rfl
theorem Blocks_ok (n : Nat) (h1 : 1 ≤ n) (h2 : n ≤ 4096) (l j : Nat) (hl : l ≤ hg n) (hj : j < un n (l + 1))  : Fn Try.prog 28 [.v (nI (n)), .v (aggV (plV l j))] (.v (.tuple #[nI (frm l j), nI (til n l j), .int .i64 0])) := by
 have hh := hg_le n
 have hf := frm_lt hj
 have hq := pow_small (l := l + 1) (by omega)
 refine Fn.of Try.func28 rfl (by kernel_rfl) Try.ntmps28 (by simp) (fun w => [(0, .v (nI (n))), (1, .v (aggV (plV l j)))]) (fun w => (Start.v rfl (Start.v rfl Start.nil))) fun w₀ => ?_
 refine GS ?_
 refine TN 0 ?_
 refine RN ?_
 refine ⟨_, _, eff_box (n := 26) (d := 3) (k := 1000003) rfl (by decide), fun b3 hb3 => ?_⟩
 have hBb3 := hb3.1
 refine TL ?_
 refine RA rfl ?_
 refine RA rfl ?_
 refine RA rfl ?_
 refine RN ?_
 refine A.seq ?_
 refine GD ?_
 refine TL ?_
 refine RM rfl ?_
 refine RS (ok_callB (shapeOf_fnB n h1 h2) (fun _ _ h => newD_mono _ _ h) (A1 rfl)) ?_
 refine RS (ok_loadA (s := 1000003) (by decide) Try.underlying45 rfl (size45.of (rfl)) rfl rfl) ?_
 refine RS (ok_call (FnM.new (fun b => has_y n b l j hl hj)) (Args.cons rfl (newD_mono _ _ (Nat.zero_le _)) (A1 rfl))) ?_
 refine RS (ok_not rfl) ?_
 refine RN ?_
 refine A.no rfl ?_
 refine A.skip ?_
 refine EN ?_
 refine GS ?_
 refine TL ?_
 refine RS (ok_field field45_0 (by decide) rfl) ?_
 refine RS (ok_loadV (s := 1000003) (by decide) Try.underlying3 rfl rfl rfl (rfl)) ?_
 refine RS (ok_call (span_fn l (by omega)) (A1 rfl)) ?_
 refine RA rfl ?_
 refine RN ?_
 refine GS ?_
 refine TL ?_
 refine RS (ok_field field45_1 (by decide) rfl) ?_
 refine RS (ok_loadV (s := 1000003) (by decide) Try.underlying3 rfl rfl rfl (rfl)) ?_
 refine RM rfl ?_
 refine RBS rfl rfl rfl (nI (frm l j)) (wrap_eq ((Int.natCast_mul _ _).symm) (by omega)) ?_
 refine RA rfl ?_
 refine RN ?_
 refine GS ?_
 refine TL ?_
 refine RM rfl ?_
 refine RM rfl ?_
 refine RM rfl ?_
 refine RBS rfl rfl rfl (nI (frm l j + 4 ^ (l + 1))) (wrap_eq (by omega) (by omega)) ?_
 refine RM rfl ?_
 refine RS (ok_min rfl rfl) ?_; refine RZ (nI (til n l j)) (congrArg (Value.int .i64) (by unfold til frm; generalize j * 4 ^ (l + 1) = x; generalize 4 ^ (l + 1) = y; omega)) ?_
 refine RA rfl ?_
 refine RA rfl ?_
 refine RA rfl ?_
 refine RN ?_
 refine A.sub (KC 4 rfl (KC 5 rfl (KC 6 rfl (KC 1000003 rfl KN)))) ?_
 refine A.ret ?_
 exact End.ret3V rfl rfl rfl rfl
theorem Blocks_no (n : Nat) (h1 : 1 ≤ n) (h2 : n ≤ 4096) (l j : Int) (hp : ¬ IsP n l j)  : Fn Try.prog 28 [.v (nI (n)), .v (aggV [.int .i64 l, .int .i64 j])] (.v (.tuple #[.int .i64 0, .int .i64 0, .int .i64 1])) := by
 refine Fn.of Try.func28 rfl (by kernel_rfl) Try.ntmps28 (by simp) (fun w => [(0, .v (nI (n))), (1, .v (aggV [.int .i64 l, .int .i64 j]))]) (fun w => (Start.v rfl (Start.v rfl Start.nil))) fun w₀ => ?_
 refine GS ?_
 refine TN 0 ?_
 refine RN ?_
 refine ⟨_, _, eff_box (n := 26) (d := 3) (k := 1000003) rfl (by decide), fun b3 hb3 => ?_⟩
 have hBb3 := hb3.1
 refine TL ?_
 refine RA rfl ?_
 refine RA rfl ?_
 refine RA rfl ?_
 refine RN ?_
 refine A.seq ?_
 refine GD ?_
 refine TL ?_
 refine RM rfl ?_
 refine RS (ok_callB (shapeOf_fnB n h1 h2) (fun _ _ h => newD_mono _ _ h) (A1 rfl)) ?_
 refine RS (ok_loadA (s := 1000003) (by decide) Try.underlying45 rfl (size45.of (rfl)) rfl rfl) ?_
 refine RS (ok_call (FnM.new (fun b => has_n n b l j hp)) (Args.cons rfl (newD_mono _ _ (Nat.zero_le _)) (A1 rfl))) ?_
 refine RS (ok_not rfl) ?_
 refine RN ?_
 refine A.yes rfl ?_
 refine GS ?_
 refine TL ?_
 refine RA rfl ?_
 refine RA rfl ?_
 refine RA rfl ?_
 refine RN ?_
 refine A.ret ?_
 refine End.ret_then ?_
 exact End.ret3V rfl rfl rfl rfl
theorem Blocks_bad (m : Int) (hm : ¬ (1 ≤ m ∧ m ≤ 4096)) (l j : Int) : Fn Try.prog 28 [.v (.int .i64 (m)), .v (aggV [.int .i64 l, .int .i64 j])] (.v (.tuple #[.int .i64 0, .int .i64 0, .int .i64 1])) := by
 refine Fn.of Try.func28 rfl (by kernel_rfl) Try.ntmps28 (by simp) (fun w => [(0, .v (.int .i64 (m))), (1, .v (aggV [.int .i64 l, .int .i64 j]))]) (fun w => (Start.v rfl (Start.v rfl Start.nil))) fun w₀ => ?_
 refine GS ?_
 refine TN 0 ?_
 refine RN ?_
 refine ⟨_, _, eff_box (n := 26) (d := 3) (k := 1000003) rfl (by decide), fun b3 hb3 => ?_⟩
 have hBb3 := hb3.1
 refine TL ?_
 refine RA rfl ?_
 refine RA rfl ?_
 refine RA rfl ?_
 refine RN ?_
 refine A.seq ?_
 refine GD ?_
 refine TL ?_
 refine RM rfl ?_
 refine RS (ok_call (shapeOf0_fn m hm) (A1 rfl)) ?_
 refine RS (ok_loadA (s := 1000003) (by decide) Try.underlying45 rfl (size45.of (rfl)) rfl rfl) ?_
 refine RS (ok_call (has_0 l j) (A2 rfl rfl)) ?_
 refine RS (ok_not rfl) ?_
 refine RN ?_
 refine A.yes rfl ?_
 refine GS ?_
 refine TL ?_
 refine RA rfl ?_
 refine RA rfl ?_
 refine RA rfl ?_
 refine RN ?_
 refine A.ret ?_
 refine End.ret_then ?_
 exact End.ret3V rfl rfl rfl rfl
theorem Data_ok (n : Nat) (h1 : 1 ≤ n) (h2 : n ≤ 4096) (x : Nat) (hx : x < n) (s : Nat) (hs : s < 2) : Fn Try.prog 13 [.v (nI (n)), .v (nI (x)), .v (nI (s))] (.v (.tuple #[nI (2 * x + s), .int .i64 0])) := by
 refine Fn.of Try.func13 rfl (by kernel_rfl) Try.ntmps13 (by simp) (fun w => [(0, .v (nI (n))), (1, .v (nI (x))), (2, .v (nI (s)))]) (fun w => (Start.v rfl (Start.v rfl (Start.v rfl Start.nil)))) fun w₀ => ?_
 refine GS ?_
 refine TL ?_
 refine RA rfl ?_
 refine RA rfl ?_
 refine RN ?_
 refine A.seq ?_
 refine GS ?_
 refine TL ?_
 refine RM rfl ?_
 refine RM rfl ?_
 refine RS (ok_call (hasBlock_y n h1 h2 x hx) (A2 rfl rfl)) ?_
 refine RS (ok_not rfl) ?_
 refine RM rfl ?_
 refine RQ (ok_move rfl) ?_
 refine RQ (ok_call (within_y _ _ (by omega) (by omega)) (A2 rfl rfl)) ?_
 refine RQ (ok_not rfl) ?_
 refine RP rfl rfl ?_
 refine RN ?_
 refine A.no rfl ?_
 refine A.skip ?_
 refine EN ?_
 refine GS ?_
 refine TL ?_
 refine RM rfl ?_
 refine RBS rfl rfl rfl (nI (2 * x)) (wrap_eq (by omega) (by omega)) ?_
 refine RM rfl ?_
 refine RBS rfl rfl rfl (nI (2 * x + s)) (wrap_eq (by omega) (by omega)) ?_
 refine RA rfl ?_
 refine RA rfl ?_
 refine RN ?_
 refine A.ret ?_
 exact End.ret2V rfl rfl rfl
theorem Data_slot (n : Nat) (h1 : 1 ≤ n) (h2 : n ≤ 4096) (x : Nat) (hx : x < n) (s : Int) (hs : ¬ (0 ≤ s ∧ s < 2)) : Fn Try.prog 13 [.v (nI (n)), .v (nI (x)), .v (.int .i64 (s))] (.v (.tuple #[.int .i64 0, .int .i64 1])) := by
 refine Fn.of Try.func13 rfl (by kernel_rfl) Try.ntmps13 (by simp) (fun w => [(0, .v (nI (n))), (1, .v (nI (x))), (2, .v (.int .i64 (s)))]) (fun w => (Start.v rfl (Start.v rfl (Start.v rfl Start.nil)))) fun w₀ => ?_
 refine GS ?_
 refine TL ?_
 refine RA rfl ?_
 refine RA rfl ?_
 refine RN ?_
 refine A.seq ?_
 refine GS ?_
 refine TL ?_
 refine RM rfl ?_
 refine RM rfl ?_
 refine RS (ok_call (hasBlock_y n h1 h2 x hx) (A2 rfl rfl)) ?_
 refine RS (ok_not rfl) ?_
 refine RM rfl ?_
 refine RQ (ok_move rfl) ?_
 refine RQ (ok_call (within_n _ _ hs) (A2 rfl rfl)) ?_
 refine RQ (ok_not rfl) ?_
 refine RP rfl rfl ?_
 refine RN ?_
 refine A.yes rfl ?_
 refine GS ?_
 refine TL ?_
 refine RA rfl ?_
 refine RA rfl ?_
 refine RN ?_
 refine A.ret ?_
 refine End.ret_then ?_
 exact End.ret2V rfl rfl rfl
theorem Data_no (n : Nat) (h1 : 1 ≤ n) (h2 : n ≤ 4096) (x : Int) (hx : ¬ (0 ≤ x ∧ x < n)) (s : Int) : Fn Try.prog 13 [.v (nI (n)), .v (.int .i64 (x)), .v (.int .i64 (s))] (.v (.tuple #[.int .i64 0, .int .i64 1])) := by
 refine Fn.of Try.func13 rfl (by kernel_rfl) Try.ntmps13 (by simp) (fun w => [(0, .v (nI (n))), (1, .v (.int .i64 (x))), (2, .v (.int .i64 (s)))]) (fun w => (Start.v rfl (Start.v rfl (Start.v rfl Start.nil)))) fun w₀ => ?_
 refine GS ?_
 refine TL ?_
 refine RA rfl ?_
 refine RA rfl ?_
 refine RN ?_
 refine A.seq ?_
 refine GS ?_
 refine TL ?_
 refine RM rfl ?_
 refine RM rfl ?_
 refine RS (ok_call (hasBlock_n n h1 h2 x hx) (A2 rfl rfl)) ?_
 refine RS (ok_not rfl) ?_
 refine RM rfl ?_
 refine RK ?_
 refine RK ?_
 refine RK ?_
 refine RP rfl rfl ?_
 refine RN ?_
 refine A.yes rfl ?_
 refine GS ?_
 refine TL ?_
 refine RA rfl ?_
 refine RA rfl ?_
 refine RN ?_
 refine A.ret ?_
 refine End.ret_then ?_
 exact End.ret2V rfl rfl rfl
theorem Data_bad (m : Int) (hm : ¬ (1 ≤ m ∧ m ≤ 4096)) (x s : Int) : Fn Try.prog 13 [.v (.int .i64 (m)), .v (.int .i64 (x)), .v (.int .i64 (s))] (.v (.tuple #[.int .i64 0, .int .i64 1])) := by
 refine Fn.of Try.func13 rfl (by kernel_rfl) Try.ntmps13 (by simp) (fun w => [(0, .v (.int .i64 (m))), (1, .v (.int .i64 (x))), (2, .v (.int .i64 (s)))]) (fun w => (Start.v rfl (Start.v rfl (Start.v rfl Start.nil)))) fun w₀ => ?_
 refine GS ?_
 refine TL ?_
 refine RA rfl ?_
 refine RA rfl ?_
 refine RN ?_
 refine A.seq ?_
 refine GS ?_
 refine TL ?_
 refine RM rfl ?_
 refine RM rfl ?_
 refine RS (ok_call (hasBlock_b m hm x) (A2 rfl rfl)) ?_
 refine RS (ok_not rfl) ?_
 refine RM rfl ?_
 refine RK ?_
 refine RK ?_
 refine RK ?_
 refine RP rfl rfl ?_
 refine RN ?_
 refine A.yes rfl ?_
 refine GS ?_
 refine TL ?_
 refine RA rfl ?_
 refine RA rfl ?_
 refine RN ?_
 refine A.ret ?_
 refine End.ret_then ?_
 exact End.ret2V rfl rfl rfl
theorem Node_ok (n : Nat) (h1 : 1 ≤ n) (h2 : n ≤ 4096) (l j : Nat) (hl : l ≤ hg n) (hj : j < un n (l + 1)) (s : Nat) (hs : s < 2) : Fn Try.prog 15 [.v (nI (n)), .v (nI (l)), .v (nI (j)), .v (nI (s))] (.v (.tuple #[nI (bs n l + 2 * j + s), .int .i64 0])) := by
 have hu0 := un_le h1 (l + 1)
 have hv0 := un_pos h1 (l + 1)
 have hh := hg_le n
 have hb := bs_small h1 h2 (l := l) (by omega)
 refine Fn.of Try.func15 rfl (by kernel_rfl) Try.ntmps15 (by simp) (fun w => [(0, .v (nI (n))), (1, .v (nI (l))), (2, .v (nI (j))), (3, .v (nI (s)))]) (fun w => (Start.v rfl (Start.v rfl (Start.v rfl (Start.v rfl Start.nil))))) fun w₀ => ?_
 refine GS ?_
 refine TL ?_
 refine RA rfl ?_
 refine RA rfl ?_
 refine RN ?_
 refine GS ?_
 refine TN 1 ?_
 refine RM rfl ?_
 refine RN ?_
 refine ⟨_, _, eff_name (n := 32) (d := 12) (k := 1000012) rfl rfl (fun B' => ok_callB (shapeOf_fnB n h1 h2) (fun _ _ h => newD_mono _ _ h) (A1 rfl)) (by decide) (by decide), fun b12 hb12 => ?_⟩
 have hBb12 := hb12.1
 refine TN 2 ?_
 refine RN ?_
 refine ⟨_, _, eff_alloc (n := 32) (d := 10) (k := 1000010) zero62 (by decide), fun b10 hb10 => ?_⟩
 have hBb10 := hb10.1
 refine TF 3 ?_
 refine RN ?_
 refine ⟨_, eff_storeA (n := 32) (s := 1000010) (size62.of (rfl)) rfl rfl (rfl) hBb10 rfl (rfl) (LV 1 rfl (LV 2 rfl (LV 3 rfl (LV 10 rfl (LT 1000012 rfl LN))))), ?_⟩
 refine TL ?_
 refine RN ?_
 refine A.seq ?_
 refine GS ?_
 refine TL ?_
 refine RS (ok_loadA (s := 1000010) (by decide) Try.underlying62 rfl (size62.of (rfl)) rfl rfl) ?_
 refine RM rfl ?_
 refine RM rfl ?_
 refine RS (ok_litS [(0, nI l), (1, nI j)] (plV l j) ⟨rfl, rfl, rfl, rfl, trivial⟩ (buildP _ _)) ?_
 refine RS (ok_callK 1000012 (has_y n b12 l j hl hj) (by decide) rfl (A2 rfl rfl)) ?_
 refine RS (ok_not rfl) ?_
 refine RM rfl ?_
 refine RQ (ok_move rfl) ?_
 refine RQ (ok_call (within_y _ _ (by omega) (by omega)) (A2 rfl rfl)) ?_
 refine RQ (ok_not rfl) ?_
 refine RP rfl rfl ?_
 refine RN ?_
 refine A.no rfl ?_
 refine A.skip ?_
 refine EN ?_
 refine GS ?_
 refine TL ?_
 refine RS (ok_loadA (s := 1000010) (by decide) Try.underlying62 rfl (size62.of (rfl)) rfl rfl) ?_
 refine RM rfl ?_
 refine RS (ok_callK 1000012 (base_fn n b12 h1 h2 l (by omega)) (by decide) rfl (A2 rfl rfl)) ?_
 refine RM rfl ?_
 refine RBS rfl rfl rfl (nI (2 * j)) (wrap_eq (by omega) (by omega)) ?_
 refine RBS rfl rfl rfl (nI (bs n l + 2 * j)) (wrap_eq (by omega) (by omega)) ?_
 refine RM rfl ?_
 refine RBS rfl rfl rfl (nI (bs n l + 2 * j + s)) (wrap_eq (by omega) (by omega)) ?_
 refine RA rfl ?_
 refine RA rfl ?_
 refine RN ?_
 refine A.sub (KC 8 rfl (KC 9 rfl (KC 1000010 rfl (KC 1000012 rfl KN)))) ?_
 refine A.ret ?_
 exact End.ret2V rfl rfl rfl
theorem Node_slot (n : Nat) (h1 : 1 ≤ n) (h2 : n ≤ 4096) (l j : Nat) (hl : l ≤ hg n) (hj : j < un n (l + 1)) (s : Int) (hs : ¬ (0 ≤ s ∧ s < 2)) : Fn Try.prog 15 [.v (nI (n)), .v (nI (l)), .v (nI (j)), .v (.int .i64 (s))] (.v (.tuple #[.int .i64 0, .int .i64 1])) := by
 refine Fn.of Try.func15 rfl (by kernel_rfl) Try.ntmps15 (by simp) (fun w => [(0, .v (nI (n))), (1, .v (nI (l))), (2, .v (nI (j))), (3, .v (.int .i64 (s)))]) (fun w => (Start.v rfl (Start.v rfl (Start.v rfl (Start.v rfl Start.nil))))) fun w₀ => ?_
 refine GS ?_
 refine TL ?_
 refine RA rfl ?_
 refine RA rfl ?_
 refine RN ?_
 refine GS ?_
 refine TN 1 ?_
 refine RM rfl ?_
 refine RN ?_
 refine ⟨_, _, eff_name (n := 32) (d := 12) (k := 1000012) rfl rfl (fun B' => ok_callB (shapeOf_fnB n h1 h2) (fun _ _ h => newD_mono _ _ h) (A1 rfl)) (by decide) (by decide), fun b12 hb12 => ?_⟩
 have hBb12 := hb12.1
 refine TN 2 ?_
 refine RN ?_
 refine ⟨_, _, eff_alloc (n := 32) (d := 10) (k := 1000010) zero62 (by decide), fun b10 hb10 => ?_⟩
 have hBb10 := hb10.1
 refine TF 3 ?_
 refine RN ?_
 refine ⟨_, eff_storeA (n := 32) (s := 1000010) (size62.of (rfl)) rfl rfl (rfl) hBb10 rfl (rfl) (LV 1 rfl (LV 2 rfl (LV 3 rfl (LV 10 rfl (LT 1000012 rfl LN))))), ?_⟩
 refine TL ?_
 refine RN ?_
 refine A.seq ?_
 refine GS ?_
 refine TL ?_
 refine RS (ok_loadA (s := 1000010) (by decide) Try.underlying62 rfl (size62.of (rfl)) rfl rfl) ?_
 refine RM rfl ?_
 refine RM rfl ?_
 refine RS (ok_litS [(0, nI l), (1, nI j)] (plV l j) ⟨rfl, rfl, rfl, rfl, trivial⟩ (buildP _ _)) ?_
 refine RS (ok_callK 1000012 (has_y n b12 l j hl hj) (by decide) rfl (A2 rfl rfl)) ?_
 refine RS (ok_not rfl) ?_
 refine RM rfl ?_
 refine RQ (ok_move rfl) ?_
 refine RQ (ok_call (within_n _ _ hs) (A2 rfl rfl)) ?_
 refine RQ (ok_not rfl) ?_
 refine RP rfl rfl ?_
 refine RN ?_
 refine A.yes rfl ?_
 refine GS ?_
 refine TL ?_
 refine RA rfl ?_
 refine RA rfl ?_
 refine RN ?_
 refine A.ret ?_
 refine End.ret_then ?_
 exact End.ret2V rfl rfl rfl
theorem Node_no (n : Nat) (h1 : 1 ≤ n) (h2 : n ≤ 4096) (l j : Int) (hp : ¬ IsP n l j) (s : Int) : Fn Try.prog 15 [.v (nI (n)), .v (.int .i64 (l)), .v (.int .i64 (j)), .v (.int .i64 (s))] (.v (.tuple #[.int .i64 0, .int .i64 1])) := by
 refine Fn.of Try.func15 rfl (by kernel_rfl) Try.ntmps15 (by simp) (fun w => [(0, .v (nI (n))), (1, .v (.int .i64 (l))), (2, .v (.int .i64 (j))), (3, .v (.int .i64 (s)))]) (fun w => (Start.v rfl (Start.v rfl (Start.v rfl (Start.v rfl Start.nil))))) fun w₀ => ?_
 refine GS ?_
 refine TL ?_
 refine RA rfl ?_
 refine RA rfl ?_
 refine RN ?_
 refine GS ?_
 refine TN 1 ?_
 refine RM rfl ?_
 refine RN ?_
 refine ⟨_, _, eff_name (n := 32) (d := 12) (k := 1000012) rfl rfl (fun B' => ok_callB (shapeOf_fnB n h1 h2) (fun _ _ h => newD_mono _ _ h) (A1 rfl)) (by decide) (by decide), fun b12 hb12 => ?_⟩
 have hBb12 := hb12.1
 refine TN 2 ?_
 refine RN ?_
 refine ⟨_, _, eff_alloc (n := 32) (d := 10) (k := 1000010) zero62 (by decide), fun b10 hb10 => ?_⟩
 have hBb10 := hb10.1
 refine TF 3 ?_
 refine RN ?_
 refine ⟨_, eff_storeA (n := 32) (s := 1000010) (size62.of (rfl)) rfl rfl (rfl) hBb10 rfl (rfl) (LV 1 rfl (LV 2 rfl (LV 3 rfl (LV 10 rfl (LT 1000012 rfl LN))))), ?_⟩
 refine TL ?_
 refine RN ?_
 refine A.seq ?_
 refine GS ?_
 refine TL ?_
 refine RS (ok_loadA (s := 1000010) (by decide) Try.underlying62 rfl (size62.of (rfl)) rfl rfl) ?_
 refine RM rfl ?_
 refine RM rfl ?_
 refine RS (ok_litS [(0, .int .i64 (l)), (1, .int .i64 (j))] ([.int .i64 (l), .int .i64 (j)]) ⟨rfl, rfl, rfl, rfl, trivial⟩ (buildP _ _)) ?_
 refine RS (ok_callK 1000012 (has_n n b12 l j hp) (by decide) rfl (A2 rfl rfl)) ?_
 refine RS (ok_not rfl) ?_
 refine RM rfl ?_
 refine RK ?_
 refine RK ?_
 refine RK ?_
 refine RP rfl rfl ?_
 refine RN ?_
 refine A.yes rfl ?_
 refine GS ?_
 refine TL ?_
 refine RA rfl ?_
 refine RA rfl ?_
 refine RN ?_
 refine A.ret ?_
 refine End.ret_then ?_
 exact End.ret2V rfl rfl rfl
theorem Node_bad (m : Int) (hm : ¬ (1 ≤ m ∧ m ≤ 4096)) (l j s : Int) : Fn Try.prog 15 [.v (.int .i64 (m)), .v (.int .i64 (l)), .v (.int .i64 (j)), .v (.int .i64 (s))] (.v (.tuple #[.int .i64 0, .int .i64 1])) := by
 refine Fn.of Try.func15 rfl (by kernel_rfl) Try.ntmps15 (by simp) (fun w => [(0, .v (.int .i64 (m))), (1, .v (.int .i64 (l))), (2, .v (.int .i64 (j))), (3, .v (.int .i64 (s)))]) (fun w => (Start.v rfl (Start.v rfl (Start.v rfl (Start.v rfl Start.nil))))) fun w₀ => ?_
 refine GS ?_
 refine TL ?_
 refine RA rfl ?_
 refine RA rfl ?_
 refine RN ?_
 refine GS ?_
 refine TN 2 ?_
 refine RM rfl ?_
 refine RS (ok_call (shapeOf0_fn m hm) (A1 rfl)) ?_
 refine RN ?_
 refine ⟨_, _, eff_alloc (n := 32) (d := 10) (k := 1000010) zero62 (by decide), fun b10 hb10 => ?_⟩
 have hBb10 := hb10.1
 refine TF 3 ?_
 refine RN ?_
 refine ⟨_, eff_storeA (n := 32) (s := 1000010) (size62.of (rfl)) rfl rfl (rfl) hBb10 rfl (rfl) (LV 1 rfl (LV 2 rfl (LV 3 rfl (LV 10 rfl LN)))), ?_⟩
 refine TL ?_
 refine RN ?_
 refine A.seq ?_
 refine GS ?_
 refine TL ?_
 refine RS (ok_loadA (s := 1000010) (by decide) Try.underlying62 rfl (size62.of (rfl)) rfl rfl) ?_
 refine RM rfl ?_
 refine RM rfl ?_
 refine RS (ok_litS [(0, .int .i64 (l)), (1, .int .i64 (j))] ([.int .i64 (l), .int .i64 (j)]) ⟨rfl, rfl, rfl, rfl, trivial⟩ (buildP _ _)) ?_
 refine RS (ok_call (has_0 l j) (A2 rfl rfl)) ?_
 refine RS (ok_not rfl) ?_
 refine RM rfl ?_
 refine RK ?_
 refine RK ?_
 refine RK ?_
 refine RP rfl rfl ?_
 refine RN ?_
 refine A.yes rfl ?_
 refine GS ?_
 refine TL ?_
 refine RA rfl ?_
 refine RA rfl ?_
 refine RN ?_
 refine A.ret ?_
 refine End.ret_then ?_
 exact End.ret2V rfl rfl rfl
theorem Of_data (n : Nat) (h1 : 1 ≤ n) (h2 : n ≤ 4096) (x : Nat) (hx : x < 2 * n) : Fn Try.prog 12 [.v (nI (n)), .v (nI (x))] (.v (.tuple #[aggV (secV true 0 ((x / 2 : Nat) : Int) ((x % 2 : Nat) : Int)), .int .i64 0])) := by
 have hb0 := bs_mono (n := n) (Nat.zero_le (hg n + 1))
 have hz := bs_zero n
 have hs6 := bs_small h1 h2 (l := hg n + 1) (by have := hg_le n; omega)
 refine Fn.of Try.func12 rfl (by kernel_rfl) Try.ntmps12 (by simp) (fun w => [(0, .v (nI (n))), (1, .v (nI (x)))]) (fun w => (Start.v rfl (Start.v rfl Start.nil))) fun w₀ => ?_
 refine GS ?_
 refine TN 0 ?_
 refine RN ?_
 refine ⟨_, _, eff_alloc (n := 44) (d := 4) (k := 1000004) zero31 (by decide), fun b4 hb4 => ?_⟩
 have hBb4 := hb4.1
 refine TL ?_
 refine RA rfl ?_
 refine RN ?_
 refine GS ?_
 refine TN 1 ?_
 refine RM rfl ?_
 refine RN ?_
 refine ⟨_, _, eff_name (n := 44) (d := 9) (k := 1000009) rfl rfl (fun B' => ok_callB (shapeOf_fnB n h1 h2) (fun _ _ h => newD_mono _ _ h) (A1 rfl)) (by decide) (by decide), fun b9 hb9 => ?_⟩
 have hBb9 := hb9.1
 have hlt_b4_b9 : b4 < b9 := hb9.2 1000004 _ _ _ rfl
 refine TN 2 ?_
 refine RN ?_
 refine ⟨_, _, eff_alloc (n := 44) (d := 6) (k := 1000006) zero62 (by decide), fun b6 hb6 => ?_⟩
 have hBb6 := hb6.1
 refine TF 3 ?_
 refine RN ?_
 refine ⟨_, eff_storeA (n := 44) (s := 1000006) (size62.of (rfl)) rfl rfl (rfl) hBb6 rfl (rfl) (LV 1 rfl (LV 4 rfl (LV 6 rfl (LT 1000004 rfl (LT 1000009 rfl LN))))), ?_⟩
 refine TL ?_
 refine RN ?_
 refine A.seq ?_
 refine GS ?_
 refine TL ?_
 refine RM rfl ?_
 refine RS (ok_loadA (s := 1000006) (by decide) Try.underlying62 rfl (size62.of (rfl)) rfl rfl) ?_
 refine RS (ok_callK 1000009 (sectors_fn n b9 h1 h2) (by decide) rfl (A1 rfl)) ?_
 refine RS (ok_call (within_y _ _ (by omega) (by omega)) (A2 rfl rfl)) ?_
 refine RS (ok_not rfl) ?_
 refine RN ?_
 refine A.no rfl ?_
 refine A.skip ?_
 refine EN ?_
 refine A.seq ?_
 refine GS ?_
 refine TL ?_
 refine RM rfl ?_
 refine RS (ok_loadA (s := 1000006) (by decide) Try.underlying62 rfl (size62.of (rfl)) rfl rfl) ?_
 refine RS (ok_callK 1000009 (base_fn n b9 h1 h2 0 (Nat.zero_le _)) (by decide) rfl (A2 rfl rfl)) ?_
 refine RBS rfl rfl rfl (.bool true) (by first | rfl | (simp; done) | (simp; omega) | (simp [*]; done) | (simp [*]; omega)) ?_
 refine RN ?_
 refine A.yes rfl ?_
 refine GS ?_
 refine TF 5 ?_
 refine RM rfl ?_
 refine RS (ok_div rfl rfl (by decide)) ?_; refine RZ (nI ((x) / 2)) (by rw [tdiv_lit _ (by decide)]; exact wrap_eq rfl (by first | omega | (simp only [Int.toNat]; omega))) ?_
 refine RM rfl ?_
 refine RS (ok_rem rfl rfl (by decide)) ?_; refine RZ (nI ((x) % 2)) (by rw [tmod_lit _ (by decide)]; rfl) ?_
 refine RS (ok_litS [(0, .bool true), (2, nI (x / 2)), (3, nI (x % 2))] (secV true 0 ((x / 2 : Nat) : Int) ((x % 2 : Nat) : Int)) ⟨rfl, rfl, rfl, rfl, rfl, rfl, trivial⟩ (buildD _ _)) ?_
 refine RN ?_
 refine ⟨_, eff_storeA (n := 44) (s := 1000004) (size31.of (rfl)) rfl rfl (rfl) hBb4 rfl (rfl) (LV 4 rfl (LT 1000006 rfl (LT 1000009 rfl LN))), ?_⟩
 refine TL ?_
 refine RA rfl ?_
 refine RN ?_
 refine A.ret ?_
 refine End.ret_then ?_
 exact End.cellV rfl Try.underlying31 rfl (size31.of rfl) rfl (s := 1000004) rfl rfl
theorem Of_node (n : Nat) (h1 : 1 ≤ n) (h2 : n ≤ 4096) (x l : Nat) (hl : l ≤ hg n) (ha : bs n l ≤ x) (hb : x < bs n (l + 1)) : Fn Try.prog 12 [.v (nI (n)), .v (nI (x))] (.v (.tuple #[aggV (secV false (l : Int) (((x - bs n l) / 2 : Nat) : Int) (((x - bs n l) % 2 : Nat) : Int)), .int .i64 0])) := by
 have hb0 := bs_mono (n := n) (Nat.zero_le (hg n + 1))
 have hz := bs_zero n
 have hs6 := bs_small h1 h2 (l := hg n + 1) (by have := hg_le n; omega)
 have hb1 := bs_mono (n := n) (Nat.zero_le l)
 have hb2 := bs_mono (n := n) (show l + 1 ≤ hg n + 1 by omega)
 have hh := hg_le n
 refine Fn.of Try.func12 rfl (by kernel_rfl) Try.ntmps12 (by simp) (fun w => [(0, .v (nI (n))), (1, .v (nI (x)))]) (fun w => (Start.v rfl (Start.v rfl Start.nil))) fun w₀ => ?_
 refine GS ?_
 refine TN 0 ?_
 refine RN ?_
 refine ⟨_, _, eff_alloc (n := 44) (d := 4) (k := 1000004) zero31 (by decide), fun b4 hb4 => ?_⟩
 have hBb4 := hb4.1
 refine TL ?_
 refine RA rfl ?_
 refine RN ?_
 refine GS ?_
 refine TN 1 ?_
 refine RM rfl ?_
 refine RN ?_
 refine ⟨_, _, eff_name (n := 44) (d := 9) (k := 1000009) rfl rfl (fun B' => ok_callB (shapeOf_fnB n h1 h2) (fun _ _ h => newD_mono _ _ h) (A1 rfl)) (by decide) (by decide), fun b9 hb9 => ?_⟩
 have hBb9 := hb9.1
 have hlt_b4_b9 : b4 < b9 := hb9.2 1000004 _ _ _ rfl
 refine TN 2 ?_
 refine RN ?_
 refine ⟨_, _, eff_alloc (n := 44) (d := 6) (k := 1000006) zero62 (by decide), fun b6 hb6 => ?_⟩
 have hBb6 := hb6.1
 refine TF 3 ?_
 refine RN ?_
 refine ⟨_, eff_storeA (n := 44) (s := 1000006) (size62.of (rfl)) rfl rfl (rfl) hBb6 rfl (rfl) (LV 1 rfl (LV 4 rfl (LV 6 rfl (LT 1000004 rfl (LT 1000009 rfl LN))))), ?_⟩
 refine TL ?_
 refine RN ?_
 refine A.seq ?_
 refine GS ?_
 refine TL ?_
 refine RM rfl ?_
 refine RS (ok_loadA (s := 1000006) (by decide) Try.underlying62 rfl (size62.of (rfl)) rfl rfl) ?_
 refine RS (ok_callK 1000009 (sectors_fn n b9 h1 h2) (by decide) rfl (A1 rfl)) ?_
 refine RS (ok_call (within_y _ _ (by omega) (by omega)) (A2 rfl rfl)) ?_
 refine RS (ok_not rfl) ?_
 refine RN ?_
 refine A.no rfl ?_
 refine A.skip ?_
 refine EN ?_
 refine A.seq ?_
 refine GS ?_
 refine TL ?_
 refine RM rfl ?_
 refine RS (ok_loadA (s := 1000006) (by decide) Try.underlying62 rfl (size62.of (rfl)) rfl rfl) ?_
 refine RS (ok_callK 1000009 (base_fn n b9 h1 h2 0 (Nat.zero_le _)) (by decide) rfl (A2 rfl rfl)) ?_
 refine RBS rfl rfl rfl (.bool false) (by first | rfl | (simp; done) | (simp; omega) | (simp [*]; done) | (simp [*]; omega)) ?_
 refine RN ?_
 refine A.no rfl ?_
 refine A.skip ?_
 refine EN ?_
 refine GS ?_
 refine TL ?_
 refine RA rfl ?_
 refine RN ?_
 refine A.seq ?_
 refine A.block ?_
 refine A.loop (ι := Nat) (fun k => k ≤ l) (fun k => [(1, .v (nI (x))), (4, .v (ptr b4)), (6, .v (ptr b6)), (7, .v (nI (k))), (1000004, blk b4 31 ([.bool false] ++ [.int .i64 0] ++ [.int .i64 0] ++ [.int .i64 0])), (1000006, blk b6 62 (shV n b9)), (1000009, blk b9 72 (rowU n (hg n + 1)))]) (fun k => l - k) 0 ?_ ?_ ?_
 ·exact Nat.zero_le _
 ·exact (KC 1 rfl (KC 4 rfl (KC 6 rfl (KC 7 rfl (KC 1000004 rfl (KC 1000006 rfl (KC 1000009 rfl KN)))))))
 intro k hk
 refine A.seq ?_
 refine GS ?_
 refine TL ?_
 refine RM rfl ?_
 refine RS (ok_loadA (s := 1000006) (by decide) Try.underlying62 rfl (size62.of (rfl)) rfl rfl) ?_
 refine RM rfl ?_
 refine RBS rfl rfl rfl (nI (k + 1)) (wrap_eq (by omega) (by omega)) ?_
 refine RS (ok_callK 1000009 (base_fn n b9 h1 h2 (k + 1) (by omega)) (by decide) rfl (A2 rfl rfl)) ?_
 refine RB rfl rfl rfl ?_
 refine RN ?_
 refine A.cond rfl (fun hc30 => ?_) (fun hc30 => ?_)
 ·have hkl : k < l := by
   have h : bs n (k + 1) ≤ x := by simp at hc30; omega
   rcases Nat.lt_or_ge k l with h' | h'
   ·exact h'
   ·obtain rfl : k = l := by omega
    omega
  refine A.skip ?_
  refine EN ?_
  refine A.block ?_
  refine GE ?_
  refine TL ?_
  refine RM rfl ?_
  refine RBS rfl rfl rfl (nI (k + 1)) (wrap_eq (by omega) (by omega)) ?_
  refine RA rfl ?_
  refine RN ?_
  refine End.normal_block ?_
  refine End.normal_then ?_
  refine End.again (k + 1) ?_ ?_ ?_
  ·show _ ≤ _; omega
  ·show _ - _ < _ - _; omega
  ·exact (KC 1 rfl (KC 4 rfl (KC 6 rfl (KC 7 rfl (KC 1000004 rfl (KC 1000006 rfl (KC 1000009 rfl KN)))))))
 ·have hkl : k = l := by
   have h : ¬ bs n (k + 1) ≤ x := by simp at hc30; omega
   rcases Nat.lt_or_ge k l with h' | h'
   ·have := bs_mono (n := n) (show k + 1 ≤ l by omega)
    omega
   ·omega
  refine A.exit ?_
  refine End.exit_then ?_
  refine End.exit_then ?_
  refine End.exit_here ?_
  refine EN ?_
  refine GS ?_
  refine TL ?_
  refine RM rfl ?_
  refine RS (ok_loadA (s := 1000006) (by decide) Try.underlying62 rfl (size62.of (rfl)) rfl rfl) ?_
  refine RM rfl ?_
  refine RS (ok_callK 1000009 (base_fn n b9 h1 h2 k (by omega)) (by decide) rfl (A2 rfl rfl)) ?_; refine RZ (nI (bs n l)) (by rw [hkl]) ?_
  refine RBS rfl rfl rfl (nI (x - bs n l)) (wrap_eq (by omega) (by omega)) ?_
  refine RA rfl ?_
  refine RN ?_
  refine GS ?_
  refine TF 6 ?_
  refine RM rfl ?_; refine RZ (nI (l)) (by rw [hkl]) ?_
  refine RM rfl ?_
  refine RS (ok_div rfl rfl (by decide)) ?_; refine RZ (nI ((x - bs n l) / 2)) (by rw [tdiv_lit _ (by decide)]; exact wrap_eq rfl (by first | omega | (simp only [Int.toNat]; omega))) ?_
  refine RM rfl ?_
  refine RS (ok_rem rfl rfl (by decide)) ?_; refine RZ (nI ((x - bs n l) % 2)) (by rw [tmod_lit _ (by decide)]; rfl) ?_
  refine RS (ok_litS [(1, nI l), (2, nI ((x - bs n l) / 2)), (3, nI ((x - bs n l) % 2))] (secV false (l : Int) (((x - bs n l) / 2 : Nat) : Int) (((x - bs n l) % 2 : Nat) : Int)) ⟨rfl, rfl, rfl, rfl, rfl, rfl, trivial⟩ (buildN _ _ _)) ?_
  refine RN ?_
  refine ⟨_, eff_storeA (n := 44) (s := 1000004) (size31.of (rfl)) rfl rfl (rfl) hBb4 rfl (rfl) (LV 4 rfl (LT 1000006 rfl (LT 1000009 rfl LN))), ?_⟩
  refine TL ?_
  refine RA rfl ?_
  refine RN ?_
  refine A.ret ?_
  exact End.cellV rfl Try.underlying31 rfl (size31.of rfl) rfl (s := 1000004) rfl rfl
theorem Of_no (n : Nat) (h1 : 1 ≤ n) (h2 : n ≤ 4096) (x : Int) (hx : ¬ (0 ≤ x ∧ x < bs n (hg n + 1))) : Fn Try.prog 12 [.v (nI (n)), .v (.int .i64 (x))] (.v (.tuple #[aggV (secV false 0 0 0), .int .i64 1])) := by
 refine Fn.of Try.func12 rfl (by kernel_rfl) Try.ntmps12 (by simp) (fun w => [(0, .v (nI (n))), (1, .v (.int .i64 (x)))]) (fun w => (Start.v rfl (Start.v rfl Start.nil))) fun w₀ => ?_
 refine GS ?_
 refine TN 0 ?_
 refine RN ?_
 refine ⟨_, _, eff_alloc (n := 44) (d := 4) (k := 1000004) zero31 (by decide), fun b4 hb4 => ?_⟩
 have hBb4 := hb4.1
 refine TL ?_
 refine RA rfl ?_
 refine RN ?_
 refine GS ?_
 refine TN 1 ?_
 refine RM rfl ?_
 refine RN ?_
 refine ⟨_, _, eff_name (n := 44) (d := 9) (k := 1000009) rfl rfl (fun B' => ok_callB (shapeOf_fnB n h1 h2) (fun _ _ h => newD_mono _ _ h) (A1 rfl)) (by decide) (by decide), fun b9 hb9 => ?_⟩
 have hBb9 := hb9.1
 have hlt_b4_b9 : b4 < b9 := hb9.2 1000004 _ _ _ rfl
 refine TN 2 ?_
 refine RN ?_
 refine ⟨_, _, eff_alloc (n := 44) (d := 6) (k := 1000006) zero62 (by decide), fun b6 hb6 => ?_⟩
 have hBb6 := hb6.1
 refine TF 3 ?_
 refine RN ?_
 refine ⟨_, eff_storeA (n := 44) (s := 1000006) (size62.of (rfl)) rfl rfl (rfl) hBb6 rfl (rfl) (LV 1 rfl (LV 4 rfl (LV 6 rfl (LT 1000004 rfl (LT 1000009 rfl LN))))), ?_⟩
 refine TL ?_
 refine RN ?_
 refine A.seq ?_
 refine GS ?_
 refine TL ?_
 refine RM rfl ?_
 refine RS (ok_loadA (s := 1000006) (by decide) Try.underlying62 rfl (size62.of (rfl)) rfl rfl) ?_
 refine RS (ok_callK 1000009 (sectors_fn n b9 h1 h2) (by decide) rfl (A1 rfl)) ?_
 refine RS (ok_call (within_n _ _ hx) (A2 rfl rfl)) ?_
 refine RS (ok_not rfl) ?_
 refine RN ?_
 refine A.yes rfl ?_
 refine GS ?_
 refine TF 1 ?_
 refine RS (ok_lit [] ([.bool false] ++ [.int .i64 0] ++ [.int .i64 0] ++ [.int .i64 0]) (fun _ _ => rfl) (by kernel_rfl)) ?_
 refine RN ?_
 refine ⟨_, eff_storeA (n := 44) (s := 1000004) (size31.of (rfl)) rfl rfl (rfl) hBb4 rfl (rfl) (LV 4 rfl (LT 1000006 rfl (LT 1000009 rfl LN))), ?_⟩
 refine TL ?_
 refine RA rfl ?_
 refine RN ?_
 refine A.ret ?_
 refine End.ret_then ?_
 exact End.cellV rfl Try.underlying31 rfl (size31.of rfl) rfl (s := 1000004) rfl rfl
theorem Of_bad (m : Int) (hm : ¬ (1 ≤ m ∧ m ≤ 4096)) (x : Int) : Fn Try.prog 12 [.v (.int .i64 (m)), .v (.int .i64 (x))] (.v (.tuple #[aggV (secV false 0 0 0), .int .i64 1])) := by
 refine Fn.of Try.func12 rfl (by kernel_rfl) Try.ntmps12 (by simp) (fun w => [(0, .v (.int .i64 (m))), (1, .v (.int .i64 (x)))]) (fun w => (Start.v rfl (Start.v rfl Start.nil))) fun w₀ => ?_
 refine GS ?_
 refine TN 0 ?_
 refine RN ?_
 refine ⟨_, _, eff_alloc (n := 44) (d := 4) (k := 1000004) zero31 (by decide), fun b4 hb4 => ?_⟩
 have hBb4 := hb4.1
 refine TL ?_
 refine RA rfl ?_
 refine RN ?_
 refine GS ?_
 refine TN 2 ?_
 refine RM rfl ?_
 refine RS (ok_call (shapeOf0_fn m hm) (A1 rfl)) ?_
 refine RN ?_
 refine ⟨_, _, eff_alloc (n := 44) (d := 6) (k := 1000006) zero62 (by decide), fun b6 hb6 => ?_⟩
 have hBb6 := hb6.1
 refine TF 3 ?_
 refine RN ?_
 refine ⟨_, eff_storeA (n := 44) (s := 1000006) (size62.of (rfl)) rfl rfl (rfl) hBb6 rfl (rfl) (LV 1 rfl (LV 4 rfl (LV 6 rfl (LT 1000004 rfl LN)))), ?_⟩
 refine TL ?_
 refine RN ?_
 refine A.seq ?_
 refine GS ?_
 refine TL ?_
 refine RM rfl ?_
 refine RS (ok_loadA (s := 1000006) (by decide) Try.underlying62 rfl (size62.of (rfl)) rfl rfl) ?_
 refine RS (ok_call (sectors_0) (A1 rfl)) ?_
 refine RS (ok_call (within_n _ _ (by omega)) (A2 rfl rfl)) ?_
 refine RS (ok_not rfl) ?_
 refine RN ?_
 refine A.yes rfl ?_
 refine GS ?_
 refine TF 1 ?_
 refine RS (ok_lit [] ([.bool false] ++ [.int .i64 0] ++ [.int .i64 0] ++ [.int .i64 0]) (fun _ _ => rfl) (by kernel_rfl)) ?_
 refine RN ?_
 refine ⟨_, eff_storeA (n := 44) (s := 1000004) (size31.of (rfl)) rfl rfl (rfl) hBb4 rfl (rfl) (LV 4 rfl (LT 1000006 rfl LN)), ?_⟩
 refine TL ?_
 refine RA rfl ?_
 refine RN ?_
 refine A.ret ?_
 refine End.ret_then ?_
 exact End.cellV rfl Try.underlying31 rfl (size31.of rfl) rfl (s := 1000004) rfl rfl
end Go.Proofs.Ytdnblilocdddpaa
