/-
 The definition of layer 12 by facts, and what its laws share.
-/
import Derived.Test.YtdnblilocdddpaaShort
import Derived.Test.YtdnblilocdddpaaC12b
import Derived.Test.YtdnblilocdddpaaC12c
namespace Go.Proofs.Ytdnblilocdddpaa
open Go Go.RowKit
set_option linter.unusedVariables false
set_option maxRecDepth 20000
/-- The number of blocks that a law is about. -/
def nn (k : Nat) : Nat := 1 + k % 4096
theorem nn1 (k : Nat) : 1 ≤ nn k := Nat.le_add_right _ _
theorem nn2 (k : Nat) : nn k ≤ 4096 := by unfold nn; omega
theorem un_one {n h : Nat} (hh : h ≤ hg n) (h0 : un n (h + 1) = 1) : h = hg n := by
 rcases Nat.lt_or_ge h (hg n) with h1 | h1
 ·have := un_big (n := n) (k := h + 1) (by omega) (by omega)
  omega
 ·omega
theorem sec_case {n s : Nat} (h : s < bs n (hg n + 1)) : s < 2 * n ∨ ∃ l, l ≤ hg n ∧ bs n l ≤ s ∧ s < bs n (l + 1) := by
 rcases Nat.lt_or_ge s (2 * n) with hd | hd
 ·exact .inl hd
 ·obtain ⟨l, h1, h2, h3, _⟩ := bs_level (n := n) hd h
  exact .inr ⟨l, by omega, h2, h3⟩
def lvV (i : Nat) : Nat := [1, 4, 5, 16, 17, 4096].getD i 0
def hvV (i : Nat) : Nat := [0, 0, 1, 1, 2, 5].getD i 0
theorem lv_ok {i : Nat} (h : i < 6) : 1 ≤ lvV i ∧ lvV i ≤ 4096 ∧ hg (lvV i) = hvV i := by
 match i, h with
 | 0, _ => decide
 | 1, _ => decide
 | 2, _ => decide
 | 3, _ => decide
 | 4, _ => decide
 | 5, _ => decide
theorem lv_get {i : Nat} (h : i < 6) : ([.v (.int .i64 1), .v (.int .i64 4), .v (.int .i64 5), .v (.int .i64 16), .v (.int .i64 17), .v (.int .i64 4096)] : List D)[i]? = some (.v (nI (lvV i))) := by
 match i, h with
 | 0, _ => rfl
 | 1, _ => rfl
 | 2, _ => rfl
 | 3, _ => rfl
 | 4, _ => rfl
 | 5, _ => rfl
theorem hv_get {i : Nat} (h : i < 6) : ([.v (.int .i64 0), .v (.int .i64 0), .v (.int .i64 1), .v (.int .i64 1), .v (.int .i64 2), .v (.int .i64 5)] : List D)[i]? = some (.v (nI (hvV i))) := by
 match i, h with
 | 0, _ => rfl
 | 1, _ => rfl
 | 2, _ => rfl
 | 3, _ => rfl
 | 4, _ => rfl
 | 5, _ => rfl

theorem place_fn (a b : Int) : Fn Try.prog 27 [.v (.int .i64 (a)), .v (.int .i64 (b))] (.v (aggV [.int .i64 a, .int .i64 b])) := by
 refine Fn.of Try.func27 rfl (by kernel_rfl) Try.ntmps27 (by simp) (fun w => [(0, .v (.int .i64 (a))), (1, .v (.int .i64 (b)))]) (fun w => (Start.v rfl (Start.v rfl Start.nil))) fun w₀ => ?_
 refine GS ?_
 refine TN 0 ?_
 refine RN ?_
 refine ⟨_, _, eff_alloc (n := 8) (d := 4) (k := 1000004) zero45 (by decide), fun b4 hb4 => ?_⟩
 have hBb4 := hb4.1
 refine TL ?_
 refine RN ?_
 refine GS ?_
 refine TF 3 ?_
 refine RM rfl ?_
 refine RM rfl ?_
 refine RS (ok_litS [(0, .int .i64 (a)), (1, .int .i64 (b))] ([.int .i64 (a), .int .i64 (b)]) ⟨rfl, rfl, rfl, rfl, trivial⟩ (buildP _ _)) ?_
 refine RN ?_
 refine ⟨_, eff_storeA (n := 8) (s := 1000004) (size45.of (rfl)) rfl rfl (rfl) hBb4 rfl (rfl) (LV 4 rfl LN), ?_⟩
 refine TL ?_
 refine RN ?_
 refine A.ret ?_
 exact End.cell1 (s := 1000004) rfl Try.underlying45 rfl (size45.of (rfl)) rfl rfl (Le.refl _)
theorem NOf_fn (k : Nat) (hk : k < 65536) : Fn Try.prog 9 [.v (aggV [.int .u16 (k : Int)])] (.v (nI (nn k))) := by
 refine Fn.of Try.func9 rfl (by kernel_rfl) Try.ntmps9 (by simp) (fun w => [(0, .v (aggV [.int .u16 (k : Int)]))]) (fun w => (Start.v rfl Start.nil)) fun w₀ => ?_
 refine GS ?_
 refine TN 0 ?_
 refine RN ?_
 refine ⟨_, _, eff_box (n := 8) (d := 1) (k := 1000001) rfl (by decide), fun b1 hb1 => ?_⟩
 have hBb1 := hb1.1
 refine TL ?_
 refine RA rfl ?_
 refine RN ?_
 refine GS ?_
 refine TL ?_
 refine RS (ok_field field24_0 (by decide) rfl) ?_
 refine RS (ok_loadV (s := 1000001) (by decide) Try.underlying22 rfl rfl rfl (rfl)) ?_
 refine RS (ok_conv Try.underlying22 Try.underlying3 rfl) ?_; refine RZ (nI (k)) (wrap_eq (by omega) (by omega)) ?_
 refine RS (ok_rem rfl rfl (by decide)) ?_; refine RZ (nI (k % 4096)) (by rw [tmod_lit _ (by decide)]; rfl) ?_
 refine RBS rfl rfl rfl (nI (nn k)) (wrap_eq (by unfold nn; omega) (by have := nn2 k; omega)) ?_
 refine RA rfl ?_
 refine RN ?_
 refine A.ret ?_
 exact End.ret1 rfl rfl (by first | exact Le.refl _ | exact Le.old _ _)
theorem rCount_fn (n : Nat) (h1 : 1 ≤ n) (h2 : n ≤ 4096) (l : Nat) (hl : l ≤ hg n) : Fn Try.prog 23 [.v (nI (n)), .v (nI (l))] (.v (nI (un n (l + 1)))) := by
 have hh := hg_le n
 refine Fn.of Try.func23 rfl (by kernel_rfl) Try.ntmps23 (by simp) (fun w => [(0, .v (nI (n))), (1, .v (nI (l)))]) (fun w => (Start.v rfl (Start.v rfl Start.nil))) fun w₀ => ?_
 refine GS ?_
 refine TL ?_
 refine RA rfl ?_
 refine RN ?_
 refine GS ?_
 refine TL ?_
 refine RM rfl ?_
 refine RA rfl ?_
 refine RN ?_
 refine A.seq ?_
 refine GS ?_
 refine TL ?_
 refine RA rfl ?_
 refine RN ?_
 refine A.block ?_
 refine A.loop (ι := Nat) (fun i => i ≤ l + 1) (fun i => [(0, .v (nI (n))), (1, .v (nI (l))), (5, .v (nI (un n i))), (6, .v (nI (i)))]) (fun i => l + 1 - i) 0 ?_ ?_ ?_
 ·exact Nat.zero_le _
 ·exact (KC 0 rfl (KC 1 rfl (KC 5 rfl (KC 6 rfl KN))))
 intro i hi
 have hu0 := un_le h1 (i)
 have hv0 := un_pos h1 (i)
 have hu1 := un_le h1 (i + 1)
 have hv1 := un_pos h1 (i + 1)
 refine A.seq ?_
 refine GS ?_
 refine TL ?_
 refine RM rfl ?_
 refine RM rfl ?_
 refine RB rfl rfl rfl ?_
 refine RN ?_
 refine A.cond rfl (fun hc10 => ?_) (fun hc10 => ?_)
 ·have hlt : i ≤ l := by simp at hc10; omega
  refine A.skip ?_
  refine EN ?_
  refine A.seq ?_
  refine A.block ?_
  refine A.seq ?_
  by_cases hi0 : 0 < i
  ·refine GS ?_
   refine TL ?_
   refine RM rfl ?_
   refine RBS rfl rfl rfl (.bool true) (by first | rfl | (simp; done) | (simp; omega) | (simp [*]; done) | (simp [*]; omega)) ?_
   refine RM rfl ?_
   refine RQ (ok_move rfl) ?_
   refine RQ (ok_bin rfl rfl rfl) ?_; refine RZ (.bool false) (by have := un_big (n := n) (k := i) (by omega) (by omega); simp; omega) ?_
   refine RP rfl rfl ?_
   refine RN ?_
   refine A.no rfl ?_
   refine A.skip ?_
   refine EN ?_
   refine GE ?_
   refine TL ?_
   refine RM rfl ?_
   refine RBS rfl rfl rfl (nI (un n i + 3)) (wrap_eq (by omega) (by omega)) ?_
   refine RS (ok_div rfl rfl (by decide)) ?_; refine RZ (nI (un n (i + 1))) (by rw [tdiv_lit _ (by decide)]; exact wrap_eq rfl (by omega)) ?_
   refine RA rfl ?_
   refine RN ?_
   refine End.normal_block ?_
   refine EN ?_
   refine GE ?_
   refine TL ?_
   refine RM rfl ?_
   refine RBS rfl rfl rfl (nI (i + 1)) (wrap_eq (by omega) (by omega)) ?_
   refine RA rfl ?_
   refine RN ?_
   refine End.normal_then ?_
   refine End.again (i + 1) ?_ ?_ ?_
   ·show _ ≤ _; omega
   ·show _ - _ < _ - _; omega
   ·exact (KC 0 rfl (KC 1 rfl (KC 5 rfl (KC 6 rfl KN))))
  ·refine GS ?_
   refine TL ?_
   refine RM rfl ?_
   refine RBS rfl rfl rfl (.bool false) (by first | rfl | (simp; done) | (simp; omega) | (simp [*]; done) | (simp [*]; omega)) ?_
   refine RM rfl ?_
   refine RK ?_
   refine RK ?_
   refine RP rfl rfl ?_
   refine RN ?_
   refine A.no rfl ?_
   refine A.skip ?_
   refine EN ?_
   refine GE ?_
   refine TL ?_
   refine RM rfl ?_
   refine RBS rfl rfl rfl (nI (un n i + 3)) (wrap_eq (by omega) (by omega)) ?_
   refine RS (ok_div rfl rfl (by decide)) ?_; refine RZ (nI (un n (i + 1))) (by rw [tdiv_lit _ (by decide)]; exact wrap_eq rfl (by omega)) ?_
   refine RA rfl ?_
   refine RN ?_
   refine End.normal_block ?_
   refine EN ?_
   refine GE ?_
   refine TL ?_
   refine RM rfl ?_
   refine RBS rfl rfl rfl (nI (i + 1)) (wrap_eq (by omega) (by omega)) ?_
   refine RA rfl ?_
   refine RN ?_
   refine End.normal_then ?_
   refine End.again (i + 1) ?_ ?_ ?_
   ·show _ ≤ _; omega
   ·show _ - _ < _ - _; omega
   ·exact (KC 0 rfl (KC 1 rfl (KC 5 rfl (KC 6 rfl KN))))
 ·have hie : i = l + 1 := by simp at hc10; omega
  refine A.exit ?_
  refine End.exit_then ?_
  refine End.exit_then ?_
  refine End.exit_here ?_
  refine EN ?_
  refine GS ?_
  refine TL ?_
  refine RM rfl ?_; refine RZ (nI (un n (l + 1))) (by rw [hie]) ?_
  refine RA rfl ?_
  refine RN ?_
  refine A.ret ?_
  exact End.ret1 rfl rfl (by first | exact Le.refl _ | exact Le.old _ _)
theorem rHeight_fn (n : Nat) (h1 : 1 ≤ n) (h2 : n ≤ 4096)  : Fn Try.prog 21 [.v (nI (n))] (.v (nI (hg n))) := by
 have hh := hg_le n
 refine Fn.of Try.func21 rfl (by kernel_rfl) Try.ntmps21 (by simp) (fun w => [(0, .v (nI (n)))]) (fun w => (Start.v rfl Start.nil)) fun w₀ => ?_
 refine GS ?_
 refine TL ?_
 refine RA rfl ?_
 refine RN ?_
 refine GS ?_
 refine TL ?_
 refine RA rfl ?_
 refine RN ?_
 refine A.seq ?_
 refine A.block ?_
 refine A.loop (ι := Nat) (fun h => h ≤ hg n) (fun h => [(0, .v (nI (n))), (3, .v (nI (h)))]) (fun h => hg n - h) 0 ?_ ?_ ?_
 ·exact Nat.zero_le _
 ·exact (KC 0 rfl (KC 3 rfl KN))
 intro h hle
 refine A.seq ?_
 refine GS ?_
 refine TL ?_
 refine RM rfl ?_
 refine RM rfl ?_
 refine RS (ok_call (rCount_fn n h1 h2 h hle) (A2 rfl rfl)) ?_
 refine RB rfl rfl rfl ?_
 refine RN ?_
 refine A.cond rfl (fun hc7 => ?_) (fun hc7 => ?_)
 ·have hlt : h < hg n := by
   have h3 := un_root h1 h2
   have h4 : un n (h + 1) ≠ 1 := by simp at hc7; omega
   rcases Nat.lt_or_ge h (hg n) with h5 | h5
   ·exact h5
   ·obtain rfl : h = hg n := by omega
    exact absurd h3 h4
  refine A.skip ?_
  refine EN ?_
  refine A.block ?_
  refine GE ?_
  refine TL ?_
  refine RM rfl ?_
  refine RBS rfl rfl rfl (nI (h + 1)) (wrap_eq (by omega) (by omega)) ?_
  refine RA rfl ?_
  refine RN ?_
  refine End.normal_block ?_
  refine End.normal_then ?_
  refine End.again (h + 1) ?_ ?_ ?_
  ·show _ ≤ _; omega
  ·show _ - _ < _ - _; omega
  ·exact (KC 0 rfl (KC 3 rfl KN))
 ·have hie : h = hg n := un_one hle (by simp at hc7; omega)
  refine A.exit ?_
  refine End.exit_then ?_
  refine End.exit_then ?_
  refine End.exit_here ?_
  refine EN ?_
  refine GS ?_
  refine TL ?_
  refine RM rfl ?_; refine RZ (nI (hg n)) (by rw [hie]) ?_
  refine RA rfl ?_
  refine RN ?_
  refine A.ret ?_
  exact End.ret1 rfl rfl (by first | exact Le.refl _ | exact Le.old _ _)
theorem rIs_y (n : Nat) (h1 : 1 ≤ n) (h2 : n ≤ 4096) (l j : Nat) (hl : l ≤ hg n) (hj : j < un n (l + 1))  : Fn Try.prog 16 [.v (nI (n)), .v (nI (l)), .v (nI (j))] (.v (.bool true)) := by
 have hh := hg_le n
 refine Fn.of Try.func16 rfl (by kernel_rfl) Try.ntmps16 (by simp) (fun w => [(0, .v (nI (n))), (1, .v (nI (l))), (2, .v (nI (j)))]) (fun w => (Start.v rfl (Start.v rfl (Start.v rfl Start.nil)))) fun w₀ => ?_
 refine GS ?_
 refine TL ?_
 refine RA rfl ?_
 refine RN ?_
 refine GS ?_
 refine TL ?_
 refine RM rfl ?_
 refine RBS rfl rfl rfl (.bool true) (by first | rfl | (simp; done) | (simp; omega) | (simp [*]; done) | (simp [*]; omega)) ?_
 refine RM rfl ?_
 refine RQ (ok_move rfl) ?_
 refine RQ (ok_move rfl) ?_
 refine RQ (ok_call (rHeight_fn n h1 h2) (A1 rfl)) ?_
 refine RQ (ok_bin rfl rfl rfl) ?_; refine RZ (.bool true) (by first | rfl | (simp; done) | (simp; omega) | (simp [*]; done) | (simp [*]; omega)) ?_
 refine RP rfl rfl ?_
 refine RM rfl ?_
 refine RQ (ok_move rfl) ?_
 refine RQ (ok_bin rfl rfl rfl) ?_; refine RZ (.bool true) (by first | rfl | (simp; done) | (simp; omega) | (simp [*]; done) | (simp [*]; omega)) ?_
 refine RP rfl rfl ?_
 refine RM rfl ?_
 refine RQ (ok_move rfl) ?_
 refine RQ (ok_move rfl) ?_
 refine RQ (ok_move rfl) ?_
 refine RQ (ok_call (rCount_fn n h1 h2 l hl) (A2 rfl rfl)) ?_
 refine RQ (ok_bin rfl rfl rfl) ?_; refine RZ (.bool true) (by first | rfl | (simp; done) | (simp; omega) | (simp [*]; done) | (simp [*]; omega)) ?_
 refine RP rfl rfl ?_
 refine RA rfl ?_
 refine RN ?_
 refine A.ret ?_
 exact End.ret1 rfl rfl (by first | exact Le.refl _ | exact Le.old _ _)
theorem rIs_1 (n : Nat) (h1 : 1 ≤ n) (h2 : n ≤ 4096) (l j : Int) (h : ¬ 0 ≤ l) : Fn Try.prog 16 [.v (nI (n)), .v (.int .i64 (l)), .v (.int .i64 (j))] (.v (.bool false)) := by
 refine Fn.of Try.func16 rfl (by kernel_rfl) Try.ntmps16 (by simp) (fun w => [(0, .v (nI (n))), (1, .v (.int .i64 (l))), (2, .v (.int .i64 (j)))]) (fun w => (Start.v rfl (Start.v rfl (Start.v rfl Start.nil)))) fun w₀ => ?_
 refine GS ?_
 refine TL ?_
 refine RA rfl ?_
 refine RN ?_
 refine GS ?_
 refine TL ?_
 refine RM rfl ?_
 refine RBS rfl rfl rfl (.bool false) (by first | rfl | (simp; done) | (simp; omega) | (simp [*]; done) | (simp [*]; omega)) ?_
 refine RM rfl ?_
 refine RK ?_
 refine RK ?_
 refine RK ?_
 refine RK ?_
 refine RP rfl rfl ?_
 refine RM rfl ?_
 refine RK ?_
 refine RK ?_
 refine RP rfl rfl ?_
 refine RM rfl ?_
 refine RK ?_
 refine RK ?_
 refine RK ?_
 refine RK ?_
 refine RK ?_
 refine RP rfl rfl ?_
 refine RA rfl ?_
 refine RN ?_
 refine A.ret ?_
 exact End.ret1 rfl rfl (by first | exact Le.refl _ | exact Le.old _ _)
theorem rIs_2 (n : Nat) (h1 : 1 ≤ n) (h2 : n ≤ 4096) (l j : Int) (h : 0 ≤ l) (h' : ¬ l ≤ hg n) : Fn Try.prog 16 [.v (nI (n)), .v (.int .i64 (l)), .v (.int .i64 (j))] (.v (.bool false)) := by
 refine Fn.of Try.func16 rfl (by kernel_rfl) Try.ntmps16 (by simp) (fun w => [(0, .v (nI (n))), (1, .v (.int .i64 (l))), (2, .v (.int .i64 (j)))]) (fun w => (Start.v rfl (Start.v rfl (Start.v rfl Start.nil)))) fun w₀ => ?_
 refine GS ?_
 refine TL ?_
 refine RA rfl ?_
 refine RN ?_
 refine GS ?_
 refine TL ?_
 refine RM rfl ?_
 refine RBS rfl rfl rfl (.bool true) (by first | rfl | (simp; done) | (simp; omega) | (simp [*]; done) | (simp [*]; omega)) ?_
 refine RM rfl ?_
 refine RQ (ok_move rfl) ?_
 refine RQ (ok_move rfl) ?_
 refine RQ (ok_call (rHeight_fn n h1 h2) (A1 rfl)) ?_
 refine RQ (ok_bin rfl rfl rfl) ?_; refine RZ (.bool false) (by first | rfl | (simp; done) | (simp; omega) | (simp [*]; done) | (simp [*]; omega)) ?_
 refine RP rfl rfl ?_
 refine RM rfl ?_
 refine RK ?_
 refine RK ?_
 refine RP rfl rfl ?_
 refine RM rfl ?_
 refine RK ?_
 refine RK ?_
 refine RK ?_
 refine RK ?_
 refine RK ?_
 refine RP rfl rfl ?_
 refine RA rfl ?_
 refine RN ?_
 refine A.ret ?_
 exact End.ret1 rfl rfl (by first | exact Le.refl _ | exact Le.old _ _)
theorem rIs_3 (n : Nat) (h1 : 1 ≤ n) (h2 : n ≤ 4096) (l : Nat) (j : Int) (hl : l ≤ hg n) (h : ¬ 0 ≤ j) : Fn Try.prog 16 [.v (nI (n)), .v (nI (l)), .v (.int .i64 (j))] (.v (.bool false)) := by
 refine Fn.of Try.func16 rfl (by kernel_rfl) Try.ntmps16 (by simp) (fun w => [(0, .v (nI (n))), (1, .v (nI (l))), (2, .v (.int .i64 (j)))]) (fun w => (Start.v rfl (Start.v rfl (Start.v rfl Start.nil)))) fun w₀ => ?_
 refine GS ?_
 refine TL ?_
 refine RA rfl ?_
 refine RN ?_
 refine GS ?_
 refine TL ?_
 refine RM rfl ?_
 refine RBS rfl rfl rfl (.bool true) (by first | rfl | (simp; done) | (simp; omega) | (simp [*]; done) | (simp [*]; omega)) ?_
 refine RM rfl ?_
 refine RQ (ok_move rfl) ?_
 refine RQ (ok_move rfl) ?_
 refine RQ (ok_call (rHeight_fn n h1 h2) (A1 rfl)) ?_
 refine RQ (ok_bin rfl rfl rfl) ?_; refine RZ (.bool true) (by first | rfl | (simp; done) | (simp; omega) | (simp [*]; done) | (simp [*]; omega)) ?_
 refine RP rfl rfl ?_
 refine RM rfl ?_
 refine RQ (ok_move rfl) ?_
 refine RQ (ok_bin rfl rfl rfl) ?_; refine RZ (.bool false) (by first | rfl | (simp; done) | (simp; omega) | (simp [*]; done) | (simp [*]; omega)) ?_
 refine RP rfl rfl ?_
 refine RM rfl ?_
 refine RK ?_
 refine RK ?_
 refine RK ?_
 refine RK ?_
 refine RK ?_
 refine RP rfl rfl ?_
 refine RA rfl ?_
 refine RN ?_
 refine A.ret ?_
 exact End.ret1 rfl rfl (by first | exact Le.refl _ | exact Le.old _ _)
theorem rIs_4 (n : Nat) (h1 : 1 ≤ n) (h2 : n ≤ 4096) (l j : Nat) (hl : l ≤ hg n) (h : ¬ j < un n (l + 1)) : Fn Try.prog 16 [.v (nI (n)), .v (nI (l)), .v (nI (j))] (.v (.bool false)) := by
 refine Fn.of Try.func16 rfl (by kernel_rfl) Try.ntmps16 (by simp) (fun w => [(0, .v (nI (n))), (1, .v (nI (l))), (2, .v (nI (j)))]) (fun w => (Start.v rfl (Start.v rfl (Start.v rfl Start.nil)))) fun w₀ => ?_
 refine GS ?_
 refine TL ?_
 refine RA rfl ?_
 refine RN ?_
 refine GS ?_
 refine TL ?_
 refine RM rfl ?_
 refine RBS rfl rfl rfl (.bool true) (by first | rfl | (simp; done) | (simp; omega) | (simp [*]; done) | (simp [*]; omega)) ?_
 refine RM rfl ?_
 refine RQ (ok_move rfl) ?_
 refine RQ (ok_move rfl) ?_
 refine RQ (ok_call (rHeight_fn n h1 h2) (A1 rfl)) ?_
 refine RQ (ok_bin rfl rfl rfl) ?_; refine RZ (.bool true) (by first | rfl | (simp; done) | (simp; omega) | (simp [*]; done) | (simp [*]; omega)) ?_
 refine RP rfl rfl ?_
 refine RM rfl ?_
 refine RQ (ok_move rfl) ?_
 refine RQ (ok_bin rfl rfl rfl) ?_; refine RZ (.bool true) (by first | rfl | (simp; done) | (simp; omega) | (simp [*]; done) | (simp [*]; omega)) ?_
 refine RP rfl rfl ?_
 refine RM rfl ?_
 refine RQ (ok_move rfl) ?_
 refine RQ (ok_move rfl) ?_
 refine RQ (ok_move rfl) ?_
 refine RQ (ok_call (rCount_fn n h1 h2 l hl) (A2 rfl rfl)) ?_
 refine RQ (ok_bin rfl rfl rfl) ?_; refine RZ (.bool false) (by first | rfl | (simp; done) | (simp; omega) | (simp [*]; done) | (simp [*]; omega)) ?_
 refine RP rfl rfl ?_
 refine RA rfl ?_
 refine RN ?_
 refine A.ret ?_
 exact End.ret1 rfl rfl (by first | exact Le.refl _ | exact Le.old _ _)
theorem rIs_n (n : Nat) (h1 : 1 ≤ n) (h2 : n ≤ 4096) (l j : Int) (h : ¬ IsP n l j) : Fn Try.prog 16 [.v (nI (n)), .v (.int .i64 (l)), .v (.int .i64 (j))] (.v (.bool false)) := by
 by_cases hl : 0 ≤ l
 ·by_cases hl' : l ≤ hg n
  ·obtain ⟨a, rfl⟩ : ∃ a : Nat, l = (a : Int) := ⟨l.toNat, by omega⟩
   by_cases hj : 0 ≤ j
   ·obtain ⟨b, rfl⟩ : ∃ b : Nat, j = (b : Int) := ⟨j.toNat, by omega⟩
    exact rIs_4 n h1 h2 a b (by omega) fun hb => h ⟨a, b, rfl, rfl, by omega, hb⟩
   ·exact rIs_3 n h1 h2 a j (by omega) hj
  ·exact rIs_2 n h1 h2 l j hl hl'
 ·exact rIs_1 n h1 h2 l j hl
theorem rParts_fn (n : Nat) (h1 : 1 ≤ n) (h2 : n ≤ 4096) (l j : Nat) (hl : l ≤ hg n) (hj : j < un n (l + 1))  : Fn Try.prog 25 [.v (nI (n)), .v (nI (l)), .v (nI (j))] (.v (nI (pts n l j))) := by
 have hu0 := un_le h1 (l)
 have hv0 := un_pos h1 (l)
 have hu1 := un_le h1 (l + 1)
 have hv1 := un_pos h1 (l + 1)
 have hh := hg_le n
 have hp := pts_pos hj
 refine Fn.of Try.func25 rfl (by kernel_rfl) Try.ntmps25 (by simp) (fun w => [(0, .v (nI (n))), (1, .v (nI (l))), (2, .v (nI (j)))]) (fun w => (Start.v rfl (Start.v rfl (Start.v rfl Start.nil)))) fun w₀ => ?_
 refine GS ?_
 refine TL ?_
 refine RA rfl ?_
 refine RN ?_
 refine GS ?_
 refine TL ?_
 refine RM rfl ?_
 refine RA rfl ?_
 refine RN ?_
 refine A.seq ?_
 refine GS ?_
 refine TL ?_
 refine RM rfl ?_
 refine RB rfl rfl rfl ?_
 refine RN ?_
 refine A.cond rfl (fun hc12 => ?_) (fun hc12 => ?_)
 ·have hl0 : 0 < l := by simp at hc12; omega
  refine GE ?_
  refine TL ?_
  refine RM rfl ?_
  refine RM rfl ?_
  refine RBS rfl rfl rfl (nI (l - 1)) (wrap_eq (by omega) (by omega)) ?_
  refine RS (ok_call (rCount_fn n h1 h2 (l - 1) (by omega)) (A2 rfl rfl)) ?_; refine RZ (nI (un n l)) (by rw [show l - 1 + 1 = l from by omega]) ?_
  refine RA rfl ?_
  refine RN ?_
  refine EN ?_
  refine GS ?_
  refine TL ?_
  refine RA rfl ?_
  refine RN ?_
  refine A.seq ?_
  refine GS ?_
  refine TL ?_
  refine RA rfl ?_
  refine RN ?_
  refine A.block ?_
  refine A.loop (ι := Nat) (fun i => i ≤ 4) (fun i => [(2, .v (nI (j))), (7, .v (nI (un n l))), (8, .v (nI (min (un n l - 4 * j) (i)))), (9, .v (nI (i)))]) (fun i => 4 - i) 0 ?_ ?_ ?_
  ·exact Nat.zero_le _
  ·exact (KC 2 rfl (KE 7 rfl (by first | rfl | (rw [hl0]; rfl)) (KE 8 rfl (congrArg (fun z : Int => D.v (.int .i64 z)) (show (0 : Int) = _ by omega)) (KC 9 rfl KN))))
  intro i hi
  refine A.seq ?_
  refine GS ?_
  refine TL ?_
  refine RM rfl ?_
  refine RB rfl rfl rfl ?_
  refine RN ?_
  refine A.cond rfl (fun hc18 => ?_) (fun hc18 => ?_)
  ·have hlt : i < 4 := by simp at hc18; omega
   refine A.skip ?_
   refine EN ?_
   refine A.seq ?_
   refine A.block ?_
   refine GS ?_
   refine TL ?_
   refine RM rfl ?_
   refine RBS rfl rfl rfl (nI (4 * j)) (wrap_eq (by omega) (by omega)) ?_
   refine RM rfl ?_
   refine RBS rfl rfl rfl (nI (4 * j + i)) (wrap_eq (by omega) (by omega)) ?_
   refine RM rfl ?_
   refine RB rfl rfl rfl ?_
   refine RN ?_
   refine A.cond rfl (fun hc26 => ?_) (fun hc26 => ?_)
   ·have hin : 4 * j + i < un n l := by simp at hc26; omega
    refine GE ?_
    refine TL ?_
    refine RM rfl ?_
    refine RBS rfl rfl rfl (nI (min (un n l - 4 * j) (i + 1))) (wrap_eq (by omega) (by omega)) ?_
    refine RA rfl ?_
    refine RN ?_
    refine End.normal_block ?_
    refine EN ?_
    refine GE ?_
    refine TL ?_
    refine RM rfl ?_
    refine RBS rfl rfl rfl (nI (i + 1)) (wrap_eq (by omega) (by omega)) ?_
    refine RA rfl ?_
    refine RN ?_
    refine End.normal_then ?_
    refine End.again (i + 1) ?_ ?_ ?_
    ·show _ ≤ _; omega
    ·show _ - _ < _ - _; omega
    ·exact (KC 2 rfl (KC 7 rfl (KE 8 rfl (by first | rfl | exact congrArg (fun z : Int => D.v (.int .i64 z)) (by omega)) (KC 9 rfl KN))))
   ·have hin : ¬ 4 * j + i < un n l := by simp at hc26; omega
    refine A.skip ?_
    refine End.normal_block ?_
    refine EN ?_
    refine GE ?_
    refine TL ?_
    refine RM rfl ?_
    refine RBS rfl rfl rfl (nI (i + 1)) (wrap_eq (by omega) (by omega)) ?_
    refine RA rfl ?_
    refine RN ?_
    refine End.normal_then ?_
    refine End.again (i + 1) ?_ ?_ ?_
    ·show _ ≤ _; omega
    ·show _ - _ < _ - _; omega
    ·exact (KC 2 rfl (KC 7 rfl (KE 8 rfl (by first | rfl | exact congrArg (fun z : Int => D.v (.int .i64 z)) (by omega)) (KC 9 rfl KN))))
  ·have hie : i = 4 := by simp at hc18; omega
   refine A.exit ?_
   refine End.exit_then ?_
   refine End.exit_then ?_
   refine End.exit_here ?_
   refine EN ?_
   refine GS ?_
   refine TL ?_
   refine RM rfl ?_; refine RZ (nI (pts n l j)) (congrArg (Value.int .i64) (by unfold pts; omega)) ?_
   refine RA rfl ?_
   refine RN ?_
   refine A.ret ?_
   exact End.ret1 rfl rfl (by first | exact Le.refl _ | exact Le.old _ _)
 ·have hl0 : l = 0 := by simp at hc12; omega
  refine A.skip ?_
  refine EN ?_
  refine GS ?_
  refine TL ?_
  refine RA rfl ?_
  refine RN ?_
  refine A.seq ?_
  refine GS ?_
  refine TL ?_
  refine RA rfl ?_
  refine RN ?_
  refine A.block ?_
  refine A.loop (ι := Nat) (fun i => i ≤ 4) (fun i => [(2, .v (nI (j))), (7, .v (nI (un n l))), (8, .v (nI (min (un n l - 4 * j) (i)))), (9, .v (nI (i)))]) (fun i => 4 - i) 0 ?_ ?_ ?_
  ·exact Nat.zero_le _
  ·exact (KC 2 rfl (KE 7 rfl (by first | rfl | (rw [hl0]; rfl)) (KE 8 rfl (congrArg (fun z : Int => D.v (.int .i64 z)) (show (0 : Int) = _ by omega)) (KC 9 rfl KN))))
  intro i hi
  refine A.seq ?_
  refine GS ?_
  refine TL ?_
  refine RM rfl ?_
  refine RB rfl rfl rfl ?_
  refine RN ?_
  refine A.cond rfl (fun hc18 => ?_) (fun hc18 => ?_)
  ·have hlt : i < 4 := by simp at hc18; omega
   refine A.skip ?_
   refine EN ?_
   refine A.seq ?_
   refine A.block ?_
   refine GS ?_
   refine TL ?_
   refine RM rfl ?_
   refine RBS rfl rfl rfl (nI (4 * j)) (wrap_eq (by omega) (by omega)) ?_
   refine RM rfl ?_
   refine RBS rfl rfl rfl (nI (4 * j + i)) (wrap_eq (by omega) (by omega)) ?_
   refine RM rfl ?_
   refine RB rfl rfl rfl ?_
   refine RN ?_
   refine A.cond rfl (fun hc26 => ?_) (fun hc26 => ?_)
   ·have hin : 4 * j + i < un n l := by simp at hc26; omega
    refine GE ?_
    refine TL ?_
    refine RM rfl ?_
    refine RBS rfl rfl rfl (nI (min (un n l - 4 * j) (i + 1))) (wrap_eq (by omega) (by omega)) ?_
    refine RA rfl ?_
    refine RN ?_
    refine End.normal_block ?_
    refine EN ?_
    refine GE ?_
    refine TL ?_
    refine RM rfl ?_
    refine RBS rfl rfl rfl (nI (i + 1)) (wrap_eq (by omega) (by omega)) ?_
    refine RA rfl ?_
    refine RN ?_
    refine End.normal_then ?_
    refine End.again (i + 1) ?_ ?_ ?_
    ·show _ ≤ _; omega
    ·show _ - _ < _ - _; omega
    ·exact (KC 2 rfl (KC 7 rfl (KE 8 rfl (by first | rfl | exact congrArg (fun z : Int => D.v (.int .i64 z)) (by omega)) (KC 9 rfl KN))))
   ·have hin : ¬ 4 * j + i < un n l := by simp at hc26; omega
    refine A.skip ?_
    refine End.normal_block ?_
    refine EN ?_
    refine GE ?_
    refine TL ?_
    refine RM rfl ?_
    refine RBS rfl rfl rfl (nI (i + 1)) (wrap_eq (by omega) (by omega)) ?_
    refine RA rfl ?_
    refine RN ?_
    refine End.normal_then ?_
    refine End.again (i + 1) ?_ ?_ ?_
    ·show _ ≤ _; omega
    ·show _ - _ < _ - _; omega
    ·exact (KC 2 rfl (KC 7 rfl (KE 8 rfl (by first | rfl | exact congrArg (fun z : Int => D.v (.int .i64 z)) (by omega)) (KC 9 rfl KN))))
  ·have hie : i = 4 := by simp at hc18; omega
   refine A.exit ?_
   refine End.exit_then ?_
   refine End.exit_then ?_
   refine End.exit_here ?_
   refine EN ?_
   refine GS ?_
   refine TL ?_
   refine RM rfl ?_; refine RZ (nI (pts n l j)) (congrArg (Value.int .i64) (by unfold pts; omega)) ?_
   refine RA rfl ?_
   refine RN ?_
   refine A.ret ?_
   exact End.ret1 rfl rfl (by first | exact Le.refl _ | exact Le.old _ _)
theorem rBase_fn (n : Nat) (h1 : 1 ≤ n) (h2 : n ≤ 4096) (l : Nat) (hl : l ≤ hg n + 1) : Fn Try.prog 36 [.v (nI (n)), .v (nI (l))] (.v (nI (bs n l))) := by
 have hh := hg_le n
 refine Fn.of Try.func36 rfl (by kernel_rfl) Try.ntmps36 (by simp) (fun w => [(0, .v (nI (n))), (1, .v (nI (l)))]) (fun w => (Start.v rfl (Start.v rfl Start.nil))) fun w₀ => ?_
 refine GS ?_
 refine TL ?_
 refine RA rfl ?_
 refine RN ?_
 refine GS ?_
 refine TL ?_
 refine RM rfl ?_
 refine RBS rfl rfl rfl (nI (bs n 0)) (wrap_eq (by rw [bs_zero]; omega) (by rw [bs_zero]; omega)) ?_
 refine RA rfl ?_
 refine RN ?_
 refine A.seq ?_
 refine GS ?_
 refine TL ?_
 refine RA rfl ?_
 refine RN ?_
 refine A.block ?_
 refine A.loop (ι := Nat) (fun i => i ≤ l) (fun i => [(0, .v (nI (n))), (1, .v (nI (l))), (5, .v (nI (bs n i))), (6, .v (nI (i)))]) (fun i => l - i) 0 ?_ ?_ ?_
 ·exact Nat.zero_le _
 ·exact (KC 0 rfl (KC 1 rfl (KC 5 rfl (KC 6 rfl KN))))
 intro i hi
 have hu0 := un_le h1 (i + 1)
 have hv0 := un_pos h1 (i + 1)
 refine A.seq ?_
 refine GS ?_
 refine TL ?_
 refine RM rfl ?_
 refine RM rfl ?_
 refine RB rfl rfl rfl ?_
 refine RN ?_
 refine A.cond rfl (fun hc11 => ?_) (fun hc11 => ?_)
 ·have hlt : i < l := by simp at hc11; omega
  refine A.skip ?_
  refine EN ?_
  refine A.seq ?_
  refine A.block ?_
  refine GE ?_
  refine TL ?_
  refine RM rfl ?_
  refine RM rfl ?_
  refine RM rfl ?_
  refine RS (ok_call (rCount_fn n h1 h2 i (by omega)) (A2 rfl rfl)) ?_
  refine RBS rfl rfl rfl (nI (2 * un n (i + 1))) (wrap_eq (by omega) (by omega)) ?_
  refine RBS rfl rfl rfl (nI (bs n (i + 1))) (wrap_eq (by rw [bs_succ]; omega) (by have := bs_small h1 h2 (l := i + 1) (by omega); omega)) ?_
  refine RA rfl ?_
  refine RN ?_
  refine End.normal_block ?_
  refine EN ?_
  refine GE ?_
  refine TL ?_
  refine RM rfl ?_
  refine RBS rfl rfl rfl (nI (i + 1)) (wrap_eq (by omega) (by omega)) ?_
  refine RA rfl ?_
  refine RN ?_
  refine End.normal_then ?_
  refine End.again (i + 1) ?_ ?_ ?_
  ·show _ ≤ _; omega
  ·show _ - _ < _ - _; omega
  ·exact (KC 0 rfl (KC 1 rfl (KC 5 rfl (KC 6 rfl KN))))
 ·obtain rfl : i = l := by simp at hc11; omega
  refine A.exit ?_
  refine End.exit_then ?_
  refine End.exit_then ?_
  refine End.exit_here ?_
  refine EN ?_
  refine GS ?_
  refine TL ?_
  refine RM rfl ?_
  refine RA rfl ?_
  refine RN ?_
  refine A.ret ?_
  exact End.ret1 rfl rfl (by first | exact Le.refl _ | exact Le.old _ _)
theorem rNode_fn (n : Nat) (h1 : 1 ≤ n) (h2 : n ≤ 4096) (l j : Nat) (hl : l ≤ hg n) (hj : j < un n (l + 1)) (s : Nat) (hs : s < 2) : Fn Try.prog 17 [.v (nI (n)), .v (nI (l)), .v (nI (j)), .v (nI (s))] (.v (nI (bs n l + 2 * j + s))) := by
 have hu0 := un_le h1 (l + 1)
 have hv0 := un_pos h1 (l + 1)
 have hh := hg_le n
 have hb := bs_small h1 h2 (l := l) (by omega)
 refine Fn.of Try.func17 rfl (by kernel_rfl) Try.ntmps17 (by simp) (fun w => [(0, .v (nI (n))), (1, .v (nI (l))), (2, .v (nI (j))), (3, .v (nI (s)))]) (fun w => (Start.v rfl (Start.v rfl (Start.v rfl (Start.v rfl Start.nil))))) fun w₀ => ?_
 refine GS ?_
 refine TL ?_
 refine RA rfl ?_
 refine RN ?_
 refine GS ?_
 refine TL ?_
 refine RM rfl ?_
 refine RM rfl ?_
 refine RS (ok_call (rBase_fn n h1 h2 l (by omega)) (A2 rfl rfl)) ?_
 refine RM rfl ?_
 refine RBS rfl rfl rfl (nI (2 * j)) (wrap_eq (by omega) (by omega)) ?_
 refine RBS rfl rfl rfl (nI (bs n l + 2 * j)) (wrap_eq (by omega) (by omega)) ?_
 refine RM rfl ?_
 refine RBS rfl rfl rfl (nI (bs n l + 2 * j + s)) (wrap_eq (by omega) (by omega)) ?_
 refine RA rfl ?_
 refine RN ?_
 refine A.ret ?_
 exact End.ret1 rfl rfl (by first | exact Le.refl _ | exact Le.old _ _)
theorem rData_fn (x s : Nat) (hx : x < 4096) (hs : s < 2) : Fn Try.prog 14 [.v (nI (x)), .v (nI (s))] (.v (nI (2 * x + s))) := by
 refine Fn.of Try.func14 rfl (by kernel_rfl) Try.ntmps14 (by simp) (fun w => [(0, .v (nI (x))), (1, .v (nI (s)))]) (fun w => (Start.v rfl (Start.v rfl Start.nil))) fun w₀ => ?_
 refine GS ?_
 refine TL ?_
 refine RA rfl ?_
 refine RN ?_
 refine GS ?_
 refine TL ?_
 refine RM rfl ?_
 refine RBS rfl rfl rfl (nI (2 * x)) (wrap_eq (by omega) (by omega)) ?_
 refine RM rfl ?_
 refine RBS rfl rfl rfl (nI (2 * x + s)) (wrap_eq (by omega) (by omega)) ?_
 refine RA rfl ?_
 refine RN ?_
 refine A.ret ?_
 exact End.ret1 rfl rfl (by first | exact Le.refl _ | exact Le.old _ _)
theorem rSectors_fn (n : Nat) (h1 : 1 ≤ n) (h2 : n ≤ 4096)  : Fn Try.prog 11 [.v (nI (n))] (.v (nI (bs n (hg n + 1)))) := by
 have hh := hg_le n
 refine Fn.of Try.func11 rfl (by kernel_rfl) Try.ntmps11 (by simp) (fun w => [(0, .v (nI (n)))]) (fun w => (Start.v rfl Start.nil)) fun w₀ => ?_
 refine GS ?_
 refine TL ?_
 refine RA rfl ?_
 refine RN ?_
 refine GS ?_
 refine TL ?_
 refine RM rfl ?_
 refine RM rfl ?_
 refine RS (ok_call (rHeight_fn n h1 h2) (A1 rfl)) ?_
 refine RBS rfl rfl rfl (nI (hg n + 1)) (wrap_eq (by omega) (by omega)) ?_
 refine RS (ok_call (rBase_fn n h1 h2 (hg n + 1) (Nat.le_refl _)) (A2 rfl rfl)) ?_
 refine RA rfl ?_
 refine RN ?_
 refine A.ret ?_
 exact End.ret1 rfl rfl (by first | exact Le.refl _ | exact Le.old _ _)
theorem rIndex_fn (x l : Nat) (hx : x < 4096) (hl : l ≤ 5) : Fn Try.prog 33 [.v (nI (x)), .v (nI (l))] (.v (nI (x / 4 ^ (l + 1)))) := by
 refine Fn.of Try.func33 rfl (by kernel_rfl) Try.ntmps33 (by simp) (fun w => [(0, .v (nI (x))), (1, .v (nI (l)))]) (fun w => (Start.v rfl (Start.v rfl Start.nil))) fun w₀ => ?_
 refine GS ?_
 refine TL ?_
 refine RA rfl ?_
 refine RN ?_
 refine GS ?_
 refine TL ?_
 refine RM rfl ?_
 refine RS (ok_div rfl rfl (by decide)) ?_; refine RZ (nI (x / 4 ^ (0 + 1))) (by rw [tdiv_lit _ (by decide)]; exact wrap_eq (by simp) (by omega)) ?_
 refine RA rfl ?_
 refine RN ?_
 refine A.seq ?_
 refine GS ?_
 refine TL ?_
 refine RA rfl ?_
 refine RN ?_
 refine A.block ?_
 refine A.loop (ι := Nat) (fun i => i ≤ l) (fun i => [(1, .v (nI (l))), (5, .v (nI (x / 4 ^ (i + 1)))), (6, .v (nI (i)))]) (fun i => l - i) 0 ?_ ?_ ?_
 ·exact Nat.zero_le _
 ·exact (KC 1 rfl (KC 5 rfl (KC 6 rfl KN)))
 intro i hi
 refine A.seq ?_
 refine GS ?_
 refine TL ?_
 refine RM rfl ?_
 refine RM rfl ?_
 refine RB rfl rfl rfl ?_
 refine RN ?_
 refine A.cond rfl (fun hc11 => ?_) (fun hc11 => ?_)
 ·have hlt : i < l := by simp at hc11; omega
  refine A.skip ?_
  refine EN ?_
  refine A.seq ?_
  refine A.block ?_
  refine GE ?_
  refine TL ?_
  refine RM rfl ?_
  refine RS (ok_div rfl rfl (by decide)) ?_; refine RZ (nI (x / 4 ^ (i + 1 + 1))) (by rw [tdiv_lit _ (by decide), show Int.toNat 4 = 4 from rfl, Nat.div_div_eq_div_mul, ← Nat.pow_succ]; exact wrap_eq rfl (by have := Nat.div_le_self x (4 ^ (i + 1 + 1)); omega)) ?_
  refine RA rfl ?_
  refine RN ?_
  refine End.normal_block ?_
  refine EN ?_
  refine GE ?_
  refine TL ?_
  refine RM rfl ?_
  refine RBS rfl rfl rfl (nI (i + 1)) (wrap_eq (by omega) (by omega)) ?_
  refine RA rfl ?_
  refine RN ?_
  refine End.normal_then ?_
  refine End.again (i + 1) ?_ ?_ ?_
  ·show _ ≤ _; omega
  ·show _ - _ < _ - _; omega
  ·exact (KC 1 rfl (KC 5 rfl (KC 6 rfl KN)))
 ·obtain rfl : i = l := by simp at hc11; omega
  refine A.exit ?_
  refine End.exit_then ?_
  refine End.exit_then ?_
  refine End.exit_here ?_
  refine EN ?_
  refine GS ?_
  refine TL ?_
  refine RM rfl ?_
  refine RA rfl ?_
  refine RN ?_
  refine A.ret ?_
  exact End.ret1 rfl rfl (by first | exact Le.refl _ | exact Le.old _ _)
theorem lives_path : pathV 17 16 (hg 17 + 1) = [nI 2, nI 0, nI 1, nI 1, nI 0, nI 4] := by rfl
theorem buildN2 (j s : Int) : Try.prog.built 31 [(2, .int .i64 j), (3, .int .i64 s)] = some (secV false 0 j s).toArray := by kernel_rfl
set_option maxHeartbeats 1000000 in
theorem lives12_fn  : Fn Try.prog 18 [] (.v (.bool true)) := by
 refine Fn.of Try.func18 rfl (by kernel_rfl) Try.ntmps18 (by simp) (fun w => []) (fun w => Start.nil) fun w₀ => ?_
 refine GS ?_
 refine TL ?_
 refine RA rfl ?_
 refine RN ?_
 refine GS ?_
 refine TL ?_
 refine RS (ok_build [.v (.int .i64 (1)), .v (.int .i64 (4)), .v (.int .i64 (5)), .v (.int .i64 (16)), .v (.int .i64 (17)), .v (.int .i64 (4096))] Try.underlying60 info3 rfl (by decide) (by decide) rfl ⟨rfl, rfl, rfl, rfl, rfl, rfl, rfl, rfl, rfl, rfl, rfl, rfl, trivial⟩ (fun d hd w x h => by simp only [List.mem_cons, List.not_mem_nil, or_false] at hd; rcases hd with rfl | rfl | rfl | rfl | rfl | rfl <;> exact v_one rfl h)) ?_
 refine RA rfl ?_
 refine RN ?_
 refine GS ?_
 refine TL ?_
 refine RS (ok_build [.v (.int .i64 (0)), .v (.int .i64 (0)), .v (.int .i64 (1)), .v (.int .i64 (1)), .v (.int .i64 (2)), .v (.int .i64 (5))] Try.underlying60 info3 rfl (by decide) (by decide) rfl ⟨rfl, rfl, rfl, rfl, rfl, rfl, rfl, rfl, rfl, rfl, rfl, rfl, trivial⟩ (fun d hd w x h => by simp only [List.mem_cons, List.not_mem_nil, or_false] at hd; rcases hd with rfl | rfl | rfl | rfl | rfl | rfl <;> exact v_one rfl h)) ?_
 refine RA rfl ?_
 refine RN ?_
 refine A.seq ?_
 refine GS ?_
 refine TL ?_
 refine RA rfl ?_
 refine RN ?_
 refine A.block ?_
 refine A.loop (ι := Nat) (fun i => i ≤ 6) (fun i => [(1, list [.v (.int .i64 (1)), .v (.int .i64 (4)), .v (.int .i64 (5)), .v (.int .i64 (16)), .v (.int .i64 (17)), .v (.int .i64 (4096))] 6), (2, list [.v (.int .i64 (0)), .v (.int .i64 (0)), .v (.int .i64 (1)), .v (.int .i64 (1)), .v (.int .i64 (2)), .v (.int .i64 (5))] 6), (3, .v (nI (i)))]) (fun i => 6 - i) 0 ?_ ?_ ?_
 ·exact Nat.zero_le _
 ·exact (KC 1 rfl (KC 2 rfl (KC 3 rfl KN)))
 intro i hi
 refine A.seq ?_
 refine GS ?_
 refine TL ?_
 refine RM rfl ?_
 refine RB rfl rfl rfl ?_
 refine RN ?_
 refine A.cond rfl (fun hc24 => ?_) (fun hc24 => ?_)
 ·have hlt : i < 6 := by simp at hc24; omega
  have hlv := lv_ok hlt
  refine A.skip ?_
  refine EN ?_
  refine A.seq ?_
  refine A.block ?_
  refine GS ?_
  refine TL ?_
  refine RM rfl ?_
  refine RM rfl ?_
  refine RS (ok_index (d := .v (nI (lvV i))) Try.underlying60 info3 rfl (le_lst _ _) rfl (by omega) (lv_get hlt)) ?_
  refine RS (ok_load Try.underlying3 rfl rfl) ?_
  refine RS (ok_call (Height_ok (lvV i) hlv.1 hlv.2.1) (A1 rfl)) ?_
  refine RM rfl ?_
  refine RS (ok_extractV rfl rfl) ?_
  refine RS (ok_extractV rfl rfl) ?_
  refine RA rfl ?_
  refine RA rfl ?_
  refine RN ?_
  refine GS ?_
  refine TL ?_
  refine RM rfl ?_
  refine RM rfl ?_
  refine RM rfl ?_
  refine RS (ok_index (d := .v (nI (hvV i))) Try.underlying60 info3 rfl (le_lst _ _) rfl (by omega) (hv_get hlt)) ?_
  refine RS (ok_load Try.underlying3 rfl rfl) ?_
  refine RBS rfl rfl rfl (.bool false) (by rw [hlv.2.2]; simp) ?_
  refine RM rfl ?_
  refine RQ (ok_move rfl) ?_
  refine RQ (ok_bin rfl rfl rfl) ?_; refine RZ (.bool false) (by rfl) ?_
  refine RP rfl rfl ?_
  refine RN ?_
  refine A.no rfl ?_
  refine A.skip ?_
  refine End.normal_block ?_
  refine EN ?_
  refine GE ?_
  refine TL ?_
  refine RM rfl ?_
  refine RBS rfl rfl rfl (nI (i + 1)) (wrap_eq (by omega) (by omega)) ?_
  refine RA rfl ?_
  refine RN ?_
  refine End.sub (KC 1 rfl (KC 2 rfl (KC 3 rfl KN))) ?_
  refine End.normal_then ?_
  refine End.again (i + 1) ?_ ?_ ?_
  ·show _ ≤ _; omega
  ·show _ - _ < _ - _; omega
  ·exact (KC 1 rfl (KC 2 rfl (KC 3 rfl KN)))
 ·skip
  refine A.exit ?_
  refine End.exit_then ?_
  refine End.exit_then ?_
  refine End.exit_here ?_
  refine EN ?_
  refine GS ?_
  refine TL ?_
  refine RS (ok_call (Count_ok 5 (by decide) (by decide) 0 (by decide)) (A2 rfl rfl)) ?_
  refine RM rfl ?_
  refine RS (ok_extractV rfl rfl) ?_
  refine RS (ok_extractV rfl rfl) ?_
  refine RA rfl ?_
  refine RA rfl ?_
  refine RN ?_
  refine GS ?_
  refine TL ?_
  refine RS (ok_call (Total_ok 5 (by decide) (by decide)) (A1 rfl)) ?_
  refine RM rfl ?_
  refine RS (ok_extractV rfl rfl) ?_
  refine RS (ok_extractV rfl rfl) ?_
  refine RA rfl ?_
  refine RA rfl ?_
  refine RN ?_
  refine GS ?_
  refine TL ?_
  refine RS (ok_call (Sectors_ok 5 (by decide) (by decide)) (A1 rfl)) ?_
  refine RM rfl ?_
  refine RS (ok_extractV rfl rfl) ?_
  refine RS (ok_extractV rfl rfl) ?_
  refine RA rfl ?_
  refine RA rfl ?_
  refine RN ?_
  refine GS ?_
  refine TN 0 ?_
  refine RN ?_
  refine ⟨_, _, eff_name (n := 229) (d := 58) (k := 1000058) rfl rfl (fun B' => ok_callB (Path_fnB 17 (by decide) (by decide) 16 (by decide)) (fun _ _ h => newD_mono _ _ h) (A2 rfl rfl)) (by decide) (by decide), fun b58 hb58 => ?_⟩
  have hBb58 := hb58.1
  refine TL ?_
  refine RM rfl ?_
  refine RS (ok_extractV rfl rfl) ?_
  refine RS (ok_extractV rfl rfl) ?_
  refine RA rfl ?_
  refine RA rfl ?_
  refine RN ?_
  refine A.sub (KC 6 rfl (KC 7 rfl (KC 8 rfl (KC 9 rfl (KC 10 rfl (KC 11 rfl (KC 12 rfl (KC 13 rfl (KC 1000058 rfl KN))))))))) ?_
  refine A.seq ?_
  refine GD ?_
  refine TL ?_
  refine RM rfl ?_
  refine RBS rfl rfl rfl (.bool false) (by first | rfl | decide | (simp; done)) ?_
  refine RM rfl ?_
  refine RQ (ok_move rfl) ?_
  refine RQ (ok_bin rfl rfl rfl) ?_; refine RZ (.bool false) (by first | rfl | decide | (simp; done)) ?_
  refine RP rfl rfl ?_
  refine RM rfl ?_
  refine RQ (ok_move rfl) ?_
  refine RQ (ok_bin rfl rfl rfl) ?_; refine RZ (.bool false) (by first | rfl | decide | (simp; done)) ?_
  refine RP rfl rfl ?_
  refine RM rfl ?_
  refine RQ (ok_move rfl) ?_
  refine RQ (ok_lenV Try.underlying54 rfl) ?_
  refine RQ (ok_bin rfl rfl rfl) ?_; refine RZ (.bool false) (by first | rfl | decide | (simp; done)) ?_
  refine RP rfl rfl ?_
  refine RM rfl ?_
  refine RQ (ok_move rfl) ?_
  refine RQ (ok_indexS 0 Try.underlying54 infoPP rfl rfl rfl (by decide)) ?_
  refine RQ (ok_loadP (s := 1000058) (by decide) Try.underlying45 rfl size45 rfl rfl (by rw [pathV_length (Nat.le_refl _)]; decide) (by rw [lives_path])) ?_
  refine RQ (ok_call (place_fn 2 0) (A2 rfl rfl)) ?_
  refine RQ (ok_neqT 3 true flatP (by decide) (by kernel_rfl) (by kernel_rfl) rfl rfl (kinP _ _) (kinP _ _) (iff_of_true rfl rfl)) ?_
  refine RP rfl rfl ?_
  refine RM rfl ?_
  refine RQ (ok_move rfl) ?_
  refine RQ (ok_indexS 1 Try.underlying54 infoPP rfl rfl rfl (by decide)) ?_
  refine RQ (ok_loadP (s := 1000058) (by decide) Try.underlying45 rfl size45 rfl rfl (by rw [pathV_length (Nat.le_refl _)]; decide) (by rw [lives_path])) ?_
  refine RQ (ok_call (place_fn 1 1) (A2 rfl rfl)) ?_
  refine RQ (ok_neqT 3 true flatP (by decide) (by kernel_rfl) (by kernel_rfl) rfl rfl (kinP _ _) (kinP _ _) (iff_of_true rfl rfl)) ?_
  refine RP rfl rfl ?_
  refine RM rfl ?_
  refine RQ (ok_move rfl) ?_
  refine RQ (ok_indexS 2 Try.underlying54 infoPP rfl rfl rfl (by decide)) ?_
  refine RQ (ok_loadP (s := 1000058) (by decide) Try.underlying45 rfl size45 rfl rfl (by rw [pathV_length (Nat.le_refl _)]; decide) (by rw [lives_path])) ?_
  refine RQ (ok_call (place_fn 0 4) (A2 rfl rfl)) ?_
  refine RQ (ok_neqT 3 true flatP (by decide) (by kernel_rfl) (by kernel_rfl) rfl rfl (kinP _ _) (kinP _ _) (iff_of_true rfl rfl)) ?_
  refine RP rfl rfl ?_
  refine RM rfl ?_
  refine RQ (ok_move rfl) ?_
  refine RQ (ok_move rfl) ?_
  refine RQ (ok_bin rfl rfl rfl) ?_; refine RZ (.int .i64 0) (by rfl) ?_
  refine RQ (ok_move rfl) ?_
  refine RQ (ok_bin rfl rfl rfl) ?_; refine RZ (.int .i64 0) (by rfl) ?_
  refine RQ (ok_move rfl) ?_
  refine RQ (ok_bin rfl rfl rfl) ?_; refine RZ (.int .i64 0) (by rfl) ?_
  refine RQ (ok_bin rfl rfl rfl) ?_; refine RZ (.bool false) (by first | rfl | decide | (simp; done)) ?_
  refine RP rfl rfl ?_
  refine RN ?_
  refine A.sub (KC 106 rfl (KC 1000058 rfl KN)) ?_
  refine A.no rfl ?_
  refine A.skip ?_
  refine EN ?_
  refine GS ?_
  refine TL ?_
  refine RS (ok_call (Parts_ok 17 (by decide) (by decide) 1 1 (by decide) (by decide)) (A3 rfl rfl rfl)) ?_
  refine RM rfl ?_
  refine RS (ok_extractV rfl rfl) ?_
  refine RS (ok_extractV rfl rfl) ?_
  refine RA rfl ?_
  refine RA rfl ?_
  refine RN ?_
  refine GS ?_
  refine TL ?_
  refine RS (ok_call (Parts_ok 17 (by decide) (by decide) 2 0 (by decide) (by decide)) (A3 rfl rfl rfl)) ?_
  refine RM rfl ?_
  refine RS (ok_extractV rfl rfl) ?_
  refine RS (ok_extractV rfl rfl) ?_
  refine RA rfl ?_
  refine RA rfl ?_
  refine RN ?_
  refine GS ?_
  refine TL ?_
  refine RS (ok_call (place_fn 1 1) (A2 rfl rfl)) ?_
  refine RS (ok_call (Blocks_ok 17 (by decide) (by decide) 1 1 (by decide) (by decide)) (A2 rfl rfl)) ?_
  refine RM rfl ?_
  refine RS (ok_extractV rfl rfl) ?_
  refine RS (ok_extractV rfl rfl) ?_
  refine RS (ok_extractV rfl rfl) ?_
  refine RA rfl ?_
  refine RA rfl ?_
  refine RA rfl ?_
  refine RN ?_
  refine A.seq ?_
  refine GS ?_
  refine TL ?_
  refine RM rfl ?_
  refine RBS rfl rfl rfl (.bool false) (by first | rfl | decide | (simp; done)) ?_
  refine RM rfl ?_
  refine RQ (ok_move rfl) ?_
  refine RQ (ok_bin rfl rfl rfl) ?_; refine RZ (.bool false) (by first | rfl | decide | (simp; done)) ?_
  refine RP rfl rfl ?_
  refine RM rfl ?_
  refine RQ (ok_move rfl) ?_
  refine RQ (ok_bin rfl rfl rfl) ?_; refine RZ (.bool false) (by first | rfl | decide | (simp; done)) ?_
  refine RP rfl rfl ?_
  refine RM rfl ?_
  refine RQ (ok_move rfl) ?_
  refine RQ (ok_bin rfl rfl rfl) ?_; refine RZ (.bool false) (by first | rfl | decide | (simp; done)) ?_
  refine RP rfl rfl ?_
  refine RM rfl ?_
  refine RQ (ok_move rfl) ?_
  refine RQ (ok_move rfl) ?_
  refine RQ (ok_bin rfl rfl rfl) ?_; refine RZ (.int .i64 0) (by rfl) ?_
  refine RQ (ok_move rfl) ?_
  refine RQ (ok_bin rfl rfl rfl) ?_; refine RZ (.int .i64 0) (by rfl) ?_
  refine RQ (ok_bin rfl rfl rfl) ?_; refine RZ (.bool false) (by first | rfl | decide | (simp; done)) ?_
  refine RP rfl rfl ?_
  refine RN ?_
  refine A.sub (KC 142 rfl (KC 1000058 rfl KN)) ?_
  refine A.no rfl ?_
  refine A.skip ?_
  refine EN ?_
  refine GS ?_
  refine TL ?_
  refine RS (ok_call (Data_ok 5 (by decide) (by decide) 4 (by decide) 1 (by decide)) (A3 rfl rfl rfl)) ?_
  refine RM rfl ?_
  refine RS (ok_extractV rfl rfl) ?_
  refine RS (ok_extractV rfl rfl) ?_
  refine RA rfl ?_
  refine RA rfl ?_
  refine RN ?_
  refine GS ?_
  refine TL ?_
  refine RS (ok_call (Node_ok 5 (by decide) (by decide) 0 1 (by decide) (by decide) 0 (by decide)) (Args.cons rfl (Le.refl _) (A3 rfl rfl rfl))) ?_
  refine RM rfl ?_
  refine RS (ok_extractV rfl rfl) ?_
  refine RS (ok_extractV rfl rfl) ?_
  refine RA rfl ?_
  refine RA rfl ?_
  refine RN ?_
  refine GS ?_
  refine TL ?_
  refine RS (ok_call (Node_ok 5 (by decide) (by decide) 1 0 (by decide) (by decide) 1 (by decide)) (Args.cons rfl (Le.refl _) (A3 rfl rfl rfl))) ?_
  refine RM rfl ?_
  refine RS (ok_extractV rfl rfl) ?_
  refine RS (ok_extractV rfl rfl) ?_
  refine RA rfl ?_
  refine RA rfl ?_
  refine RN ?_
  refine GS ?_
  refine TN 4 ?_
  refine RS (ok_call (Of_data 5 (by decide) (by decide) 9 (by decide)) (A2 rfl rfl)) ?_
  refine RM rfl ?_
  refine RS (ok_extractV rfl rfl) ?_
  refine RS (ok_extractV rfl rfl) ?_
  refine RN ?_
  refine ⟨_, _, eff_alloc (n := 229) (d := 16) (k := 1000016) zero31 (by decide), fun b16 hb16 => ?_⟩
  have hBb16 := hb16.1
  refine TF 5 ?_
  refine RN ?_
  refine ⟨_, eff_storeA (n := 229) (s := 1000016) (size31.of (rfl)) rfl rfl (rfl) hBb16 rfl (rfl) (LV 6 rfl (LV 7 rfl (LV 8 rfl (LV 9 rfl (LV 10 rfl (LV 11 rfl (LV 16 rfl (LV 158 rfl (LT 1000058 rfl LN))))))))), ?_⟩
  refine TL ?_
  refine RA rfl ?_
  refine RN ?_
  refine A.sub (KC 6 rfl (KC 7 rfl (KC 8 rfl (KC 9 rfl (KC 10 rfl (KC 11 rfl (KC 13 rfl (KC 16 rfl (KC 1000016 rfl (KC 1000058 rfl KN)))))))))) ?_
  refine GS ?_
  refine TN 4 ?_
  refine RS (ok_call (Of_node 5 (by decide) (by decide) 13 0 (by decide) (by decide) (by decide)) (A2 rfl rfl)) ?_
  refine RM rfl ?_
  refine RS (ok_extractV rfl rfl) ?_
  refine RS (ok_extractV rfl rfl) ?_
  refine RN ?_
  refine ⟨_, _, eff_alloc (n := 229) (d := 17) (k := 1000017) zero31 (by decide), fun b17 hb17 => ?_⟩
  have hBb17 := hb17.1
  have hlt_b16_b17 : b16 < b17 := hb17.2 1000016 _ _ _ rfl
  refine TF 5 ?_
  refine RN ?_
  refine ⟨_, eff_storeA (n := 229) (s := 1000017) (size31.of (rfl)) rfl rfl (rfl) hBb17 rfl (rfl) (LV 6 rfl (LV 7 rfl (LV 8 rfl (LV 9 rfl (LV 10 rfl (LV 11 rfl (LV 13 rfl (LV 16 rfl (LV 17 rfl (LV 162 rfl (LB 1000016 rfl (LT 1000058 rfl LN)))))))))))), ?_⟩
  refine TL ?_
  refine RA rfl ?_
  refine RN ?_
  refine GS ?_
  refine TN 4 ?_
  refine RS (ok_call (Of_no 5 (by decide) (by decide) 16 (by decide)) (A2 rfl rfl)) ?_
  refine RM rfl ?_
  refine RS (ok_extractV rfl rfl) ?_
  refine RS (ok_extractV rfl rfl) ?_
  refine RN ?_
  refine ⟨_, _, eff_alloc (n := 229) (d := 19) (k := 1000019) zero31 (by decide), fun b19 hb19 => ?_⟩
  have hBb19 := hb19.1
  have hlt_b16_b19 : b16 < b19 := hb19.2 1000016 _ _ _ rfl
  have hlt_b17_b19 : b17 < b19 := hb19.2 1000017 _ _ _ rfl
  refine TF 5 ?_
  refine RN ?_
  refine ⟨_, eff_storeA (n := 229) (s := 1000019) (size31.of (rfl)) rfl rfl (rfl) hBb19 rfl (rfl) (LV 6 rfl (LV 7 rfl (LV 8 rfl (LV 9 rfl (LV 10 rfl (LV 11 rfl (LV 13 rfl (LV 16 rfl (LV 17 rfl (LV 18 rfl (LV 166 rfl (LB 1000016 rfl (LB 1000017 rfl (LT 1000058 rfl LN)))))))))))))), ?_⟩
  refine TL ?_
  refine RA rfl ?_
  refine RN ?_
  refine A.seq ?_
  refine GS ?_
  refine TL ?_
  refine RM rfl ?_
  refine RBS rfl rfl rfl (.bool false) (by first | rfl | decide | (simp; done)) ?_
  refine RM rfl ?_
  refine RQ (ok_move rfl) ?_
  refine RQ (ok_bin rfl rfl rfl) ?_; refine RZ (.bool false) (by first | rfl | decide | (simp; done)) ?_
  refine RP rfl rfl ?_
  refine RM rfl ?_
  refine RQ (ok_move rfl) ?_
  refine RQ (ok_bin rfl rfl rfl) ?_; refine RZ (.bool false) (by first | rfl | decide | (simp; done)) ?_
  refine RP rfl rfl ?_
  refine RM rfl ?_
  refine RQ (ok_move rfl) ?_
  refine RQ (ok_move rfl) ?_
  refine RQ (ok_bin rfl rfl rfl) ?_; refine RZ (.int .i64 0) (by rfl) ?_
  refine RQ (ok_move rfl) ?_
  refine RQ (ok_bin rfl rfl rfl) ?_; refine RZ (.int .i64 0) (by rfl) ?_
  refine RQ (ok_move rfl) ?_
  refine RQ (ok_bin rfl rfl rfl) ?_; refine RZ (.int .i64 0) (by rfl) ?_
  refine RQ (ok_move rfl) ?_
  refine RQ (ok_bin rfl rfl rfl) ?_; refine RZ (.int .i64 0) (by rfl) ?_
  refine RQ (ok_bin rfl rfl rfl) ?_; refine RZ (.bool false) (by first | rfl | decide | (simp; done)) ?_
  refine RP rfl rfl ?_
  refine RM rfl ?_
  refine RQ (ok_move rfl) ?_
  refine RQ (ok_bin rfl rfl rfl) ?_; refine RZ (.bool false) (by first | rfl | decide | (simp; done)) ?_
  refine RP rfl rfl ?_
  refine RM rfl ?_
  refine RQ (ok_loadA (s := 1000016) (by decide) Try.underlying31 rfl (size31.of (rfl)) rfl rfl) ?_
  refine RQ (ok_litS [(0, .bool true), (2, nI 4), (3, nI 1)] (secV true 0 4 1) ⟨rfl, rfl, rfl, rfl, rfl, rfl, trivial⟩ (buildD _ _)) ?_
  refine RQ (ok_neqS (by kernel_rfl) (by kernel_rfl) (tb := 4) (ti := 3) (by kernel_rfl) Try.underlying4 Try.underlying3 (by kernel_rfl) rfl rfl) ?_; refine RZ (.bool false) (congrArg Value.bool (by decide)) ?_
  refine RP rfl rfl ?_
  refine RM rfl ?_
  refine RQ (ok_loadA (s := 1000017) (by decide) Try.underlying31 rfl (size31.of (rfl)) rfl rfl) ?_
  refine RQ (ok_litS [(2, nI 1), (3, nI 1)] (secV false 0 1 1) ⟨rfl, rfl, rfl, rfl, trivial⟩ (buildN2 _ _)) ?_
  refine RQ (ok_neqS (by kernel_rfl) (by kernel_rfl) (tb := 4) (ti := 3) (by kernel_rfl) Try.underlying4 Try.underlying3 (by kernel_rfl) rfl rfl) ?_; refine RZ (.bool false) (congrArg Value.bool (by decide)) ?_
  refine RP rfl rfl ?_
  refine RN ?_
  refine A.sub (KC 202 rfl (KC 1000016 rfl (KC 1000017 rfl (KC 1000019 rfl (KC 1000058 rfl KN))))) ?_
  refine A.no rfl ?_
  refine A.skip ?_
  refine EN ?_
  refine GS ?_
  refine TL ?_
  refine RS (ok_call (place_fn 2 0) (A2 rfl rfl)) ?_
  refine RS (ok_call (Child_none 17 (by decide) (by decide) 2 0 (by decide) (by decide) (by decide) 2 (by decide) (by decide)) (A3 rfl rfl rfl)) ?_
  refine RM rfl ?_
  refine RS (ok_extractV rfl rfl) ?_
  refine RS (ok_extractV rfl rfl) ?_
  refine RA rfl ?_
  refine RN ?_
  refine GS ?_
  refine TL ?_
  refine RS (ok_call (place_fn 0 0) (A2 rfl rfl)) ?_
  refine RS (ok_call (Child_leaf 17 (by decide) (by decide) 0 0 (by decide) (by decide) rfl 0 (by decide)) (A3 rfl rfl rfl)) ?_
  refine RM rfl ?_
  refine RS (ok_extractV rfl rfl) ?_
  refine RS (ok_extractV rfl rfl) ?_
  refine RA rfl ?_
  refine RN ?_
  refine GS ?_
  refine TL ?_
  refine RS (ok_call (place_fn 2 0) (A2 rfl rfl)) ?_
  refine RS (ok_call (Parent_root 17 (by decide) (by decide)) (A2 rfl rfl)) ?_
  refine RM rfl ?_
  refine RS (ok_extractV rfl rfl) ?_
  refine RS (ok_extractV rfl rfl) ?_
  refine RS (ok_extractV rfl rfl) ?_
  refine RA rfl ?_
  refine RN ?_
  refine GS ?_
  refine TL ?_
  refine RM rfl ?_
  refine RBS rfl rfl rfl (.bool true) (by first | rfl | decide | (simp; done)) ?_
  refine RM rfl ?_
  refine RQ (ok_move rfl) ?_
  refine RQ (ok_bin rfl rfl rfl) ?_; refine RZ (.bool true) (by first | rfl | decide | (simp; done)) ?_
  refine RP rfl rfl ?_
  refine RM rfl ?_
  refine RQ (ok_move rfl) ?_
  refine RQ (ok_bin rfl rfl rfl) ?_; refine RZ (.bool true) (by first | rfl | decide | (simp; done)) ?_
  refine RP rfl rfl ?_
  refine RA rfl ?_
  refine RN ?_
  refine A.sub (KC 0 rfl (KC 1000016 rfl (KC 1000017 rfl (KC 1000019 rfl (KC 1000058 rfl KN))))) ?_
  refine A.ret ?_
  exact End.ret1 rfl rfl (by first | exact Le.refl _ | exact Le.old _ _)
end Go.Proofs.Ytdnblilocdddpaa
