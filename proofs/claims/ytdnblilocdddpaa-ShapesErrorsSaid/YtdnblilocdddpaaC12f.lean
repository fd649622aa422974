/-
 The laws of caissonlaw12 by facts: ShapesFamily, ShapesPath.
-/
import Derived.Test.YtdnblilocdddpaaShort
import Derived.Test.YtdnblilocdddpaaC12d
import Derived.Test.YtdnblilocdddpaaVars
namespace Go.Proofs.Ytdnblilocdddpaa
open Go Go.RowKit
set_option linter.unusedVariables false
set_option maxRecDepth 20000
theorem til_le (n l j : Nat) : til n l j ≤ n := Nat.min_le_right _ _
theorem frm_til {n l j : Nat} (hj : j < un n (l + 1)) : frm l j < til n l j := by
 have h1 := frm_lt hj
 have h2 := pow_pos4 (l + 1)
 unfold til
 unfold frm at *
 generalize j * 4 ^ (l + 1) = x at *
 generalize 4 ^ (l + 1) = y at *
 omega
theorem fam0 {n l j : Nat} (h : l = 0) (hj : j < un n (l + 1)) : frm l j = 4 * j ∧ til n l j = frm l j + pts n l j := by
 subst h
 have h1 := pts_pos hj
 have h2 : un n 0 = n := rfl
 unfold til pts frm at *
 simp only [Nat.zero_add, Nat.pow_one] at *
 omega
/-- Where the blocks of the next child begin. -/
def nxt (n l j w : Nat) : Nat := if l = 0 then frm l j else min (frm l j + min w (pts n l j) * 4 ^ l) n
theorem fam_case (n l j w : Nat) : l = 0 ∨ (0 < l ∧ w < pts n l j) ∨ (0 < l ∧ pts n l j ≤ w) := by omega
theorem nxt_zero {n l j : Nat} (hj : j < un n (l + 1)) : nxt n l j 0 = frm l j := by
 have := frm_lt hj
 unfold nxt
 split
 ·rfl
 ·rw [Nat.zero_min, Nat.zero_mul]; omega
theorem nxt_z {n l j w : Nat} (h : l = 0) : nxt n l j (w + 1) = nxt n l j w := by unfold nxt; rw [if_pos h, if_pos h]
theorem nxt_n {n l j w : Nat} (h : 0 < l) (hw : pts n l j ≤ w) : nxt n l j (w + 1) = nxt n l j w := by
 unfold nxt; rw [if_neg (by omega), if_neg (by omega), Nat.min_eq_right (a := w + 1) (b := pts n l j) (by omega), Nat.min_eq_right (a := w) (b := pts n l j) hw]
theorem chd {n l j w : Nat} (h : 0 < l) (hj : j < un n (l + 1)) (hw : w < pts n l j) : 4 * j + w < un n (l - 1 + 1) := by
 rw [show l - 1 + 1 = l from by omega]; unfold pts at hw; omega
theorem chd_frm {n l j w : Nat} (h : 0 < l) (hj : j < un n (l + 1)) (hw : w < pts n l j) : frm (l - 1) (4 * j + w) = nxt n l j w := by
 have h1 := frm_lt (chd h hj hw)
 unfold nxt frm at *
 rw [show l - 1 + 1 = l from by omega] at *
 rw [if_neg (by omega), Nat.min_eq_left (a := w) (b := pts n l j) (by omega), show j * 4 ^ (l + 1) = 4 * j * 4 ^ l from by rw [Nat.pow_succ, Nat.mul_comm (4 ^ l), ← Nat.mul_assoc, Nat.mul_comm j], ← Nat.add_mul]
 omega
theorem chd_til {n l j w : Nat} (h : 0 < l) (hj : j < un n (l + 1)) (hw : w < pts n l j) : til n (l - 1) (4 * j + w) = nxt n l j (w + 1) := by
 unfold nxt til frm
 rw [show l - 1 + 1 = l from by omega, if_neg (by omega), Nat.min_eq_left (a := w + 1) (b := pts n l j) (by omega), show j * 4 ^ (l + 1) = 4 * j * 4 ^ l from by rw [Nat.pow_succ, Nat.mul_comm (4 ^ l), ← Nat.mul_assoc, Nat.mul_comm j], ← Nat.add_mul, ← Nat.succ_mul, Nat.succ_eq_add_one, Nat.add_assoc]
theorem nxt_lt {n l j w : Nat} (h : 0 < l) (hj : j < un n (l + 1)) (hw : w < pts n l j) : nxt n l j w < nxt n l j (w + 1) := by
 rw [← chd_frm h hj hw, ← chd_til h hj hw]; exact frm_til (chd h hj hw)
theorem nxt_end {n l j : Nat} (h : 0 < l) (hj : j < un n (l + 1)) : nxt n l j 4 = til n l j := by
 have h1 := pts_pos hj
 have h2 := un_lt n l (4 * j + pts n l j)
 unfold nxt til frm
 rw [if_neg (by omega), Nat.min_eq_right (a := 4) (b := pts n l j) (by omega), Nat.pow_succ, show 4 ^ l * 4 = 4 * 4 ^ l from Nat.mul_comm _ _, show j * (4 * 4 ^ l) = 4 * j * 4 ^ l from by rw [← Nat.mul_assoc, Nat.mul_comm j], ← Nat.add_mul, ← Nat.add_mul]
 by_cases h4 : pts n l j = 4
 ·rw [h4]
 ·have h3 : ¬ 4 * j + pts n l j < un n l := by unfold pts at h4 ⊢; omega
  rw [h2] at h3
  have h5 : (4 * j + pts n l j) * 4 ^ l ≤ (4 * j + 4) * 4 ^ l := Nat.mul_le_mul_right _ (by omega)
  omega
theorem fam_root {n l j : Nat} (h1 : 1 ≤ n) (h2 : n ≤ 4096) (h : l = hg n) (hj : j < un n (l + 1)) : j = 0 ∧ frm l j = 0 ∧ til n l j = n := by
 subst h
 rw [un_root h1 h2] at hj
 obtain rfl : j = 0 := by omega
 have := hg_up h2
 refine ⟨rfl, by simp [frm], ?_⟩
 unfold til
 rw [Nat.zero_mul, Nat.zero_add]; omega
theorem Parent_r (n : Nat) (h1 : 1 ≤ n) (h2 : n ≤ 4096) (l j : Nat) (hl : l ≤ hg n) (hj : j < un n (l + 1)) (h : l = hg n) : Fn Try.prog 30 [.v (nI (n)), .v (aggV (plV l j))] (.v (.tuple #[aggV [.int .i64 0, .int .i64 0], .int .i64 0, .int .i64 11])) := by
 obtain ⟨rfl, _⟩ := fam_root h1 h2 h hj
 subst h
 exact Parent_root n h1 h2
theorem stp_ok {n x : Nat} (hx : x < n) (m : Nat) : x / 4 ^ (m + 1) < un n (m + 1) := by
 rw [un_lt]; exact Nat.lt_of_le_of_lt (Nat.div_mul_le_self _ _) hx
theorem stp_in {n x : Nat} (hx : x < n) (m : Nat) : frm m (x / 4 ^ (m + 1)) ≤ x ∧ x < til n m (x / 4 ^ (m + 1)) := by
 have h1 := Nat.div_mul_le_self x (4 ^ (m + 1))
 have h2 := Nat.lt_div_mul_add (a := x) (pow_pos4 (m + 1))
 unfold frm til
 omega
theorem Child_p (n : Nat) (h1 : 1 ≤ n) (h2 : n ≤ 4096) (x k : Nat) (hx : x < n) (hk : k ≤ hg n) (hk0 : 0 < k) : Fn Try.prog 29 [.v (nI (n)), .v (aggV (stp n x (k - 1))), .v (nI (x / 4 ^ (hg n - k + 1) % 4))] (.v (.tuple #[aggV (stp n x k), .int .i64 0])) := by
 obtain ⟨m, hm⟩ : ∃ m, hg n - k = m := ⟨_, rfl⟩
 have e1 : hg n - (k - 1) = m + 1 := by omega
 have hq := stp_ok hx m
 obtain ⟨q, hq0⟩ : ∃ q, x / 4 ^ (m + 1) = q := ⟨_, rfl⟩
 have e2 : x / 4 ^ (m + 1 + 1) = q / 4 := by rw [Nat.pow_succ 4 (m + 1), ← Nat.div_div_eq_div_mul, hq0]
 unfold stp
 rw [e1, hm, hq0, e2]
 rw [hq0] at hq
 have h := Child_ok n h1 h2 (m + 1) (q / 4) (by omega) (by rw [un_succ]; omega) (by omega) (q % 4) (by unfold pts; omega)
 rwa [show m + 1 - 1 = m from rfl, show 4 * (q / 4) + q % 4 = q from by omega] at h
theorem stp_last (n x : Nat) : stp n x (hg n) = plV 0 (x / 4) := by unfold stp; rw [Nat.sub_self, Nat.zero_add, Nat.pow_one]

set_option maxHeartbeats 2000000 in
theorem ShapesFamily_fn (k : Nat) (hk : k < 65536) (v : Nat) (hv : v < 256) (f : Nat) (hf : f < 65536) : Fn Try.prog 5 [.v (aggV [.int .u16 (k : Int)]), .v (nB v), .v (.int .u16 ((f : Nat) : Int))] (.v (.bool true)) := by
 obtain ⟨n, hn⟩ : ∃ n, n = nn k := ⟨_, rfl⟩
 have h1 : 1 ≤ n := hn ▸ nn1 k
 have h2 : n ≤ 4096 := hn ▸ nn2 k
 have hh := hg_le n
 obtain ⟨l, hl0⟩ : ∃ l, l = v % (hg n + 1) := ⟨_, rfl⟩
 have hl : l ≤ hg n := by have := Nat.mod_lt v (show 0 < hg n + 1 by omega); omega
 have hu0 := un_le h1 (l + 1)
 have hv0 := un_pos h1 (l + 1)
 obtain ⟨j, hj0⟩ : ∃ j, j = f % un n (l + 1) := ⟨_, rfl⟩
 have hj : j < un n (l + 1) := hj0 ▸ Nat.mod_lt _ (by omega)
 have hfr := frm_lt hj
 have htl := til_le n l j
 have hft := frm_til hj
 have hpt := pts_pos hj
 refine Fn.of Try.func5 rfl (by kernel_rfl) Try.ntmps5 (by simp) (fun w => [(0, .v (aggV [.int .u16 (k : Int)])), (1, .v (nB v)), (2, .v (.int .u16 ((f : Nat) : Int)))]) (fun w => (Start.v rfl (Start.v rfl (Start.v rfl Start.nil)))) fun w₀ => ?_
 refine GS ?_
 refine TN 0 ?_
 refine RN ?_
 refine ⟨_, _, eff_box (n := 236) (d := 3) (k := 1000003) rfl (by decide), fun b3 hb3 => ?_⟩
 have hBb3 := hb3.1
 refine TL ?_
 refine RA rfl ?_
 refine RN ?_
 refine GS ?_
 refine TL ?_
 refine RS (ok_loadA (s := 1000003) (by decide) Try.underlying24 rfl (size24.of (rfl)) rfl rfl) ?_
 refine RS (ok_call (NOf_fn k hk) (A1 rfl)) ?_; refine RZ (nI (n)) (by rw [hn]) ?_
 refine RA rfl ?_
 refine RN ?_
 refine GS ?_
 refine TL ?_
 refine RM rfl ?_
 refine RS (ok_call (rHeight_fn n h1 h2) (A1 rfl)) ?_
 refine RA rfl ?_
 refine RN ?_
 refine GS ?_
 refine TL ?_
 refine RM rfl ?_
 refine RS (ok_conv Try.underlying5 Try.underlying3 rfl) ?_; refine RZ (nI (v)) (wrap_eq (by omega) (by omega)) ?_
 refine RM rfl ?_
 refine RBS rfl rfl rfl (nI (hg n + 1)) (wrap_eq (by omega) (by omega)) ?_
 refine RS (ok_rem rfl rfl (by omega)) ?_; refine RZ (nI (l)) (by rw [tmod_nat, ← hl0]) ?_
 refine RA rfl ?_
 refine RN ?_
 refine GS ?_
 refine TN 8 ?_
 refine RM rfl ?_
 refine RM rfl ?_
 refine RS (ok_conv Try.underlying22 Try.underlying3 rfl) ?_; refine RZ (nI (f)) (wrap_eq (by omega) (by omega)) ?_
 refine RM rfl ?_
 refine RM rfl ?_
 refine RS (ok_call (rCount_fn n h1 h2 l hl) (A2 rfl rfl)) ?_
 refine RS (ok_rem rfl rfl (by omega)) ?_; refine RZ (nI (j)) (by rw [tmod_nat, ← hj0]) ?_
 refine RS (ok_call (place_fn (l : Int) (j : Int)) (A2 rfl rfl)) ?_
 refine RN ?_
 refine ⟨_, _, eff_alloc (n := 236) (d := 10) (k := 1000010) zero45 (by decide), fun b10 hb10 => ?_⟩
 have hBb10 := hb10.1
 refine TF 9 ?_
 refine RN ?_
 refine ⟨_, eff_storeA (n := 236) (s := 1000010) (size45.of (rfl)) rfl rfl (rfl) hBb10 rfl (rfl) (LV 7 rfl (LV 8 rfl (LV 9 rfl (LV 10 rfl (LT 1000003 rfl LN))))), ?_⟩
 refine TL ?_
 refine RN ?_
 refine GS ?_
 refine TL ?_
 refine RM rfl ?_
 refine RS (ok_field field45_0 (by decide) rfl) ?_
 refine RS (ok_loadV (s := 1000010) (by decide) Try.underlying3 rfl rfl rfl (rfl)) ?_
 refine RS (ok_field field45_1 (by decide) rfl) ?_
 refine RS (ok_loadV (s := 1000010) (by decide) Try.underlying3 rfl rfl rfl (rfl)) ?_
 refine RS (ok_call (rParts_fn n h1 h2 l j hl hj) (A3 rfl rfl rfl)) ?_
 refine RA rfl ?_
 refine RN ?_
 refine A.sub (KC 7 rfl (KC 8 rfl (KC 9 rfl (KC 10 rfl (KC 11 rfl (KC 1000003 rfl (KC 1000010 rfl KN))))))) ?_
 refine GS ?_
 refine TL ?_
 refine RM rfl ?_
 refine RS (ok_loadA (s := 1000010) (by decide) Try.underlying45 rfl (size45.of (rfl)) rfl rfl) ?_
 refine RS (ok_call (Blocks_ok n h1 h2 l j hl hj) (A2 rfl rfl)) ?_
 refine RM rfl ?_
 refine RS (ok_extractV rfl rfl) ?_
 refine RS (ok_extractV rfl rfl) ?_
 refine RS (ok_extractV rfl rfl) ?_
 refine RA rfl ?_
 refine RA rfl ?_
 refine RA rfl ?_
 refine RN ?_
 refine A.seq ?_
 refine GS ?_
 refine TL ?_
 refine RM rfl ?_
 refine RBS rfl rfl rfl (.bool false) (by first | rfl | (simp; done) | (simp; omega) | (simp [*]; done) | (simp [*]; omega)) ?_
 refine RM rfl ?_
 refine RQ (ok_move rfl) ?_
 refine RQ (ok_bin rfl rfl rfl) ?_; refine RZ (.bool false) (by first | rfl | (simp; done) | (simp; omega) | (simp [*]; done) | (simp [*]; omega)) ?_
 refine RP rfl rfl ?_
 refine RM rfl ?_
 refine RQ (ok_move rfl) ?_
 refine RQ (ok_move rfl) ?_
 refine RQ (ok_bin rfl rfl rfl) ?_; refine RZ (.bool false) (by first | rfl | (simp; done) | (simp; omega) | (simp [*]; done) | (simp [*]; omega)) ?_
 refine RP rfl rfl ?_
 refine RM rfl ?_
 refine RQ (ok_move rfl) ?_
 refine RQ (ok_move rfl) ?_
 refine RQ (ok_bin rfl rfl rfl) ?_; refine RZ (.bool false) (by first | rfl | (simp; done) | (simp; omega) | (simp [*]; done) | (simp [*]; omega)) ?_
 refine RP rfl rfl ?_
 refine RN ?_
 refine A.sub (KC 7 rfl (KC 8 rfl (KC 9 rfl (KC 10 rfl (KC 11 rfl (KC 12 rfl (KC 13 rfl (KC 72 rfl (KC 1000003 rfl (KC 1000010 rfl KN)))))))))) ?_
 refine A.no rfl ?_
 refine A.skip ?_
 refine EN ?_
 refine GS ?_
 refine TL ?_
 refine RM rfl ?_
 refine RA rfl ?_
 refine RN ?_
 refine A.seq ?_
 refine GS ?_
 refine TL ?_
 refine RA rfl ?_
 refine RN ?_
 refine A.block ?_
 refine A.loop (ι := Nat) (fun w => w ≤ 4) (fun w => [(7, .v (nI (n))), (8, .v (nI (hg n))), (9, .v (nI (l))), (10, .v (ptr b10)), (11, .v (nI (pts n l j))), (12, .v (nI (frm l j))), (13, .v (nI (til n l j))), (15, .v (nI (nxt n l j w))), (16, .v (nI (w))), (1000010, blk b10 45 [.int .i64 (l : Int), .int .i64 (j : Int)])]) (fun w => 4 - w) 0 ?_ ?_ ?_
 ·exact Nat.zero_le _
 ·exact (KC 7 rfl (KC 8 rfl (KC 9 rfl (KC 10 rfl (KC 11 rfl (KC 12 rfl (KC 13 rfl (KE 15 rfl (by rw [nxt_zero hj]) (KC 16 rfl (KC 1000010 rfl KN))))))))))
 intro w hw'
 refine A.seq ?_
 refine GS ?_
 refine TL ?_
 refine RM rfl ?_
 refine RB rfl rfl rfl ?_
 refine RN ?_
 refine A.cond rfl (fun hc75 => ?_) (fun hc75 => ?_)
 ·have hlt : w < 4 := by simp at hc75; omega
  refine A.skip ?_
  refine EN ?_
  refine A.seq ?_
  refine A.block ?_
  rcases fam_case n l j w with hz | ⟨hp, hw⟩ | ⟨hp, hw⟩
  ·refine GS ?_
   refine TN 7 ?_
   refine RM rfl ?_
   refine RS (ok_loadA (s := 1000010) (by decide) Try.underlying45 rfl (size45.of (rfl)) rfl rfl) ?_
   refine RM rfl ?_
   refine RS (ok_call (Child_leaf n h1 h2 l j hl hj hz w hlt) (A3 rfl rfl rfl)) ?_
   refine RM rfl ?_
   refine RS (ok_extractV rfl rfl) ?_
   refine RS (ok_extractV rfl rfl) ?_
   refine RN ?_
   refine ⟨_, _, eff_alloc (n := 236) (d := 17) (k := 1000017) zero45 (by decide), fun b17 hb17 => ?_⟩
   have hBb17 := hb17.1
   have hlt_b10_b17 : b10 < b17 := hb17.2 1000010 _ _ _ rfl
   refine TF 8 ?_
   refine RN ?_
   refine ⟨_, eff_storeA (n := 236) (s := 1000017) (size45.of (rfl)) rfl rfl (rfl) hBb17 rfl (rfl) (LV 7 rfl (LV 8 rfl (LV 9 rfl (LV 10 rfl (LV 11 rfl (LV 12 rfl (LV 13 rfl (LV 15 rfl (LV 16 rfl (LV 17 rfl (LV 84 rfl (LB 1000010 rfl LN)))))))))))), ?_⟩
   refine TL ?_
   refine RA rfl ?_
   refine RN ?_
   refine A.seq ?_
   refine GS ?_
   refine TL ?_
   refine RM rfl ?_
   refine RBS rfl rfl rfl (.bool true) (by first | rfl | (simp; done) | (simp; omega) | (simp [*]; done) | (simp [*]; omega)) ?_
   refine RM rfl ?_
   refine RK ?_
   refine RK ?_
   refine RK ?_
   refine RP rfl rfl ?_
   refine RN ?_
   refine A.yes rfl ?_
   refine A.seq ?_
   refine GD ?_
   refine TL ?_
   refine RM rfl ?_
   refine RBS rfl rfl rfl (.bool false) (by first | rfl | (simp; done) | (simp; omega) | (simp [*]; done) | (simp [*]; omega)) ?_
   refine RM rfl ?_
   refine RQ (ok_loadA (s := 1000017) (by decide) Try.underlying45 rfl (size45.of (rfl)) rfl rfl) ?_
   refine RQ (ok_call (place_fn 0 0) (A2 rfl rfl)) ?_
   refine RQ (ok_neqT 3 true flatP (by decide) (by kernel_rfl) (by kernel_rfl) rfl rfl (kinP _ _) (kinP _ _) (iff_of_true rfl rfl)) ?_
   refine RP rfl rfl ?_
   refine RN ?_
   refine A.sub (KC 7 rfl (KC 8 rfl (KC 9 rfl (KC 10 rfl (KC 11 rfl (KC 12 rfl (KC 13 rfl (KC 15 rfl (KC 16 rfl (KC 98 rfl (KC 1000010 rfl (KC 1000017 rfl KN)))))))))))) ?_
   refine A.no rfl ?_
   refine A.skip ?_
   refine EN ?_
   refine A.exit ?_
   refine End.exit_then ?_
   refine End.exit_here ?_
   refine EN ?_
   refine GE ?_
   refine TL ?_
   refine RM rfl ?_
   refine RBS rfl rfl rfl (nI (w + 1)) (wrap_eq (by omega) (by omega)) ?_
   refine RA rfl ?_
   refine RN ?_
   refine End.normal_then ?_
   refine End.again (w + 1) ?_ ?_ ?_
   ·show _ ≤ _; omega
   ·show _ - _ < _ - _; omega
   ·exact (KC 7 rfl (KC 8 rfl (KC 9 rfl (KC 10 rfl (KC 11 rfl (KC 12 rfl (KC 13 rfl (KE 15 rfl (by first | rfl | rw [nxt_z hz] | rw [nxt_n hp hw]) (KC 16 rfl (KC 1000010 rfl KN))))))))))
  ·refine GS ?_
   refine TN 7 ?_
   refine RM rfl ?_
   refine RS (ok_loadA (s := 1000010) (by decide) Try.underlying45 rfl (size45.of (rfl)) rfl rfl) ?_
   refine RM rfl ?_
   refine RS (ok_call (Child_ok n h1 h2 l j hl hj hp w hw) (A3 rfl rfl rfl)) ?_
   refine RM rfl ?_
   refine RS (ok_extractV rfl rfl) ?_
   refine RS (ok_extractV rfl rfl) ?_
   refine RN ?_
   refine ⟨_, _, eff_alloc (n := 236) (d := 17) (k := 1000017) zero45 (by decide), fun b17 hb17 => ?_⟩
   have hBb17 := hb17.1
   have hlt_b10_b17 : b10 < b17 := hb17.2 1000010 _ _ _ rfl
   refine TF 8 ?_
   refine RN ?_
   refine ⟨_, eff_storeA (n := 236) (s := 1000017) (size45.of (rfl)) rfl rfl (rfl) hBb17 rfl (rfl) (LV 7 rfl (LV 8 rfl (LV 9 rfl (LV 10 rfl (LV 11 rfl (LV 12 rfl (LV 13 rfl (LV 15 rfl (LV 16 rfl (LV 17 rfl (LV 84 rfl (LB 1000010 rfl LN)))))))))))), ?_⟩
   refine TL ?_
   refine RA rfl ?_
   refine RN ?_
   refine A.seq ?_
   refine GS ?_
   refine TL ?_
   refine RM rfl ?_
   refine RBS rfl rfl rfl (.bool false) (by first | rfl | (simp; done) | (simp; omega) | (simp [*]; done) | (simp [*]; omega)) ?_
   refine RM rfl ?_
   refine RQ (ok_move rfl) ?_
   refine RQ (ok_move rfl) ?_
   refine RQ (ok_bin rfl rfl rfl) ?_; refine RZ (.bool false) (by first | rfl | (simp; done) | (simp; omega) | (simp [*]; done) | (simp [*]; omega)) ?_
   refine RP rfl rfl ?_
   refine RN ?_
   refine A.no rfl ?_
   refine A.skip ?_
   refine EN ?_
   refine GS ?_
   refine TN 7 ?_
   refine RM rfl ?_
   refine RS (ok_loadA (s := 1000017) (by decide) Try.underlying45 rfl (size45.of (rfl)) rfl rfl) ?_
   refine RS (ok_call (Parent_up n h1 h2 (l - 1) (4 * j + w) (by omega) (chd hp hj hw) (by omega)) (A2 rfl rfl)) ?_
   refine RM rfl ?_
   refine RS (ok_extractV rfl rfl) ?_; refine RZ (aggV (plV l j)) (by rw [show l - 1 + 1 = l from by omega, show (4 * j + w) / 4 = j from by omega]) ?_
   refine RS (ok_extractV rfl rfl) ?_; refine RZ (nI (w)) (congrArg nI (by omega)) ?_
   refine RS (ok_extractV rfl rfl) ?_
   refine RN ?_
   refine ⟨_, _, eff_alloc (n := 236) (d := 19) (k := 1000019) zero45 (by decide), fun b19 hb19 => ?_⟩
   have hBb19 := hb19.1
   have hlt_b10_b19 : b10 < b19 := hb19.2 1000010 _ _ _ rfl
   have hlt_b17_b19 : b17 < b19 := hb19.2 1000017 _ _ _ rfl
   refine TF 8 ?_
   refine RN ?_
   refine ⟨_, eff_storeA (n := 236) (s := 1000019) (size45.of (rfl)) rfl rfl (rfl) hBb19 rfl (rfl) (LV 7 rfl (LV 8 rfl (LV 9 rfl (LV 10 rfl (LV 11 rfl (LV 12 rfl (LV 13 rfl (LV 15 rfl (LV 16 rfl (LV 17 rfl (LV 18 rfl (LV 19 rfl (LV 104 rfl (LV 105 rfl (LB 1000010 rfl (LB 1000017 rfl LN)))))))))))))))), ?_⟩
   refine TL ?_
   refine RA rfl ?_
   refine RA rfl ?_
   refine RN ?_
   refine A.sub (KC 7 rfl (KC 8 rfl (KC 9 rfl (KC 10 rfl (KC 11 rfl (KC 12 rfl (KC 13 rfl (KC 15 rfl (KC 16 rfl (KC 17 rfl (KC 18 rfl (KC 19 rfl (KC 20 rfl (KC 21 rfl (KC 1000010 rfl (KC 1000017 rfl (KC 1000019 rfl KN))))))))))))))))) ?_
   refine GS ?_
   refine TL ?_
   refine RM rfl ?_
   refine RS (ok_loadA (s := 1000017) (by decide) Try.underlying45 rfl (size45.of (rfl)) rfl rfl) ?_
   refine RS (ok_call (Blocks_ok n h1 h2 (l - 1) (4 * j + w) (by omega) (chd hp hj hw)) (A2 rfl rfl)) ?_
   refine RM rfl ?_
   refine RS (ok_extractV rfl rfl) ?_; refine RZ (nI (nxt n l j w)) (congrArg nI (chd_frm hp hj hw)) ?_
   refine RS (ok_extractV rfl rfl) ?_; refine RZ (nI (nxt n l j (w + 1))) (congrArg nI (chd_til hp hj hw)) ?_
   refine RS (ok_extractV rfl rfl) ?_
   refine RA rfl ?_
   refine RA rfl ?_
   refine RA rfl ?_
   refine RN ?_
   refine A.seq ?_
   refine GD ?_
   refine TL ?_
   refine RM rfl ?_
   refine RBS rfl rfl rfl (.bool false) (by first | rfl | (simp; done) | (simp; omega) | (simp [*]; done) | (simp [*]; omega)) ?_
   refine RM rfl ?_
   refine RQ (ok_move rfl) ?_
   refine RQ (ok_bin rfl rfl rfl) ?_; refine RZ (.bool false) (by first | rfl | (simp; done) | (simp; omega) | (simp [*]; done) | (simp [*]; omega)) ?_
   refine RP rfl rfl ?_
   refine RM rfl ?_
   refine RQ (ok_move rfl) ?_
   refine RQ (ok_bin rfl rfl rfl) ?_; refine RZ (.bool false) (by first | rfl | (simp; done) | (simp; omega) | (simp [*]; done) | (simp [*]; omega)) ?_
   refine RP rfl rfl ?_
   refine RM rfl ?_
   refine RQ (ok_loadA (s := 1000017) (by decide) Try.underlying45 rfl (size45.of (rfl)) rfl rfl) ?_
   refine RQ (ok_move rfl) ?_
   refine RQ (ok_bin rfl rfl rfl) ?_; refine RZ (nI (l - 1)) (wrap_eq (by omega) (by omega)) ?_
   refine RQ (ok_field field45_1 (by decide) rfl) ?_
   refine RQ (ok_loadV (s := 1000010) (by decide) Try.underlying3 rfl rfl rfl (rfl)) ?_
   refine RQ (ok_bin rfl rfl rfl) ?_; refine RZ (nI (4 * j)) (wrap_eq (by omega) (by omega)) ?_
   refine RQ (ok_move rfl) ?_
   refine RQ (ok_bin rfl rfl rfl) ?_; refine RZ (nI (4 * j + w)) (wrap_eq (by omega) (by omega)) ?_
   refine RQ (ok_call (place_fn ((l - 1 : Nat) : Int) ((4 * j + w : Nat) : Int)) (A2 rfl rfl)) ?_
   refine RQ (ok_neqT 3 true flatP (by decide) (by kernel_rfl) (by kernel_rfl) rfl rfl (kinP _ _) (kinP _ _) (iff_of_true rfl rfl)) ?_
   refine RP rfl rfl ?_
   refine RM rfl ?_
   refine RQ (ok_loadA (s := 1000019) (by decide) Try.underlying45 rfl (size45.of (rfl)) rfl rfl) ?_
   refine RQ (ok_loadA (s := 1000010) (by decide) Try.underlying45 rfl (size45.of (rfl)) rfl rfl) ?_
   refine RQ (ok_neqT 3 true flatP (by decide) (by kernel_rfl) (by kernel_rfl) rfl rfl (kinP _ _) (kinP _ _) (iff_of_true rfl rfl)) ?_
   refine RP rfl rfl ?_
   refine RM rfl ?_
   refine RQ (ok_move rfl) ?_
   refine RQ (ok_move rfl) ?_
   refine RQ (ok_bin rfl rfl rfl) ?_; refine RZ (.bool false) (by first | rfl | (simp; done) | (simp; omega) | (simp [*]; done) | (simp [*]; omega)) ?_
   refine RP rfl rfl ?_
   refine RM rfl ?_
   refine RQ (ok_move rfl) ?_
   refine RQ (ok_move rfl) ?_
   refine RQ (ok_bin rfl rfl rfl) ?_; refine RZ (.bool false) (by first | rfl | (simp; done) | (simp; omega) | (simp [*]; done) | (simp [*]; omega)) ?_
   refine RP rfl rfl ?_
   refine RM rfl ?_
   refine RQ (ok_move rfl) ?_
   refine RQ (ok_move rfl) ?_
   refine RQ (ok_bin rfl rfl rfl) ?_; refine RZ (.bool false) (by have := nxt_lt hp hj hw; simp; omega) ?_
   refine RP rfl rfl ?_
   refine RN ?_
   refine A.sub (KC 7 rfl (KC 8 rfl (KC 9 rfl (KC 10 rfl (KC 11 rfl (KC 12 rfl (KC 13 rfl (KC 16 rfl (KC 23 rfl (KC 154 rfl (KC 1000010 rfl (KC 1000017 rfl (KC 1000019 rfl KN))))))))))))) ?_
   refine A.no rfl ?_
   refine A.skip ?_
   refine EN ?_
   refine GE ?_
   refine TL ?_
   refine RM rfl ?_
   refine RA rfl ?_
   refine RN ?_
   refine End.normal_block ?_
   refine EN ?_
   refine GE ?_
   refine TL ?_
   refine RM rfl ?_
   refine RBS rfl rfl rfl (nI (w + 1)) (wrap_eq (by omega) (by omega)) ?_
   refine RA rfl ?_
   refine RN ?_
   refine End.normal_then ?_
   refine End.again (w + 1) ?_ ?_ ?_
   ·show _ ≤ _; omega
   ·show _ - _ < _ - _; omega
   ·exact (KC 7 rfl (KC 8 rfl (KC 9 rfl (KC 10 rfl (KC 11 rfl (KC 12 rfl (KC 13 rfl (KE 15 rfl (by first | rfl | rw [nxt_z hz] | rw [nxt_n hp hw]) (KC 16 rfl (KC 1000010 rfl KN))))))))))
  ·refine GS ?_
   refine TN 7 ?_
   refine RM rfl ?_
   refine RS (ok_loadA (s := 1000010) (by decide) Try.underlying45 rfl (size45.of (rfl)) rfl rfl) ?_
   refine RM rfl ?_
   refine RS (ok_call (Child_none n h1 h2 l j hl hj hp w hlt hw) (A3 rfl rfl rfl)) ?_
   refine RM rfl ?_
   refine RS (ok_extractV rfl rfl) ?_
   refine RS (ok_extractV rfl rfl) ?_
   refine RN ?_
   refine ⟨_, _, eff_alloc (n := 236) (d := 17) (k := 1000017) zero45 (by decide), fun b17 hb17 => ?_⟩
   have hBb17 := hb17.1
   have hlt_b10_b17 : b10 < b17 := hb17.2 1000010 _ _ _ rfl
   refine TF 8 ?_
   refine RN ?_
   refine ⟨_, eff_storeA (n := 236) (s := 1000017) (size45.of (rfl)) rfl rfl (rfl) hBb17 rfl (rfl) (LV 7 rfl (LV 8 rfl (LV 9 rfl (LV 10 rfl (LV 11 rfl (LV 12 rfl (LV 13 rfl (LV 15 rfl (LV 16 rfl (LV 17 rfl (LV 84 rfl (LB 1000010 rfl LN)))))))))))), ?_⟩
   refine TL ?_
   refine RA rfl ?_
   refine RN ?_
   refine A.seq ?_
   refine GS ?_
   refine TL ?_
   refine RM rfl ?_
   refine RBS rfl rfl rfl (.bool false) (by first | rfl | (simp; done) | (simp; omega) | (simp [*]; done) | (simp [*]; omega)) ?_
   refine RM rfl ?_
   refine RQ (ok_move rfl) ?_
   refine RQ (ok_move rfl) ?_
   refine RQ (ok_bin rfl rfl rfl) ?_; refine RZ (.bool true) (by first | rfl | (simp; done) | (simp; omega) | (simp [*]; done) | (simp [*]; omega)) ?_
   refine RP rfl rfl ?_
   refine RN ?_
   refine A.yes rfl ?_
   refine A.seq ?_
   refine GD ?_
   refine TL ?_
   refine RM rfl ?_
   refine RBS rfl rfl rfl (.bool false) (by first | rfl | (simp; done) | (simp; omega) | (simp [*]; done) | (simp [*]; omega)) ?_
   refine RM rfl ?_
   refine RQ (ok_loadA (s := 1000017) (by decide) Try.underlying45 rfl (size45.of (rfl)) rfl rfl) ?_
   refine RQ (ok_call (place_fn 0 0) (A2 rfl rfl)) ?_
   refine RQ (ok_neqT 3 true flatP (by decide) (by kernel_rfl) (by kernel_rfl) rfl rfl (kinP _ _) (kinP _ _) (iff_of_true rfl rfl)) ?_
   refine RP rfl rfl ?_
   refine RN ?_
   refine A.sub (KC 7 rfl (KC 8 rfl (KC 9 rfl (KC 10 rfl (KC 11 rfl (KC 12 rfl (KC 13 rfl (KC 15 rfl (KC 16 rfl (KC 98 rfl (KC 1000010 rfl (KC 1000017 rfl KN)))))))))))) ?_
   refine A.no rfl ?_
   refine A.skip ?_
   refine EN ?_
   refine A.exit ?_
   refine End.exit_then ?_
   refine End.exit_here ?_
   refine EN ?_
   refine GE ?_
   refine TL ?_
   refine RM rfl ?_
   refine RBS rfl rfl rfl (nI (w + 1)) (wrap_eq (by omega) (by omega)) ?_
   refine RA rfl ?_
   refine RN ?_
   refine End.normal_then ?_
   refine End.again (w + 1) ?_ ?_ ?_
   ·show _ ≤ _; omega
   ·show _ - _ < _ - _; omega
   ·exact (KC 7 rfl (KC 8 rfl (KC 9 rfl (KC 10 rfl (KC 11 rfl (KC 12 rfl (KC 13 rfl (KE 15 rfl (by first | rfl | rw [nxt_z hz] | rw [nxt_n hp hw]) (KC 16 rfl (KC 1000010 rfl KN))))))))))
 ·have hw4 : w = 4 := by simp at hc75; omega
  refine A.exit ?_
  refine End.exit_then ?_
  refine End.exit_then ?_
  refine End.exit_here ?_
  refine EN ?_
  refine A.seq ?_
  rcases Nat.eq_zero_or_pos l with hz | hp
  ·refine GS ?_
   refine TL ?_
   refine RM rfl ?_
   refine RBS rfl rfl rfl (.bool false) (by first | rfl | (simp; done) | (simp; omega) | (simp [*]; done) | (simp [*]; omega)) ?_
   refine RM rfl ?_
   refine RK ?_
   refine RK ?_
   refine RK ?_
   refine RP rfl rfl ?_
   refine RM rfl ?_
   refine RQ (ok_move rfl) ?_
   refine RQ (ok_bin rfl rfl rfl) ?_; refine RZ (.bool true) (by first | rfl | (simp; done) | (simp; omega) | (simp [*]; done) | (simp [*]; omega)) ?_
   refine RQ (ok_move rfl) ?_
   refine RQ (ok_move rfl) ?_
   refine RQ (ok_field field45_1 (by decide) rfl) ?_
   refine RQ (ok_loadV (s := 1000010) (by decide) Try.underlying3 rfl rfl rfl (rfl)) ?_
   refine RQ (ok_bin rfl rfl rfl) ?_; refine RZ (nI (4 * j)) (wrap_eq (by omega) (by omega)) ?_
   refine RQ (ok_bin rfl rfl rfl) ?_; refine RZ (.bool false) (by have := fam0 hz hj; simp; omega) ?_
   refine RQ (ok_move rfl) ?_
   refine RQ (ok_move rfl) ?_
   refine RQ (ok_move rfl) ?_
   refine RQ (ok_move rfl) ?_
   refine RQ (ok_bin rfl rfl rfl) ?_; refine RZ (nI (frm l j + pts n l j)) (wrap_eq (by omega) (by omega)) ?_
   refine RQ (ok_bin rfl rfl rfl) ?_; refine RZ (.bool false) (by have := fam0 hz hj; simp; omega) ?_
   refine RQ (ok_pick rfl rfl) ?_
   refine RQ (ok_pick rfl rfl) ?_
   refine RP rfl rfl ?_
   refine RN ?_
   refine A.sub (KC 7 rfl (KC 8 rfl (KC 9 rfl (KC 10 rfl (KC 12 rfl (KC 13 rfl (KC 180 rfl (KC 1000010 rfl KN)))))))) ?_
   refine A.no rfl ?_
   refine A.skip ?_
   refine EN ?_
   rcases Nat.lt_or_ge l (hg n) with hu | hu
   ·refine GS ?_
    refine TN 7 ?_
    refine RM rfl ?_
    refine RS (ok_loadA (s := 1000010) (by decide) Try.underlying45 rfl (size45.of (rfl)) rfl rfl) ?_
    refine RS (ok_call (Parent_up n h1 h2 l j hl hj hu) (A2 rfl rfl)) ?_
    refine RM rfl ?_
    refine RS (ok_extractV rfl rfl) ?_
    refine RS (ok_extractV rfl rfl) ?_
    refine RS (ok_extractV rfl rfl) ?_
    refine RN ?_
    refine ⟨_, _, eff_alloc (n := 236) (d := 25) (k := 1000025) zero45 (by decide), fun b25 hb25 => ?_⟩
    have hBb25 := hb25.1
    have hlt_b10_b25 : b10 < b25 := hb25.2 1000010 _ _ _ rfl
    refine TF 8 ?_
    refine RN ?_
    refine ⟨_, eff_storeA (n := 236) (s := 1000025) (size45.of (rfl)) rfl rfl (rfl) hBb25 rfl (rfl) (LV 7 rfl (LV 8 rfl (LV 9 rfl (LV 10 rfl (LV 12 rfl (LV 13 rfl (LV 25 rfl (LV 186 rfl (LV 187 rfl (LB 1000010 rfl LN)))))))))), ?_⟩
    refine TL ?_
    refine RA rfl ?_
    refine RA rfl ?_
    refine RN ?_
    refine A.seq ?_
    refine GS ?_
    refine TL ?_
    refine RM rfl ?_
    refine RM rfl ?_
    refine RBS rfl rfl rfl (.bool false) (by first | rfl | (simp; done) | (simp; omega) | (simp [*]; done) | (simp [*]; omega)) ?_
    refine RN ?_
    refine A.no rfl ?_
    refine A.skip ?_
    refine EN ?_
    refine GD ?_
    refine TL ?_
    refine RM rfl ?_
    refine RBS rfl rfl rfl (.bool true) (by first | rfl | (simp; done) | (simp; omega) | (simp [*]; done) | (simp [*]; omega)) ?_
    refine RM rfl ?_
    refine RQ (ok_loadA (s := 1000025) (by decide) Try.underlying45 rfl (size45.of (rfl)) rfl rfl) ?_
    refine RQ (ok_move rfl) ?_
    refine RQ (ok_bin rfl rfl rfl) ?_; refine RZ (nI (l + 1)) (wrap_eq (by omega) (by omega)) ?_
    refine RQ (ok_field field45_1 (by decide) rfl) ?_
    refine RQ (ok_loadV (s := 1000010) (by decide) Try.underlying3 rfl rfl rfl (rfl)) ?_
    refine RQ (ok_div rfl rfl (by decide)) ?_; refine RZ (nI ((j) / 4)) (by rw [tdiv_lit _ (by decide)]; exact wrap_eq rfl (by first | omega | (simp only [Int.toNat]; omega))) ?_
    refine RQ (ok_call (place_fn ((l + 1 : Nat) : Int) ((j / 4 : Nat) : Int)) (A2 rfl rfl)) ?_
    refine RQ (ok_eqlT 3 true flatP (by decide) (by kernel_rfl) (by kernel_rfl) rfl rfl (kinP _ _) (kinP _ _) (iff_of_true rfl rfl)) ?_
    refine RP rfl rfl ?_
    refine RM rfl ?_
    refine RQ (ok_move rfl) ?_
    refine RQ (ok_field field45_1 (by decide) rfl) ?_
    refine RQ (ok_loadV (s := 1000010) (by decide) Try.underlying3 rfl rfl rfl (rfl)) ?_
    refine RQ (ok_rem rfl rfl (by decide)) ?_; refine RZ (nI ((j) % 4)) (by rw [tmod_lit _ (by decide)]; rfl) ?_
    refine RQ (ok_bin rfl rfl rfl) ?_; refine RZ (.bool true) (by first | rfl | (simp; done) | (simp; omega) | (simp [*]; done) | (simp [*]; omega)) ?_
    refine RP rfl rfl ?_
    refine RM rfl ?_
    refine RQ (ok_call (lives12_fn) Args.nil) ?_
    refine RP rfl rfl ?_
    refine RA rfl ?_
    refine RN ?_
    refine A.sub (KC 6 rfl (KC 1000010 rfl (KC 1000025 rfl KN))) ?_
    refine A.ret ?_
    exact End.ret1 rfl rfl (by first | exact Le.refl _ | exact Le.old _ _)
   ·refine GS ?_
    refine TN 7 ?_
    refine RM rfl ?_
    refine RS (ok_loadA (s := 1000010) (by decide) Try.underlying45 rfl (size45.of (rfl)) rfl rfl) ?_
    refine RS (ok_call (Parent_r n h1 h2 l j hl hj (by omega)) (A2 rfl rfl)) ?_
    refine RM rfl ?_
    refine RS (ok_extractV rfl rfl) ?_
    refine RS (ok_extractV rfl rfl) ?_
    refine RS (ok_extractV rfl rfl) ?_
    refine RN ?_
    refine ⟨_, _, eff_alloc (n := 236) (d := 25) (k := 1000025) zero45 (by decide), fun b25 hb25 => ?_⟩
    have hBb25 := hb25.1
    have hlt_b10_b25 : b10 < b25 := hb25.2 1000010 _ _ _ rfl
    refine TF 8 ?_
    refine RN ?_
    refine ⟨_, eff_storeA (n := 236) (s := 1000025) (size45.of (rfl)) rfl rfl (rfl) hBb25 rfl (rfl) (LV 7 rfl (LV 8 rfl (LV 9 rfl (LV 10 rfl (LV 12 rfl (LV 13 rfl (LV 25 rfl (LV 186 rfl (LV 187 rfl (LB 1000010 rfl LN)))))))))), ?_⟩
    refine TL ?_
    refine RA rfl ?_
    refine RA rfl ?_
    refine RN ?_
    refine A.seq ?_
    refine GS ?_
    refine TL ?_
    refine RM rfl ?_
    refine RM rfl ?_
    refine RBS rfl rfl rfl (.bool true) (by first | rfl | (simp; done) | (simp; omega) | (simp [*]; done) | (simp [*]; omega)) ?_
    refine RN ?_
    refine A.yes rfl ?_
    refine GD ?_
    refine TL ?_
    refine RM rfl ?_
    refine RBS rfl rfl rfl (.bool true) (by first | rfl | (simp; done) | (simp; omega) | (simp [*]; done) | (simp [*]; omega)) ?_
    refine RM rfl ?_
    refine RQ (ok_loadA (s := 1000025) (by decide) Try.underlying45 rfl (size45.of (rfl)) rfl rfl) ?_
    refine RQ (ok_call (place_fn 0 0) (A2 rfl rfl)) ?_
    refine RQ (ok_eqlT 3 true flatP (by decide) (by kernel_rfl) (by kernel_rfl) rfl rfl (kinP _ _) (kinP _ _) (iff_of_true rfl rfl)) ?_
    refine RP rfl rfl ?_
    refine RM rfl ?_
    refine RQ (ok_move rfl) ?_
    refine RQ (ok_bin rfl rfl rfl) ?_; refine RZ (.bool true) (by first | rfl | (simp; done) | (simp; omega) | (simp [*]; done) | (simp [*]; omega)) ?_
    refine RP rfl rfl ?_
    refine RM rfl ?_
    refine RQ (ok_move rfl) ?_
    refine RQ (ok_bin rfl rfl rfl) ?_; refine RZ (.bool true) (by rw [(fam_root h1 h2 (show l = hg n by omega) hj).2.1]; rfl) ?_
    refine RP rfl rfl ?_
    refine RM rfl ?_
    refine RQ (ok_move rfl) ?_
    refine RQ (ok_move rfl) ?_
    refine RQ (ok_bin rfl rfl rfl) ?_; refine RZ (.bool true) (by rw [(fam_root h1 h2 (show l = hg n by omega) hj).2.2]; simp) ?_
    refine RP rfl rfl ?_
    refine RM rfl ?_
    refine RQ (ok_call (lives12_fn) Args.nil) ?_
    refine RP rfl rfl ?_
    refine RA rfl ?_
    refine RN ?_
    refine A.sub (KC 6 rfl (KC 1000010 rfl (KC 1000025 rfl KN))) ?_
    refine A.ret ?_
    refine End.ret_then ?_
    exact End.ret1 rfl rfl (by first | exact Le.refl _ | exact Le.old _ _)
  ·refine GS ?_
   refine TL ?_
   refine RM rfl ?_
   refine RBS rfl rfl rfl (.bool true) (by first | rfl | (simp; done) | (simp; omega) | (simp [*]; done) | (simp [*]; omega)) ?_
   refine RM rfl ?_
   refine RQ (ok_move rfl) ?_
   refine RQ (ok_move rfl) ?_
   refine RQ (ok_bin rfl rfl rfl) ?_; refine RZ (.bool false) (by rw [hw4, nxt_end hp hj]; simp) ?_
   refine RP rfl rfl ?_
   refine RM rfl ?_
   refine RQ (ok_move rfl) ?_
   refine RQ (ok_bin rfl rfl rfl) ?_; refine RZ (.bool false) (by first | rfl | (simp; done) | (simp; omega) | (simp [*]; done) | (simp [*]; omega)) ?_
   refine RQ (ok_move rfl) ?_
   refine RK ?_
   refine RK ?_
   refine RK ?_
   refine RK ?_
   refine RK ?_
   refine RK ?_
   refine RunK.skippedU rfl rfl rfl rfl ?_
   refine RunK.skippedU rfl rfl rfl rfl ?_
   refine RunK.skippedU rfl rfl rfl rfl ?_
   refine RunK.skippedU rfl rfl rfl rfl ?_
   refine RunK.skippedU rfl rfl rfl rfl ?_
   refine RK ?_
   refine RQ (ok_pick rfl rfl) ?_
   refine RP rfl rfl ?_
   refine RN ?_
   refine A.sub (KC 7 rfl (KC 8 rfl (KC 9 rfl (KC 10 rfl (KC 12 rfl (KC 13 rfl (KC 180 rfl (KC 1000010 rfl KN)))))))) ?_
   refine A.no rfl ?_
   refine A.skip ?_
   refine EN ?_
   rcases Nat.lt_or_ge l (hg n) with hu | hu
   ·refine GS ?_
    refine TN 7 ?_
    refine RM rfl ?_
    refine RS (ok_loadA (s := 1000010) (by decide) Try.underlying45 rfl (size45.of (rfl)) rfl rfl) ?_
    refine RS (ok_call (Parent_up n h1 h2 l j hl hj hu) (A2 rfl rfl)) ?_
    refine RM rfl ?_
    refine RS (ok_extractV rfl rfl) ?_
    refine RS (ok_extractV rfl rfl) ?_
    refine RS (ok_extractV rfl rfl) ?_
    refine RN ?_
    refine ⟨_, _, eff_alloc (n := 236) (d := 25) (k := 1000025) zero45 (by decide), fun b25 hb25 => ?_⟩
    have hBb25 := hb25.1
    have hlt_b10_b25 : b10 < b25 := hb25.2 1000010 _ _ _ rfl
    refine TF 8 ?_
    refine RN ?_
    refine ⟨_, eff_storeA (n := 236) (s := 1000025) (size45.of (rfl)) rfl rfl (rfl) hBb25 rfl (rfl) (LV 7 rfl (LV 8 rfl (LV 9 rfl (LV 10 rfl (LV 12 rfl (LV 13 rfl (LV 25 rfl (LV 186 rfl (LV 187 rfl (LB 1000010 rfl LN)))))))))), ?_⟩
    refine TL ?_
    refine RA rfl ?_
    refine RA rfl ?_
    refine RN ?_
    refine A.seq ?_
    refine GS ?_
    refine TL ?_
    refine RM rfl ?_
    refine RM rfl ?_
    refine RBS rfl rfl rfl (.bool false) (by first | rfl | (simp; done) | (simp; omega) | (simp [*]; done) | (simp [*]; omega)) ?_
    refine RN ?_
    refine A.no rfl ?_
    refine A.skip ?_
    refine EN ?_
    refine GD ?_
    refine TL ?_
    refine RM rfl ?_
    refine RBS rfl rfl rfl (.bool true) (by first | rfl | (simp; done) | (simp; omega) | (simp [*]; done) | (simp [*]; omega)) ?_
    refine RM rfl ?_
    refine RQ (ok_loadA (s := 1000025) (by decide) Try.underlying45 rfl (size45.of (rfl)) rfl rfl) ?_
    refine RQ (ok_move rfl) ?_
    refine RQ (ok_bin rfl rfl rfl) ?_; refine RZ (nI (l + 1)) (wrap_eq (by omega) (by omega)) ?_
    refine RQ (ok_field field45_1 (by decide) rfl) ?_
    refine RQ (ok_loadV (s := 1000010) (by decide) Try.underlying3 rfl rfl rfl (rfl)) ?_
    refine RQ (ok_div rfl rfl (by decide)) ?_; refine RZ (nI ((j) / 4)) (by rw [tdiv_lit _ (by decide)]; exact wrap_eq rfl (by first | omega | (simp only [Int.toNat]; omega))) ?_
    refine RQ (ok_call (place_fn ((l + 1 : Nat) : Int) ((j / 4 : Nat) : Int)) (A2 rfl rfl)) ?_
    refine RQ (ok_eqlT 3 true flatP (by decide) (by kernel_rfl) (by kernel_rfl) rfl rfl (kinP _ _) (kinP _ _) (iff_of_true rfl rfl)) ?_
    refine RP rfl rfl ?_
    refine RM rfl ?_
    refine RQ (ok_move rfl) ?_
    refine RQ (ok_field field45_1 (by decide) rfl) ?_
    refine RQ (ok_loadV (s := 1000010) (by decide) Try.underlying3 rfl rfl rfl (rfl)) ?_
    refine RQ (ok_rem rfl rfl (by decide)) ?_; refine RZ (nI ((j) % 4)) (by rw [tmod_lit _ (by decide)]; rfl) ?_
    refine RQ (ok_bin rfl rfl rfl) ?_; refine RZ (.bool true) (by first | rfl | (simp; done) | (simp; omega) | (simp [*]; done) | (simp [*]; omega)) ?_
    refine RP rfl rfl ?_
    refine RM rfl ?_
    refine RQ (ok_call (lives12_fn) Args.nil) ?_
    refine RP rfl rfl ?_
    refine RA rfl ?_
    refine RN ?_
    refine A.sub (KC 6 rfl (KC 1000010 rfl (KC 1000025 rfl KN))) ?_
    refine A.ret ?_
    exact End.ret1 rfl rfl (by first | exact Le.refl _ | exact Le.old _ _)
   ·refine GS ?_
    refine TN 7 ?_
    refine RM rfl ?_
    refine RS (ok_loadA (s := 1000010) (by decide) Try.underlying45 rfl (size45.of (rfl)) rfl rfl) ?_
    refine RS (ok_call (Parent_r n h1 h2 l j hl hj (by omega)) (A2 rfl rfl)) ?_
    refine RM rfl ?_
    refine RS (ok_extractV rfl rfl) ?_
    refine RS (ok_extractV rfl rfl) ?_
    refine RS (ok_extractV rfl rfl) ?_
    refine RN ?_
    refine ⟨_, _, eff_alloc (n := 236) (d := 25) (k := 1000025) zero45 (by decide), fun b25 hb25 => ?_⟩
    have hBb25 := hb25.1
    have hlt_b10_b25 : b10 < b25 := hb25.2 1000010 _ _ _ rfl
    refine TF 8 ?_
    refine RN ?_
    refine ⟨_, eff_storeA (n := 236) (s := 1000025) (size45.of (rfl)) rfl rfl (rfl) hBb25 rfl (rfl) (LV 7 rfl (LV 8 rfl (LV 9 rfl (LV 10 rfl (LV 12 rfl (LV 13 rfl (LV 25 rfl (LV 186 rfl (LV 187 rfl (LB 1000010 rfl LN)))))))))), ?_⟩
    refine TL ?_
    refine RA rfl ?_
    refine RA rfl ?_
    refine RN ?_
    refine A.seq ?_
    refine GS ?_
    refine TL ?_
    refine RM rfl ?_
    refine RM rfl ?_
    refine RBS rfl rfl rfl (.bool true) (by first | rfl | (simp; done) | (simp; omega) | (simp [*]; done) | (simp [*]; omega)) ?_
    refine RN ?_
    refine A.yes rfl ?_
    refine GD ?_
    refine TL ?_
    refine RM rfl ?_
    refine RBS rfl rfl rfl (.bool true) (by first | rfl | (simp; done) | (simp; omega) | (simp [*]; done) | (simp [*]; omega)) ?_
    refine RM rfl ?_
    refine RQ (ok_loadA (s := 1000025) (by decide) Try.underlying45 rfl (size45.of (rfl)) rfl rfl) ?_
    refine RQ (ok_call (place_fn 0 0) (A2 rfl rfl)) ?_
    refine RQ (ok_eqlT 3 true flatP (by decide) (by kernel_rfl) (by kernel_rfl) rfl rfl (kinP _ _) (kinP _ _) (iff_of_true rfl rfl)) ?_
    refine RP rfl rfl ?_
    refine RM rfl ?_
    refine RQ (ok_move rfl) ?_
    refine RQ (ok_bin rfl rfl rfl) ?_; refine RZ (.bool true) (by first | rfl | (simp; done) | (simp; omega) | (simp [*]; done) | (simp [*]; omega)) ?_
    refine RP rfl rfl ?_
    refine RM rfl ?_
    refine RQ (ok_move rfl) ?_
    refine RQ (ok_bin rfl rfl rfl) ?_; refine RZ (.bool true) (by rw [(fam_root h1 h2 (show l = hg n by omega) hj).2.1]; rfl) ?_
    refine RP rfl rfl ?_
    refine RM rfl ?_
    refine RQ (ok_move rfl) ?_
    refine RQ (ok_move rfl) ?_
    refine RQ (ok_bin rfl rfl rfl) ?_; refine RZ (.bool true) (by rw [(fam_root h1 h2 (show l = hg n by omega) hj).2.2]; simp) ?_
    refine RP rfl rfl ?_
    refine RM rfl ?_
    refine RQ (ok_call (lives12_fn) Args.nil) ?_
    refine RP rfl rfl ?_
    refine RA rfl ?_
    refine RN ?_
    refine A.sub (KC 6 rfl (KC 1000010 rfl (KC 1000025 rfl KN))) ?_
    refine A.ret ?_
    refine End.ret_then ?_
    exact End.ret1 rfl rfl (by first | exact Le.refl _ | exact Le.old _ _)
set_option maxHeartbeats 2000000 in
theorem ShapesPath_fn (kk : Nat) (hkk : kk < 65536) (f : Nat) (hf : f < 65536) : Fn Try.prog 6 [.v (aggV [.int .u16 (kk : Int)]), .v (.int .u16 ((f : Nat) : Int))] (.v (.bool true)) := by
 obtain ⟨n, hn⟩ : ∃ n, n = nn kk := ⟨_, rfl⟩
 have h1 : 1 ≤ n := hn ▸ nn1 kk
 have h2 : n ≤ 4096 := hn ▸ nn2 kk
 have hh := hg_le n
 obtain ⟨x, hx0⟩ : ∃ x, x = f % n := ⟨_, rfl⟩
 have hx : x < n := hx0 ▸ Nat.mod_lt _ (by omega)
 refine Fn.of Try.func6 rfl (by kernel_rfl) Try.ntmps6 (by simp) (fun w => [(0, .v (aggV [.int .u16 (kk : Int)])), (1, .v (.int .u16 ((f : Nat) : Int)))]) (fun w => (Start.v rfl (Start.v rfl Start.nil))) fun w₀ => ?_
 refine GS ?_
 refine TN 0 ?_
 refine RN ?_
 refine ⟨_, _, eff_box (n := 154) (d := 2) (k := 1000002) rfl (by decide), fun b2 hb2 => ?_⟩
 have hBb2 := hb2.1
 refine TL ?_
 refine RA rfl ?_
 refine RN ?_
 refine GS ?_
 refine TL ?_
 refine RS (ok_loadA (s := 1000002) (by decide) Try.underlying24 rfl (size24.of (rfl)) rfl rfl) ?_
 refine RS (ok_call (NOf_fn kk hkk) (A1 rfl)) ?_; refine RZ (nI (n)) (by rw [hn]) ?_
 refine RA rfl ?_
 refine RN ?_
 refine GS ?_
 refine TL ?_
 refine RM rfl ?_
 refine RS (ok_conv Try.underlying22 Try.underlying3 rfl) ?_; refine RZ (nI (f)) (wrap_eq (by omega) (by omega)) ?_
 refine RM rfl ?_
 refine RS (ok_rem rfl rfl (by omega)) ?_; refine RZ (nI (x)) (by rw [tmod_nat, ← hx0]) ?_
 refine RA rfl ?_
 refine RN ?_
 refine GS ?_
 refine TN 2 ?_
 refine RM rfl ?_
 refine RM rfl ?_
 refine RN ?_
 refine ⟨_, _, eff_name (n := 154) (d := 28) (k := 1000028) rfl rfl (fun B' => ok_callB (Path_fnB n h1 h2 x hx) (fun _ _ h => newD_mono _ _ h) (A2 rfl rfl)) (by decide) (by decide), fun b28 hb28 => ?_⟩
 have hBb28 := hb28.1
 have hlt_b2_b28 : b2 < b28 := hb28.2 1000002 _ _ _ rfl
 refine TL ?_
 refine RM rfl ?_
 refine RS (ok_extractV rfl rfl) ?_
 refine RS (ok_extractV rfl rfl) ?_
 refine RA rfl ?_
 refine RA rfl ?_
 refine RN ?_
 refine GS ?_
 refine TN 7 ?_
 refine RM rfl ?_
 refine RM rfl ?_
 refine RS (ok_call (Group_ok n h1 h2 x hx) (A2 rfl rfl)) ?_
 refine RM rfl ?_
 refine RS (ok_extractV rfl rfl) ?_
 refine RS (ok_extractV rfl rfl) ?_
 refine RS (ok_extractV rfl rfl) ?_
 refine RN ?_
 refine ⟨_, _, eff_alloc (n := 154) (d := 9) (k := 1000009) zero45 (by decide), fun b9 hb9 => ?_⟩
 have hBb9 := hb9.1
 have hlt_b28_b9 : b28 < b9 := hb9.2 1000028 _ _ _ rfl
 refine TF 8 ?_
 refine RN ?_
 refine ⟨_, eff_storeA (n := 154) (s := 1000009) (size45.of (rfl)) rfl rfl (rfl) hBb9 rfl (rfl) (LV 5 rfl (LV 6 rfl (LV 7 rfl (LV 8 rfl (LV 9 rfl (LV 36 rfl (LV 37 rfl (LT 1000002 rfl (LB 1000028 rfl LN))))))))), ?_⟩
 refine TL ?_
 refine RA rfl ?_
 refine RA rfl ?_
 refine RN ?_
 refine A.sub (KC 5 rfl (KC 6 rfl (KC 7 rfl (KC 8 rfl (KC 9 rfl (KC 10 rfl (KC 11 rfl (KC 1000002 rfl (KC 1000009 rfl (KC 1000028 rfl KN)))))))))) ?_
 refine A.seq ?_
 refine GD ?_
 refine TL ?_
 refine RM rfl ?_
 refine RBS rfl rfl rfl (.bool false) (by first | rfl | (simp; done) | (simp; omega) | (simp [*]; done) | (simp [*]; omega)) ?_
 refine RM rfl ?_
 refine RQ (ok_move rfl) ?_
 refine RQ (ok_bin rfl rfl rfl) ?_; refine RZ (.bool false) (by first | rfl | (simp; done) | (simp; omega) | (simp [*]; done) | (simp [*]; omega)) ?_
 refine RP rfl rfl ?_
 refine RM rfl ?_
 refine RQ (ok_move rfl) ?_
 refine RQ (ok_lenV Try.underlying54 rfl) ?_
 refine RQ (ok_move rfl) ?_
 refine RQ (ok_call (rHeight_fn n h1 h2) (A1 rfl)) ?_
 refine RQ (ok_bin rfl rfl rfl) ?_; refine RZ (nI (hg n + 1)) (wrap_eq (by omega) (by omega)) ?_
 refine RQ (ok_bin rfl rfl rfl) ?_; refine RZ (.bool false) (by first | rfl | (simp; done) | (simp; omega) | (simp [*]; done) | (simp [*]; omega)) ?_
 refine RP rfl rfl ?_
 refine RM rfl ?_
 refine RQ (ok_move rfl) ?_
 refine RQ (ok_capV Try.underlying54 rfl) ?_
 refine RQ (ok_move rfl) ?_
 refine RQ (ok_lenV Try.underlying54 rfl) ?_
 refine RQ (ok_bin rfl rfl rfl) ?_; refine RZ (.bool false) (by first | rfl | (simp; done) | (simp; omega) | (simp [*]; done) | (simp [*]; omega)) ?_
 refine RP rfl rfl ?_
 refine RM rfl ?_
 refine RQ (ok_loadA (s := 1000009) (by decide) Try.underlying45 rfl (size45.of (rfl)) rfl rfl) ?_
 refine RQ (ok_move rfl) ?_
 refine RQ (ok_div rfl rfl (by decide)) ?_; refine RZ (nI ((x) / 4)) (by rw [tdiv_lit _ (by decide)]; exact wrap_eq rfl (by first | omega | (simp only [Int.toNat]; omega))) ?_
 refine RQ (ok_call (place_fn 0 ((x / 4 : Nat) : Int)) (A2 rfl rfl)) ?_
 refine RQ (ok_neqT 3 true flatP (by decide) (by kernel_rfl) (by kernel_rfl) rfl rfl (kinP _ _) (kinP _ _) (iff_of_true rfl rfl)) ?_
 refine RP rfl rfl ?_
 refine RM rfl ?_
 refine RQ (ok_move rfl) ?_
 refine RQ (ok_move rfl) ?_
 refine RQ (ok_rem rfl rfl (by decide)) ?_; refine RZ (nI ((x) % 4)) (by rw [tmod_lit _ (by decide)]; rfl) ?_
 refine RQ (ok_bin rfl rfl rfl) ?_; refine RZ (.bool false) (by first | rfl | (simp; done) | (simp; omega) | (simp [*]; done) | (simp [*]; omega)) ?_
 refine RP rfl rfl ?_
 refine RM rfl ?_
 refine RQ (ok_move rfl) ?_
 refine RQ (ok_move rfl) ?_
 refine RQ (ok_lenV Try.underlying54 rfl) ?_
 refine RQ (ok_bin rfl rfl rfl) ?_; refine RZ (nI (hg n)) (wrap_eq (by omega) (by omega)) ?_
 refine RQ (ok_indexS (hg n) Try.underlying54 infoPP rfl rfl rfl (by omega)) ?_
 refine RQ (ok_loadP (ys := stp n x (hg n)) (s := 1000028) (by decide) Try.underlying45 rfl size45 rfl rfl (by rw [pathV_length (Nat.le_refl _)]; omega) (by rw [Nat.zero_add]; exact pathV_get (by omega))) ?_; refine RZ (aggV (plV 0 (x / 4))) (by rw [stp_last]) ?_
 refine RQ (ok_loadA (s := 1000009) (by decide) Try.underlying45 rfl (size45.of (rfl)) rfl rfl) ?_
 refine RQ (ok_neqT 3 true flatP (by decide) (by kernel_rfl) (by kernel_rfl) rfl rfl (kinP _ _) (kinP _ _) (iff_of_true rfl rfl)) ?_
 refine RP rfl rfl ?_
 refine RN ?_
 refine A.sub (KC 5 rfl (KC 6 rfl (KC 7 rfl (KC 81 rfl (KC 1000002 rfl (KC 1000009 rfl (KC 1000028 rfl KN))))))) ?_
 refine A.no rfl ?_
 refine A.skip ?_
 refine EN ?_
 refine A.seq ?_
 refine GS ?_
 refine TL ?_
 refine RA rfl ?_
 refine RN ?_
 refine A.block ?_
 refine A.loop (ι := Nat) (fun k => k ≤ hg n + 1) (fun k => [(5, .v (nI (n))), (6, .v (nI (x))), (7, .v (.slice (some ⟨b28, 0, none⟩) (hg n + 1) (hg n + 1))), (12, .v (nI (k))), (1000028, blk b28 45 (pathV n x (hg n + 1)))]) (fun k => hg n + 1 - k) 0 ?_ ?_ ?_
 ·exact Nat.zero_le _
 ·exact (KC 5 rfl (KC 6 rfl (KC 7 rfl (KC 12 rfl (KC 1000028 rfl KN)))))
 intro k hk
 refine A.seq ?_
 refine GS ?_
 refine TL ?_
 refine RM rfl ?_
 refine RM rfl ?_
 refine RS (ok_lenV Try.underlying54 rfl) ?_
 refine RB rfl rfl rfl ?_
 refine RN ?_
 refine A.cond rfl (fun hc85 => ?_) (fun hc85 => ?_)
 ·have hlt : k ≤ hg n := by simp at hc85; omega
  refine A.skip ?_
  refine EN ?_
  refine A.seq ?_
  refine A.block ?_
  refine GS ?_
  refine TL ?_
  refine RM rfl ?_
  refine RS (ok_lenV Try.underlying54 rfl) ?_
  refine RBS rfl rfl rfl (nI (hg n)) (wrap_eq (by omega) (by omega)) ?_
  refine RM rfl ?_
  refine RBS rfl rfl rfl (nI (hg n - k)) (wrap_eq (by omega) (by omega)) ?_
  refine RA rfl ?_
  refine RN ?_
  refine GS ?_
  refine TL ?_
  refine RM rfl ?_
  refine RM rfl ?_
  refine RM rfl ?_
  refine RS (ok_indexS (k) Try.underlying54 infoPP rfl rfl rfl (by omega)) ?_
  refine RS (ok_loadP (ys := stp n x (k)) (s := 1000028) (by decide) Try.underlying45 rfl size45 rfl rfl (by rw [pathV_length (Nat.le_refl _)]; omega) (by rw [Nat.zero_add]; exact pathV_get (by omega))) ?_
  refine RS (ok_call (Blocks_ok n h1 h2 (hg n - k) (x / 4 ^ (hg n - k + 1)) (by omega) (stp_ok hx _)) (A2 rfl rfl)) ?_
  refine RM rfl ?_
  refine RS (ok_extractV rfl rfl) ?_
  refine RS (ok_extractV rfl rfl) ?_
  refine RS (ok_extractV rfl rfl) ?_
  refine RA rfl ?_
  refine RA rfl ?_
  refine RA rfl ?_
  refine RN ?_
  refine A.seq ?_
  refine GD ?_
  refine TL ?_
  refine RM rfl ?_
  refine RBS rfl rfl rfl (.bool false) (by first | rfl | (simp; done) | (simp; omega) | (simp [*]; done) | (simp [*]; omega)) ?_
  refine RM rfl ?_
  refine RQ (ok_move rfl) ?_
  refine RQ (ok_move rfl) ?_
  refine RQ (ok_indexS (k) Try.underlying54 infoPP rfl rfl rfl (by omega)) ?_
  refine RQ (ok_loadP (ys := stp n x (k)) (s := 1000028) (by decide) Try.underlying45 rfl size45 rfl rfl (by rw [pathV_length (Nat.le_refl _)]; omega) (by rw [Nat.zero_add]; exact pathV_get (by omega))) ?_
  refine RQ (ok_move rfl) ?_
  refine RQ (ok_move rfl) ?_
  refine RQ (ok_move rfl) ?_
  refine RQ (ok_call (rIndex_fn x (hg n - k) (by omega) (by omega)) (A2 rfl rfl)) ?_
  refine RQ (ok_call (place_fn ((hg n - k : Nat) : Int) ((x / 4 ^ (hg n - k + 1) : Nat) : Int)) (A2 rfl rfl)) ?_
  refine RQ (ok_neqT 3 true flatP (by decide) (by kernel_rfl) (by kernel_rfl) rfl rfl (kinP _ _) (kinP _ _) (iff_of_true rfl rfl)) ?_
  refine RP rfl rfl ?_
  refine RM rfl ?_
  refine RQ (ok_move rfl) ?_
  refine RQ (ok_move rfl) ?_
  refine RQ (ok_bin rfl rfl rfl) ?_; refine RZ (.bool false) (by have := (stp_in hx (hg n - k)).1; simp; omega) ?_
  refine RP rfl rfl ?_
  refine RM rfl ?_
  refine RQ (ok_move rfl) ?_
  refine RQ (ok_move rfl) ?_
  refine RQ (ok_bin rfl rfl rfl) ?_; refine RZ (.bool false) (by have := (stp_in hx (hg n - k)).2; simp; omega) ?_
  refine RP rfl rfl ?_
  refine RN ?_
  refine A.sub (KC 5 rfl (KC 6 rfl (KC 7 rfl (KC 12 rfl (KC 13 rfl (KC 126 rfl (KC 1000028 rfl KN))))))) ?_
  refine A.no rfl ?_
  refine A.skip ?_
  refine EN ?_
  refine GS ?_
  refine TL ?_
  refine RM rfl ?_
  refine RB rfl rfl rfl ?_
  refine RN ?_
  refine A.cond rfl (fun hc128 => ?_) (fun hc128 => ?_)
  ·have hk0 : 0 < k := by simp at hc128; omega
   refine A.regsK [⟨14, 17, 45, [.int .i64 0] ++ [.int .i64 0], 15, stp n x k⟩] (by kernel_rfl) (by kernel_rfl) (by kernel_rfl) ?_
   refine KopsK.pure (_) rfl (.inl rfl) FromV.all (fun B' => (ok_move rfl)) ?_
   refine KopsK.pure (_) rfl (.inl rfl) FromV.all (fun B' => (ok_move rfl)) ?_
   refine KopsK.pure (_) rfl (.inl rfl) FromV.all (fun B' => (ok_move rfl)) ?_
   refine KopsK.pure ((132, .v _) :: _) rfl (.inl rfl) (FromV.op 2 (by kernel_rfl) rfl rfl FromV.all) (fun B' => (OpOk.asV (nI (k - 1)) (wrap_eq (by omega) (by omega)) (ok_bin rfl rfl rfl))) ?_
   refine KopsK.pure ((131, .v _) :: (133, .v _) :: _) rfl (.inl rfl) (FromV.op 1 (by kernel_rfl) rfl rfl (FromV.op 3 (by kernel_rfl) rfl rfl FromV.all)) (fun B' => (ok_indexS (k - 1) Try.underlying54 infoPP rfl rfl rfl (by omega))) ?_
   refine KopsK.pure ((134, .v _) :: _) rfl (.inl rfl) (FromV.op 4 (by kernel_rfl) rfl rfl FromV.all) (fun B' => (ok_loadP (ys := stp n x (k - 1)) (s := 1000028) (by decide) Try.underlying45 rfl size45 rfl rfl (by rw [pathV_length (Nat.le_refl _)]; omega) (by rw [Nat.zero_add]; exact pathV_get (by omega)))) ?_
   refine KopsK.pure (_) rfl (.inl rfl) FromV.all (fun B' => (ok_move rfl)) ?_
   refine KopsK.pure (_) rfl (.inl rfl) FromV.all (fun B' => (ok_move rfl)) ?_
   refine KopsK.pure ((136, .v _) :: (137, .v _) :: _) rfl (.inl rfl) (FromV.op 6 (by kernel_rfl) rfl rfl (FromV.op 7 (by kernel_rfl) rfl rfl FromV.all)) (fun B' => (ok_call (rIndex_fn x (hg n - k) (by omega) (by omega)) (A2 rfl rfl))) ?_
   refine KopsK.pure ((138, .v _) :: _) rfl (.inl rfl) (FromV.op 8 (by kernel_rfl) rfl rfl FromV.all) (fun B' => (OpOk.asV (nI (x / 4 ^ (hg n - k + 1) % 4)) (by rw [tmod_lit _ (by decide)]; rfl) (ok_rem rfl rfl (by decide)))) ?_
   refine KopsK.pure ((130, .v _) :: (135, .v _) :: (139, .v _) :: _) rfl (.inl rfl) (FromV.op 0 (by kernel_rfl) rfl rfl (FromV.op 5 (by kernel_rfl) rfl rfl (FromV.op 9 (by kernel_rfl) rfl rfl FromV.all))) (fun B' => (ok_call (Child_p n h1 h2 x k hx (by omega) hk0) (A3 rfl rfl rfl))) ?_
   refine KopsK.pure ((140, .v _) :: _) rfl (.inl rfl) (FromV.op 10 (by kernel_rfl) rfl rfl FromV.all) (fun B' => (ok_move rfl)) ?_
   refine KopsK.pure ((129, .v _) :: _) rfl (.inl rfl) (FromV.op 11 (by kernel_rfl) rfl rfl FromV.all) (fun B' => (ok_extractV rfl rfl)) ?_
   refine KopsK.pure ((129, .v _) :: _) rfl (.inl rfl) (FromV.op 11 (by kernel_rfl) rfl rfl FromV.all) (fun B' => (ok_extractV rfl rfl)) ?_
   refine KopsK.alloc 0 rfl rfl rfl rfl zero45 rfl ?_
   refine KopsK.store 0 ((141, .v _) :: _) rfl rfl rfl rfl (by kernel_rfl) (FromV.op 12 (by kernel_rfl) rfl rfl FromV.all) rfl (size45.of (rfl)) (rfl) (rfl) ?_
   refine KopsK.pure ((142, .v _) :: _) rfl (.inl rfl) (FromV.op 13 (by kernel_rfl) rfl rfl FromV.all) (fun B' => (ok_assign rfl)) ?_
   refine KopsK.nil ⟨by kernel_rfl, _, (FromW.op (t := 18) 16 rfl rfl FromW.all), fun bs hbs hds => ?_⟩
   have hb17 := hbs 0 (by simp)
   dsimp only [varEnv]
   generalize bs 0 = b17 at *
   have hBb17 := hb17.1
   have hlt_b28_b17 : b28 < b17 := hb17.2 1000028 _ _ _ rfl
   refine A.sub (KC 5 rfl (KC 6 rfl (KC 7 rfl (KC 12 rfl (KC 17 rfl (KC 18 rfl (KC 1000017 rfl (KC 1000028 rfl KN)))))))) ?_
   refine GD ?_
   refine TL ?_
   refine RM rfl ?_
   refine RBS rfl rfl rfl (.bool false) (by first | rfl | (simp; done) | (simp; omega) | (simp [*]; done) | (simp [*]; omega)) ?_
   refine RM rfl ?_
   refine RQ (ok_loadA (s := 1000017) (by decide) Try.underlying45 rfl (size45.of (rfl)) rfl rfl) ?_
   refine RQ (ok_move rfl) ?_
   refine RQ (ok_move rfl) ?_
   refine RQ (ok_indexS (k) Try.underlying54 infoPP rfl rfl rfl (by omega)) ?_
   refine RQ (ok_loadP (ys := stp n x (k)) (s := 1000028) (by decide) Try.underlying45 rfl size45 rfl rfl (by rw [pathV_length (Nat.le_refl _)]; omega) (by rw [Nat.zero_add]; exact pathV_get (by omega))) ?_
   refine RQ (ok_neqT 3 true flatP (by decide) (by kernel_rfl) (by kernel_rfl) rfl rfl (kinP _ _) (kinP _ _) (iff_of_true rfl rfl)) ?_
   refine RP rfl rfl ?_
   refine RN ?_
   refine A.no rfl ?_
   refine A.skip ?_
   refine End.normal_block ?_
   refine EN ?_
   refine GE ?_
   refine TL ?_
   refine RM rfl ?_
   refine RBS rfl rfl rfl (nI (k + 1)) (wrap_eq (by omega) (by omega)) ?_
   refine RA rfl ?_
   refine RN ?_
   refine End.normal_then ?_
   refine End.again (k + 1) ?_ ?_ ?_
   ·show _ ≤ _; omega
   ·show _ - _ < _ - _; omega
   ·exact (KC 5 rfl (KC 6 rfl (KC 7 rfl (KC 12 rfl (KC 1000028 rfl KN)))))
  ·skip
   refine A.skip ?_
   refine End.normal_block ?_
   refine EN ?_
   refine GE ?_
   refine TL ?_
   refine RM rfl ?_
   refine RBS rfl rfl rfl (nI (k + 1)) (wrap_eq (by omega) (by omega)) ?_
   refine RA rfl ?_
   refine RN ?_
   refine End.normal_then ?_
   refine End.again (k + 1) ?_ ?_ ?_
   ·show _ ≤ _; omega
   ·show _ - _ < _ - _; omega
   ·exact (KC 5 rfl (KC 6 rfl (KC 7 rfl (KC 12 rfl (KC 1000028 rfl KN)))))
 ·skip
  refine A.exit ?_
  refine End.exit_then ?_
  refine End.exit_then ?_
  refine End.exit_here ?_
  refine EN ?_
  refine GS ?_
  refine TL ?_
  refine RS (ok_call (lives12_fn) Args.nil) ?_
  refine RA rfl ?_
  refine RN ?_
  refine A.ret ?_
  exact End.ret1 rfl rfl (by first | exact Le.refl _ | exact Le.old _ _)
end Go.Proofs.Ytdnblilocdddpaa
