/-
  OWN TEXTS of this seat, put together, part 4: C11f, C11c, C11d, MapR, Grp, C11s, C11e, Acts, C11p.
-/
import Derived.Test.YthhmimnkfklhdaaM1
import Derived.Test.YthhmimnkfklhdaaM3
import Derived.Test.YthhmimnkfklhdaaM2
import Derived.Deep.QuietTactic
import Derived.BigQuiet
namespace Go.Proofs.Ythhmimnkfklhdaa
open Go Go.RowKit
set_option linter.unusedVariables false
set_option maxRecDepth 20000
set_option linter.unusedSimpArgs false
theorem usV_ge {u : Us} (hu : u.Fit) (i : Nat) : (usV u)[16 + i]? = (rV u.s u.c u.f u.l)[i]? := by
 unfold usV; rw [List.getElem?_append_right (by simp [hu.1])]; simp [hu.1]
theorem us_f {u : Us} (hu : u.Fit) : (usV u)[18]? = some (.int .u32 (u.f : Int)) := usV_ge hu 2
theorem us_l {u : Us} (hu : u.Fit) : (usV u)[19]? = some (.int .u32 (u.l : Int)) := usV_ge hu 3
def refR (us : List Us) : Int × Int := if repJ us < us.length then (((repI us : Nat) : Int), ((repJ us : Nat) : Int)) else (-1, -1)
structure OutG (us : List Us) (j : Nat) : Prop where
 le : j ≤ us.length
 no : ∀ k, k < j → cAt us k = false
structure InG (us : List Us) (j i : Nat) : Prop where
 le : i ≤ j
 no : ∀ k, k < i → clB us[k]! us[j]! = false
theorem OutG.zero (us : List Us) : OutG us 0 := ⟨Nat.zero_le _, fun k h => absurd h (Nat.not_lt_zero _)⟩
theorem InG.zero (us : List Us) (j : Nat) : InG us j 0 := ⟨Nat.zero_le _, fun k h => absurd h (Nat.not_lt_zero _)⟩
theorem OutG.next {us : List Us} {j : Nat} (h : OutG us j) (hj : j < us.length) {i : Nat} (hi : InG us j i) (he : ¬ i < j) : OutG us (j + 1) := ⟨hj, fun k hk => by
 rcases Nat.lt_or_ge k j with h1 | h1
 ·exact h.no k h1
 ·rw [show k = j by omega]
  cases hc : cAt us j with
  | false => rfl
  | true =>
   obtain ⟨i', h2, h3⟩ := cAt_iff.1 hc
   rw [hi.no i' (by omega)] at h3; cases h3⟩
theorem InG.next {us : List Us} {j i : Nat} (h : InG us j i) (hi : i < j) (hc : clB us[i]! us[j]! = false) : InG us j (i + 1) := ⟨hi, fun k hk => by
 rcases Nat.lt_or_ge k i with h1 | h1
 ·exact h.no k h1
 ·rw [show k = i by omega]; exact hc⟩
theorem refR_hit {us : List Us} {j i : Nat} (h : OutG us j) (hj : j < us.length) (hi : InG us j i) (hlt : i < j) (hc : clB us[i]! us[j]! = true) : ((i : Nat) : Int) = (refR us).1 ∧ ((j : Nat) : Int) = (refR us).2 := by
 have h1 : repJ us = j := lst1_eq h.le h.no fun _ => cAt_iff.2 ⟨i, hlt, hc⟩
 have h2 : repI us = i := by
  unfold repI; rw [h1]
  exact lst1_eq (by omega) hi.no fun _ => hc
 unfold refR; rw [if_pos (by omega), h1, h2]; exact ⟨rfl, rfl⟩
theorem refR_end {us : List Us} {j : Nat} (h : OutG us j) (hj : ¬ j < us.length) : (-1 : Int) = (refR us).1 ∧ (-1 : Int) = (refR us).2 := by
 have h1 : repJ us = us.length := lst1_eq (Nat.le_refl _) (fun k hk => h.no k (by have := h.le; omega)) fun h => absurd h (Nat.lt_irrefl _)
 unfold refR; rw [if_neg (by omega)]; exact ⟨rfl, rfl⟩

theorem refClash_A (u v : Us) (hu : u.Fit) (hv : v.Fit) (h : u.key ≠ v.key) : Fn Try.prog 20 [.v (aggV (usV u)), .v (aggV (usV v))] (.v (.bool (clB u v))) := by
 refine Fn.of Try.func20 rfl (by kernel_rfl) Try.ntmps20 (by simp) (fun w => [(0, .v (aggV (usV u))), (1, .v (aggV (usV v)))]) (fun w => (Start.v rfl (Start.v rfl Start.nil))) fun w₀ => ?_
 refine GS ?_
 refine TN 0 ?_
 refine RN ?_
 refine ⟨_, _, eff_box (n := 33) (d := 2) (k := 1000002) rfl (by decide), fun b2 hb2 => ?_⟩
 have hBb2 := hb2.1
 refine TN 1 ?_
 refine RN ?_
 refine ⟨_, _, eff_box (n := 33) (d := 3) (k := 1000003) rfl (by decide), fun b3 hb3 => ?_⟩
 have hBb3 := hb3.1
 have hlt_b2_b3 : b2 < b3 := hb3.2 1000002 _ _ _ rfl
 refine TL ?_
 refine RA rfl ?_
 refine RN ?_
 refine GS ?_
 refine TL ?_
 refine RS (ok_field field31_0 (by decide) rfl) ?_
 refine RS (ok_loadP (s := 1000002) (by decide) Try.underlying23 rfl size23 rfl rfl (us_fit hu) (us_key hu)) ?_
 refine RS (ok_field field31_0 (by decide) rfl) ?_
 refine RS (ok_loadP (s := 1000003) (by decide) Try.underlying23 rfl size23 rfl rfl (us_fit hv) (us_key hv)) ?_
 refine RS (ok_eqlT (n := 17) (decide (u.key = v.key)) flatK (by decide) (by kernel_rfl) (by kernel_rfl) rfl rfl (kinY hu.1) (kinY hv.1) (decY _ _)) ?_; refine RZ (.bool false) (by simp [h]) ?_
 refine RM rfl ?_
 refine RK ?_
 refine RK ?_
 refine RK ?_
 refine RK ?_
 refine RK ?_
 refine RK ?_
 refine RK ?_
 refine RK ?_
 refine RK ?_
 refine RK ?_
 refine RK ?_
 refine RK ?_
 refine RK ?_
 refine RK ?_
 refine RK ?_
 refine RK ?_
 refine RK ?_
 refine RK ?_
 refine RK ?_
 refine RK ?_
 refine RK ?_
 refine RP rfl rfl ?_; refine RZ (.bool (clB u v)) (by simp [clB, h]) ?_
 refine RA rfl ?_
 refine RN ?_
 refine A.sub (KC 4 rfl (KC 1000002 rfl (KC 1000003 rfl KN))) ?_
 refine A.ret ?_
 exact End.ret1 rfl rfl (by first | exact Le.refl _ | exact Le.old _ _)
theorem refClash_B (u v : Us) (hu : u.Fit) (hv : v.Fit) (h : u.key = v.key) : Fn Try.prog 20 [.v (aggV (usV u)), .v (aggV (usV v))] (.v (.bool (clB u v))) := by
 refine Fn.of Try.func20 rfl (by kernel_rfl) Try.ntmps20 (by simp) (fun w => [(0, .v (aggV (usV u))), (1, .v (aggV (usV v)))]) (fun w => (Start.v rfl (Start.v rfl Start.nil))) fun w₀ => ?_
 refine GS ?_
 refine TN 0 ?_
 refine RN ?_
 refine ⟨_, _, eff_box (n := 33) (d := 2) (k := 1000002) rfl (by decide), fun b2 hb2 => ?_⟩
 have hBb2 := hb2.1
 refine TN 1 ?_
 refine RN ?_
 refine ⟨_, _, eff_box (n := 33) (d := 3) (k := 1000003) rfl (by decide), fun b3 hb3 => ?_⟩
 have hBb3 := hb3.1
 have hlt_b2_b3 : b2 < b3 := hb3.2 1000002 _ _ _ rfl
 refine TL ?_
 refine RA rfl ?_
 refine RN ?_
 refine GS ?_
 refine TL ?_
 refine RS (ok_field field31_0 (by decide) rfl) ?_
 refine RS (ok_loadP (s := 1000002) (by decide) Try.underlying23 rfl size23 rfl rfl (us_fit hu) (us_key hu)) ?_
 refine RS (ok_field field31_0 (by decide) rfl) ?_
 refine RS (ok_loadP (s := 1000003) (by decide) Try.underlying23 rfl size23 rfl rfl (us_fit hv) (us_key hv)) ?_
 refine RS (ok_eqlT (n := 17) (decide (u.key = v.key)) flatK (by decide) (by kernel_rfl) (by kernel_rfl) rfl rfl (kinY hu.1) (kinY hv.1) (decY _ _)) ?_; refine RZ (.bool true) (by simp [h]) ?_
 refine RM rfl ?_
 refine RQ (ok_field field31_1 (by decide) rfl) ?_
 refine RQ (ok_field field29_0 (by decide) rfl) ?_
 refine RQ (ok_loadP (s := 1000002) (by decide) Try.underlying27 rfl size27 rfl rfl (us_fit hu) (us_non hu)) ?_
 refine RQ (ok_field field31_1 (by decide) rfl) ?_
 refine RQ (ok_field field29_0 (by decide) rfl) ?_
 refine RQ (ok_loadP (s := 1000003) (by decide) Try.underlying27 rfl size27 rfl rfl (us_fit hv) (us_non hv)) ?_
 refine RQ (ok_field field31_1 (by decide) rfl) ?_
 refine RQ (ok_field field29_1 (by decide) rfl) ?_
 refine RQ (ok_loadV (s := 1000002) (by decide) Try.underlying24 rfl rfl rfl (us_f hu)) ?_
 refine RQ (ok_field field31_1 (by decide) rfl) ?_
 refine RQ (ok_field field29_2 (by decide) rfl) ?_
 refine RQ (ok_loadV (s := 1000002) (by decide) Try.underlying24 rfl rfl rfl (us_l hu)) ?_
 refine RQ (ok_litS [(0, nW (u.f)), (1, nW (u.l))] [nW (u.f), nW (u.l)] ⟨rfl, rfl, rfl, rfl, trivial⟩ (by kernel_rfl)) ?_
 refine RQ (ok_field field31_1 (by decide) rfl) ?_
 refine RQ (ok_field field29_1 (by decide) rfl) ?_
 refine RQ (ok_loadV (s := 1000003) (by decide) Try.underlying24 rfl rfl rfl (us_f hv)) ?_
 refine RQ (ok_field field31_1 (by decide) rfl) ?_
 refine RQ (ok_field field29_2 (by decide) rfl) ?_
 refine RQ (ok_loadV (s := 1000003) (by decide) Try.underlying24 rfl rfl rfl (us_l hv)) ?_
 refine RQ (ok_litS [(0, nW (v.f)), (1, nW (v.l))] [nW (v.f), nW (v.l)] ⟨rfl, rfl, rfl, rfl, trivial⟩ (by kernel_rfl)) ?_
 refine RQ (ok_call (ref7Over_fn u.s u.c u.f u.l v.s v.c v.f v.l) (Args.cons rfl (Le.refl _) (A3 rfl rfl rfl))) ?_
 refine RP rfl rfl ?_; refine RZ (.bool (clB u v)) (by simp [clB, h]) ?_
 refine RA rfl ?_
 refine RN ?_
 refine A.sub (KC 4 rfl (KC 1000002 rfl (KC 1000003 rfl KN))) ?_
 refine A.ret ?_
 exact End.ret1 rfl rfl (by first | exact Le.refl _ | exact Le.old _ _)
theorem refClash_fn (u v : Us) (hu : u.Fit) (hv : v.Fit) : Fn Try.prog 20 [.v (aggV (usV u)), .v (aggV (usV v))] (.v (.bool (clB u v))) := by
 by_cases h : u.key = v.key
 ·exact refClash_B u v hu hv h
 ·exact refClash_A u v hu hv h
theorem el_f {us : List Us} (hf : Fits us) {i : Nat} (hi : i < us.length) : ((((usR us).drop (i * 20)).take 20).drop 16).drop 2 = .int .u32 (us[i].f : Int) :: ((((usR us).drop (i * 20)).take 20).drop 16).drop 3 := by
 rw [usR_at hf hi, usV_range (hf.get hi)]; rfl
theorem el_l {us : List Us} (hf : Fits us) {i : Nat} (hi : i < us.length) : ((((usR us).drop (i * 20)).take 20).drop 16).drop 3 = .int .u32 (us[i].l : Int) :: ((((usR us).drop (i * 20)).take 20).drop 16).drop 4 := by
 rw [usR_at hf hi, usV_range (hf.get hi)]; rfl
theorem refCheck_big (us : List Us) (hf : Fits us) (hn : us.length ≤ 1099511627776) (h : 65536 < us.length) : Fn Try.prog 10 [rowD us.length (usR us)] (.v (.int .i64 3)) := by
 refine Fn.of Try.func10 rfl (by kernel_rfl) Try.ntmps10 (by simp) (fun w => [(0, old w.heap.size (rowD us.length (usR us)))]) (fun w => (Start.old rfl Start.nil)) fun w₀ => ?_
 refine A.nameR (t := 0) (k := 1000200) rfl fun A₀ q₀ => ?_
 refine GS ?_
 refine TL ?_
 refine RA rfl ?_
 refine RN ?_
 refine A.seq ?_
 refine GS ?_
 refine TL ?_
 refine RM rfl ?_
 refine RS (ok_lenV Try.underlying22 rfl) ?_
 refine RBS rfl rfl rfl (.bool true) (by simp; omega) ?_
 refine RN ?_
 refine A.yes rfl ?_
 refine GS ?_
 refine TL ?_
 refine RA rfl ?_
 refine RN ?_
 refine A.ret ?_
 refine End.ret_then ?_
 exact End.ret1 rfl rfl (by first | exact Le.refl _ | exact Le.old _ _)
theorem ck_not (u : Us) : Value.bool (decide ((u.l : Int) < (u.f : Int))) = .bool (!u.ok) := by
 unfold Us.ok; rw [← decide_not]; exact congrArg Value.bool (decide_eq_decide.2 (by omega))
theorem refCheck_low (us : List Us) (hf : Fits us) (hn : us.length ≤ 1099511627776) (h : us.length ≤ 65536) : Fn Try.prog 10 [rowD us.length (usR us)] (.v (.int .i64 (if us.all Us.ok then 0 else 1))) := by
 refine Fn.of Try.func10 rfl (by kernel_rfl) Try.ntmps10 (by simp) (fun w => [(0, old w.heap.size (rowD us.length (usR us)))]) (fun w => (Start.old rfl Start.nil)) fun w₀ => ?_
 refine A.nameR (t := 0) (k := 1000200) rfl fun A₀ q₀ => ?_
 refine GS ?_
 refine TL ?_
 refine RA rfl ?_
 refine RN ?_
 refine A.seq ?_
 refine GS ?_
 refine TL ?_
 refine RM rfl ?_
 refine RS (ok_lenV Try.underlying22 rfl) ?_
 refine RBS rfl rfl rfl (.bool false) (by simp; omega) ?_
 refine RN ?_
 refine A.no rfl ?_
 refine A.skip ?_
 refine EN ?_
 refine A.seq ?_
 refine GS ?_
 refine TL ?_
 refine RA rfl ?_
 refine RN ?_
 refine A.block ?_
 refine A.loop (ι := Nat) (fun i => i ≤ us.length ∧ ∀ x ∈ us.take i, Us.ok x = true) (fun i => [(1000200, old w₀.heap.size (memR A₀ (usR us))), (0, .v (.slice A₀ us.length q₀)), (3, .v (nI i))]) (fun i => us.length - i) 0 ?_ ?_ ?_
 ·exact ⟨Nat.zero_le _, fun x hx => by simp at hx⟩
 ·exact (KC 1000200 rfl (KC 0 rfl (KE 3 rfl (by rfl) KN)))
 intro i hi'
 refine A.seq ?_
 refine GS ?_
 refine TL ?_
 refine RM rfl ?_
 refine RM rfl ?_
 refine RS (ok_lenV Try.underlying22 rfl) ?_
 refine RB rfl rfl rfl ?_
 refine RN ?_
 refine A.cond rfl (fun hc10 => ?_) (fun hc10 => ?_)
 ·have hi : i < us.length := by simpa using hc10
  refine A.skip ?_
  refine EN ?_
  refine A.seq ?_
  refine A.block ?_
  refine GD ?_
  refine TL ?_
  refine RM rfl ?_
  refine RM rfl ?_
  refine RS (ok_indexR (s := 1000200) i Try.underlying22 infoU rfl rfl (by decide) rfl hi (usR_lt hf hi)) ?_
  refine RS (ok_fieldP field31_1 (by decide) rfl) ?_
  refine RS (ok_fieldP field29_1 (by decide) rfl) ?_
  refine RS (ok_loadP1 (u := nW (us[i].f)) (us := ((((usR us).drop (i * 20)).take 20).drop 16).drop 3) Try.underlying24 rfl (congrArg (fun l => some (elemP l)) (el_f hf hi))) ?_
  refine RM rfl ?_
  refine RM rfl ?_
  refine RS (ok_indexR (s := 1000200) i Try.underlying22 infoU rfl rfl (by decide) rfl hi (usR_lt hf hi)) ?_
  refine RS (ok_fieldP field31_1 (by decide) rfl) ?_
  refine RS (ok_fieldP field29_2 (by decide) rfl) ?_
  refine RS (ok_loadP1 (u := nW (us[i].l)) (us := ((((usR us).drop (i * 20)).take 20).drop 16).drop 4) Try.underlying24 rfl (congrArg (fun l => some (elemP l)) (el_l hf hi))) ?_
  refine RBS rfl rfl rfl (.bool (!us[i].ok)) (ck_not _) ?_
  refine RN ?_
  refine A.cond rfl (fun hc25 => ?_) (fun hc25 => ?_)
  ·refine GS ?_
   refine TL ?_
   refine RA rfl ?_
   refine RN ?_
   refine A.ret ?_
   refine End.ret_block ?_
   refine End.ret_then ?_
   refine End.ret_then ?_
   refine End.ret_block ?_
   refine End.ret_then ?_
   first | exact End.ret1 rfl rfl (Le.v (congrArg (Value.int .i64) (if_neg (fun h => by have := List.all_eq_true.1 h _ (List.getElem_mem hi); rw [this] at hc25; cases hc25)).symm)) | exact End.ret1 rfl rfl (Le.v (congrArg (Value.int .i64) (if_pos (List.all_eq_true.2 fun x hx => hi'.2 x (by rw [hi2, List.take_of_length_le (Nat.le_refl _)]; exact hx))).symm))
  ·refine A.skip ?_
   refine End.normal_block ?_
   refine EN ?_
   refine GE ?_
   refine TL ?_
   refine RM rfl ?_
   refine RBS rfl rfl rfl (nI (i + 1)) (by rw [wrap_i64 (by omega) (by omega)]; rfl) ?_
   refine RA rfl ?_
   refine RN ?_
   refine End.normal_then ?_
   refine End.again (i + 1) ?_ ?_ ?_
   ·exact chk_next hi hi' (by simpa using hc25)
   ·show _ - _ < _ - _; omega
   ·exact (KC 1000200 rfl (KC 0 rfl (KC 3 rfl KN)))
 ·have hi2 : i = us.length := by have h := hi'.1; simp at hc10; omega
  refine A.exit ?_
  refine End.exit_then ?_
  refine End.exit_then ?_
  refine End.exit_here ?_
  refine EN ?_
  refine GS ?_
  refine TL ?_
  refine RA rfl ?_
  refine RN ?_
  refine A.ret ?_
  first | exact End.ret1 rfl rfl (Le.v (congrArg (Value.int .i64) (if_neg (fun h => by have := List.all_eq_true.1 h _ (List.getElem_mem hi); rw [this] at hc25; cases hc25)).symm)) | exact End.ret1 rfl rfl (Le.v (congrArg (Value.int .i64) (if_pos (List.all_eq_true.2 fun x hx => hi'.2 x (by rw [hi2, List.take_of_length_le (Nat.le_refl _)]; exact hx))).symm))
theorem refCheck_fn (us : List Us) (hf : Fits us) (hn : us.length ≤ 1099511627776) : Fn Try.prog 10 [rowD us.length (usR us)] (.v (.int .i64 (chkU us))) := by
 unfold chkU
 by_cases h : 65536 < us.length
 ·rw [if_pos h]; exact refCheck_big us hf hn h
 ·rw [if_neg h]; exact refCheck_low us hf hn (by omega)
theorem refRepeat_fn (us : List Us) (hf : Fits us) (hn : us.length ≤ 1099511627776) : Fn Try.prog 19 [rowD us.length (usR us)] (.v (.tuple #[.int .i64 (refR us).1, .int .i64 (refR us).2])) := by
 refine Fn.of Try.func19 rfl (by kernel_rfl) Try.ntmps19 (by simp) (fun w => [(0, old w.heap.size (rowD us.length (usR us)))]) (fun w => (Start.old rfl Start.nil)) fun w₀ => ?_
 refine A.nameR (t := 0) (k := 1000200) rfl fun A₀ q₀ => ?_
 refine GS ?_
 refine TL ?_
 refine RA rfl ?_
 refine RA rfl ?_
 refine RN ?_
 refine A.seq ?_
 refine GS ?_
 refine TL ?_
 refine RA rfl ?_
 refine RN ?_
 refine A.block ?_
 refine A.loop (ι := Nat) (fun j => OutG us j) (fun j => [(1000200, old w₀.heap.size (memR A₀ (usR us))), (0, .v (.slice A₀ us.length q₀)), (4, .v (nI j))]) (fun j => us.length - j) 0 ?_ ?_ ?_
 ·exact OutG.zero us
 ·exact (KC 1000200 rfl (KC 0 rfl (KE 4 rfl (by rfl) KN)))
 intro j hj'
 refine A.seq ?_
 refine GS ?_
 refine TL ?_
 refine RM rfl ?_
 refine RM rfl ?_
 refine RS (ok_lenV Try.underlying22 rfl) ?_
 refine RB rfl rfl rfl ?_
 refine RN ?_
 refine A.cond rfl (fun hc9 => ?_) (fun hc9 => ?_)
 ·have hj : j < us.length := by simpa using hc9
  refine A.skip ?_
  refine EN ?_
  refine A.seq ?_
  refine A.block ?_
  refine GS ?_
  refine TL ?_
  refine RA rfl ?_
  refine RN ?_
  refine A.block ?_
  refine A.loop (ι := Nat) (fun i => InG us j i) (fun i => [(1000200, old w₀.heap.size (memR A₀ (usR us))), (0, .v (.slice A₀ us.length q₀)), (4, .v (nI j)), (5, .v (nI i))]) (fun i => j - i) 0 ?_ ?_ ?_
  ·exact InG.zero us j
  ·exact (KC 1000200 rfl (KC 0 rfl (KC 4 rfl (KE 5 rfl (by rfl) KN))))
  intro i hi'
  refine A.seq ?_
  refine GS ?_
  refine TL ?_
  refine RM rfl ?_
  refine RM rfl ?_
  refine RB rfl rfl rfl ?_
  refine RN ?_
  refine A.cond rfl (fun hc14 => ?_) (fun hc14 => ?_)
  ·have hi : i < j := by simpa using hc14
   have hiu : i < us.length := by omega
   refine A.skip ?_
   refine EN ?_
   refine A.seq ?_
   refine A.block ?_
   refine GD ?_
   refine TL ?_
   refine RM rfl ?_
   refine RM rfl ?_
   refine RS (ok_indexR (s := 1000200) i Try.underlying22 infoU rfl rfl (by decide) rfl hiu (usR_lt hf hiu)) ?_
   refine RS (ok_loadElemP Try.underlying31 rfl (size31.of (by rw [usR_at hf hiu, usV_length (hf.get hiu)])) rfl) ?_; refine RZ (aggV (usV us[i])) (congrArg aggV (usR_at hf hiu)) ?_
   refine RM rfl ?_
   refine RM rfl ?_
   refine RS (ok_indexR (s := 1000200) j Try.underlying22 infoU rfl rfl (by decide) rfl hj (usR_lt hf hj)) ?_
   refine RS (ok_loadElemP Try.underlying31 rfl (size31.of (by rw [usR_at hf hj, usV_length (hf.get hj)])) rfl) ?_; refine RZ (aggV (usV us[j])) (congrArg aggV (usR_at hf hj)) ?_
   refine RS (ok_call (refClash_fn us[i] us[j] (hf.get hiu) (hf.get hj)) (A2 rfl rfl)) ?_; refine RZ (.bool (clB us[i]! us[j]!)) (by rw [getElem!_pos us i hiu, getElem!_pos us j hj]) ?_
   refine RN ?_
   refine A.cond rfl (fun hc25 => ?_) (fun hc25 => ?_)
   ·refine GS ?_
    refine TL ?_
    refine RM rfl ?_
    refine RM rfl ?_
    refine RA rfl ?_
    refine RA rfl ?_
    refine RN ?_
    refine A.ret ?_
    refine End.ret_block ?_
    refine End.ret_then ?_
    refine End.ret_then ?_
    refine End.ret_block ?_
    refine End.ret_block ?_
    refine End.ret_then ?_
    refine End.ret_then ?_
    refine End.ret_block ?_
    refine End.ret_then ?_
    first | (rw [← (refR_hit hj' hj hi' hi hc25).1, ← (refR_hit hj' hj hi' hi hc25).2]; exact End.ret2V rfl rfl rfl) | (rw [← (refR_end hj' hj2).1, ← (refR_end hj' hj2).2]; exact End.ret2V rfl rfl rfl)
   ·refine A.skip ?_
    refine End.normal_block ?_
    refine EN ?_
    refine GE ?_
    refine TL ?_
    refine RM rfl ?_
    refine RBS rfl rfl rfl (nI (i + 1)) (by rw [wrap_i64 (by omega) (by omega)]; rfl) ?_
    refine RA rfl ?_
    refine RN ?_
    refine End.normal_then ?_
    refine End.again (i + 1) ?_ ?_ ?_
    ·exact hi'.next hi hc25
    ·show _ - _ < _ - _; omega
    ·exact (KC 1000200 rfl (KC 0 rfl (KC 4 rfl (KC 5 rfl KN))))
  ·have hi2 : ¬ i < j := by simpa using hc14
   refine A.exit ?_
   refine End.exit_then ?_
   refine End.exit_then ?_
   refine End.exit_here ?_
   refine End.normal_block ?_
   refine EN ?_
   refine GE ?_
   refine TL ?_
   refine RM rfl ?_
   refine RBS rfl rfl rfl (nI (j + 1)) (by rw [wrap_i64 (by omega) (by omega)]; rfl) ?_
   refine RA rfl ?_
   refine RN ?_
   refine End.normal_then ?_
   refine End.again (j + 1) ?_ ?_ ?_
   ·exact hj'.next hj hi' hi2
   ·show _ - _ < _ - _; omega
   ·exact (KC 1000200 rfl (KC 0 rfl (KC 4 rfl KN)))
 ·have hj2 : ¬ j < us.length := by simpa using hc9
  refine A.exit ?_
  refine End.exit_then ?_
  refine End.exit_then ?_
  refine End.exit_here ?_
  refine EN ?_
  refine GS ?_
  refine TL ?_
  refine RA rfl ?_
  refine RA rfl ?_
  refine RN ?_
  refine A.ret ?_
  first | (rw [← (refR_hit hj' hj hi' hi hc25).1, ← (refR_hit hj' hj hi' hi hc25).2]; exact End.ret2V rfl rfl rfl) | (rw [← (refR_end hj' hj2).1, ← (refR_end hj' hj2).2]; exact End.ret2V rfl rfl rfl)
theorem div16 (b : UInt8) : Value.int .u8 (IntKind.u8.wrap ((b.toNat : Int).tdiv 16)) = nB (b.toNat / 16) := by
 have := b.toNat_lt
 rw [Int.tdiv_eq_ediv_of_nonneg (by omega), wrap_u8 (by omega) (by omega)]; rfl
theorem mod16 (b : UInt8) : Value.int .u8 ((b.toNat : Int).tmod 16) = nB (b.toNat % 16) := by
 rw [Int.tmod_eq_emod_of_nonneg (by omega)]; rfl
theorem hex_vals {l : List UInt8} {i : Nat} (hi : i < l.length) : (hexL (l.take i)).map byteV ++ [.int .u8 ((hexD (l[i].toNat / 16)).toNat : Int), .int .u8 ((hexD (l[i].toNat % 16)).toNat : Int)] = (hexL (l.take (i + 1))).map byteV := by
 rw [hexL_succ hi]; simp [byteV]
theorem line_own {B : Nat} {e : TypeId} {u : Us} (hu : u.Fit) {xs : List Value} {n : Nat} (hx : xs = (lineL u).map byteV) (hn : n = 73) : Le (own B e n xs) (byt (lineL u)) := by
 subst hx; subst hn; exact own_byt (lineL_length hu).symm
set_option maxHeartbeats 1000000 in
theorem refLine_fn (u : Us) (hu : u.Fit) : Fn Try.prog 22 [.v (aggV (usV u))] (.v (strV (lineL u))) := by
 refine Fn.of Try.func22 rfl (by kernel_rfl) Try.ntmps22 (by simp) (fun w => [(0, .v (aggV (usV u)))]) (fun w => (Start.v rfl Start.nil)) fun w₀ => ?_
 refine GS ?_
 refine TN 0 ?_
 refine RN ?_
 refine ⟨_, _, eff_box (n := 53) (d := 1) (k := 1000001) rfl (by decide), fun b1 hb1 => ?_⟩
 have hBb1 := hb1.1
 refine TL ?_
 refine RA rfl ?_
 refine RN ?_
 refine GS ?_
 refine TF 3 ?_
 refine RS (ok_build0own Try.underlying67 info5) ?_
 refine RS (ok_field field31_0 (by decide) rfl) ?_
 refine RS (OpOk.fact (ok_sliceX (l := 0) (h := 16) (m := 16) Try.underlying23 info5 rfl (.inr ⟨rfl, rfl⟩) (.inr ⟨rfl, rfl, rfl⟩) (.inr ⟨rfl, rfl⟩) (by decide) (by decide) (by decide) (.inl (by decide))) (d := byt u.key) (s := 1000001) (by decide) rfl (slice_byt u.key hu.1.symm (by decide) (by decide) (us_key hu))) ?_
 refine RN ?_
 refine ⟨_, eff_appendS (vs := u.key.map byteV) Try.underlying67 info5 (by decide) rfl rfl rfl (Le.eq (byt_vals _)) (by simp [byteV, Value.oneCell']) (by simp only [List.length_map, nonceL_length, be_length, hu.1]; omega) (by decide) (fun g hg => (LV 1 rfl (LT 1000001 rfl LN))), ?_⟩
 refine TL ?_
 refine RA rfl ?_
 refine RN ?_
 refine GS ?_
 refine TF 5 ?_
 refine RM rfl ?_
 refine RS (ok_field field31_1 (by decide) rfl) ?_
 refine RS (ok_field field29_0 (by decide) rfl) ?_
 refine RS (ok_loadP (s := 1000001) (by decide) Try.underlying27 rfl size27 rfl rfl (us_fit hu) (us_non hu)) ?_
 refine RS (ok_call (ref8Put_fn u.s u.c hu.2.1 hu.2.2.1) (A1 rfl)) ?_
 refine RN ?_
 refine ⟨_, eff_appendS (vs := (nonceL u.s u.c).map byteV) Try.underlying67 info5 (by decide) rfl rfl rfl (Le.eq (byt_vals _)) (by simp [byteV, Value.oneCell']) (by simp only [List.length_map, nonceL_length, be_length, hu.1]; omega) (by decide) (fun g hg => (LV 1 rfl (LT 1000001 rfl LN))), ?_⟩
 refine TL ?_
 refine RA rfl ?_
 refine RN ?_
 refine GS ?_
 refine TF 5 ?_
 refine RM rfl ?_
 refine RS (ok_field field31_1 (by decide) rfl) ?_
 refine RS (ok_field field29_1 (by decide) rfl) ?_
 refine RS (ok_loadV (s := 1000001) (by decide) Try.underlying24 rfl rfl rfl (us_f hu)) ?_
 refine RS (ok_call ((refPut32_fn ((u.f : Nat) : Int) (by omega) (by have := hu.2.2.2.1; omega)).le (d' := bytes (be 4 (u.f)) 4) (Le.refl _)) (A1 rfl)) ?_
 refine RN ?_
 refine ⟨_, eff_appendS (vs := (be 4 u.f).map byteV) Try.underlying67 info5 (by decide) rfl rfl rfl ((le_byt _ _).trans (Le.eq (byt_vals _))) (by simp [byteV, Value.oneCell']) (by simp only [List.length_map, nonceL_length, be_length, hu.1]; omega) (by decide) (fun g hg => (LV 1 rfl (LT 1000001 rfl LN))), ?_⟩
 refine TL ?_
 refine RA rfl ?_
 refine RN ?_
 refine GS ?_
 refine TF 5 ?_
 refine RM rfl ?_
 refine RS (ok_field field31_1 (by decide) rfl) ?_
 refine RS (ok_field field29_2 (by decide) rfl) ?_
 refine RS (ok_loadV (s := 1000001) (by decide) Try.underlying24 rfl rfl rfl (us_l hu)) ?_
 refine RS (ok_call ((refPut32_fn ((u.l : Nat) : Int) (by omega) (by have := hu.2.2.2.2; omega)).le (d' := bytes (be 4 (u.l)) 4) (Le.refl _)) (A1 rfl)) ?_
 refine RN ?_
 refine ⟨_, eff_appendS (vs := (be 4 u.l).map byteV) Try.underlying67 info5 (by decide) rfl rfl rfl ((le_byt _ _).trans (Le.eq (byt_vals _))) (by simp [byteV, Value.oneCell']) (by simp only [List.length_map, nonceL_length, be_length, hu.1]; omega) (by decide) (fun g hg => (LT 1000001 rfl LN)), ?_⟩
 refine TL ?_
 refine RA rfl ?_
 refine RN ?_
 refine A.sub (KE 3 rfl (show own w₀.heap.size 5 _ _ = own w₀.heap.size 5 36 ((useL u).map byteV) from by simp only [List.length_map, nonceL_length, be_length, hu.1, List.nil_append]; rw [← List.map_append, ← List.map_append, ← List.map_append]; rfl) (KC 1000001 rfl KN)) ?_
 refine A.subL (SubL.cons (t := 3) rfl (own_byt (useL_length hu).symm) SubL.nil) ?_
 refine A.raise (fun w => [(3, old w.heap.size (byt (useL u)))]) (fun w => UpTo.new (t := 3) rfl UpTo.nil) fun w₀ hgw => ?_
 refine GS ?_
 refine TL ?_
 refine RA rfl ?_
 refine RN ?_
 refine A.seq ?_
 refine GS ?_
 refine TL ?_
 refine RA rfl ?_
 refine RN ?_
 refine A.block ?_
 refine A.subL (SubL.cons (t := 3) rfl (Le.refl _) (SubL.cons (t := 4) rfl ((own_nil (B := w₀.heap.size) (e := 5))) (SubL.cons (t := 5) rfl (Le.refl _) SubL.nil))) ?_
 refine A.loop (ι := Nat) (fun i => i ≤ 36) (fun i => [(3, old w₀.heap.size (byt (useL u))), (4, own w₀.heap.size 5 (hexL ((useL u).take i)).length ((hexL ((useL u).take i)).map byteV)), (5, .v (nI i))]) (fun i => 36 - i) 0 ?_ ?_ ?_
 ·exact Nat.zero_le _
 ·exact (KC 3 rfl (KC 4 rfl (KE 5 rfl (by rfl) KN)))
 intro i hi'
 refine A.seq ?_
 refine GS ?_
 refine TL ?_
 refine RM rfl ?_
 refine RM rfl ?_
 refine RS (ok_lenB Try.underlying67 rfl (Le.old _ _)) ?_; refine RZ (.int .i64 36) (congrArg (fun k : Nat => Value.int .i64 (k : Int)) (useL_length hu)) ?_
 refine RB rfl rfl rfl ?_
 refine RN ?_
 refine A.cond rfl (fun hc31 => ?_) (fun hc31 => ?_)
 ·have hi : i < (useL u).length := by have h := hc31; rw [useL_length hu]; simp at h; omega
  have hi36 : i < 36 := by rw [← useL_length hu]; exact hi
  refine A.skip ?_
  refine EN ?_
  refine A.seq ?_
  refine A.block ?_
  refine A.reg (by kernel_rfl) (by kernel_rfl) (.inr (by kernel_rfl)) ?_
  refine TD 14 ?_
  refine RM rfl ?_
  refine RM rfl ?_
  refine RM rfl ?_
  refine RS (ok_index (d := byteD (useL u)[i]) Try.underlying67 info5 rfl (Le.old _ _) rfl (Int.natCast_nonneg _) (by rw [Int.toNat_natCast, List.getElem?_map, List.getElem?_eq_getElem hi]; rfl)) ?_
  refine RS (ok_load Try.underlying5 rfl rfl) ?_
  refine RS (ok_div rfl rfl (by decide)) ?_; refine RZ (nB ((useL u)[i].toNat / 16)) (div16 _) ?_
  refine RS (ok_strIndex ((useL u)[i].toNat / 16) Try.underlying9 rfl rfl rfl (dig_at (by have := (useL u)[i].toNat_lt; omega))) ?_
  refine RM rfl ?_
  refine RM rfl ?_
  refine RS (ok_index (d := byteD (useL u)[i]) Try.underlying67 info5 rfl (Le.old _ _) rfl (Int.natCast_nonneg _) (by rw [Int.toNat_natCast, List.getElem?_map, List.getElem?_eq_getElem hi]; rfl)) ?_
  refine RS (ok_load Try.underlying5 rfl rfl) ?_
  refine RS (ok_rem rfl rfl (by decide)) ?_; refine RZ (nB ((useL u)[i].toNat % 16)) (mod16 _) ?_
  refine RS (ok_strIndex ((useL u)[i].toNat % 16) Try.underlying9 rfl rfl rfl (dig_at (by omega))) ?_
  refine RS (ok_build [.v (.int .u8 ((hexD ((useL u)[i].toNat / 16)).toNat : Int)), .v (.int .u8 ((hexD ((useL u)[i].toNat % 16)).toNat : Int))] Try.underlying67 info5 rfl (by decide) (by decide) rfl ⟨rfl, rfl, rfl, rfl, trivial⟩ (fun d hd w x h => by simp only [List.mem_cons, List.not_mem_nil, or_false] at hd; rcases hd with rfl | rfl <;> exact v_one rfl h)) ?_
  refine RN ?_
  refine ⟨_, eff_appendS (vs := [.int .u8 ((hexD ((useL u)[i].toNat / 16)).toNat : Int), .int .u8 ((hexD ((useL u)[i].toNat % 16)).toNat : Int)]) Try.underlying67 info5 (by decide) rfl rfl rfl ((le_lst _ _)) (by simp [byteV, Value.oneCell']) (by simp only [hexL_length, List.length_take, List.length_cons, List.length_nil]; omega) (by decide) (fun g hg => (LO 3 rfl (LV 5 rfl LN))), ?_⟩
  refine TL ?_
  refine RA rfl ?_
  refine RN ?_
  refine End.normal_block ?_
  refine EN ?_
  refine GE ?_
  refine TL ?_
  refine RM rfl ?_
  refine RBS rfl rfl rfl (nI (i + 1)) (by rw [wrap_i64 (by omega) (by omega)]; rfl) ?_
  refine RA rfl ?_
  refine RN ?_
  refine End.normal_then ?_
  refine End.again (i + 1) ?_ ?_ ?_
  ·show _ ≤ _; omega
  ·show _ - _ < _ - _; omega
  ·exact (KC 3 rfl (KE 4 rfl (congr (congrArg (own w₀.heap.size 5) (by rw [hexL_succ hi]; simp)) (hex_vals hi)) (KC 5 rfl KN)))
 ·have hi2 : i = 36 := by have h := hc31; simp at h; omega
  refine A.exit ?_
  refine End.exit_then ?_
  refine End.exit_then ?_
  refine End.exit_here ?_
  refine EN ?_
  refine GS ?_
  refine TF 2 ?_
  refine RM rfl ?_
  refine RS (ok_build [.v (.int .u8 10)] Try.underlying67 info5 rfl (by decide) (by decide) rfl ⟨rfl, rfl, trivial⟩ (fun d hd w x h => by simp only [List.mem_cons, List.not_mem_nil, or_false] at hd; rcases hd with rfl; exact v_one rfl h)) ?_
  refine RN ?_
  refine ⟨_, eff_appendS (vs := [.int .u8 10]) Try.underlying67 info5 (by decide) rfl rfl rfl ((le_lst _ _)) (by simp [byteV, Value.oneCell']) (by simp only [hexL_length, List.length_take, List.length_cons, List.length_nil]; omega) (by decide) (fun g hg => LN), ?_⟩
  refine TL ?_
  refine RS (ok_str (l := lineL u) Try.underlying67 Try.underlying5 Try.underlying9 rfl (line_own hu (by rw [hi2, List.take_of_length_le (by rw [useL_length hu]; decide)]; simp [lineL, byteV]) (by rw [hi2, List.take_of_length_le (by rw [useL_length hu]; decide), hexL_length, useL_length hu]; rfl))) ?_
  refine RA rfl ?_
  refine RN ?_
  refine A.ret ?_
  exact End.ret1U hgw rfl rfl (Le.refl _)
end Go.Proofs.Ythhmimnkfklhdaa
namespace Go.Proofs.Ythhmimnkfklhdaa
open Go Go.RowKit
set_option linter.unusedVariables false
set_option maxRecDepth 20000
def ints (n : Nat) : List Value := (List.range n).map fun i : Nat => Value.int .i64 (i : Int)
theorem infoLL : InfoP Try.prog 77 (.slice none 0 0) 1 24 := by unfold InfoP; kernel_rfl
theorem infoI : InfoP Try.prog 3 (.int .i64 0) 1 8 := by unfold InfoP; kernel_rfl
theorem row1_at {vs : List Value} {i : Nat} (hi : i < vs.length) : (vs.drop (i * 1)).take 1 = [vs[i]] := by
 rw [Nat.mul_one, List.take_one, List.head?_drop, List.getElem?_eq_getElem hi]; rfl
theorem idx_end {p : Nat → Bool} {n i : Nat} (h : i ≤ n ∧ ∀ j, j < i → p j = false) (hi : i = n) : (-1 : Int) = if lst1 p n < n then ((lst1 p n : Nat) : Int) else -1 := by
 subst hi; rw [lst1_eq (Nat.le_refl _) h.2 (fun h => absurd h (Nat.lt_irrefl _)), if_neg (Nat.lt_irrefl _)]
theorem idx_ret {p : Nat → Bool} {n i : Nat} (h : i ≤ n ∧ ∀ j, j < i → p j = false) (hi : i < n) (hp : p i = true) : (i : Int) = if lst1 p n < n then ((lst1 p n : Nat) : Int) else -1 := by
 rw [lst1_eq (by omega) h.2 (fun _ => hp), if_pos hi]
theorem idx_next {p : Nat → Bool} {n i : Nat} (h : i ≤ n ∧ ∀ j, j < i → p j = false) (hi : i < n) (hp : p i = false) : i + 1 ≤ n ∧ ∀ j, j < i + 1 → p j = false := ⟨by omega, fun j hj => by
 rcases Nat.lt_or_ge j i with h1 | h1
 ·exact h.2 j h1
 ·rw [show j = i from by omega]; exact hp⟩

theorem IndexU_fn (us : List Us) (hf : Fits us) (hn : us.length ≤ 1099511627776) (p : Nat → Bool) : Fn Try.prog 36 [rowD us.length (usR us), predD Try.prog (us.map fun u => aggV (usV u)) p] (.v (.int .i64 (if lst1 p us.length < us.length then ((lst1 p us.length : Nat) : Int) else -1))) := by
 refine Fn.of Try.func36 rfl (by kernel_rfl) Try.ntmps36 (by simp) (fun w => [(0, old w.heap.size (rowD us.length (usR us))), (1, old w.heap.size (predD Try.prog (us.map fun u => aggV (usV u)) p))]) (fun w => (Start.old rfl (Start.old rfl Start.nil))) fun w₀ => ?_
 refine A.nameR (t := 0) (k := 1000200) rfl fun A₀ q₀ => ?_
 refine GS ?_
 refine TL ?_
 refine RA rfl ?_
 refine RN ?_
 refine A.seq ?_
 refine GS ?_
 refine TL ?_
 refine RM rfl ?_
 refine RS (ok_lenV Try.underlying22 rfl) ?_
 refine RM rfl ?_
 refine RN ?_
 refine A.block ?_
 refine A.loop (ι := Nat) (fun i => i ≤ us.length ∧ ∀ j, j < i → p j = false) (fun i => [(1000200, old w₀.heap.size (memR A₀ (usR us))), (0, .v (.slice A₀ us.length q₀)), (1, old w₀.heap.size (predD Try.prog (us.map fun u => aggV (usV u)) p)), (7, .v (nI (us.length))), (8, .v (nI i))]) (fun i => us.length - i) 0 ?_ ?_ ?_
 ·exact ⟨Nat.zero_le _, fun j hj => absurd hj (Nat.not_lt_zero _)⟩
 ·exact (KC 1000200 rfl (KC 0 rfl (KC 1 rfl (KC 7 rfl (KE 8 rfl (by rfl) KN)))))
 intro i hi'
 refine GS ?_
 refine TL ?_
 refine RB rfl rfl rfl ?_
 refine RN ?_
 refine A.seq ?_
 refine A.cond rfl (fun hc9 => ?_) (fun hc9 => ?_)
 ·have hi : i < us.length := by have h := hc9; simp at h; omega
  refine A.skip ?_
  refine EN ?_
  refine A.seq ?_
  refine A.block ?_
  refine GS ?_
  refine TL ?_
  refine RM rfl ?_
  refine RA rfl ?_
  refine RN ?_
  refine GS ?_
  refine TL ?_
  refine RM rfl ?_
  refine RM rfl ?_
  refine RM rfl ?_
  refine RS (ok_indexR (s := 1000200) i Try.underlying22 infoU rfl rfl (by decide) rfl hi (usR_lt hf hi)) ?_
  refine RS (ok_loadElemP Try.underlying31 rfl (size31.of (by rw [usR_at hf hi, usV_length (hf.get hi)])) rfl) ?_; refine RZ (aggV (usV us[i])) (congrArg aggV (usR_at hf hi)) ?_
  refine RS (ok_callPred i rfl (Le.old _ _) rfl (by rw [List.getElem?_map, List.getElem?_eq_getElem hi]; rfl)) ?_
  refine RN ?_
  refine A.cond rfl (fun hc16 => ?_) (fun hc16 => ?_)
  ·refine GS ?_
   refine TL ?_
   refine RM rfl ?_
   refine RA rfl ?_
   refine RN ?_
   refine A.ret ?_
   refine End.ret_block ?_
   refine End.ret_then ?_
   refine End.ret_then ?_
   refine End.ret_block ?_
   refine End.ret_then ?_
   first | exact End.ret1 rfl rfl (Le.v (congrArg (Value.int .i64) (idx_ret hi' hi (by simpa using hc16)))) | exact End.ret1 rfl rfl (Le.v (congrArg (Value.int .i64) (idx_end hi' hi2)))
  ·refine A.skip ?_
   refine End.normal_block ?_
   refine EN ?_
   refine GE ?_
   refine TL ?_
   refine RBS rfl rfl rfl (nI (i + 1)) (by rw [wrap_i64 (by omega) (by omega)]; rfl) ?_
   refine RM rfl ?_
   refine RN ?_
   refine End.normal_then ?_
   refine End.again (i + 1) ?_ ?_ ?_
   ·exact idx_next hi' hi (by simpa using hc16)
   ·show _ - _ < _ - _; omega
   ·exact (KC 1000200 rfl (KC 0 rfl (KC 1 rfl (KC 7 rfl (KC 8 rfl KN)))))
 ·have hi2 : i = us.length := by have h := hi'.1; simp at hc9; omega
  refine A.exit ?_
  refine End.exit_then ?_
  refine End.exit_then ?_
  refine End.exit_here ?_
  refine EN ?_
  refine GS ?_
  refine TL ?_
  refine RA rfl ?_
  refine RN ?_
  refine A.ret ?_
  first | exact End.ret1 rfl rfl (Le.v (congrArg (Value.int .i64) (idx_ret hi' hi (by simpa using hc16)))) | exact End.ret1 rfl rfl (Le.v (congrArg (Value.int .i64) (idx_end hi' hi2)))
theorem IndexV_fn (vs : List Value) (hn : vs.length ≤ 1099511627776) (p : Nat → Bool) : Fn Try.prog 58 [rowD vs.length vs, predD Try.prog vs p] (.v (.int .i64 (if lst1 p vs.length < vs.length then ((lst1 p vs.length : Nat) : Int) else -1))) := by
 refine Fn.of Try.func58 rfl (by kernel_rfl) Try.ntmps58 (by simp) (fun w => [(0, old w.heap.size (rowD vs.length vs)), (1, old w.heap.size (predD Try.prog vs p))]) (fun w => (Start.old rfl (Start.old rfl Start.nil))) fun w₀ => ?_
 refine A.nameR (t := 0) (k := 1000200) rfl fun A₀ q₀ => ?_
 refine GS ?_
 refine TL ?_
 refine RA rfl ?_
 refine RN ?_
 refine A.seq ?_
 refine GS ?_
 refine TL ?_
 refine RM rfl ?_
 refine RS (ok_lenV Try.underlying73 rfl) ?_
 refine RM rfl ?_
 refine RN ?_
 refine A.block ?_
 refine A.loop (ι := Nat) (fun i => i ≤ vs.length ∧ ∀ j, j < i → p j = false) (fun i => [(1000200, old w₀.heap.size (memR A₀ vs)), (0, .v (.slice A₀ vs.length q₀)), (1, old w₀.heap.size (predD Try.prog vs p)), (7, .v (nI (vs.length))), (8, .v (nI i))]) (fun i => vs.length - i) 0 ?_ ?_ ?_
 ·exact ⟨Nat.zero_le _, fun j hj => absurd hj (Nat.not_lt_zero _)⟩
 ·exact (KC 1000200 rfl (KC 0 rfl (KC 1 rfl (KC 7 rfl (KE 8 rfl (by rfl) KN)))))
 intro i hi'
 refine GS ?_
 refine TL ?_
 refine RB rfl rfl rfl ?_
 refine RN ?_
 refine A.seq ?_
 refine A.cond rfl (fun hc9 => ?_) (fun hc9 => ?_)
 ·have hi : i < vs.length := by have h := hc9; simp at h; omega
  refine A.skip ?_
  refine EN ?_
  refine A.seq ?_
  refine A.block ?_
  refine GS ?_
  refine TL ?_
  refine RM rfl ?_
  refine RA rfl ?_
  refine RN ?_
  refine GS ?_
  refine TL ?_
  refine RM rfl ?_
  refine RM rfl ?_
  refine RM rfl ?_
  refine RS (ok_indexR (s := 1000200) i Try.underlying73 infoLL rfl rfl (by decide) rfl hi (by omega)) ?_
  refine RS (ok_loadP1 (u := vs[i]) (us := []) Try.underlying77 rfl (congrArg (fun l => some (elemP l)) (row1_at hi))) ?_
  refine RS (ok_callPred i rfl (Le.old _ _) rfl (List.getElem?_eq_getElem hi)) ?_
  refine RN ?_
  refine A.cond rfl (fun hc16 => ?_) (fun hc16 => ?_)
  ·refine GS ?_
   refine TL ?_
   refine RM rfl ?_
   refine RA rfl ?_
   refine RN ?_
   refine A.ret ?_
   refine End.ret_block ?_
   refine End.ret_then ?_
   refine End.ret_then ?_
   refine End.ret_block ?_
   refine End.ret_then ?_
   first | exact End.ret1 rfl rfl (Le.v (congrArg (Value.int .i64) (idx_ret hi' hi (by simpa using hc16)))) | exact End.ret1 rfl rfl (Le.v (congrArg (Value.int .i64) (idx_end hi' hi2)))
  ·refine A.skip ?_
   refine End.normal_block ?_
   refine EN ?_
   refine GE ?_
   refine TL ?_
   refine RBS rfl rfl rfl (nI (i + 1)) (by rw [wrap_i64 (by omega) (by omega)]; rfl) ?_
   refine RM rfl ?_
   refine RN ?_
   refine End.normal_then ?_
   refine End.again (i + 1) ?_ ?_ ?_
   ·exact idx_next hi' hi (by simpa using hc16)
   ·show _ - _ < _ - _; omega
   ·exact (KC 1000200 rfl (KC 0 rfl (KC 1 rfl (KC 7 rfl (KC 8 rfl KN)))))
 ·have hi2 : i = vs.length := by have h := hi'.1; simp at hc9; omega
  refine A.exit ?_
  refine End.exit_then ?_
  refine End.exit_then ?_
  refine End.exit_here ?_
  refine EN ?_
  refine GS ?_
  refine TL ?_
  refine RA rfl ?_
  refine RN ?_
  refine A.ret ?_
  first | exact End.ret1 rfl rfl (Le.v (congrArg (Value.int .i64) (idx_ret hi' hi (by simpa using hc16)))) | exact End.ret1 rfl rfl (Le.v (congrArg (Value.int .i64) (idx_end hi' hi2)))
theorem Contains_fn (vs : List Value) (hn : vs.length ≤ 1099511627776) (p : Nat → Bool) : Fn Try.prog 33 [rowD vs.length vs, predD Try.prog vs p] (.v (.bool (decide (lst1 p vs.length < vs.length)))) := by
 refine Fn.of Try.func33 rfl (by kernel_rfl) Try.ntmps33 (by simp) (fun w => [(0, old w.heap.size (rowD vs.length vs)), (1, old w.heap.size (predD Try.prog vs p))]) (fun w => (Start.old rfl (Start.old rfl Start.nil))) fun w₀ => ?_
 refine GS ?_
 refine TL ?_
 refine RA rfl ?_
 refine RN ?_
 refine GS ?_
 refine TL ?_
 refine RM rfl ?_
 refine RM rfl ?_
 refine RS (ok_call (IndexV_fn vs hn p) (Args.cons rfl (Le.old _ _) (Args.cons rfl (Le.old _ _) Args.nil))) ?_
 refine RBS rfl rfl rfl (.bool (decide (lst1 p vs.length < vs.length))) (congrArg Value.bool (decide_eq_decide.2 (by split <;> omega))) ?_
 refine RA rfl ?_
 refine RN ?_
 refine A.ret ?_
 exact End.ret1 rfl rfl (by first | exact Le.refl _ | exact Le.old _ _)
def SearchG (p : Nat → Bool) (n : Nat) (x : Nat × Nat) : Prop := x.1 ≤ x.2 ∧ x.2 ≤ n ∧ (∀ k, k < x.1 → p k = false) ∧ ∀ k, x.2 ≤ k → k < n → p k = true
def searchN (p : Nat → Bool) (x : Nat × Nat) : Nat × Nat := if p ((x.1 + x.2) / 2) then (x.1, (x.1 + x.2) / 2) else ((x.1 + x.2) / 2 + 1, x.2)
theorem search_next {p : Nat → Bool} {n : Nat} (hm : ∀ a b, a ≤ b → b < n → p a = true → p b = true) {x : Nat × Nat} (h : SearchG p n x) (hl : x.1 < x.2) : SearchG p n (searchN p x) := by
 obtain ⟨h1, h2, h3, h4⟩ := h
 unfold searchN
 split
 ·rename_i hp
  exact ⟨by simp only; omega, by simp only; omega, h3, fun k hk hkn => hm _ _ hk hkn hp⟩
 ·rename_i hp
  refine ⟨by simp only; omega, h2, fun k hk => ?_, h4⟩
  cases hpk : p k with
  | false => rfl
  | true => exact absurd (hm k _ (by simp only at hk; omega) (by omega) hpk) hp
theorem search_less {p : Nat → Bool} {x : Nat × Nat} (hl : x.1 < x.2) : (searchN p x).2 - (searchN p x).1 < x.2 - x.1 := by
 unfold searchN; split <;> simp only <;> omega
theorem search_end {p : Nat → Bool} {n : Nat} {x : Nat × Nat} (h : SearchG p n x) (hl : ¬ x.1 < x.2) : x.1 = lst1 p n := by
 obtain ⟨h1, h2, h3, h4⟩ := h
 exact (lst1_eq (by omega) h3 (fun h => h4 _ (by omega) h)).symm
theorem range_at {n i : Nat} (h : i < n) : (ints n)[i]? = some (Value.int .i64 (i : Int)) := by
 unfold ints
 rw [List.getElem?_map, List.getElem?_range h]; rfl
theorem search_shr {n : Nat} (h : n < 18446744073709551616) : Value.int .u64 (((n : Nat) : Int).fdiv (2 ^ min (1 : Int).toNat IntKind.u64.bits)) = nQ (n / 2) := by
 rw [show min (1 : Int).toNat IntKind.u64.bits = 1 from rfl, Int.fdiv_eq_ediv_of_nonneg _ (by decide)]; congr 1
theorem Search_fn (n : Nat) (hn : n ≤ 1099511627776) (p : Nat → Bool) (hm : ∀ a b, a ≤ b → b < n → p a = true → p b = true) : Fn Try.prog 31 [.v (nI n), predD Try.prog (ints n) p] (.v (nI (lst1 p n))) := by
 refine Fn.of Try.func31 rfl (by kernel_rfl) Try.ntmps31 (by simp) (fun w => [(0, .v (nI n)), (1, old w.heap.size (predD Try.prog (ints n) p))]) (fun w => (Start.v rfl (Start.old rfl Start.nil))) fun w₀ => ?_
 refine GS ?_
 refine TL ?_
 refine RA rfl ?_
 refine RN ?_
 refine GS ?_
 refine TL ?_
 refine RM rfl ?_
 refine RA rfl ?_
 refine RA rfl ?_
 refine RN ?_
 refine A.seq ?_
 refine A.block ?_
 refine A.loop (ι := Nat × Nat) (fun x => SearchG p n x) (fun x => [(1, old w₀.heap.size (predD Try.prog (ints n) p)), (5, .v (nI (x.1))), (6, .v (nI (x.2)))]) (fun x => x.2 - x.1) (0, n) ?_ ?_ ?_
 ·exact ⟨Nat.zero_le _, Nat.le_refl _, fun k hk => absurd hk (Nat.not_lt_zero _), fun k h1 h2 => absurd h2 (Nat.not_lt.2 h1)⟩
 ·exact (KC 1 rfl (KE 5 rfl (by rfl) (KC 6 rfl KN)))
 intro x hx
 refine A.seq ?_
 refine GS ?_
 refine TL ?_
 refine RM rfl ?_
 refine RM rfl ?_
 refine RB rfl rfl rfl ?_
 refine RN ?_
 refine A.cond rfl (fun hc11 => ?_) (fun hc11 => ?_)
 ·have hlt : x.1 < x.2 := by have h := hc11; simp at h; omega
  refine A.skip ?_
  refine EN ?_
  refine A.block ?_
  refine GS ?_
  refine TL ?_
  refine RM rfl ?_
  refine RM rfl ?_
  refine RBS rfl rfl rfl (nI (x.1 + x.2)) (by rw [wrap_i64 (by omega) (by have h1 := hx.1; have h2 := hx.2.1; omega)]; rfl) ?_
  refine RS (ok_conv Try.underlying3 Try.underlying92 rfl) ?_; refine RZ (nQ (x.1 + x.2)) (congrArg (Value.int .u64) (wrapN_u64 (by have h1 := hx.1; have h2 := hx.2.1; omega))) ?_
  refine RS (ok_shr rfl rfl (by decide)) ?_; refine RZ (nQ ((x.1 + x.2) / 2)) (search_shr (by have h1 := hx.1; have h2 := hx.2.1; omega)) ?_
  refine RS (ok_conv Try.underlying92 Try.underlying3 rfl) ?_; refine RZ (nI (((x.1 + x.2) / 2))) (congrArg (Value.int .i64) (wrapN_i64 (by have h1 := hx.1; have h2 := hx.2.1; omega))) ?_
  refine RA rfl ?_
  refine RN ?_
  refine GS ?_
  refine TL ?_
  refine RM rfl ?_
  refine RM rfl ?_
  refine RS (ok_callPred ((x.1 + x.2) / 2) rfl (Le.old _ _) rfl (range_at (by have h1 := hx.1; have h2 := hx.2.1; omega))) ?_
  refine RS (ok_not rfl) ?_
  refine RN ?_
  refine A.cond rfl (fun hc21 => ?_) (fun hc21 => ?_)
  ·have hp : p ((x.1 + x.2) / 2) = false := by simpa using hc21
   refine GE ?_
   refine TL ?_
   refine RM rfl ?_
   refine RBS rfl rfl rfl (nI (((x.1 + x.2) / 2) + 1)) (by rw [wrap_i64 (by omega) (by have h1 := hx.1; have h2 := hx.2.1; omega)]; rfl) ?_
   refine RA rfl ?_
   refine RN ?_
   refine End.normal_block ?_
   refine End.normal_then ?_
   refine End.again (searchN p x) ?_ ?_ ?_
   ·exact search_next hm hx hlt
   ·exact search_less hlt
   ·exact (KC 1 rfl (KE 5 rfl (by simp [searchN, hp]) (KE 6 rfl (by simp [searchN, hp]) KN)))
  ·have hp : p ((x.1 + x.2) / 2) = true := by simpa using hc21
   refine GE ?_
   refine TL ?_
   refine RM rfl ?_
   refine RA rfl ?_
   refine RN ?_
   refine End.normal_block ?_
   refine End.normal_then ?_
   refine End.again (searchN p x) ?_ ?_ ?_
   ·exact search_next hm hx hlt
   ·exact search_less hlt
   ·exact (KC 1 rfl (KE 5 rfl (by simp [searchN, hp]) (KE 6 rfl (by simp [searchN, hp]) KN)))
 ·have hge : ¬ x.1 < x.2 := by have h := hc11; simp at h; omega
  refine A.exit ?_
  refine End.exit_then ?_
  refine End.exit_then ?_
  refine End.exit_here ?_
  refine EN ?_
  refine GS ?_
  refine TL ?_
  refine RM rfl ?_
  refine RA rfl ?_
  refine RN ?_
  refine A.ret ?_
  exact End.ret1 rfl rfl (Le.v (congrArg (fun k : Nat => Value.int .i64 (k : Int)) (search_end hx hge)))
theorem natR_at {L : List Nat} {i : Nat} (hi : i < L.length) : ((natR L).drop (i * 1)).take 1 = [(nI (L[i]!) : Value)] := by
 rw [row1_at (by simpa [natR] using hi)]; simp [natR, hi]
def encB : Option Nat → Int
 | none => -1
 | some k => (k : Int)
def hitB (us : List Us) (b : Option Nat) (i : Nat) : Bool := match b with
 | none => false
 | some k => clB us[k]! us[i]!
def RepG (us : List Us) (j : Nat) (L : List Nat) (x : Nat × Option Nat) : Prop := x.1 ≤ L.length ∧ repG us j none L = repG us j x.2 (L.drop x.1) ∧ ∀ k, x.2 = some k → k < us.length
def repN (L : List Nat) (j : Nat) (x : Nat × Option Nat) : Nat × Option Nat := (x.1 + 1, if j < L[x.1]! then x.2 else some L[x.1]!)
theorem rep_drop {us : List Us} {L : List Nat} {j : Nat} {x : Nat × Option Nat} (hi : x.1 < L.length) : repG us j x.2 (L.drop x.1) = if j < L[x.1]! then repG us j x.2 (L.drop (x.1 + 1)) else if hitB us x.2 L[x.1]! then true else repG us j (some L[x.1]!) (L.drop (x.1 + 1)) := by
 rw [List.drop_eq_getElem_cons hi, ← getElem!_pos L x.1 hi]
 rcases x.2 with _ | k <;> simp only [repG, hitB] <;> split <;> simp
theorem enc_pass {L : List Nat} {j : Nat} {x : Nat × Option Nat} (hg : j < L[x.1]!) : encB x.2 = encB (repN L j x).2 := by unfold repN; rw [if_pos hg]
theorem enc_next {L : List Nat} {j : Nat} {x : Nat × Option Nat} (hg : ¬ j < L[x.1]!) : ((L[x.1]! : Nat) : Int) = encB (repN L j x).2 := by unfold repN; rw [if_neg hg]; rfl
theorem rep_pass {us : List Us} {L : List Nat} {j : Nat} {x : Nat × Option Nat} (hx : RepG us j L x) (hi : x.1 < L.length) (hg : j < L[x.1]!) : RepG us j L (repN L j x) := by
 obtain ⟨_, h2, h3⟩ := hx
 rw [rep_drop hi, if_pos hg] at h2
 unfold repN; rw [if_pos hg]
 exact ⟨hi, h2, h3⟩
theorem rep_next {us : List Us} {L : List Nat} {j : Nat} {x : Nat × Option Nat} (hx : RepG us j L x) (hi : x.1 < L.length) (hg : ¬ j < L[x.1]!) (hh : hitB us x.2 L[x.1]! = false) (hl : L[x.1]! < us.length) : RepG us j L (repN L j x) := by
 obtain ⟨_, h2, h3⟩ := hx
 rw [rep_drop hi, if_neg hg, hh] at h2
 unfold repN; rw [if_neg hg]
 exact ⟨hi, h2, fun k hk => by simp only [Option.some.injEq] at hk; omega⟩
theorem rep_hit {us : List Us} {L : List Nat} {j : Nat} {x : Nat × Option Nat} (hx : RepG us j L x) (hi : x.1 < L.length) (hg : ¬ j < L[x.1]!) (hh : hitB us x.2 L[x.1]! = true) : true = repG us j none L := by
 rw [hx.2.1, rep_drop hi, if_neg hg, hh]; rfl
theorem rep_end {us : List Us} {L : List Nat} {j : Nat} {x : Nat × Option Nat} (hx : RepG us j L x) (hi : x.1 = L.length) : false = repG us j none L := by
 rw [hx.2.1, hi, List.drop_length]; rfl
theorem encB_some {b : Option Nat} (h : b.isSome = true) : encB b = ((b.getD 0 : Nat) : Int) := by
 cases b with
 | none => cases h
 | some k => rfl
theorem encB_none {b : Option Nat} (h : b.isSome = false) : encB b = -1 := by
 cases b with
 | none => rfl
 | some k => cases h
theorem hitB_some {us : List Us} {b : Option Nat} {i : Nat} (h : b.isSome = true) (hk : b.getD 0 < us.length) (hl : i < us.length) : clB us[b.getD 0] us[i] = hitB us b i := by
 cases b with
 | none => cases h
 | some k => simp only [Option.getD_some] at hk; simp [hitB, hk, hl]
theorem hitB_none {us : List Us} {b : Option Nat} {i : Nat} (h : b.isSome = false) : false = hitB us b i := by
 cases b with
 | none => rfl
 | some k => cases h
set_option maxHeartbeats 1000000 in
theorem repeated_fn (us : List Us) (hf : Fits us) (hn : us.length ≤ 1099511627776) (L : List Nat) (hL : ∀ y ∈ L, y < us.length) (hLn : L.length ≤ 1099511627776) (j : Nat) : Fn Try.prog 35 [rowD us.length (usR us), rowD L.length (natR L), .v (nI j)] (.v (.bool (repG us j none L))) := by
 refine Fn.of Try.func35 rfl (by kernel_rfl) Try.ntmps35 (by simp) (fun w => [(0, old w.heap.size (rowD us.length (usR us))), (1, old w.heap.size (rowD L.length (natR L))), (2, .v (nI j))]) (fun w => (Start.old rfl (Start.old rfl (Start.v rfl Start.nil)))) fun w₀ => ?_
 refine A.nameR (t := 0) (k := 1000200) rfl fun A₀ q₀ => ?_
 refine A.nameR (t := 1) (k := 1000201) rfl fun A₁ q₁ => ?_
 refine GS ?_
 refine TL ?_
 refine RA rfl ?_
 refine RN ?_
 refine A.scope ?_
 refine GS ?_
 refine TL ?_
 refine RA rfl ?_
 refine RA rfl ?_
 refine RN ?_
 refine A.seq ?_
 refine A.label ?_
 refine EN ?_
 refine A.seq ?_
 refine GS ?_
 refine TL ?_
 refine RM rfl ?_
 refine RS (ok_lenV Try.underlying77 rfl) ?_
 refine RM rfl ?_
 refine RN ?_
 refine A.block ?_
 refine A.loop (ι := Nat × Option Nat) (fun x => RepG us j L x) (fun x => [(1000200, old w₀.heap.size (memR A₀ (usR us))), (1000201, old w₀.heap.size (memR A₁ (natR L))), (0, .v (.slice A₀ us.length q₀)), (2, .v (nI j)), (7, .v (.bool false)), (8, .v (.int .i64 (encB x.2))), (11, .v (.slice A₁ L.length q₁)), (12, .v (nI (L.length))), (13, .v (nI (x.1)))]) (fun x => L.length - x.1) (0, none) ?_ ?_ ?_
 ·exact ⟨Nat.zero_le _, rfl, fun k hk => by cases hk⟩
 ·exact (KC 1000200 rfl (KC 1000201 rfl (KC 0 rfl (KC 2 rfl (KC 7 rfl (KC 8 rfl (KC 11 rfl (KC 12 rfl (KE 13 rfl (by rfl) KN)))))))))
 intro x hx
 refine GS ?_
 refine TL ?_
 refine RB rfl rfl rfl ?_
 refine RN ?_
 refine A.seq ?_
 refine A.cond rfl (fun hc14 => ?_) (fun hc14 => ?_)
 ·have hi : x.1 < L.length := by have h := hc14; simp at h; omega
  have hl : L[x.1]! < us.length := by rw [getElem!_pos L x.1 hi]; exact hL _ (List.getElem_mem hi)
  refine A.skip ?_
  refine EN ?_
  refine A.seq ?_
  refine A.block ?_
  refine GS ?_
  refine TL ?_
  refine RS (ok_indexR (s := 1000201) x.1 Try.underlying77 infoI rfl rfl (by decide) rfl hi (by simpa [natR] using hi)) ?_
  refine RS (ok_loadP1 (u := nI (L[x.1]!)) (us := []) Try.underlying3 rfl (congrArg (fun l => some (elemP l)) (natR_at hi))) ?_
  refine RA rfl ?_
  refine RN ?_
  refine A.seq ?_
  refine A.block ?_
  refine GS ?_
  refine TL ?_
  refine RM rfl ?_
  refine RM rfl ?_
  refine RBS rfl rfl rfl (.bool (decide (j < L[x.1]!))) (congrArg Value.bool (decide_eq_decide.2 (by omega))) ?_
  refine RA rfl ?_
  refine RN ?_
  refine A.cond rfl (fun hc17 => ?_) (fun hc17 => ?_)
  ·have hgt : j < L[x.1]! := by simpa using hc17
   refine A.exit ?_
   refine End.exit_past (by decide) ?_
   refine End.exit_then ?_
   refine End.exit_here ?_
   refine EN ?_
   refine GE ?_
   refine TL ?_
   refine RBS rfl rfl rfl (nI (x.1 + 1)) (by rw [wrap_i64 (by omega) (by omega)]; rfl) ?_
   refine RM rfl ?_
   refine RN ?_
   refine End.normal_then ?_
   refine End.again (repN L j x) ?_ ?_ ?_
   ·first | exact rep_pass hx hi hgt | exact rep_next hx hi hgt hc21 hl
   ·show L.length - (x.1 + 1) < L.length - x.1; omega
   ·exact (KC 1000200 rfl (KC 1000201 rfl (KC 0 rfl (KC 2 rfl (KC 7 rfl (KE 8 rfl (congrArg (fun k : Int => D.v (Value.int .i64 k)) (by first | exact enc_pass hgt | exact enc_next hgt)) (KC 11 rfl (KC 12 rfl (KC 13 rfl KN)))))))))
  ·have hgt : ¬ j < L[x.1]! := by simpa using hc17
   have hk : x.2.isSome = true → x.2.getD 0 < us.length := fun h => by cases hb : x.2 with
    | none => rw [hb] at h; cases h
    | some k => exact hx.2.2 k hb
   rcases Bool.eq_false_or_eq_true (x.2.isSome) with hsp | hsp
   ·have hk := hk hsp
    refine GD ?_
    refine TL ?_
    refine RM rfl ?_
    refine RBS rfl rfl rfl (.bool true) (by rw [encB_some hsp]; simp) ?_
    refine RM rfl ?_
    refine RQ (ok_move rfl) ?_
    refine RQ (ok_move rfl) ?_; refine RZ (nI (x.2.getD 0)) (congrArg (Value.int .i64) (encB_some hsp)) ?_
    refine RQ (ok_indexR (s := 1000200) (x.2.getD 0) Try.underlying22 infoU rfl rfl (by decide) rfl hk (usR_lt hf hk)) ?_
    refine RQ (ok_loadElemP Try.underlying31 rfl (size31.of (by rw [usR_at hf hk, usV_length (hf.get hk)])) rfl) ?_; refine RZ (aggV (usV us[x.2.getD 0])) (congrArg aggV (usR_at hf hk)) ?_
    refine RQ (ok_move rfl) ?_
    refine RQ (ok_move rfl) ?_
    refine RQ (ok_indexR (s := 1000200) (L[x.1]!) Try.underlying22 infoU rfl rfl (by decide) rfl hl (usR_lt hf hl)) ?_
    refine RQ (ok_loadElemP Try.underlying31 rfl (size31.of (by rw [usR_at hf hl, usV_length (hf.get hl)])) rfl) ?_; refine RZ (aggV (usV us[L[x.1]!])) (congrArg aggV (usR_at hf hl)) ?_
    refine RQ (ok_call (clash_fn us[x.2.getD 0] us[L[x.1]!] (hf.get hk) (hf.get hl)) (A2 rfl rfl)) ?_
    refine RP rfl rfl ?_; refine RZ (.bool (hitB us x.2 L[x.1]!)) (congrArg Value.bool (hitB_some hsp hk hl)) ?_
    refine RA rfl ?_
    refine RN ?_
    refine A.cond rfl (fun hc21 => ?_) (fun hc21 => ?_)
    ·refine GS ?_
     refine TL ?_
     refine RA rfl ?_
     refine RN ?_
     refine A.exit ?_
     refine End.exit_past (by decide) ?_
     refine End.exit_then ?_
     refine End.exit_past (by decide) ?_
     refine End.exit_then ?_
     refine End.exit_then ?_
     refine End.exit_here ?_
     refine EN ?_
     refine GS ?_
     refine TL ?_
     refine RM rfl ?_
     refine RA rfl ?_
     refine RN ?_
     refine A.sub (KC 6 rfl (KC 1000200 rfl (KC 1000201 rfl KN))) ?_
     refine A.ret ?_
     refine End.ret_scope ?_
     first | exact End.ret1 rfl rfl (Le.v (congrArg Value.bool (rep_hit hx hi hgt hc21))) | exact End.ret1 rfl rfl (Le.v (congrArg Value.bool (rep_end hx hi2)))
    ·refine A.skip ?_
     refine End.normal_block ?_
     refine EN ?_
     refine GE ?_
     refine TL ?_
     refine RM rfl ?_
     refine RA rfl ?_
     refine RN ?_
     refine End.normal_block ?_
     refine EN ?_
     refine GE ?_
     refine TL ?_
     refine RBS rfl rfl rfl (nI (x.1 + 1)) (by rw [wrap_i64 (by omega) (by omega)]; rfl) ?_
     refine RM rfl ?_
     refine RN ?_
     refine End.sub (KC 0 rfl (KC 2 rfl (KC 7 rfl (KC 8 rfl (KC 11 rfl (KC 12 rfl (KC 13 rfl (KC 1000200 rfl (KC 1000201 rfl KN))))))))) ?_
     refine End.normal_then ?_
     refine End.again (repN L j x) ?_ ?_ ?_
     ·first | exact rep_pass hx hi hgt | exact rep_next hx hi hgt hc21 hl
     ·show L.length - (x.1 + 1) < L.length - x.1; omega
     ·exact (KC 1000200 rfl (KC 1000201 rfl (KC 0 rfl (KC 2 rfl (KC 7 rfl (KE 8 rfl (congrArg (fun k : Int => D.v (Value.int .i64 k)) (by first | exact enc_pass hgt | exact enc_next hgt)) (KC 11 rfl (KC 12 rfl (KC 13 rfl KN)))))))))
   ·refine GD ?_
    refine TL ?_
    refine RM rfl ?_
    refine RBS rfl rfl rfl (.bool false) (by rw [encB_none hsp]; rfl) ?_
    refine RM rfl ?_
    refine RK ?_
    refine RK ?_
    refine RK ?_
    refine RK ?_
    refine RK ?_
    refine RK ?_
    refine RK ?_
    refine RK ?_
    refine RK ?_
    refine RP rfl rfl ?_; refine RZ (.bool (hitB us x.2 L[x.1]!)) (congrArg Value.bool (hitB_none hsp)) ?_
    refine RA rfl ?_
    refine RN ?_
    refine A.cond rfl (fun hc21 => ?_) (fun hc21 => ?_)
    ·refine GS ?_
     refine TL ?_
     refine RA rfl ?_
     refine RN ?_
     refine A.exit ?_
     refine End.exit_past (by decide) ?_
     refine End.exit_then ?_
     refine End.exit_past (by decide) ?_
     refine End.exit_then ?_
     refine End.exit_then ?_
     refine End.exit_here ?_
     refine EN ?_
     refine GS ?_
     refine TL ?_
     refine RM rfl ?_
     refine RA rfl ?_
     refine RN ?_
     refine A.sub (KC 6 rfl (KC 1000200 rfl (KC 1000201 rfl KN))) ?_
     refine A.ret ?_
     refine End.ret_scope ?_
     first | exact End.ret1 rfl rfl (Le.v (congrArg Value.bool (rep_hit hx hi hgt hc21))) | exact End.ret1 rfl rfl (Le.v (congrArg Value.bool (rep_end hx hi2)))
    ·refine A.skip ?_
     refine End.normal_block ?_
     refine EN ?_
     refine GE ?_
     refine TL ?_
     refine RM rfl ?_
     refine RA rfl ?_
     refine RN ?_
     refine End.normal_block ?_
     refine EN ?_
     refine GE ?_
     refine TL ?_
     refine RBS rfl rfl rfl (nI (x.1 + 1)) (by rw [wrap_i64 (by omega) (by omega)]; rfl) ?_
     refine RM rfl ?_
     refine RN ?_
     refine End.sub (KC 0 rfl (KC 2 rfl (KC 7 rfl (KC 8 rfl (KC 11 rfl (KC 12 rfl (KC 13 rfl (KC 1000200 rfl (KC 1000201 rfl KN))))))))) ?_
     refine End.normal_then ?_
     refine End.again (repN L j x) ?_ ?_ ?_
     ·first | exact rep_pass hx hi hgt | exact rep_next hx hi hgt hc21 hl
     ·show L.length - (x.1 + 1) < L.length - x.1; omega
     ·exact (KC 1000200 rfl (KC 1000201 rfl (KC 0 rfl (KC 2 rfl (KC 7 rfl (KE 8 rfl (congrArg (fun k : Int => D.v (Value.int .i64 k)) (by first | exact enc_pass hgt | exact enc_next hgt)) (KC 11 rfl (KC 12 rfl (KC 13 rfl KN)))))))))
 ·have hi2 : x.1 = L.length := by have h := hx.1; simp at hc14; omega
  refine A.exit ?_
  refine End.exit_then ?_
  refine End.exit_then ?_
  refine End.exit_here ?_
  refine EN ?_
  refine GS ?_
  refine TL ?_
  refine RM rfl ?_
  refine RA rfl ?_
  refine RN ?_
  refine A.ret ?_
  refine End.ret_scope ?_
  first | exact End.ret1 rfl rfl (Le.v (congrArg Value.bool (rep_hit hx hi hgt hc21))) | exact End.ret1 rfl rfl (Le.v (congrArg Value.bool (rep_end hx hi2)))
end Go.Proofs.Ythhmimnkfklhdaa
namespace Go.Proofs.Ythhmimnkfklhdaa
open Go Go.RowKit
set_option linter.unusedVariables false
set_option maxRecDepth 20000
def MC34 (us : List Us) (A₀ : Option Addr) (q₀ bl bj j B₀ lo : Nat) (A₂ : Option Addr) (vs : List Value) (Ls : List (List Nat)) : Env := [(1900000, blk bl 35 [.slice A₀ us.length q₀]), (1900001, blk bj 3 [.int .i64 (j : Int)]), (1900002, old B₀ (memR A₀ (usR us))), (1900003, listsM lo 77 3 A₂ vs Ls)]
def MC32 (us : List Us) (A₀ : Option Addr) (q₀ bl bL B₀ lo : Nat) (A₂ : Option Addr) (q₂ : Nat) (vs : List Value) (Ls : List (List Nat)) : Env := [(1900000, blk bL 73 [.slice A₂ vs.length q₂]), (1900001, blk bl 35 [.slice A₀ us.length q₀]), (1900002, old B₀ (memR A₀ (usR us))), (1900003, listsM lo 77 3 A₂ vs Ls)]
def MC37 (us : List Us) (A₀ : Option Addr) (q₀ bl bj j B₀ : Nat) : Env := [(1900000, blk bl 35 [.slice A₀ us.length q₀]), (1900001, blk bj 3 [.int .i64 (j : Int)]), (1900002, old B₀ (memR A₀ (usR us)))]
theorem zero3 : ZeroIs Try.prog 3 [.int .i64 0] := by unfold ZeroIs; kernel_rfl
theorem zero73 : ZeroIs Try.prog 73 [.slice none 0 0] := by unfold ZeroIs; kernel_rfl
theorem body32 : HasBody Try.prog 32 := ⟨_, Try.func32, by kernel_rfl, rfl⟩
theorem body34 : HasBody Try.prog 34 := ⟨_, Try.func34, by kernel_rfl, rfl⟩
theorem body37 : HasBody Try.prog 37 := ⟨_, Try.func37, by kernel_rfl, rfl⟩
theorem ints_open {n j : Nat} {v : Value} (h : (ints n)[j]? = some v) : j < n ∧ v = .int .i64 (j : Int) := by
 unfold ints at h
 rw [List.getElem?_map] at h
 rcases Nat.lt_or_ge j n with hj | hj
 ·rw [List.getElem?_range hj] at h; exact ⟨hj, by simpa using h.symm⟩
 ·rw [List.getElem?_eq_none (by simpa using hj)] at h; cases h
theorem repJ_le (us : List Us) : repJ us ≤ us.length := (lst1_spec _ _).1

theorem rep34_fn (us : List Us) (hf : Fits us) (hn : us.length ≤ 1099511627776) (A₀ : Option Addr) (q₀ bl bj j B₀ lo : Nat) (A₂ : Option Addr) (vs : List Value) (Ls : List (List Nat)) (k : Nat) (v : Value) (L : List Nat) (hv : vs[k]? = some v) (hL : Ls[k]? = some L) (hLt : ∀ y ∈ L, y < us.length) (hLn : L.length ≤ 1099511627776) : FnM Try.prog 34 (MC34 us A₀ q₀ bl bj j B₀ lo A₂ vs Ls) [.v v, .v (.pointer (some ⟨bl, 0, none⟩)), .v (.pointer (some ⟨bj, 0, none⟩))] (.v (.bool (repG us j none L))) := by
 refine FnM.of Try.func34 rfl (by kernel_rfl) Try.ntmps34 (by simp) (by decide) (fun w => [(0, .v v), (1, .v (.pointer (some ⟨bl, 0, none⟩))), (2, .v (.pointer (some ⟨bj, 0, none⟩))), (1900000, blk bl 35 [.slice A₀ us.length q₀]), (1900001, blk bj 3 [.int .i64 (j : Int)]), (1900002, old B₀ (memR A₀ (usR us))), (1900003, listsM lo 77 3 A₂ vs Ls)]) (fun w => (StartM.v rfl (StartM.v rfl (StartM.v rfl (StartM.m (by simp [MC34]) (by decide) (StartM.m (by simp [MC34]) (by decide) (StartM.m (by simp [MC34]) (by decide) (StartM.m (by simp [MC34]) (by decide) StartM.nil)))))))) fun w₀ hM => ?_
 skip
 refine A.openList (t := 0) (k := 1900003) (k' := 1000201) rfl rfl hv hL fun A₁ q₁ => ?_
 refine GS ?_
 refine TL ?_
 refine RA rfl ?_
 refine RN ?_
 refine GS ?_
 refine TL ?_
 refine RS (ok_field field35_0 (by decide) rfl) ?_
 refine RS (OpOk.rowO (ok_loadV (s := 1900000) (by decide) Try.underlying22 rfl rfl rfl (rfl)) (k := 1900002) (by decide) rfl) ?_
 refine RS (OpOk.rowM (ok_move rfl) (k := 1000201) (by decide) rfl) ?_
 refine RS (ok_loadV (s := 1900001) (by decide) Try.underlying3 rfl rfl rfl (rfl)) ?_
 refine RS (ok_call (repeated_fn us hf hn L hLt hLn j) (Args.cons rfl (Le.old _ _) (A2 rfl rfl))) ?_
 refine RA rfl ?_
 refine RN ?_
 refine A.ret ?_
 exact End.ret1 rfl rfl (by first | exact Le.refl _ | exact Le.old _ _)
theorem rep32_pred {us : List Us} (hf : Fits us) (hn : us.length ≤ 1099511627776) (A₀ : Option Addr) (q₀ bl bj j B₀ lo : Nat) (A₂ : Option Addr) (vs : List Value) (Ls : List (List Nat)) (hvl : vs.length = Ls.length) (hLs : Lists us Ls) (k : Nat) (v : Value) (hv : vs[k]? = some v) :
  FnM Try.prog 34 (MC34 us A₀ q₀ bl bj j B₀ lo A₂ vs Ls) (.v v :: [Value.pointer (some ⟨bl, 0, none⟩), Value.pointer (some ⟨bj, 0, none⟩)].map D.v) (.v (.bool (repG us j none Ls[k]!))) := by
 have hk : k < Ls.length := by rw [← hvl]; exact (List.getElem?_eq_some_iff.1 hv).1
 have hL : Ls[k]? = some Ls[k] := List.getElem?_eq_getElem hk
 have hm : Ls[k] ∈ Ls := List.getElem_mem hk
 rw [getElem!_pos Ls k hk]
 exact rep34_fn us hf hn A₀ q₀ bl bj j B₀ lo A₂ vs Ls k v _ hv hL (hLs.lt _ hm) (by
  have := (hLs.nodup _ hm).length_le_of_subset (l₂ := List.range us.length) (fun y hy => List.mem_range.2 (hLs.lt _ hm y hy))
  simp only [List.length_range] at this; omega)
theorem rep32_fn (us : List Us) (hf : Fits us) (hn : us.length ≤ 1099511627776) (hok : ∀ u ∈ us, u.ok = true) (A₀ : Option Addr) (q₀ bl bL B₀ lo : Nat) (A₂ : Option Addr) (q₂ : Nat) (vs : List Value) (Ls : List (List Nat)) (hvl : vs.length = Ls.length) (hvn : vs.length ≤ us.length) (hLs : Lists us Ls) (j : Nat) (hj : j < us.length) : FnM Try.prog 32 (MC32 us A₀ q₀ bl bL B₀ lo A₂ q₂ vs Ls) [.v (nI j), .v (.pointer (some ⟨bL, 0, none⟩)), .v (.pointer (some ⟨bl, 0, none⟩))] (.v (.bool (cUp us j))) := by
 refine FnM.of Try.func32 rfl (by kernel_rfl) Try.ntmps32 (by simp) (by decide) (fun w => [(0, .v (nI j)), (1, .v (.pointer (some ⟨bL, 0, none⟩))), (2, .v (.pointer (some ⟨bl, 0, none⟩))), (1900000, blk bL 73 [.slice A₂ vs.length q₂]), (1900001, blk bl 35 [.slice A₀ us.length q₀]), (1900002, old B₀ (memR A₀ (usR us))), (1900003, listsM lo 77 3 A₂ vs Ls)]) (fun w => (StartM.v rfl (StartM.v rfl (StartM.v rfl (StartM.m (by simp [MC32]) (by decide) (StartM.m (by simp [MC32]) (by decide) (StartM.m (by simp [MC32]) (by decide) (StartM.m (by simp [MC32]) (by decide) StartM.nil)))))))) fun w₀ hM => ?_
 skip
 refine GS ?_
 refine TN 0 ?_
 refine RN ?_
 refine ⟨_, _, eff_box1 (n := 8) (d := 3) (k := 1000003) rfl rfl (by decide), fun b3 hb3 => ?_⟩
 have hBb3 := hb3.1
 refine TL ?_
 refine RA rfl ?_
 refine RN ?_
 refine GS ?_
 refine TL ?_
 refine RS (OpOk.rowL (ok_loadV (s := 1900000) (by decide) Try.underlying73 rfl rfl rfl (rfl)) (k := 1900003) (by decide) rfl) ?_
 refine RS (ok_makePred [.pointer (some ⟨bl, 0, none⟩), .pointer (some ⟨b3, 0, none⟩)] (p := fun k => repG us j none Ls[k]!) body34 (rep32_pred hf hn A₀ q₀ bl b3 j B₀ lo A₂ vs Ls hvl hLs) (MHas.cons 1900001 (by decide) rfl (Le.refl _) (MHas.cons 1000003 (by decide) rfl (Le.refl _) (MHas.cons 1900002 (by decide) rfl (Le.refl _) (MHas.cons 1900003 (by decide) rfl (Le.refl _) MHas.nil)))) ⟨rfl, rfl, trivial⟩) ?_
 refine RS (ok_call (Contains_fn vs (by omega) _) (A2 rfl rfl)) ?_; refine RZ (.bool (cUp us j)) (congrArg Value.bool ((lst1_any hvl (fun k _ => rfl)).trans (hLs.any hok j hj))) ?_
 refine RA rfl ?_
 refine RN ?_
 refine A.ret ?_
 exact End.ret1 rfl rfl (by first | exact Le.refl _ | exact Le.old _ _)
theorem rep37_fn (us : List Us) (hf : Fits us) (hn : us.length ≤ 1099511627776) (A₀ : Option Addr) (q₀ bl bj j B₀ : Nat) (hj : j < us.length) (i : Nat) (hi : i < us.length) : FnM Try.prog 37 (MC37 us A₀ q₀ bl bj j B₀) [.v (aggV (usV us[i])), .v (.pointer (some ⟨bl, 0, none⟩)), .v (.pointer (some ⟨bj, 0, none⟩))] (.v (.bool (clB us[i] us[j]))) := by
 refine FnM.of Try.func37 rfl (by kernel_rfl) Try.ntmps37 (by simp) (by decide) (fun w => [(0, .v (aggV (usV us[i]))), (1, .v (.pointer (some ⟨bl, 0, none⟩))), (2, .v (.pointer (some ⟨bj, 0, none⟩))), (1900000, blk bl 35 [.slice A₀ us.length q₀]), (1900001, blk bj 3 [.int .i64 (j : Int)]), (1900002, old B₀ (memR A₀ (usR us)))]) (fun w => (StartM.v rfl (StartM.v rfl (StartM.v rfl (StartM.m (by simp [MC37]) (by decide) (StartM.m (by simp [MC37]) (by decide) (StartM.m (by simp [MC37]) (by decide) StartM.nil))))))) fun w₀ hM => ?_
 skip
 refine GS ?_
 refine TN 0 ?_
 refine RN ?_
 refine ⟨_, _, eff_box (n := 12) (d := 3) (k := 1000003) rfl (by decide), fun b3 hb3 => ?_⟩
 have hBb3 := hb3.1
 refine TL ?_
 refine RA rfl ?_
 refine RN ?_
 refine GD ?_
 refine TL ?_
 refine RS (ok_loadA (s := 1000003) (by decide) Try.underlying31 rfl (size31.of (usV_length (hf.get hi))) rfl rfl) ?_
 refine RS (ok_field field35_0 (by decide) rfl) ?_
 refine RS (ok_loadV (s := 1900000) (by decide) Try.underlying22 rfl rfl rfl (rfl)) ?_
 refine RS (ok_loadV (s := 1900001) (by decide) Try.underlying3 rfl rfl rfl (rfl)) ?_
 refine RS (ok_indexR (s := 1900002) j Try.underlying22 infoU rfl rfl (by decide) rfl hj (usR_lt hf hj)) ?_
 refine RS (ok_loadElemP Try.underlying31 rfl (size31.of (by rw [usR_at hf hj, usV_length (hf.get hj)])) rfl) ?_; refine RZ (aggV (usV us[j])) (congrArg aggV (usR_at hf hj)) ?_
 refine RS (ok_call (clash_fn us[i] us[j] (hf.get hi) (hf.get hj)) (A2 rfl rfl)) ?_
 refine RA rfl ?_
 refine RN ?_
 refine A.ret ?_
 exact End.ret1 rfl rfl (by first | exact Le.refl _ | exact Le.old _ _)
theorem Repeats_bad (us : List Us) (hf : Fits us) (hn : us.length ≤ 1099511627776) (h : chkU us ≠ 0) : Fn Try.prog 15 [hdD (rowD us.length (usR us)) []] (.v (.tuple #[.int .i64 0, .int .i64 0, .bool false])) := by
 refine Fn.of Try.func15 rfl (by kernel_rfl) Try.ntmps15 (by simp) (fun w => [(0, old w.heap.size (hdD (rowD us.length (usR us)) []))]) (fun w => (Start.old rfl Start.nil)) fun w₀ => ?_
 refine A.nameHdR (t := 0) (k := 1000200) rfl fun A₀ q₀ => ?_
 refine GS ?_
 refine TN 0 ?_
 refine RN ?_
 refine ⟨_, _, eff_box (n := 28) (d := 1) (k := 1000001) rfl (by decide), fun b1 hb1 => ?_⟩
 have hBb1 := hb1.1
 refine TN 2 ?_
 refine RA rfl ?_
 refine RN ?_
 refine ⟨_, _, eff_alloc (n := 28) (d := 3) (k := 1000003) zero3 (by decide), fun b3 hb3 => ?_⟩
 have hBb3 := hb3.1
 refine TL ?_
 refine RA rfl ?_
 refine RN ?_
 refine A.seq ?_
 refine GS ?_
 refine TL ?_
 refine RS (OpOk.hdRow (ok_loadA (s := 1000001) (by decide) Try.underlying35 rfl (size35.of (rfl)) rfl rfl) (k := 1000200) (by decide) rfl) ?_
 refine RS (ok_call (Check_fn us hf hn) (Args.cons rfl (Le.old _ _) Args.nil)) ?_
 refine RBS rfl rfl rfl (.bool true) (by simpa using h) ?_
 refine RN ?_
 refine A.yes rfl ?_
 refine GS ?_
 refine TF 1 ?_
 refine RA rfl ?_
 refine RN ?_
 refine ⟨_, eff_storeS (n := 28) (s := 1000003) info3 rfl rfl rfl hBb3 rfl (by simp) (LV 2 rfl (LV 3 rfl (LT 1000001 rfl (LO 1000200 rfl LN)))), ?_⟩
 refine TL ?_
 refine RA rfl ?_
 refine RN ?_
 refine A.ret ?_
 refine End.ret_then ?_
 exact End.tct (k := 1000003) rfl Try.underlying3 rfl rfl rfl rfl rfl
theorem rep_pred {us : List Us} (hf : Fits us) (hn : us.length ≤ 1099511627776) (hok : ∀ u ∈ us, u.ok = true) (A₀ : Option Addr) (q₀ bl bL B₀ lo : Nat) (A₂ : Option Addr) (q₂ : Nat) (vs : List Value) (Ls : List (List Nat)) (hvl : vs.length = Ls.length) (hvn : vs.length ≤ us.length) (hLs : Lists us Ls) (j : Nat) (v : Value) (hv : (ints us.length)[j]? = some v) :
  FnM Try.prog 32 (MC32 us A₀ q₀ bl bL B₀ lo A₂ q₂ vs Ls) (.v v :: [Value.pointer (some ⟨bL, 0, none⟩), Value.pointer (some ⟨bl, 0, none⟩)].map D.v) (.v (.bool (cUp us j))) := by
 obtain ⟨hj, rfl⟩ := ints_open hv
 exact rep32_fn us hf hn hok A₀ q₀ bl bL B₀ lo A₂ q₂ vs Ls hvl hvn hLs j hj
theorem rep_pred2 {us : List Us} (hf : Fits us) (hn : us.length ≤ 1099511627776) (A₀ : Option Addr) (q₀ bl bj j B₀ : Nat) (hj : j < us.length) (i : Nat) (v : Value) (hv : (us.map fun u => aggV (usV u))[i]? = some v) :
  FnM Try.prog 37 (MC37 us A₀ q₀ bl bj j B₀) (.v v :: [Value.pointer (some ⟨bl, 0, none⟩), Value.pointer (some ⟨bj, 0, none⟩)].map D.v) (.v (.bool (clB us[i]! us[j]!))) := by
 rw [List.getElem?_map] at hv
 have hi : i < us.length := by
  rcases Nat.lt_or_ge i us.length with h | h
  ·exact h
  ·rw [List.getElem?_eq_none h] at hv; cases hv
 rw [List.getElem?_eq_getElem hi] at hv
 simp only [Option.map_some, Option.some.injEq] at hv
 subst hv
 rw [getElem!_pos us i hi, getElem!_pos us j hj]
 exact rep37_fn us hf hn A₀ q₀ bl bj j B₀ hj i hi
set_option maxHeartbeats 1000000 in
theorem Repeats_none (us : List Us) (hf : Fits us) (hn : us.length ≤ 1099511627776) (h : chkU us = 0) (hok : ∀ u ∈ us, u.ok = true) (hJ : repJ us = us.length) (SH : FnB Try.prog 30 [rowD us.length (usR us)] (fun B => partsD us 77 3 B))  : Fn Try.prog 15 [hdD (rowD us.length (usR us)) []] (.v (.tuple #[.int .i64 0, .int .i64 0, .bool false])) := by
 refine Fn.of Try.func15 rfl (by kernel_rfl) Try.ntmps15 (by simp) (fun w => [(0, old w.heap.size (hdD (rowD us.length (usR us)) []))]) (fun w => (Start.old rfl Start.nil)) fun w₀ => ?_
 refine A.nameHdR (t := 0) (k := 1000200) rfl fun A₀ q₀ => ?_
 refine GS ?_
 refine TN 0 ?_
 refine RN ?_
 refine ⟨_, _, eff_box (n := 28) (d := 1) (k := 1000001) rfl (by decide), fun b1 hb1 => ?_⟩
 have hBb1 := hb1.1
 refine TN 2 ?_
 refine RA rfl ?_
 refine RN ?_
 refine ⟨_, _, eff_alloc (n := 28) (d := 3) (k := 1000003) zero3 (by decide), fun b3 hb3 => ?_⟩
 have hBb3 := hb3.1
 refine TL ?_
 refine RA rfl ?_
 refine RN ?_
 refine A.seq ?_
 refine GS ?_
 refine TL ?_
 refine RS (OpOk.hdRow (ok_loadA (s := 1000001) (by decide) Try.underlying35 rfl (size35.of (rfl)) rfl rfl) (k := 1000200) (by decide) rfl) ?_
 refine RS (ok_call (Check_fn us hf hn) (Args.cons rfl (Le.old _ _) Args.nil)) ?_
 refine RBS rfl rfl rfl (.bool false) (by simp [h]) ?_
 refine RN ?_
 refine A.no rfl ?_
 refine A.skip ?_
 refine EN ?_
 refine GS ?_
 refine RunTK.newG 2 (by decide) rfl (.inl rfl) ?_
 refine RS (ok_field field35_0 (by decide) rfl) ?_
 refine RS (OpOk.rowO (ok_loadV (s := 1000001) (by decide) Try.underlying22 rfl rfl rfl (rfl)) (k := 1000200) (by decide) rfl) ?_
 refine RN ?_
 refine ⟨_, _, _, eff_nameG (ι := List (List Nat) × List Value × Option Addr × Nat) (d := fun B => partsD us 77 3 B) (fun i => .slice i.2.2.1 i.2.1.length i.2.2.2) (fun i => Lists us i.1 ∧ i.2.1.length = i.1.length ∧ i.2.1.length ≤ us.length) (fun lo i => [(1000211, listsM lo 77 3 i.2.2.1 i.2.1 i.1)]) rfl rfl (fun B' => ok_callB SH partsD_mono (Args.cons rfl (Le.old _ _) Args.nil)) (fun lo w x h => parts_open (by decide) lo w x h) (by decide) (by decide), fun ⟨lo, Ls, vs, A₂, q₂⟩ ⟨hlo, hLs, hvl, hvn⟩ => ?_⟩
 have hlt_b1_lo := hlo.2 1000001 _ _ _ rfl
 have hlt_b3_lo := hlo.2 1000003 _ _ _ rfl
 refine TN 3 ?_
 refine RN ?_
 refine ⟨_, _, eff_alloc (n := 28) (d := 5) (k := 1000005) zero73 (by decide), fun b5 hb5 => ?_⟩
 have hBb5 := hb5.1
 refine TF 4 ?_
 refine RN ?_
 refine ⟨_, eff_storeS (n := 28) (s := 1000005) info73 rfl rfl rfl hBb5 rfl (by simp) (LV 1 rfl (LV 3 rfl (LV 5 rfl (LT 1000001 rfl (LT 1000003 rfl (LO 1000200 rfl (LeftS.cons (t := 1000211) rfl (Surv.lists (by first | exact .inr ⟨by decide, by decide⟩ | exact .inl (by omega))) LN))))))), ?_⟩
 refine TL ?_
 refine RN ?_
 refine GS ?_
 refine TF 5 ?_
 refine RS (ok_field field35_0 (by decide) rfl) ?_
 refine RS (ok_loadV (s := 1000001) (by decide) Try.underlying22 rfl rfl rfl (rfl)) ?_
 refine RS (ok_lenV Try.underlying22 rfl) ?_
 refine RS (ok_makePred [.pointer (some ⟨b5, 0, none⟩), .pointer (some ⟨b1, 0, none⟩)] (args := ints us.length) (p := cUp us) body32 (rep_pred hf hn hok A₀ q₀ b1 b5 _ lo A₂ q₂ vs Ls hvl hvn hLs) (MHas.cons 1000005 (by decide) rfl (Le.refl _) (MHas.cons 1000001 (by decide) rfl (Le.refl _) (MHas.cons 1000200 (by decide) rfl (Le.refl _) (MHas.cons 1000211 (by decide) rfl (Le.refl _) MHas.nil)))) ⟨rfl, rfl, trivial⟩) ?_
 refine RS (ok_call (Search_fn us.length hn (cUp us) (fun _ _ h _ k => cUp_mono h k)) (A2 rfl rfl)) ?_; refine RZ (nI (repJ us)) (congrArg (fun k : Nat => Value.int .i64 (k : Int)) (lst1_cUp us)) ?_
 refine RN ?_
 refine ⟨_, eff_storeS (n := 28) (s := 1000003) info3 rfl rfl rfl hBb3 rfl (by simp) (LV 1 rfl (LV 3 rfl (LT 1000001 rfl (LT 1000005 rfl (LO 1000200 rfl (LeftS.cons (t := 1000211) rfl (Surv.lists (by first | exact .inr ⟨by decide, by decide⟩ | exact .inl (by omega))) LN)))))), ?_⟩
 refine TL ?_
 refine RN ?_
 refine A.seq ?_
 refine GS ?_
 refine TL ?_
 refine RS (ok_loadV (s := 1000003) (by decide) Try.underlying3 rfl rfl rfl (rfl)) ?_
 refine RS (ok_field field35_0 (by decide) rfl) ?_
 refine RS (ok_loadV (s := 1000001) (by decide) Try.underlying22 rfl rfl rfl (rfl)) ?_
 refine RS (ok_lenV Try.underlying22 rfl) ?_
 refine RBS rfl rfl rfl (.bool true) (by simp [hJ]) ?_
 refine RN ?_
 refine A.yes rfl ?_
 refine GS ?_
 refine TF 1 ?_
 refine RA rfl ?_
 refine RN ?_
 refine ⟨_, eff_storeS (n := 28) (s := 1000003) info3 rfl rfl rfl hBb3 rfl (by simp) (LV 2 rfl (LV 3 rfl (LT 1000001 rfl (LT 1000005 rfl (LO 1000200 rfl (LeftS.cons (t := 1000211) rfl (Surv.lists (by first | exact .inr ⟨by decide, by decide⟩ | exact .inl (by omega))) LN)))))), ?_⟩
 refine TL ?_
 refine RA rfl ?_
 refine RN ?_
 refine A.sub (KC 2 rfl (KC 3 rfl (KC 4 rfl (KC 1000001 rfl (KC 1000003 rfl (KC 1000005 rfl (KC 1000200 rfl (KC 1000211 rfl KN)))))))) ?_
 refine A.ret ?_
 refine End.ret_then ?_
 exact End.tct (k := 1000003) rfl Try.underlying3 rfl rfl rfl rfl rfl
set_option maxHeartbeats 1000000 in
theorem Repeats_some (us : List Us) (hf : Fits us) (hn : us.length ≤ 1099511627776) (h : chkU us = 0) (hok : ∀ u ∈ us, u.ok = true) (hJ : repJ us < us.length) (SH : FnB Try.prog 30 [rowD us.length (usR us)] (fun B => partsD us 77 3 B))  : Fn Try.prog 15 [hdD (rowD us.length (usR us)) []] (.v (.tuple #[nI (repI us), nI (repJ us), .bool true])) := by
 refine Fn.of Try.func15 rfl (by kernel_rfl) Try.ntmps15 (by simp) (fun w => [(0, old w.heap.size (hdD (rowD us.length (usR us)) []))]) (fun w => (Start.old rfl Start.nil)) fun w₀ => ?_
 refine A.nameHdR (t := 0) (k := 1000200) rfl fun A₀ q₀ => ?_
 refine GS ?_
 refine TN 0 ?_
 refine RN ?_
 refine ⟨_, _, eff_box (n := 28) (d := 1) (k := 1000001) rfl (by decide), fun b1 hb1 => ?_⟩
 have hBb1 := hb1.1
 refine TN 2 ?_
 refine RA rfl ?_
 refine RN ?_
 refine ⟨_, _, eff_alloc (n := 28) (d := 3) (k := 1000003) zero3 (by decide), fun b3 hb3 => ?_⟩
 have hBb3 := hb3.1
 refine TL ?_
 refine RA rfl ?_
 refine RN ?_
 refine A.seq ?_
 refine GS ?_
 refine TL ?_
 refine RS (OpOk.hdRow (ok_loadA (s := 1000001) (by decide) Try.underlying35 rfl (size35.of (rfl)) rfl rfl) (k := 1000200) (by decide) rfl) ?_
 refine RS (ok_call (Check_fn us hf hn) (Args.cons rfl (Le.old _ _) Args.nil)) ?_
 refine RBS rfl rfl rfl (.bool false) (by simp [h]) ?_
 refine RN ?_
 refine A.no rfl ?_
 refine A.skip ?_
 refine EN ?_
 refine GS ?_
 refine RunTK.newG 2 (by decide) rfl (.inl rfl) ?_
 refine RS (ok_field field35_0 (by decide) rfl) ?_
 refine RS (OpOk.rowO (ok_loadV (s := 1000001) (by decide) Try.underlying22 rfl rfl rfl (rfl)) (k := 1000200) (by decide) rfl) ?_
 refine RN ?_
 refine ⟨_, _, _, eff_nameG (ι := List (List Nat) × List Value × Option Addr × Nat) (d := fun B => partsD us 77 3 B) (fun i => .slice i.2.2.1 i.2.1.length i.2.2.2) (fun i => Lists us i.1 ∧ i.2.1.length = i.1.length ∧ i.2.1.length ≤ us.length) (fun lo i => [(1000211, listsM lo 77 3 i.2.2.1 i.2.1 i.1)]) rfl rfl (fun B' => ok_callB SH partsD_mono (Args.cons rfl (Le.old _ _) Args.nil)) (fun lo w x h => parts_open (by decide) lo w x h) (by decide) (by decide), fun ⟨lo, Ls, vs, A₂, q₂⟩ ⟨hlo, hLs, hvl, hvn⟩ => ?_⟩
 have hlt_b1_lo := hlo.2 1000001 _ _ _ rfl
 have hlt_b3_lo := hlo.2 1000003 _ _ _ rfl
 refine TN 3 ?_
 refine RN ?_
 refine ⟨_, _, eff_alloc (n := 28) (d := 5) (k := 1000005) zero73 (by decide), fun b5 hb5 => ?_⟩
 have hBb5 := hb5.1
 refine TF 4 ?_
 refine RN ?_
 refine ⟨_, eff_storeS (n := 28) (s := 1000005) info73 rfl rfl rfl hBb5 rfl (by simp) (LV 1 rfl (LV 3 rfl (LV 5 rfl (LT 1000001 rfl (LT 1000003 rfl (LO 1000200 rfl (LeftS.cons (t := 1000211) rfl (Surv.lists (by first | exact .inr ⟨by decide, by decide⟩ | exact .inl (by omega))) LN))))))), ?_⟩
 refine TL ?_
 refine RN ?_
 refine GS ?_
 refine TF 5 ?_
 refine RS (ok_field field35_0 (by decide) rfl) ?_
 refine RS (ok_loadV (s := 1000001) (by decide) Try.underlying22 rfl rfl rfl (rfl)) ?_
 refine RS (ok_lenV Try.underlying22 rfl) ?_
 refine RS (ok_makePred [.pointer (some ⟨b5, 0, none⟩), .pointer (some ⟨b1, 0, none⟩)] (args := ints us.length) (p := cUp us) body32 (rep_pred hf hn hok A₀ q₀ b1 b5 _ lo A₂ q₂ vs Ls hvl hvn hLs) (MHas.cons 1000005 (by decide) rfl (Le.refl _) (MHas.cons 1000001 (by decide) rfl (Le.refl _) (MHas.cons 1000200 (by decide) rfl (Le.refl _) (MHas.cons 1000211 (by decide) rfl (Le.refl _) MHas.nil)))) ⟨rfl, rfl, trivial⟩) ?_
 refine RS (ok_call (Search_fn us.length hn (cUp us) (fun _ _ h _ k => cUp_mono h k)) (A2 rfl rfl)) ?_; refine RZ (nI (repJ us)) (congrArg (fun k : Nat => Value.int .i64 (k : Int)) (lst1_cUp us)) ?_
 refine RN ?_
 refine ⟨_, eff_storeS (n := 28) (s := 1000003) info3 rfl rfl rfl hBb3 rfl (by simp) (LV 1 rfl (LV 3 rfl (LT 1000001 rfl (LT 1000005 rfl (LO 1000200 rfl (LeftS.cons (t := 1000211) rfl (Surv.lists (by first | exact .inr ⟨by decide, by decide⟩ | exact .inl (by omega))) LN)))))), ?_⟩
 refine TL ?_
 refine RN ?_
 refine A.seq ?_
 refine GS ?_
 refine TL ?_
 refine RS (ok_loadV (s := 1000003) (by decide) Try.underlying3 rfl rfl rfl (rfl)) ?_
 refine RS (ok_field field35_0 (by decide) rfl) ?_
 refine RS (ok_loadV (s := 1000001) (by decide) Try.underlying22 rfl rfl rfl (rfl)) ?_
 refine RS (ok_lenV Try.underlying22 rfl) ?_
 refine RBS rfl rfl rfl (.bool false) (by simp; omega) ?_
 refine RN ?_
 refine A.no rfl ?_
 refine A.skip ?_
 refine EN ?_
 refine GS ?_
 refine TL ?_
 refine RS (ok_field field35_0 (by decide) rfl) ?_
 refine RS (OpOk.rowO (ok_loadV (s := 1000001) (by decide) Try.underlying22 rfl rfl rfl (rfl)) (k := 1000200) (by decide) rfl) ?_
 refine RS (ok_makePred [.pointer (some ⟨b1, 0, none⟩), .pointer (some ⟨b3, 0, none⟩)] (args := us.map fun u => aggV (usV u)) (p := fun i => clB us[i]! us[repJ us]!) body37 (rep_pred2 hf hn A₀ q₀ b1 b3 (repJ us) _ hJ) (MHas.cons 1000001 (by decide) rfl (Le.refl _) (MHas.cons 1000003 (by decide) rfl (Le.refl _) (MHas.cons 1000200 (by decide) rfl (Le.refl _) MHas.nil))) ⟨rfl, rfl, trivial⟩) ?_
 refine RS (ok_call (IndexU_fn us hf hn _) (Args.cons rfl (Le.old _ _) (A1 rfl))) ?_; refine RZ (nI (repI us)) (congrArg (Value.int .i64) (if_pos (by have := repI_lt hJ; unfold repI at this; omega))) ?_
 refine RA rfl ?_
 refine RN ?_
 refine A.sub (KC 2 rfl (KC 3 rfl (KC 1000001 rfl (KC 1000003 rfl (KC 1000005 rfl (KC 1000200 rfl (KC 1000211 rfl KN))))))) ?_
 refine GD ?_
 refine TD 3 ?_
 refine RM rfl ?_
 refine RS (ok_loadV (s := 1000003) (by decide) Try.underlying3 rfl rfl rfl (rfl)) ?_
 refine RA rfl ?_
 refine RN ?_
 refine ⟨_, eff_storeS (n := 28) (s := 1000003) info3 rfl rfl rfl hBb3 rfl (by simp) (LV 2 rfl (LV 3 rfl (LT 1000001 rfl (LT 1000005 rfl (LO 1000200 rfl (LeftS.cons (t := 1000211) rfl (Surv.lists (by first | exact .inr ⟨by decide, by decide⟩ | exact .inl (by omega))) LN)))))), ?_⟩
 refine TL ?_
 refine RA rfl ?_
 refine RN ?_
 refine A.ret ?_
 exact End.tct (k := 1000003) rfl Try.underlying3 rfl rfl rfl rfl rfl
end Go.Proofs.Ythhmimnkfklhdaa
namespace Go.Proofs.Ythhmimnkfklhdaa
open Go Go.RowKit
open Go.ChangeMaps (setBlock)
set_option linter.unusedVariables false
set_option linter.unusedSimpArgs false
variable {κ : Cx}
/-- .. and block it goes through it; seen has come out. -/
def IterS (lo : Nat) (e : TypeId) (b it : Nat) (vs : List Value) (G : Grp) (seen : List Nat) (B : Nat) (w : World) : Prop :=
  MapS lo e b vs G B w ∧ lo ≤ it ∧ it < B ∧ ∃ c0, w.heap[it]? = some (.mapIter (some b) G.length seen.toArray c0) ∧ G.length ≤ c0 ∧ (seen ≠ [] → c0 = G.length)
theorem IterS.other {lo : Nat} {e : TypeId} {b it : Nat} {vs : List Value} {G : Grp} {seen : List Nat} {B B' : Nat} {w w' : World} (h : IterS lo e b it vs G seen B w) (hB : B ≤ B') (hm : w'.heap[b]? = w.heap[b]?) (hi : w'.heap[it]? = w.heap[it]?) (hk : ∀ g cur fr, lo ≤ g → g < B → w.heap[g]? = some (.cells cur e fr) → w'.heap[g]? = w.heap[g]?) : IterS lo e b it vs G seen B' w' := by
  obtain ⟨h1, h2, h3, c0, h4, h5⟩ := h
  exact ⟨h1.other hB hm hk, h2, by omega, c0, by rw [hi]; exact h4, h5⟩
def iterM (lo : Nat) (e : TypeId) (b it : Nat) (vs : List Value) (G : Grp) (seen : List Nat) : D :=
  .p (fun B w _ => IterS lo e b it vs G seen B w) (fun B w w' _ g h => h.other (Nat.le_refl _) (g.block b h.1.2.1) (g.block it h.2.2.1) fun k _ _ _ hk _ => g.block k hk) (fun B B' w _ g h => h.other g rfl rfl fun _ _ _ _ _ _ => rfl)
theorem Surv.iterM {B T g lo : Nat} {e : TypeId} {b it : Nat} {vs : List Value} {G : Grp} {seen : List Nat} (h : e ≠ T) : Surv B T g (Go.Proofs.Ythhmimnkfklhdaa.iterM lo e b it vs G seen) := fun w w' x k hh => by
  have nc : ∀ i, i < w.heap.size → (∀ cs fr, w.heap[i]? ≠ some (.cells cs T fr)) → w'.heap[i]? = w.heap[i]? := fun i hi hc => k.other i hi fun hig => by
    subst hig
    obtain ⟨cs, fr, ho⟩ := k.cel _ (Array.getElem?_eq_getElem hi)
    exact hc cs fr (by rw [Array.getElem?_eq_getElem hi, ho])
  obtain ⟨⟨h1, h2, h3, h4, h5, h6⟩, h7, h8, c0, h9, h10⟩ := id hh
  refine IterS.other hh k.size (nc b h2 fun cs fr hc => by rw [h5] at hc; cases hc) (nc it h8 fun cs fr hc => by rw [h9] at hc; cases hc) fun i cur fr _ hi hc => nc i hi fun cs fr' hc' => ?_
  rw [hc] at hc'; injection hc' with hc'; injection hc' with _ h11 _; exact h h11
/-- What comes out of a step. -/
def outV (vs : List Value) (G : Grp) : Option Nat → Value
  | none => .tuple #[.bool false]
  | some j => .tuple #[.bool true, aggV (keyV (G.getD j default).1), vs.getD j undef]
def seenO (seen : List Nat) : Option Nat → List Nat
  | none => seen
  | some j => seen ++ [j]
theorem entsF_mem {G : Grp} {vs : List Value} {x : MapEntry} (h : vs.length = G.length) (hx : x ∈ entsF G vs 0) : x.born < G.length ∧ x.key = aggV (keyV (G.getD x.born default).1) ∧ x.val = vs.getD x.born undef := by
  obtain ⟨j, hj⟩ := List.getElem?_of_mem hx
  have hlt : j < G.length := by have := (List.getElem?_eq_some_iff.1 hj).1; rwa [entsF_length h] at this
  obtain ⟨v, hv, he⟩ := entsF_get (s := 0) h hlt
  rw [hj] at he
  injection he with he
  subst he
  simp [hlt, List.getD_eq_getElem?_getD, hv]
section
variable {P : Program} {n B : Nat} {ops : Array Oper} {E : Env} {ty : TypeId} {pos : String} {after : Array Edge}
theorem eff_range {mt kt et : TypeId} {x : Operand} {dst s b e : Nat} {vs : List Value} {G : Grp} (T : MapTy P mt kt et) (hx : E.at x = some (.v (.map (some b)))) (hs : E.look s = some (mapM B e b vs G)) (hdst : dst < n) (hnv : n ≤ vbase) (hsv : vbase ≤ s) :
    EffG P n B ops ⟨some dst, .range mt x, ty, pos, after, none⟩ E (NewB B E) (fun it => (dst, .v (.pointer (some ⟨it, 0, none⟩))) :: ([(s, iterM B e b it vs G [])] ++ E)) := by
  intro κ a w K Q h hK
  have hxe : a.eval x = _ := h.at_ x _ hx
  have hms := h.of s _ hs
  obtain ⟨h1, h2, h3, h4, h5, h6⟩ := id hms
  have hr := run_range_map (P := P) w mt kt et b _ _ T.ty h5
  have hexec : (execOp a.eval ⟨some dst, .range mt x, ty, pos, after, none⟩).run P w = .ok (.value (.pointer (some ⟨w.heap.size, 0, none⟩))) (w.alloc (.mapIter (some b) G.length #[] G.length)) := by
    simp [execOp, hxe, hr]
  rw [if_pos (by simp [Region.wanted])]
  refine opR (by nofun) ?_
  unfold Oper.wp
  rw [hexec, Oper.upon_value]
  have hg : Below B w (w.alloc (.mapIter (some b) G.length #[] G.length)) := (Below.refl B w).alloc h.base _
  refine hK w.heap.size _ _ ⟨h.base, fun s' b' e' ys hs' => (h.of s' _ hs').1⟩ hg (St.put (St.pushes (h.grow (Grow.alloc w _)) hnv _ fun q hq => ?_) hdst rfl)
  rw [List.mem_singleton.1 hq]
  have hgr : D.Of (mapM B e b vs G) (w.alloc (.mapIter (some b) G.length #[] G.length)) undef := D.Of.grow (d := mapM B e b vs G) (x := undef) hms (Grow.alloc w _)
  exact ⟨hsv, hgr, h.base, by simp, G.length, heap_alloc_new w _, Nat.le_refl _, fun _ => rfl⟩
theorem eff_next {x : Operand} {dst s b it lo e : Nat} {vs : List Value} {G : Grp} {seen : List Nat} {E' : Env} (hx : E.at x = some (.v (.pointer (some ⟨it, 0, none⟩)))) (hs : E.look s = some (iterM lo e b it vs G seen)) (hlo : B ≤ lo) (hdst : dst < n) (hnv : n ≤ vbase) (hsv : vbase ≤ s) (hl : LeftO it E' E) :
    EffG P n B ops ⟨some dst, .next x false, ty, pos, after, none⟩ E (fun c : Option Nat => match c with | none => ∀ j, j < G.length → j ∈ seen | some j => j < G.length ∧ j ∉ seen) (fun c => (dst, .v (outV vs G c)) :: ([(s, iterM lo e b it vs G (seenO seen c))] ++ E')) := by
  intro κ a w K Q h hK
  have hxe : a.eval x = _ := h.at_ x _ hx
  have hit := h.of s _ hs
  obtain ⟨⟨h1, h2, h3, h4, h5, h6⟩, h7, h8, c0, h9, h10, _⟩ := id hit
  have hold : ∀ y ∈ (entsF G vs 0).toArray.toList, y.born < G.length := fun y hy => by have := entsF_born y (by simpa using hy); omega
  have hc : ∀ cs e' fr, w.heap[it]? ≠ some (.cells cs e' fr) := fun _ _ _ hh => by rw [h9] at hh; cases hh
  have hbi : b ≠ it := fun hb => by subst hb; rw [h5] at h9; cases h9
  rw [if_pos (by simp [Region.wanted])]
  refine opR (by nofun) ?_
  unfold Oper.wp
  rcases run_next_at (P := P) w ty it b G.length c0 seen.toArray _ G.length h9 h5 hold h10 with ⟨hz, hr⟩ | ⟨y, hy, w1, hw1, hr⟩
  · have hexec : (execOp a.eval ⟨some dst, .next x false, ty, pos, after, none⟩).run P w = .ok (.value (.tuple #[.bool false])) w := by simp [execOp, hxe, hr]
    rw [hexec, Oper.upon_value]
    have hwr : WroteO it w w := ⟨rfl, rfl, rfl, Nat.le_refl _, hc, fun _ _ _ => rfl⟩
    refine hK none _ _ (fun j hj => ?_) (Below.refl _ _) (St.put (St.pushes (hl.st h hwr) hnv _ fun q hq => by rw [List.mem_singleton.1 hq]; exact ⟨hsv, hit⟩) hdst rfl)
    obtain ⟨v, hv, he⟩ := entsF_get (s := 0) h3 hj
    have hem : leftOf (entsF G vs 0).toArray seen.toArray = #[] := Array.eq_empty_of_size_eq_zero hz
    unfold leftOf at hem
    rw [Array.filter_eq_empty_iff] at hem
    have := hem _ (by simpa using List.mem_of_getElem? he)
    simpa using this
  · have hexec : (execOp a.eval ⟨some dst, .next x false, ty, pos, after, none⟩).run P w = .ok (.value (.tuple #[.bool true, y.key, y.val])) (setBlock w1 it (.mapIter (some b) G.length (seen.toArray.push y.born) G.length)) := by simp [execOp, hxe, hr]
    rw [hexec, Oper.upon_value]
    have hheap : w1.heap = w.heap := by rcases hw1 with rfl | rfl <;> rfl
    have hwr : WroteO it w (setBlock w1 it (.mapIter (some b) G.length (seen.toArray.push y.born) G.length)) :=
      ⟨by rcases hw1 with rfl | rfl <;> rfl, by rcases hw1 with rfl | rfl <;> rfl, by rcases hw1 with rfl | rfl <;> rfl, by simp [setBlock, hheap], hc, fun k hk hne => by rw [setBlock_ne hne, hheap]⟩
    obtain ⟨hmem, hns⟩ : y ∈ entsF G vs 0 ∧ y.born ∉ seen := by
      unfold leftOf at hy
      simp at hy
      exact hy
    obtain ⟨hb1, hb2, hb3⟩ := entsF_mem h3 hmem
    refine hK (some y.born) _ _ ⟨hb1, hns⟩ (hwr.under (Nat.le_trans hlo h7) h.base) (St.put (St.pushes (hl.st h hwr) hnv _ fun q hq => ?_) hdst (by rw [hb2, hb3]; rfl))
    rw [List.mem_singleton.1 hq]
    have hmap : MapS lo e b vs G _ (setBlock w1 it (.mapIter (some b) G.length (seen.toArray.push y.born) G.length)) := MapS.other ⟨h1, h2, h3, h4, h5, h6⟩ hwr.size (hwr.other b h2 hbi) fun g cur fr _ hg hh => hwr.other g hg fun hgi => by subst hgi; exact hc _ _ _ hh
    refine ⟨hsv, hmap, h7, Nat.lt_of_lt_of_le h8 hwr.size, G.length, ?_, Nat.le_refl _, fun _ => rfl⟩
    rw [setBlock_at (by rw [hheap]; exact h8)]
    simp [seenO]
end
section
variable {P : Program} {B : Nat} {E : Env} {dst : Option Tmp} {ty : TypeId} {pos : String} {after : Array Edge} {guard : Option (Nat × Bool)}
theorem ok_entry {x : Operand} {s b it lo e j : Nat} {vs : List Value} {G : Grp} {seen : List Nat} (hsv : vbase ≤ s) (hx : E.at x = some (.v (.pointer (some ⟨it, 0, none⟩)))) (hs : E.look s = some (iterM lo e b it vs G (seen ++ [j]))) (hj : j < G.length) :
    OpOk P B ⟨dst, .entry x, ty, pos, after, guard⟩ E (.v (.tuple #[aggV (keyV (G.getD j default).1), vs.getD j undef])) := fun ρ w _ hv hρ => by
  have hxe : ρ x = _ := hρ x (by simp [Op.operands]) _ hx
  obtain ⟨⟨h1, h2, h3, h4, h5, h6⟩, h7, h8, c0, h9, h10, h11⟩ := hv s _ hsv hs
  obtain ⟨v, hv', he⟩ := entsF_get (s := 0) h3 hj
  have hc := h11 (by simp)
  subst hc
  have hr := run_entry_at (P := P) w it b G.length seen.toArray (entsF G vs 0).toArray G.length ({ key := aggV (keyV G[j].1), val := v, born := 0 + j } : MapEntry) (by rw [h9]; simp) h5 (by simpa using List.mem_of_getElem? he) (by simpa using entsF_nodup)
  refine out_val (w' := w) ?_ ⟨Grow.refl w, rfl⟩
  simp only [execOp, hxe, Sem.run_bind, hr, Result.andThen_ok, Sem.run_pure]
  simp [List.getD_eq_getElem?_getD, hv', List.getElem?_eq_getElem hj]
theorem ok_lenI {t et : TypeId} {x : Operand} {s b it lo e j : Nat} {v : Value} {L : List Nat} {vs : List Value} {G : Grp} {seen : List Nat} (hsv : vbase ≤ s) (ht : P.underlying t = some (.slice et)) (hx : E.at x = some (.v v)) (hs : E.look s = some (iterM lo e b it vs G seen)) (hv : vs[j]? = some v) (hL : (G.map (·.2))[j]? = some L) :
    OpOk P B ⟨dst, .call { callee := .builtin .len, args := #[x], argTypes := #[t] }, ty, pos, after, guard⟩ E (.v (.int .i64 (L.length : Int))) := fun ρ w _ hv' hρ => by
  have hxe : ρ x = _ := hρ x (by simp [Op.operands, Call.operands]) _ hx
  obtain ⟨⟨h1, h2, h3, h4, h5, h6⟩, _⟩ := hv' s _ hsv hs
  obtain ⟨⟨_, h7⟩, _⟩ := h6.1 j v L hv hL
  rcases h7 with ⟨h8, h9⟩ | ⟨g, cap, cur, h8, _⟩
  · subst h8
    exact out_val (w' := w) (by simp [execOp, resolve, invoke, builtin, Builtin.len_, run_underlying ht, hxe, goInt, h9]) ⟨Grow.refl w, rfl⟩
  · subst h8
    exact out_val (w' := w) (by simp [execOp, resolve, invoke, builtin, Builtin.len_, run_underlying ht, hxe, goInt]) ⟨Grow.refl w, rfl⟩
end
/-- What a call does that sorts the list L, which stands in block g, by the first counters. -/
def SortsTo (P : Program) (f : FuncId) (us : List Us) (e : TypeId) (fv : Value) (lo : Nat) (w : World) : Prop := ∀ (g cap : Nat) (cur : Array Value) (L : List Nat), (∀ x ∈ L, x < us.length) → L ≠ [] → lo ≤ g → g < w.heap.size → w.heap[g]? = some (.cells cur e (0, 0)) → cur.toList.take L.length = natR L → L.length < 4611686018427387904 →
  Calls P f #[.slice (some ⟨g, 0, none⟩) L.length cap, fv] w fun en w' => en = .returned (.tuple #[]) ∧ ∃ (L' : List Nat) (cur' : Array Value), L'.Perm L ∧ Sorted us L' ∧ cur'.size = cur.size ∧ cur'.toList.take L.length = natR L' ∧ w'.heap[g]? = some (.cells cur' e (0, 0)) ∧
    (∀ k, k < w.heap.size → k ≠ g → w'.heap[k]? = w.heap[k]?) ∧ w'.os = w.os ∧ w'.tape = w.tape ∧ w'.output = w.output ∧ w.heap.size ≤ w'.heap.size
section
variable {P : Program} {n B : Nat} {ops : Array Oper} {E : Env} {ty : TypeId} {pos : String} {after : Array Edge}
theorem eff_sortI {f : FuncId} {x y : Operand} {argTypes : Array TypeId} {us : List Us} {fv v : Value} {k : Key} {L : List Nat} {dst s b it e j : Nat} {vs : List Value} {G : Grp} {seen : List Nat} {E' : Env} (hb : HasBody P f) (hx : E.at x = some (.v v)) (hy : E.at y = some (.v fv)) (hs : E.look s = some (iterM B e b it vs G seen)) (hv : vs[j]? = some v) (hL : G[j]? = some (k, L))
    (hsort : ∀ (κ : Cx) (a : Act) (w : World), St κ n B E a w → SortsTo P f us e fv B w) (hlt : ∀ z ∈ L, z < us.length) (hne : L ≠ []) (hbig : L.length < 4611686018427387904) (hdst : dst < n) (hnv : n ≤ vbase) (hsv : vbase ≤ s) (hl : ∀ g, B ≤ g → LeftS B e g E' E) :
    EffG P n B ops ⟨some dst, .call { callee := .value (.func f), args := #[x, y], argTypes := argTypes }, ty, pos, after, none⟩ E (fun L' : List Nat => L'.Perm L ∧ Sorted us L') (fun L' => (dst, .v (.tuple #[])) :: ([(s, iterM B e b it vs (G.set j (k, L')) seen)] ++ E')) := by
  intro κ a w K Q h hK
  obtain ⟨fn, h1, h2, h3⟩ := hb
  have hfun : a.eval (.func f) = .func (.func f) #[] #[] := h.at_ (.func f) _ rfl
  have hxe : a.eval x = v := h.at_ x _ hx
  have hye : a.eval y = fv := h.at_ y _ hy
  obtain ⟨⟨m1, m2, m3, m4, m5, m6⟩, m7, m8, c0, m9, m10⟩ := h.of s _ hs
  have hL2 : (G.map (·.2))[j]? = some L := by rw [List.getElem?_map, hL]; rfl
  obtain ⟨⟨hlen, hrow⟩, hvb⟩ := m6.1 j v L hv hL2
  have hrun : (execOp a.eval ⟨some dst, .call { callee := .value (.func f), args := #[x, y], argTypes := argTypes }, ty, pos, after, none⟩).run P w = .ok (.enter f #[v, fv]) w := by
    have h2' : ¬ fn.name = "runtime.NumGoroutine" := by simpa using h2
    have h3' : ¬ fn.body = none := by intro h; rw [h] at h3; cases h3
    simp [execOp, resolve, Deferred.ofValue, hfun, invoke, callFunc, h1, h2', h3', hxe, hye]
  rcases hrow with ⟨_, h0⟩ | ⟨g, cap, cur, hve, hBg, hh, hle, hcm, hsz, htk⟩
  · exact absurd (List.length_eq_zero_iff.1 h0) hne
  have hg : g < w.heap.size := hvb g (by rw [hve]; rfl)
  rw [Nat.mul_one] at htk
  rw [if_pos (by simp [Region.wanted])]
  refine opR (by nofun) ?_
  unfold Oper.wp
  rw [hrun, Oper.upon_enter, hve]
  refine Calls.mono (hsort κ a w h g cap cur L hlt hne hBg hg hh htk hbig) ?_
  rintro en w' ⟨rfl, L', cur', hp, hso, hsz', htk', hh', hoth, ho1, ho2, ho3, ho4⟩
  have hwr : Wrote B e g w w' := ⟨hBg, ho1, ho2, ho3, ho4, fun o ho => by rw [hh] at ho; injection ho with ho; exact ⟨_, _, ho.symm⟩, hoth⟩
  refine hK L' _ _ ⟨hp, hso⟩ (hwr.below h.base) (St.put (St.pushes ((hl g hBg).st h hwr) hnv _ fun q hq => ?_) hdst rfl)
  rw [List.mem_singleton.1 hq]
  have hjl : j < G.length := (List.getElem?_eq_some_iff.1 hL).1
  have hkeys : (G.set j (k, L')).map (·.1) = G.map (·.1) := by
    rw [List.map_set]
    apply List.ext_getElem?
    intro i
    rw [List.getElem?_set]
    split
    · rename_i hi; subst hi
      rw [List.length_map, if_pos hjl, List.getElem?_map, hL]; rfl
    · rfl
  have hbg : b ≠ g := fun hb => by subst hb; rw [m5] at hh; cases hh
  have hig : it ≠ g := fun hb => by subst hb; rw [m9] at hh; cases hh
  refine ⟨hsv, ⟨m1, Nat.lt_of_lt_of_le m2 ho4, by simp [m3], fun p hp' => ?_, ?_, ?_⟩, m7, Nat.lt_of_lt_of_le m8 ho4, c0, ?_, by simpa using m10⟩
  · have hp' : p.1 ∈ (G.set j (k, L')).map (·.1) := List.mem_map_of_mem hp'
    rw [hkeys] at hp'
    obtain ⟨q', hq', he⟩ := List.mem_map.1 hp'
    rw [← he]; exact m4 q' hq'
  · rw [entsF_keys hkeys, List.length_set, hoth b m2 hbg]; exact m5
  · have hmap : (G.set j (k, L')).map (·.2) = (G.map (·.2)).set j L' := by rw [List.map_set]
    rw [hmap]
    have hll : L'.length = L.length := hp.length_eq
    refine ⟨fun i u M hu hM => ?_, m6.2⟩
    rcases set_get hM with ⟨hij, hM1, _⟩ | ⟨hij, hM1⟩
    · subst hij
      rw [hv] at hu; injection hu with hu; subst hu
      rw [hM1, hve]
      exact ⟨⟨by simp [natR], .inr ⟨g, cap, cur', by rw [hll], hBg, hh', by rw [hll]; exact hle, hcm, by rw [hsz']; exact hsz, by rw [Nat.mul_one, hll]; exact htk'⟩⟩, fun g' hg' => by simp [Value.ownBlock] at hg'; subst hg'; omega⟩
    · obtain ⟨h7, h8⟩ := m6.1 i u M hu hM1
      refine ⟨ownsRow_other h7 fun g' _ _ hg' _ _ => hoth g' (h8 g' hg') fun he => hij ?_, fun g' hg' => Nat.lt_of_lt_of_le (h8 g' hg') ho4⟩
      exact m6.2 i j u v g' hu hv hg' (by rw [hve, he]; rfl)
  · rw [hoth it m8 hig, List.length_set]; exact m9
end
/-! ### Small facts -/
theorem SurvO.fresh {b base m : Nat} {e : TypeId} {xs : List Value} : SurvO b (Go.Proofs.Ythhmimnkfklhdaa.fresh base e xs m) := fun w w' x k ⟨g, h1, h2, h3, h4⟩ => ⟨g, h1, h2, Nat.lt_of_lt_of_le h3 k.size, (k.other g h3 fun hb => by subst hb; exact k.obj _ _ _ h4).trans h4⟩
theorem Surv.mapM {B T g lo : Nat} {e : TypeId} {b : Nat} {vs : List Value} {G : Grp} (h : e ≠ T) : Surv B T g (Go.Proofs.Ythhmimnkfklhdaa.mapM lo e b vs G) := fun w w' x k hh => by
  have nc : ∀ i, i < w.heap.size → (∀ cs fr, w.heap[i]? ≠ some (.cells cs T fr)) → w'.heap[i]? = w.heap[i]? := fun i hi hc => k.other i hi fun hig => by
    subst hig
    obtain ⟨cs, fr, ho⟩ := k.cel _ (Array.getElem?_eq_getElem hi)
    exact hc cs fr (by rw [Array.getElem?_eq_getElem hi, ho])
  obtain ⟨h1, h2, h3, h4, h5, h6⟩ := id hh
  refine MapS.other hh k.size (nc b h2 fun cs fr hc => by rw [h5] at hc; cases hc) fun i cur fr _ hi hc => nc i hi fun cs fr' hc' => ?_
  rw [hc] at hc'; injection hc' with hc'; injection hc' with _ h11 _; exact h h11
theorem ok_outB {P : Program} {B : Nat} {E : Env} {dst : Option Tmp} {ty : TypeId} {pos : String} {after : Array Edge} {guard : Option (Nat × Bool)} {x : Operand} {vs : List Value} {G : Grp} {c : Option Nat} (hx : E.at x = some (.v (outV vs G c))) : OpOk P B ⟨dst, .extract x 0, ty, pos, after, guard⟩ E (.v (.bool c.isSome)) := by
  cases c with
  | none => exact ok_extractV (xs := [_]) hx rfl
  | some j => exact ok_extractV (xs := [_, _, _]) hx rfl
theorem ownsRow_rowX {w : World} {lo n : Nat} {e : TypeId} {v : Value} {xs : List Value} {B : Nat} (h : w.ownsRow lo e 1 v n xs) (hb : ∀ g, v.ownBlock = some g → g < B) : ∃ A q, v = .slice A n q ∧ RowX lo e B w A xs := by
  obtain ⟨hl, h2⟩ := h
  rcases h2 with ⟨rfl, rfl⟩ | ⟨g, cap, cur, rfl, hg, hh, _, _, _, htk⟩
  · refine ⟨none, 0, rfl, fun j u hu => ?_⟩
    have : xs = [] := List.length_eq_zero_iff.1 (by omega)
    subst this; cases hu
  · refine ⟨_, _, rfl, fun j u hu => ⟨_, rfl, hg, hb g rfl, ⟨cur, _, hh⟩, ?_⟩⟩
    rw [show (⟨g, 0, none⟩ : Addr).add j = ⟨g, j, none⟩ from by unfold Addr.add; split <;> simp_all]
    rw [← htk, List.getElem?_take] at hu
    split at hu
    · simp [World.cell?, hh]; simpa using hu
    · cases hu
theorem vs_at {vs : List Value} {m j : Nat} (hl : vs.length = m) (hj : j < m) : vs[j]? = some (vs.getD j undef) := by
  rw [List.getD_eq_getElem?_getD, List.getElem?_eq_getElem (by omega)]; rfl
theorem G_at {G : Grp} {j : Nat} (hj : j < G.length) : G[j]? = some ((G.getD j default).1, (G.getD j default).2) := by
  rw [List.getD_eq_getElem?_getD, List.getElem?_eq_getElem hj]; rfl
theorem G_at2 {G : Grp} {j : Nat} (hj : j < G.length) : (G.map (·.2))[j]? = some (G.getD j default).2 := by rw [List.getElem?_map, G_at hj]; rfl
section
variable {P : Program} {n : Nat} {w₀ : World} {E : Env}
/-- The lists that were picked are what Lists says. -/
theorem End.parts {fn : Func} {us : List Us} {r k b it : Nat} {eL eI : TypeId} {vs : List Value} {G : Grp} {seen sel : List Nat} (hr : fn.results = #[.tmp r]) (h1 : E.look r = some (own w₀.heap.size eL sel.length (sel.map fun j => vs.getD j undef))) (h2 : E.look k = some (iterM w₀.heap.size eI b it vs G seen))
    (hj : ∀ j ∈ sel, j < G.length) (hL : Lists us (sel.map fun j => (G.getD j default).2)) (hn : sel.length ≤ us.length) : End Cx.top w₀ n E (BP P fn (PostOf w₀ (partsD us eL eI w₀.heap.size)) .ret) := fun a w gr hs => by
  obtain ⟨ho, hob⟩ := hs.of r _ h1
  obtain ⟨⟨_, _, m3, _, _, m6⟩, _⟩ := hs.of k _ h2
  obtain ⟨A, q, hv, hrow⟩ := ownsRow_rowX ho hob
  refine BP.ret hs.defers ⟨a.tmps.getD r undef, by simp [results, hr], _, rfl, gr, _, sel.map fun j => vs.getD j undef, A, q, hL, by simp, by simpa using hn, by simpa using hv, hrow, fun i v L hv' hL' => ?_⟩
  rw [List.getElem?_map] at hv' hL'
  cases hs' : sel[i]? with
  | none => rw [hs'] at hv'; cases hv'
  | some j =>
    rw [hs'] at hv' hL'
    injection hv' with hv'; injection hL' with hL'
    subst hv'; subst hL'
    have hjl := hj j (List.mem_of_getElem? hs')
    obtain ⟨h3, h4⟩ := m6.1 j _ _ (vs_at m3 hjl) (G_at2 hjl)
    exact ownsRow_rowX h3 h4
end
end Go.Proofs.Ythhmimnkfklhdaa
namespace Go.Proofs.Ythhmimnkfklhdaa
open Go Go.RowKit
set_option linter.unusedVariables false
set_option linter.unusedSimpArgs false
def addG (k : Key) (x : Nat) : Grp → Grp
  | [] => [(k, [x])]
  | p :: G => if k = p.1 then (k, p.2 ++ [x]) :: G else p :: addG k x G
/-- The list that key k has. -/
def lstG (k : Key) (G : Grp) : List Nat := ((entG k G).getD (idxG k G) default).2
theorem entG_cons {k : Key} {p : Key × List Nat} {G : Grp} (h : ¬ k = p.1) : entG k (p :: G) = p :: entG k G ∧ idxG k (p :: G) = idxG k G + 1 := by
  have hi : idxG k (p :: G) = idxG k G + 1 := by simp [idxG, h]
  refine ⟨?_, hi⟩
  unfold entG
  rw [hi]
  by_cases hl : idxG k G < G.length
  · rw [if_pos hl, if_pos (by simpa using hl)]
  · rw [if_neg hl, if_neg (by simpa using hl)]; rfl
theorem step_add (k : Key) (x : Nat) : ∀ G : Grp, (entG k G).set (idxG k G) (k, lstG k G ++ [x]) = addG k x G
  | [] => by simp [entG, idxG, lstG, addG]
  | p :: G => by
    by_cases h : k = p.1
    · subst h; simp [entG, idxG, lstG, addG]
    · obtain ⟨h1, h2⟩ := entG_cons (G := G) h
      have h3 : lstG k (p :: G) = lstG k G := by unfold lstG; rw [h1, h2]; simp
      rw [h1, h2, h3, List.set_cons_succ, step_add k x G]
      simp [addG, h]
theorem lstG_at (k : Key) (G : Grp) : (entG k G)[idxG k G]? = some (k, lstG k G) := by
  obtain ⟨L, hL⟩ := entG_key k G
  rw [hL]; unfold lstG; rw [List.getD_eq_getElem?_getD, hL]; rfl
theorem lstG_at2 (k : Key) (G : Grp) : ((entG k G).map (·.2))[idxG k G]? = some (lstG k G) := by rw [List.getElem?_map, lstG_at]; rfl
def grp (us : List Us) : Nat → Grp
  | 0 => []
  | i + 1 => addG (stOf us[i]!) i (grp us i)
structure GrpOk (us : List Us) (i : Nat) (G : Grp) : Prop where
  keys : (G.map (·.1)).Nodup
  mem : ∀ p ∈ G, ∀ x ∈ p.2, x < i ∧ stOf us[x]! = p.1
  nodup : ∀ p ∈ G, p.2.Nodup
  all : ∀ x, x < i → ∃ p ∈ G, x ∈ p.2
  len : G.length ≤ i ∧ ∀ p ∈ G, p.2.length ≤ i
theorem mem_add {k : Key} {x : Nat} {p : Key × List Nat} : ∀ {G : Grp}, p ∈ addG k x G → p ∈ G ∨ p = (k, [x]) ∨ ∃ L, (k, L) ∈ G ∧ p = (k, L ++ [x])
  | [], h => by simp only [addG, List.mem_singleton] at h; exact .inr (.inl h)
  | q :: G, h => by
    unfold addG at h
    split at h
    · rename_i hk
      rcases List.mem_cons.1 h with h | h
      · exact .inr (.inr ⟨q.2, by rw [hk]; simp, h⟩)
      · exact .inl (List.mem_cons_of_mem _ h)
    · rcases List.mem_cons.1 h with h | h
      · exact .inl (by rw [h]; simp)
      · rcases mem_add h with h | h | ⟨L, h1, h2⟩
        · exact .inl (List.mem_cons_of_mem _ h)
        · exact .inr (.inl h)
        · exact .inr (.inr ⟨L, List.mem_cons_of_mem _ h1, h2⟩)
theorem keys_add (k : Key) (x : Nat) : ∀ G : Grp, (addG k x G).map (·.1) = if k ∈ G.map (·.1) then G.map (·.1) else G.map (·.1) ++ [k]
  | [] => by simp [addG]
  | q :: G => by
    unfold addG
    split
    · rename_i hk; simp [hk]
    · rename_i hk
      rw [List.map_cons, keys_add k x G, List.map_cons]
      by_cases h : k ∈ G.map (·.1)
      · rw [if_pos h, if_pos (List.mem_cons_of_mem _ h)]
      · rw [if_neg h, if_neg (by rw [List.mem_cons]; exact fun h' => h'.elim hk h)]; rfl
theorem add_old {k : Key} {x : Nat} : ∀ {G : Grp} {p : Key × List Nat}, p ∈ G → ∃ q ∈ addG k x G, q.1 = p.1 ∧ ∀ y ∈ p.2, y ∈ q.2
  | q :: G, p, h => by
    unfold addG
    split
    · rename_i hk
      rcases List.mem_cons.1 h with h | h
      · exact ⟨(k, q.2 ++ [x]), by simp, by rw [h, hk], fun y hy => by rw [h] at hy; simp [hy]⟩
      · exact ⟨p, List.mem_cons_of_mem _ h, rfl, fun _ h => h⟩
    · rcases List.mem_cons.1 h with h | h
      · exact ⟨q, by simp, by rw [h], fun y hy => by rw [← h]; exact hy⟩
      · obtain ⟨r, h1, h2⟩ := add_old (k := k) (x := x) h
        exact ⟨r, List.mem_cons_of_mem _ h1, h2⟩
theorem add_new {k : Key} {x : Nat} : ∀ {G : Grp}, ∃ q ∈ addG k x G, x ∈ q.2
  | [] => ⟨(k, [x]), by simp [addG], by simp⟩
  | q :: G => by
    unfold addG
    split
    · exact ⟨(k, q.2 ++ [x]), by simp, by simp⟩
    · obtain ⟨r, h1, h2⟩ := add_new (k := k) (x := x) (G := G)
      exact ⟨r, List.mem_cons_of_mem _ h1, h2⟩
theorem add_length {k : Key} {x : Nat} : ∀ G : Grp, (addG k x G).length ≤ G.length + 1
  | [] => by simp [addG]
  | q :: G => by
    unfold addG; split
    · simp
    · simp only [List.length_cons]; have := add_length (k := k) (x := x) G; omega
theorem GrpOk.step {us : List Us} {i : Nat} {G : Grp} (h : GrpOk us i G) : GrpOk us (i + 1) (addG (stOf us[i]!) i G) := by
  constructor
  · rw [keys_add]
    split
    · exact h.keys
    · rename_i hk
      exact List.nodup_append.2 ⟨h.keys, by simp, fun a ha b hb he => by rw [List.mem_singleton.1 hb] at he; exact hk (he ▸ ha)⟩
  · intro p hp x hx
    rcases mem_add hp with hp | rfl | ⟨L, hL, rfl⟩
    · obtain ⟨h1, h2⟩ := h.mem p hp x hx; exact ⟨by omega, h2⟩
    · rw [List.mem_singleton.1 hx]; exact ⟨by omega, rfl⟩
    · rcases List.mem_append.1 hx with hx | hx
      · obtain ⟨h1, h2⟩ := h.mem _ hL x hx; exact ⟨by omega, h2⟩
      · rw [List.mem_singleton.1 hx]; exact ⟨by omega, rfl⟩
  · intro p hp
    rcases mem_add hp with hp | rfl | ⟨L, hL, rfl⟩
    · exact h.nodup p hp
    · simp
    · refine List.nodup_append.2 ⟨h.nodup _ hL, by simp, fun a ha b hb he => ?_⟩
      have := (h.mem _ hL a ha).1
      rw [List.mem_singleton.1 hb] at he; omega
  · intro x hx
    rcases Nat.lt_or_ge x i with hx | hx
    · obtain ⟨p, hp, hxp⟩ := h.all x hx
      obtain ⟨q, hq, _, h2⟩ := add_old (k := stOf us[i]!) (x := i) hp
      exact ⟨q, hq, h2 x hxp⟩
    · rw [show x = i by omega]; exact add_new
  · refine ⟨by have := add_length (k := stOf us[i]!) (x := i) G; have := h.len.1; omega, fun p hp => ?_⟩
    rcases mem_add hp with hp | rfl | ⟨L, hL, rfl⟩
    · have := h.len.2 p hp; omega
    · simp
    · have := h.len.2 _ hL; simp; omega
theorem grp_ok (us : List Us) : ∀ i, GrpOk us i (grp us i)
  | 0 => ⟨by simp [grp], fun p hp => by simp [grp] at hp, fun p hp => by simp [grp] at hp, fun x hx => absurd hx (Nat.not_lt_zero _), by simp [grp], fun p hp => by simp [grp] at hp⟩
  | i + 1 => (grp_ok us i).step
/-- Going through the groups G₀: what has come out, and how the groups stand now. -/
structure Gone (us : List Us) (G₀ : Grp) (x : List Nat × Grp) : Prop where
  seen : x.1.Nodup
  lt : ∀ j ∈ x.1, j < G₀.length
  len : x.2.length = G₀.length
  same : ∀ (j : Nat) (p q : Key × List Nat), G₀[j]? = some p → x.2[j]? = some q → q.1 = p.1 ∧ q.2.Perm p.2 ∧ (j ∈ x.1 → 1 < p.2.length → Sorted us q.2)
def bigG (G₀ : Grp) (j : Nat) : Bool := decide (1 < (G₀.getD j default).2.length)
def selG (G₀ : Grp) (seen : List Nat) : List Nat := seen.filter (bigG G₀)
theorem Gone.start (us : List Us) (G₀ : Grp) : Gone us G₀ ([], G₀) := ⟨by simp, fun j hj => (by cases hj), rfl, fun j p q hp hq => by
  rw [hp] at hq; injection hq with hq; subst hq; exact ⟨rfl, List.Perm.refl _, fun hj => by cases hj⟩⟩
theorem Gone.pass {us : List Us} {G₀ : Grp} {x : List Nat × Grp} (h : Gone us G₀ x) {j : Nat} (hj : j < G₀.length) (hn : j ∉ x.1) (hb : bigG G₀ j = false) : Gone us G₀ (x.1 ++ [j], x.2) := by
  refine ⟨List.nodup_append.2 ⟨h.seen, by simp, fun a ha b hb he => hn (by rw [List.mem_singleton.1 hb] at he; exact he ▸ ha)⟩, fun i hi => ?_, h.len, fun i p q hp hq => ?_⟩
  · rcases List.mem_append.1 hi with hi | hi
    · exact h.lt i hi
    · rw [List.mem_singleton.1 hi]; exact hj
  · obtain ⟨h1, h2, h3⟩ := h.same i p q hp hq
    refine ⟨h1, h2, fun hi hl => ?_⟩
    rcases List.mem_append.1 hi with hi | hi
    · exact h3 hi hl
    · rw [List.mem_singleton.1 hi] at hp
      simp only [bigG, List.getD_eq_getElem?_getD, hp, Option.getD_some, decide_eq_false_iff_not] at hb
      exact absurd hl hb
theorem Gone.sort {us : List Us} {G₀ : Grp} {x : List Nat × Grp} (h : Gone us G₀ x) {j : Nat} {k : Key} {L L' : List Nat} (hn : j ∉ x.1) (hL : x.2[j]? = some (k, L)) (hp' : L'.Perm L) (hs : Sorted us L') : Gone us G₀ (x.1 ++ [j], x.2.set j (k, L')) := by
  have hj : j < G₀.length := by rw [← h.len]; exact (List.getElem?_eq_some_iff.1 hL).1
  refine ⟨List.nodup_append.2 ⟨h.seen, by simp, fun a ha b hb he => hn (by rw [List.mem_singleton.1 hb] at he; exact he ▸ ha)⟩, fun i hi => ?_, by simp [h.len], fun i p q hp hq => ?_⟩
  · rcases List.mem_append.1 hi with hi | hi
    · exact h.lt i hi
    · rw [List.mem_singleton.1 hi]; exact hj
  · simp only at hq
    rw [List.getElem?_set] at hq
    by_cases hji : j = i
    · subst hji
      rw [if_pos rfl] at hq
      split at hq
      · injection hq with hq; subst hq
        obtain ⟨h1, h2, _⟩ := h.same j p _ hp hL
        exact ⟨h1, hp'.trans h2, fun _ _ => hs⟩
      · cases hq
    · rw [if_neg hji] at hq
      obtain ⟨h1, h2, h3⟩ := h.same i p q hp hq
      refine ⟨h1, h2, fun hi hl => h3 ?_ hl⟩
      rcases List.mem_append.1 hi with hi | hi
      · exact hi
      · exact absurd (List.mem_singleton.1 hi).symm hji
theorem Gone.lists {us : List Us} {x : List Nat × Grp} (h : Gone us (grp us us.length) x) (hall : ∀ j, j < (grp us us.length).length → j ∈ x.1) : Lists us ((selG (grp us us.length) x.1).map fun j => (x.2.getD j default).2) := by
  have ok := grp_ok us us.length
  have key : ∀ L ∈ (selG (grp us us.length) x.1).map (fun j => (x.2.getD j default).2), ∃ p ∈ grp us us.length, L.Perm p.2 ∧ Sorted us L := fun L hL => by
    obtain ⟨j, hj, rfl⟩ := List.mem_map.1 hL
    obtain ⟨hj1, hj2⟩ := List.mem_filter.1 hj
    have hlt := h.lt j hj1
    have hlt2 : j < x.2.length := by rw [h.len]; exact hlt
    obtain ⟨h1, h2, h3⟩ := h.same j _ _ (List.getElem?_eq_getElem hlt) (List.getElem?_eq_getElem hlt2)
    simp only [bigG, List.getD_eq_getElem?_getD, List.getElem?_eq_getElem hlt, Option.getD_some, decide_eq_true_eq] at hj2
    simp only [List.getD_eq_getElem?_getD, List.getElem?_eq_getElem hlt2, Option.getD_some]
    exact ⟨_, List.getElem_mem hlt, h2, h3 hj1 hj2⟩
  refine ⟨fun L hL => (key L hL).choose_spec.2.2, fun L hL y hy => ?_, fun L hL => ?_, fun L hL y hy z hz => ?_, fun y z hyz hz hst => ?_⟩
  · obtain ⟨p, hp, h1, _⟩ := key L hL
    exact (ok.mem p hp y (h1.subset hy)).1
  · obtain ⟨p, hp, h1, _⟩ := key L hL
    exact h1.nodup_iff.2 (ok.nodup p hp)
  · obtain ⟨p, hp, h1, _⟩ := key L hL
    rw [(ok.mem p hp y (h1.subset hy)).2, (ok.mem p hp z (h1.subset hz)).2]
  · obtain ⟨p, hp, hyp⟩ := ok.all y (by omega)
    obtain ⟨q, hq, hzq⟩ := ok.all z hz
    have hkk : p.1 = q.1 := by rw [← (ok.mem p hp y hyp).2, ← (ok.mem q hq z hzq).2, hst]
    obtain ⟨j, hj, hjp⟩ := List.getElem_of_mem hp
    obtain ⟨i, hi, hiq⟩ := List.getElem_of_mem hq
    have hij : j = i := (List.getElem_inj (i := j) (j := i) (h₀ := by simpa using hj) (h₁ := by simpa using hi) ok.keys).1 (by simp [hjp, hiq, hkk])
    subst hij
    have hpq : p = q := by rw [← hjp, ← hiq]
    subst hpq
    have hlt2 : j < x.2.length := by rw [h.len]; exact hj
    obtain ⟨_, h2, _⟩ := h.same j _ _ (List.getElem?_eq_getElem hj) (List.getElem?_eq_getElem hlt2)
    rw [hjp] at h2
    refine ⟨_, List.mem_map.2 ⟨j, List.mem_filter.2 ⟨hall j hj, ?_⟩, rfl⟩, ?_, ?_⟩
    · simp only [bigG, List.getD_eq_getElem?_getD, List.getElem?_eq_getElem hj, Option.getD_some, decide_eq_true_eq, hjp]
      rcases hL : p.2 with _ | ⟨a, _ | ⟨b, r⟩⟩
      · rw [hL] at hyp; cases hyp
      · rw [hL] at hyp hzq
        have h3 := List.mem_singleton.1 hyp
        have h4 := List.mem_singleton.1 hzq
        omega
      · simp
    · simp only [List.getD_eq_getElem?_getD, List.getElem?_eq_getElem hlt2, Option.getD_some]; exact h2.mem_iff.2 hyp
    · simp only [List.getD_eq_getElem?_getD, List.getElem?_eq_getElem hlt2, Option.getD_some]; exact h2.mem_iff.2 hzq
theorem nodup_le {l : List Nat} {m : Nat} (h : l.Nodup) (k : ∀ j ∈ l, j < m) : l.length ≤ m := by
  have := h.length_le_of_subset (l₂ := List.range m) (fun j hj => List.mem_range.2 (k j hj))
  simpa using this
theorem Gone.less {us : List Us} {G₀ : Grp} {x : List Nat × Grp} (h : Gone us G₀ x) {j : Nat} (hj : j < G₀.length) (hn : j ∉ x.1) : G₀.length - (x.1 ++ [j]).length < G₀.length - x.1.length := by
  have h1 : (x.1 ++ [j]).length ≤ G₀.length := nodup_le (List.nodup_append.2 ⟨h.seen, by simp, fun a ha b hb he => hn (by rw [List.mem_singleton.1 hb] at he; exact he ▸ ha)⟩) (fun i hi => by
    rcases List.mem_append.1 hi with hi | hi
    · exact h.lt i hi
    · rw [List.mem_singleton.1 hi]; exact hj)
  simp only [List.length_append, List.length_cons, List.length_nil] at h1 ⊢; omega
theorem Gone.sel_lt {us : List Us} {G₀ : Grp} {x : List Nat × Grp} (h : Gone us G₀ x) {j : Nat} (hj : j < G₀.length) (hn : j ∉ x.1) : (selG G₀ x.1).length < G₀.length := by
  have h1 := h.less hj hn
  have h2 : (selG G₀ x.1).length ≤ x.1.length := List.length_filter_le _ _
  simp only [List.length_append, List.length_cons, List.length_nil] at h1; omega
theorem Gone.big {us : List Us} {G₀ : Grp} {x : List Nat × Grp} (h : Gone us G₀ x) {j : Nat} (hj : j < G₀.length) : decide ((1 : Int) < (((x.2.getD j default).2.length : Nat) : Int)) = bigG G₀ j := by
  have hlt2 : j < x.2.length := by rw [h.len]; exact hj
  have h2 := (h.same j _ _ (List.getElem?_eq_getElem hj) (List.getElem?_eq_getElem hlt2)).2.1.length_eq
  unfold bigG
  rw [List.getD_eq_getElem?_getD, List.getD_eq_getElem?_getD, List.getElem?_eq_getElem hj, List.getElem?_eq_getElem hlt2]
  simp only [Option.getD_some, h2]
  exact decide_eq_decide.2 (by omega)
theorem selG_le {us : List Us} {G₀ : Grp} {x : List Nat × Grp} (h : Gone us G₀ x) : (selG G₀ x.1).length ≤ G₀.length := Nat.le_trans (List.length_filter_le _ _) (nodup_le h.seen h.lt)
theorem selG_yes {G₀ : Grp} {seen : List Nat} {j : Nat} (h : bigG G₀ j = true) : selG G₀ (seen ++ [j]) = selG G₀ seen ++ [j] := by simp [selG, List.filter_append, h]
theorem selG_no {G₀ : Grp} {seen : List Nat} {j : Nat} (h : bigG G₀ j = false) : selG G₀ (seen ++ [j]) = selG G₀ seen := by simp [selG, List.filter_append, h]
theorem Gone.members {us : List Us} {i : Nat} {G₀ : Grp} (ok : GrpOk us i G₀) {x : List Nat × Grp} (h : Gone us G₀ x) {j : Nat} (hj : j < G₀.length) : (∀ z ∈ (x.2.getD j default).2, z < i) ∧ (x.2.getD j default).2.length ≤ i := by
  have hlt2 : j < x.2.length := by rw [h.len]; exact hj
  have h2 := (h.same j _ _ (List.getElem?_eq_getElem hj) (List.getElem?_eq_getElem hlt2)).2.1
  rw [List.getD_eq_getElem?_getD, List.getElem?_eq_getElem hlt2]
  simp only [Option.getD_some]
  exact ⟨fun z hz => (ok.mem _ (List.getElem_mem hj) z (h2.subset hz)).1, by rw [h2.length_eq]; exact ok.len.2 _ (List.getElem_mem hj)⟩
end Go.Proofs.Ythhmimnkfklhdaa
namespace Go.Proofs.Ythhmimnkfklhdaa
open Go Go.RowKit Go.Sort
set_option linter.unusedVariables false
set_option linter.unusedSimpArgs false
theorem isNaN_u32 (a : Int) (w : World) : Calls Try.prog 74 #[.int .u32 a] w fun e w' => e = .returned (.bool false) ∧ w = w' := by
  go_enter Try.func74, Try.ntmps74
  go_wp2
  go_ret
  exact ⟨rfl, rfl⟩
def cmpI (a b : Int) : Int := if a < b then -1 else if b < a then 1 else 0
set_option maxHeartbeats 1000000 in
theorem cmp_u32 (a b : Int) (w : World) : Calls Try.prog 57 #[.int .u32 a, .int .u32 b] w fun e w' => e = .returned (.int .i64 (cmpI a b)) ∧ w' = w := by
  unfold cmpI
  by_cases h1 : a < b
  · rw [if_pos h1]
    have H1 : decide (a < b) = true := by simpa using h1
    go_enter Try.func57, Try.ntmps57
    go_wp2_with (go_at_call 74; refine (isNaN_u32 _ _).mono ?_; rintro e w' ⟨rfl, rfl⟩)
    go_ret
    exact ⟨rfl, rfl⟩
  · have H1 : decide (a < b) = false := by simpa using h1
    rw [if_neg h1]
    by_cases h2 : b < a
    · rw [if_pos h2]
      have H2 : decide (b < a) = true := by simpa using h2
      have H2' : decide (a > b) = true := by simpa using h2
      go_enter Try.func57, Try.ntmps57
      go_wp2_with (go_at_call 74; refine (isNaN_u32 _ _).mono ?_; rintro e w' ⟨rfl, rfl⟩)
      go_ret
      exact ⟨rfl, rfl⟩
    · rw [if_neg h2]
      have H2 : decide (b < a) = false := by simpa using h2
      have H2' : decide (a > b) = false := by simpa using h2
      go_enter Try.func57, Try.ntmps57
      go_wp2_with (go_at_call 74; refine (isNaN_u32 _ _).mono ?_; rintro e w' ⟨rfl, rfl⟩)
      go_ret
      exact ⟨rfl, rfl⟩
set_option maxHeartbeats 1000000 in
theorem cmp_first (b : Nat) (ad : Addr) (n cap : Nat) (x y : Nat) (hx : x < n) (hy : y < n) (fx fy : Int) (w : World) (hb : w.cell? ⟨b, 0, none⟩ = some (.slice (some ad) n cap))
    (h1 : w.cell? { block := (ad.add (x * 20)).block, off := (ad.add (x * 20)).off + 16 + 2 } = some (.int .u32 fx)) (h2 : w.cell? { block := (ad.add (y * 20)).block, off := (ad.add (y * 20)).off + 16 + 2 } = some (.int .u32 fy)) :
    Calls Try.prog 56 #[.int .i64 x, .int .i64 y, .pointer (some ⟨b, 0, none⟩)] w fun e w' => e = .returned (.int .i64 (cmpI fx fy)) ∧ ∃ q, w' = w.drewN q := by
  have hc := cmp_u32 fx fy
  generalize cmpI fx fy = r at hc ⊢
  go_enter Try.func56, Try.ntmps56
  go_wp2_with (fail)
  go_quiet ((go_at_call 57; exact Calls.quiet_of_same (hc _)))
  go_wp2
  go_ret
  exact ⟨rfl, _, rfl⟩
def firstI (us : List Us) (x : Nat) : Int := ((us[x % us.length]!.f : Nat) : Int)
theorem swo_first (us : List Us) : SWO (Go.Proofs.ltOf fun x y => cmpI (firstI us x) (firstI us y)) := by
  have h : ∀ x y, (Go.Proofs.ltOf fun x y => cmpI (firstI us x) (firstI us y)) x y = decide (firstI us x < firstI us y) := fun x y => by
    show decide (cmpI (firstI us x) (firstI us y) < 0) = _
    unfold cmpI
    by_cases h1 : firstI us x < firstI us y
    · simp [h1]
    · rw [if_neg h1]; split <;> simp [h1]
  refine ⟨fun x => by rw [h]; simp, fun x y z h1 h2 => ?_, fun x y z h1 h2 => ?_⟩
  · rw [h] at h1 h2 ⊢; simp only [decide_eq_true_eq] at h1 h2 ⊢; omega
  · rw [h] at h1 h2 ⊢; simp only [decide_eq_false_iff_not] at h1 h2 ⊢; omega
def encF (us : List Us) (x : Nat) : Value := .int .i64 ((x % us.length : Nat) : Int)
theorem usR_first {us : List Us} (hf : Fits us) {x : Nat} (hx : x < us.length) : (usR us)[x * 20 + 18]? = some (.int .u32 ((us[x].f : Nat) : Int)) := by
  have h := congrArg (fun l => l[18]?) (usR_at hf hx)
  simp only [List.getElem?_take, List.getElem?_drop] at h
  rw [if_pos (by decide)] at h
  rw [h]
  have h1 := usV_range (hf.get hx)
  have h2 := congrArg (fun l => l[2]?) h1
  simp only [List.getElem?_drop] at h2
  rw [h2]; rfl
theorem sort_first {us : List Us} (hf : Fits us) (b : Nat) (ad : Addr) (cap : Nat) (w : World) (hb : w.heap[b]? = some (.cells #[.slice (some ad) us.length cap] 22 (0, 0))) (lo : Nat) (hlo : lo ≤ w.heap.size) (hr : RowIn lo w (some ad) (usR us)) :
    SortsTo Try.prog 55 us 3 (.func (.func 56) #[] #[.pointer (some ⟨b, 0, none⟩)]) lo w := by
  intro g cq cur L hL hne hlg hg hh htk hbig
  have hpos : 0 < us.length := by
    cases L with
    | nil => exact absurd rfl hne
    | cons a r => have := hL a (by simp); omega
  have hgb : b ≠ g := fun he => by subst he; rw [hb] at hh; injection hh with hh; injection hh with _ h2 _; revert h2; decide
  have hga : g ≠ ad.block := fun he => by
    obtain ⟨ad', h1, h2, _⟩ := hr (0 * 20 + 18) _ (usR_first hf hpos)
    injection h1 with h1; subst h1; omega
  have hbs : b < w.heap.size := by
    rcases Nat.lt_or_ge b w.heap.size with h | h
    · exact h
    · rw [Array.getElem?_eq_none h] at hb; cases hb
  have mod : ∀ x, x ∈ L → x % us.length = x := fun x hx => Nat.mod_eq_of_lt (hL x hx)
  have henc : ∀ x, x ∈ L → encF us x = .int .i64 ((x : Nat) : Int) := fun x hx => by unfold encF; rw [mod x hx]
  have hLl : L.length ≤ cur.size := by
    have := congrArg List.length htk
    simp [natR] at this; omega
  have hcur : ∀ j, (hj : j < L.length) → cur[j]? = some (encF us L[j]) := fun j hj => by
    rw [henc _ (List.getElem_mem hj)]
    have h := congrArg (fun l => l[j]?) htk
    simp only [List.getElem?_take, if_pos hj, natR, List.getElem?_map, List.getElem?_eq_getElem hj, Option.map_some, Array.getElem?_toList] at h
    exact h
  have hH : Go.Sort.Holds (encF us) w g 0 L.toArray := fun j hj => by
    have hj' : j < L.length := by simpa using hj
    have h1 : (L.toArray)[j]! = L[j] := by simp [hj']
    refine ⟨?_, ?_⟩
    · rw [h1]; simp only [World.cell?, hh, Nat.zero_add]; simpa using hcur j hj'
    · simp [World.frozen?, hh]
  have hcmp : CmpLays1 Try.prog 56 #[.pointer (some ⟨b, 0, none⟩)] (encF us) (fun x y => cmpI (firstI us x) (firstI us y)) g 0 L.toArray.size w := fun m os dk hs x y => by
    have hx : x % us.length < us.length := Nat.mod_lt _ hpos
    have hy : y % us.length < us.length := Nat.mod_lt _ hpos
    have rd : ∀ a : Addr, a.block < w.heap.size → a.block ≠ g → (sortWorld (encF us) w g 0 m dk os).cell? a = w.cell? a := fun a ha hag => by
      unfold sortWorld
      rw [cell?_grow _ _ _ (by simpa [putRow, mapBlock, Go.Sort.ahead] using ha), cell?_putRow_other _ _ _ _ _ _ (.inl hag)]
      rfl
    have row : ∀ z, z < us.length → (sortWorld (encF us) w g 0 m dk os).cell? { block := (ad.add (z * 20)).block, off := (ad.add (z * 20)).off + 16 + 2 } = some (.int .u32 ((us[z]!.f : Nat) : Int)) := fun z hz => by
      obtain ⟨ad', h1, h2, h3⟩ := hr (z * 20 + 18) _ (usR_first hf hz)
      injection h1 with h1; subst h1
      have ha : ({ block := (ad.add (z * 20)).block, off := (ad.add (z * 20)).off + 16 + 2 } : Addr) = ad.add (z * 20 + 18) := by
        unfold Addr.add
        rw [if_neg (show ¬ z * 20 + 18 = 0 by omega)]
        split
        · rename_i h0; simp [h0]
        · simp [Nat.add_assoc]
      rw [ha, rd _ (by rw [block_of_add]; omega) (by rw [block_of_add]; exact fun h => hga h.symm), h3, getElem!_pos us z hz]
    have hcell : (sortWorld (encF us) w g 0 m dk os).cell? ⟨b, 0, none⟩ = some (.slice (some ad) us.length cap) := by
      rw [rd ⟨b, 0, none⟩ hbs hgb]; simp [World.cell?, hb]
    exact (cmp_first b ad us.length cap (x % us.length) (y % us.length) hx hy _ _ _ hcell (row _ hx) (row _ hy)).mono fun e w' ⟨he, q, hq⟩ => ⟨he, q, #[], by rw [hq, grow_empty]⟩
  have eg : ∀ args w, (callFunc 56 args).run Try.prog w = .ok (.enter 56 args) w := enters_of Try.func56 (by kernel_rfl) rfl
  have hcon := Any.slices_SortFunc Try.sortInt (encF us) (fun _ => rfl) (fun x y => cmpI (firstI us x) (firstI us y)) (swo_first us) 56 #[.pointer (some ⟨b, 0, none⟩)] g 0 cq L.toArray w eg hcmp hH hg (by simpa using hbig)
  change Calls Try.prog 55 _ _ _ at hcon
  rw [show L.toArray.size = L.length from by simp] at hcon
  refine hcon.mono ?_
  rintro en w' ⟨he, d', m, os, hp, hso, hw⟩
  obtain ⟨hds, _, hperm⟩ := hp
  have hds' : d'.size = L.length := by simpa using hds
  have hp2 : d'.toList.Perm L := by
    have e1 : d'.extract 0 L.length = d' := by rw [← hds']; simp
    have e2 : L.toArray.extract 0 L.length = L.toArray := by simp
    rw [e1, e2] at hperm; simpa using hperm
  have hheap : ∀ k, k < w.heap.size → w'.heap[k]? = (putRow (encF us) (Go.Sort.ahead w m) g 0 d').heap[k]? := fun k hk => by
    rw [hw]; unfold sortWorld; exact heap_grow_old _ _ (by simpa [putRow, mapBlock, Go.Sort.ahead] using hk)
  refine ⟨he, d'.toList, putCells (encF us) 0 d' cur, hp2, ?_, by simp [putCells], ?_, ?_, fun k hk hkg => ?_, by rw [hw]; rfl, by rw [hw]; rfl, by rw [hw]; rfl, by rw [hw]; simp [sortWorld, grow, putRow, mapBlock, Go.Sort.ahead]⟩
  · rw [Sorted, List.pairwise_iff_getElem]
    intro i j hi hj hij
    have h := hso i j (Nat.zero_le _) hij (by simpa [hds'] using hj)
    have hmi : d'.toList[i] ∈ L := hp2.subset (List.getElem_mem hi)
    have hmj : d'.toList[j] ∈ L := hp2.subset (List.getElem_mem hj)
    have ei : d'[i]! = d'.toList[i] := by rw [getElem!_pos d' i (by simpa using hi)]; simp
    have ej : d'[j]! = d'.toList[j] := by rw [getElem!_pos d' j (by simpa using hj)]; simp
    rw [ei, ej] at h
    simp only [Go.Proofs.ltOf, cmpI, firstI, mod _ hmi, mod _ hmj] at h
    rcases Nat.lt_or_ge us[d'.toList[j]]!.f us[d'.toList[i]]!.f with hl | hl
    · rw [if_pos (by omega)] at h; cases h
    · exact hl
  · apply List.ext_getElem?
    intro i
    rw [List.getElem?_take]
    by_cases hi : i < L.length
    · rw [if_pos hi]
      have hi2 : i < cur.size := by omega
      have hi3 : i < d'.toList.length := by simpa [hds'] using hi
      have hm : d'.toList[i] ∈ L := hp2.subset (List.getElem_mem hi3)
      simp only [natR, List.getElem?_map, List.getElem?_eq_getElem hi3, Option.map_some, Array.getElem?_toList, putCells, Array.getElem?_mapIdx, Array.getElem?_eq_getElem hi2, Nat.zero_le, Nat.zero_add, hds', hi, and_self, if_true, Nat.sub_zero]
      rw [getElem!_pos d' i (by omega)]
      have := henc _ hm
      simpa using this
    · rw [if_neg hi, List.getElem?_eq_none (by simp [natR, hds']; omega)]
  · rw [hheap g hg]; simp [putRow, mapBlock, Go.Sort.ahead, Array.getElem?_modify, hh, onCells]
  · rw [hheap k hk]; simp [putRow, mapBlock, Go.Sort.ahead, Array.getElem?_modify, Ne.symm hkg]
theorem sorts_env {us : List Us} (hf : Fits us) {n B B' b cap : Nat} {A₀ : Option Addr} {E : Env} (h1 : E.look 1000001 = some (blk b 22 [.slice A₀ us.length cap])) (h2 : E.look 1000200 = some (old B' (memR A₀ (usR us)))) (hB : B' ≤ B) (hpos : 0 < us.length) (κ : Cx) (a : Act) (w : World) (h : St κ n B E a w) :
    SortsTo Try.prog 55 us 3 (.func (.func 56) #[] #[.pointer (some ⟨b, 0, none⟩)]) B w := by
  obtain ⟨_, hb⟩ := h.of _ _ h1
  obtain ⟨_, hr⟩ := h.of _ _ h2
  obtain ⟨ad, hA, _⟩ := hr _ _ (usR_first hf hpos)
  subst hA
  exact sort_first hf b ad cap w hb B h.base (fun j u hu => by obtain ⟨ad', k1, k2, k3⟩ := hr j u hu; exact ⟨ad', k1, by omega, k3⟩)
end Go.Proofs.Ythhmimnkfklhdaa
namespace Go.Proofs.Ythhmimnkfklhdaa
open Go Go.RowKit
set_option linter.unusedVariables false
set_option maxRecDepth 20000
theorem list16 {l : List Value} (h : l.length = 16) : ∃ a0 a1 a2 a3 a4 a5 a6 a7 a8 a9 a10 a11 a12 a13 a14 a15, l = [a0, a1, a2, a3, a4, a5, a6, a7, a8, a9, a10, a11, a12, a13, a14, a15] := by
 rcases l with _ | ⟨a0, l⟩
 ·cases h
 rcases l with _ | ⟨a1, l⟩
 ·simp at h
 rcases l with _ | ⟨a2, l⟩
 ·simp at h
 rcases l with _ | ⟨a3, l⟩
 ·simp at h
 rcases l with _ | ⟨a4, l⟩
 ·simp at h
 rcases l with _ | ⟨a5, l⟩
 ·simp at h
 rcases l with _ | ⟨a6, l⟩
 ·simp at h
 rcases l with _ | ⟨a7, l⟩
 ·simp at h
 rcases l with _ | ⟨a8, l⟩
 ·simp at h
 rcases l with _ | ⟨a9, l⟩
 ·simp at h
 rcases l with _ | ⟨a10, l⟩
 ·simp at h
 rcases l with _ | ⟨a11, l⟩
 ·simp at h
 rcases l with _ | ⟨a12, l⟩
 ·simp at h
 rcases l with _ | ⟨a13, l⟩
 ·simp at h
 rcases l with _ | ⟨a14, l⟩
 ·simp at h
 rcases l with _ | ⟨a15, l⟩
 ·simp at h
 cases l with
 | nil => exact ⟨a0, a1, a2, a3, a4, a5, a6, a7, a8, a9, a10, a11, a12, a13, a14, a15, rfl⟩
 | cons => simp at h
theorem list18 {l : List Value} (h : l.length = 18) : ∃ a0 a1 a2 a3 a4 a5 a6 a7 a8 a9 a10 a11 a12 a13 a14 a15 a16 a17, l = [a0, a1, a2, a3, a4, a5, a6, a7, a8, a9, a10, a11, a12, a13, a14, a15, a16, a17] := by
 rcases l with _ | ⟨a0, l⟩
 ·cases h
 rcases l with _ | ⟨a1, l⟩
 ·simp at h
 rcases l with _ | ⟨a2, l⟩
 ·simp at h
 rcases l with _ | ⟨a3, l⟩
 ·simp at h
 rcases l with _ | ⟨a4, l⟩
 ·simp at h
 rcases l with _ | ⟨a5, l⟩
 ·simp at h
 rcases l with _ | ⟨a6, l⟩
 ·simp at h
 rcases l with _ | ⟨a7, l⟩
 ·simp at h
 rcases l with _ | ⟨a8, l⟩
 ·simp at h
 rcases l with _ | ⟨a9, l⟩
 ·simp at h
 rcases l with _ | ⟨a10, l⟩
 ·simp at h
 rcases l with _ | ⟨a11, l⟩
 ·simp at h
 rcases l with _ | ⟨a12, l⟩
 ·simp at h
 rcases l with _ | ⟨a13, l⟩
 ·simp at h
 rcases l with _ | ⟨a14, l⟩
 ·simp at h
 rcases l with _ | ⟨a15, l⟩
 ·simp at h
 rcases l with _ | ⟨a16, l⟩
 ·simp at h
 rcases l with _ | ⟨a17, l⟩
 ·simp at h
 cases l with
 | nil => exact ⟨a0, a1, a2, a3, a4, a5, a6, a7, a8, a9, a10, a11, a12, a13, a14, a15, a16, a17, rfl⟩
 | cons => simp at h

theorem mapTy : MapTy Try.prog 105 107 77 where
 ty := by kernel_rfl
 st := ⟨_, Try.underlying107⟩
 fl := by kernel_rfl
 ag := by kernel_rfl
 check := fun cs w h => by
  obtain ⟨a0, a1, a2, a3, a4, a5, a6, a7, a8, a9, a10, a11, a12, a13, a14, a15, a16, a17, rfl⟩ := list18 h
  kernel_rfl
 zero := fun w => by kernel_rfl
theorem makeM (w : World) : (Instr.makeMap 105 none).run Try.prog w = .ok (.map (some w.heap.size)) (w.alloc (.map #[] 0)) := by kernel_rfl
theorem buildSt {l : List Value} (h : l.length = 16) (a b : Value) : Try.prog.built 107 [(0, aggV l), (1, aggV [a, b])] = some (l ++ [a, b]).toArray := by
 obtain ⟨a0, a1, a2, a3, a4, a5, a6, a7, a8, a9, a10, a11, a12, a13, a14, a15, rfl⟩ := list16 h
 kernel_rfl
theorem body55 : HasBody Try.prog 55 := ⟨_, Try.func55, by kernel_rfl, rfl⟩
theorem stOf_len {us : List Us} (hf : Fits us) {i : Nat} (hi : i < us.length) : (stOf us[i]!).1.length = 16 := by rw [getElem!_pos us i hi]; exact (hf.get hi).1
theorem stOf_row {us : List Us} (hf : Fits us) {i : Nat} (hi : i < us.length) : us[i].key.map byteV ++ [.int .u32 (us[i].s : Int), .int .u64 (us[i].c : Int)] = keyV (stOf us[i]!) := by rw [getElem!_pos us i hi]; rfl
/-- After i uses. -/
def ShG (us : List Us) (x : Nat × List Value) : Prop := x.1 ≤ us.length ∧ x.2.length = (grp us x.1).length ∧ ∀ v ∈ x.2, v.oneCell' = true
theorem entV_one {k : Key} {G : Grp} {vs : List Value} (h : ∀ v ∈ vs, v.oneCell' = true) : ∀ v ∈ entV k G vs, v.oneCell' = true := by
 unfold entV; split
 ·exact h
 ·intro v hv
  rcases List.mem_append.1 hv with hv | hv
  ·exact h v hv
  ·rw [List.mem_singleton.1 hv]; rfl
theorem ShG.next {us : List Us} {x : Nat × List Value} (h : ShG us x) (hi : x.1 < us.length) {v : Value} (hv : v.oneCell' = true) : ShG us (x.1 + 1, (entV (stOf us[x.1]!) (grp us x.1) x.2).set (idxG (stOf us[x.1]!) (grp us x.1)) v) := by
 refine ⟨hi, ?_, fun u hu => ?_⟩
 ·show ((entV (stOf us[x.1]!) (grp us x.1) x.2).set (idxG (stOf us[x.1]!) (grp us x.1)) v).length = (addG (stOf us[x.1]!) x.1 (grp us x.1)).length
  rw [← step_add, List.length_set, List.length_set, entV_length h.2.1]
 ·rcases List.mem_or_eq_of_mem_set hu with hu | rfl
  ·exact entV_one h.2.2 u hu
  ·exact hv
theorem lstG_le {us : List Us} {i : Nat} {k : Key} : (lstG k (grp us i)).length ≤ i := by
 have h := lstG_at k (grp us i)
 unfold entG at h
 split at h
 ·have := (grp_ok us i).len.2 (k, lstG k (grp us i)) (List.mem_of_getElem? h)
  exact this
 ·rename_i hn
  have : idxG k (grp us i) = (grp us i).length := by have := idxG_le k (grp us i); omega
  rw [this] at h
  simp at h
  rw [h]; exact Nat.zero_le _

theorem keyV_one (k : Key) : (keyV k).all (·.oneCell') = true := by
 rw [List.all_eq_true]
 intro v hv
 simp only [keyV, List.mem_append, List.mem_map, List.mem_cons, List.not_mem_nil, or_false] at hv
 rcases hv with ⟨b, _, rfl⟩ | rfl | rfl <;> simp [byteV, Value.oneCell']
theorem fresh_vals {B : Nat} {e : TypeId} (xs : List Value) (hm : xs.length ≤ maxLen) : Le (fresh B e xs xs.length) (lst (xs.map .v)) := (fresh_vlist rfl hm).trans (le_lst _ _)
set_option maxHeartbeats 2000000 in
theorem shared_fn (us : List Us) (hf : Fits us) (hn : us.length ≤ 1099511627776) : FnB Try.prog 30 [rowD us.length (usR us)] (fun B => partsD us 77 3 B) := by
 refine FnB.of Try.func30 rfl (by kernel_rfl) Try.ntmps30 (by simp) (fun w => [(0, old w.heap.size (rowD us.length (usR us)))]) (fun w => (Start.old rfl Start.nil)) fun w₀ => ?_
 refine A.nameR (t := 0) (k := 1000200) rfl fun A₀ q₀ => ?_
 refine GS ?_
 refine TN 0 ?_
 refine RN ?_
 refine ⟨_, _, eff_box1 (n := 50) (d := 1) (k := 1000001) rfl rfl (by decide), fun b1 hb1 => ?_⟩
 have hBb1 := hb1.1
 refine TL ?_
 refine RA rfl ?_
 refine RN ?_
 refine GS ?_
 refine RunTK.newG 0 (by decide) rfl (.inl rfl) ?_
 refine RN ?_
 refine ⟨_, _, _, eff_makeMap (s := 1000105) (e := 3) mapTy makeM (by decide) (by decide) (by decide), fun bm hbm => ?_⟩
 have hBbm := hbm.1
 refine TL ?_
 refine RA rfl ?_
 refine RN ?_
 refine A.seq ?_
 refine GS ?_
 refine TL ?_
 refine RS (ok_loadV (s := 1000001) (by decide) Try.underlying22 rfl rfl rfl (rfl)) ?_
 refine RS (ok_lenV Try.underlying22 rfl) ?_
 refine RM rfl ?_
 refine RN ?_
 refine A.block ?_
 refine A.loop (ι := Nat × List Value) (fun x => ShG us x) (fun x => [(1, .v (.pointer (some ⟨b1, 0, none⟩))), (1000001, blk b1 22 [.slice A₀ us.length q₀]), (1000200, old w₀.heap.size (memR A₀ (usR us))), (3, .v (.map (some bm))), (11, .v (.slice A₀ us.length q₀)), (12, .v (nI (us.length))), (13, .v (nI (x.1))), (1000105, mapM w₀.heap.size 3 bm x.2 (grp us x.1))]) (fun x => us.length - x.1) (0, []) ?_ ?_ ?_
 ·exact ⟨Nat.zero_le _, rfl, fun v hv => by cases hv⟩
 ·exact (KC 1 rfl (KC 1000001 rfl (KC 1000200 rfl (KC 3 rfl (KC 11 rfl (KC 12 rfl (KE 13 rfl (by rfl) (KC 1000105 rfl KN))))))))
 intro x hx
 refine GS ?_
 refine TL ?_
 refine RB rfl rfl rfl ?_
 refine RN ?_
 refine A.seq ?_
 refine A.cond rfl (fun hc14 => ?_) (fun hc14 => ?_)
 ·have hi : x.1 < us.length := by have h := hc14; simp at h; omega
  refine A.skip ?_
  refine EN ?_
  refine A.seq ?_
  refine A.block ?_
  refine GS ?_
  refine TN 3 ?_
  refine RM rfl ?_
  refine RS (ok_indexR (s := 1000200) x.1 Try.underlying22 infoU rfl rfl (by decide) rfl hi (usR_lt hf hi)) ?_
  refine RS (ok_loadElemP Try.underlying31 rfl (size31.of (by rw [usR_at hf hi, usV_length (hf.get hi)])) rfl) ?_; refine RZ (aggV (usV us[x.1])) (congrArg aggV (usR_at hf hi)) ?_
  refine RN ?_
  refine ⟨_, _, eff_alloc (n := 50) (d := 5) (k := 1000005) zero31 (by decide), fun b5 hb5 => ?_⟩
  have hBb5 := hb5.1
  refine TF 5 ?_
  refine RA rfl ?_
  refine RN ?_
  refine ⟨_, eff_storeA (n := 50) (s := 1000005) (size31.of (usV_length (hf.get hi))) rfl rfl (usV_one _) hBb5 rfl (by rw [usV_length (hf.get hi)]; rfl) (LV 1 rfl (LV 3 rfl (LV 4 rfl (LV 5 rfl (LV 11 rfl (LV 12 rfl (LV 13 rfl (LT 1000001 rfl (LeftS.cons (t := 1000105) rfl ((by first | exact Surv.mapM (by decide) | exact Surv.iterM (by decide))) (LO 1000200 rfl LN)))))))))), ?_⟩
  refine TL ?_
  refine RN ?_
  refine GS ?_
  refine TN 6 ?_
  refine RS (ok_field field31_0 (by decide) rfl) ?_
  refine RS (ok_loadP (s := 1000005) (by decide) Try.underlying23 rfl size23 rfl rfl (us_fit (hf.get hi)) (us_key (hf.get hi))) ?_
  refine RS (ok_field field31_1 (by decide) rfl) ?_
  refine RS (ok_field field29_0 (by decide) rfl) ?_
  refine RS (ok_loadP (s := 1000005) (by decide) Try.underlying27 rfl size27 rfl rfl (us_fit (hf.get hi)) (us_non (hf.get hi))) ?_
  refine RS (ok_litS [(0, aggV (us[x.1].key.map byteV)), (1, aggV [.int .u32 (us[x.1].s : Int), .int .u64 (us[x.1].c : Int)])] (keyV (stOf us[x.1]!)) ⟨rfl, rfl, rfl, rfl, trivial⟩ ((buildSt (by rw [List.length_map]; exact (hf.get hi).1) _ _).trans (congrArg (fun l : List Value => some l.toArray) (stOf_row hf hi)))) ?_
  refine RN ?_
  refine ⟨_, _, eff_alloc (n := 50) (d := 6) (k := 1000006) zero107 (by decide), fun b6 hb6 => ?_⟩
  have hBb6 := hb6.1
  refine TF 7 ?_
  refine RN ?_
  refine ⟨_, eff_storeA (n := 50) (s := 1000006) (size107.of (keyV_length (stOf_len hf hi))) rfl rfl (keyV_one _) hBb6 rfl (by rw [keyV_length (stOf_len hf hi)]; rfl) (LV 1 rfl (LV 3 rfl (LV 4 rfl (LV 6 rfl (LV 11 rfl (LV 12 rfl (LV 13 rfl (LT 1000001 rfl (LT 1000005 rfl (LeftS.cons (t := 1000105) rfl ((by first | exact Surv.mapM (by decide) | exact Surv.iterM (by decide))) (LO 1000200 rfl LN))))))))))), ?_⟩
  refine TL ?_
  refine RN ?_
  refine GE ?_
  refine TF 4 ?_
  refine RM rfl ?_
  refine RS (ok_loadA (s := 1000006) (by decide) Try.underlying107 rfl (size107.of (keyV_length (stOf_len hf hi))) rfl rfl) ?_
  refine RM rfl ?_
  refine RS (ok_buildF (m := 1) [nI (x.1)] Try.underlying77 info3 rfl (by decide) (by decide) rfl ⟨rfl, rfl, trivial⟩ rfl) ?_
  refine RN ?_
  refine ⟨_, eff_mapEntry (s := 1000105) (k := (stOf us[x.1]!)) mapTy (stOf_len hf hi) rfl rfl rfl (Nat.le_refl _) (by decide) (by decide) (by decide) (LeftO.cons (t := 1) rfl (SurvO.v _) (LeftO.cons (t := 1000001) rfl (SurvO.blk) (LeftO.cons (t := 1000200) rfl (SurvO.old (by omega)) (LeftO.cons (t := 3) rfl (SurvO.v _) (LeftO.cons (t := 11) rfl (SurvO.v _) (LeftO.cons (t := 12) rfl (SurvO.v _) (LeftO.cons (t := 13) rfl (SurvO.v _) (LeftO.cons (t := 24) rfl (SurvO.v _) (LeftO.cons (t := 27) rfl (SurvO.v _) (LeftO.cons (t := 28) rfl (SurvO.fresh) LeftO.nil)))))))))), ?_⟩
  refine RunTK.newG 6 (by decide) rfl (.inl rfl) ?_
  refine RS (ok_extractV (xs := [_, _]) rfl rfl) ?_
  refine RN ?_
  refine ⟨_, _, _, eff_appendM (s := 1000105) (j := (idxG (stOf us[x.1]!) (grp us x.1))) Try.underlying77 info3 (by decide) rfl rfl (vs_at (entV_length hx.2.1) (idxG_lt _ _)) (lstG_at2 _ _) rfl rfl (by have := lstG_le (us := us) (i := x.1) (k := (stOf us[x.1]!)); omega) (by decide) (by decide) (by decide) (fun g hg => (LV 1 rfl (LT 1000001 rfl (LO 1000200 rfl (LV 3 rfl (LV 11 rfl (LV 12 rfl (LV 13 rfl (LV 24 rfl (LV 29 rfl LN)))))))))), fun v30 hv30 => ?_⟩
  refine TF 8 ?_
  refine RS (ok_extractV (xs := [_, _]) rfl rfl) ?_
  refine RN ?_
  refine ⟨_, eff_entryStore (s := 1000105) (j := (idxG (stOf us[x.1]!) (grp us x.1))) (k := (stOf us[x.1]!)) (L₀ := lstG (stOf us[x.1]!) (grp us x.1)) rfl rfl rfl rfl (lstG_at _ _) (Nat.le_refl _) (by decide) (by decide) (LeftO.cons (t := 1) rfl (SurvO.v _) (LeftO.cons (t := 1000001) rfl (SurvO.blk) (LeftO.cons (t := 1000200) rfl (SurvO.old (by omega)) (LeftO.cons (t := 3) rfl (SurvO.v _) (LeftO.cons (t := 11) rfl (SurvO.v _) (LeftO.cons (t := 12) rfl (SurvO.v _) (LeftO.cons (t := 13) rfl (SurvO.v _) LeftO.nil))))))), ?_⟩
  refine TL ?_
  refine RN ?_
  refine End.normal_block ?_
  refine EN ?_
  refine GE ?_
  refine TL ?_
  refine RBS rfl rfl rfl (nI (x.1 + 1)) (by rw [wrap_i64 (by omega) (by omega)]; rfl) ?_
  refine RM rfl ?_
  refine RN ?_
  refine End.sub (KC 1 rfl (KC 3 rfl (KC 11 rfl (KC 12 rfl (KC 13 rfl (KC 1000001 rfl (KC 1000105 rfl (KC 1000200 rfl KN)))))))) ?_
  refine End.normal_then ?_
  refine End.again (x.1 + 1, (entV (stOf us[x.1]!) (grp us x.1) x.2).set (idxG (stOf us[x.1]!) (grp us x.1)) v30) ?_ ?_ ?_
  ·exact hx.next hi hv30
  ·show us.length - (x.1 + 1) < us.length - x.1; omega
  ·exact (KC 1 rfl (KC 1000001 rfl (KC 1000200 rfl (KC 3 rfl (KC 11 rfl (KC 12 rfl (KC 13 rfl (KE 1000105 rfl (congrArg (mapM _ _ _ _) (step_add _ _ _)) KN))))))))
 ·have hi2 : x.1 = us.length := by have h := hx.1; simp at hc14; omega
  obtain ⟨i, vs⟩ := x
  simp only at hi2
  subst hi2
  obtain ⟨_, hvl, hv1⟩ := hx
  simp only at hvl hv1
  refine A.exit ?_
  refine End.exit_then ?_
  refine End.exit_then ?_
  refine End.exit_here ?_
  refine EN ?_
  refine GS ?_
  refine TL ?_
  refine RA rfl ?_
  refine RN ?_
  refine A.seq ?_
  refine GS ?_
  refine RunTK.newG 1 (by decide) rfl (.inl rfl) ?_
  refine RM rfl ?_
  refine RN ?_
  refine ⟨_, _, _, eff_range (s := 1000105) mapTy rfl rfl (by decide) (by decide) (by decide), fun it hit => ?_⟩
  have hBit := hit.1
  refine TL ?_
  refine RN ?_
  refine A.block ?_
  refine A.subL (SubL.cons (t := 1) rfl (Le.refl _) (SubL.cons (t := 1000001) rfl (Le.refl _) (SubL.cons (t := 1000200) rfl (Le.refl _) (SubL.cons (t := 34) rfl (Le.refl _) (SubL.cons (t := 7) rfl ((own_nil (B := w₀.heap.size) (e := 77))) (SubL.cons (t := 1000105) rfl (Le.refl _) SubL.nil)))))) ?_
  refine A.loop (ι := List Nat × Grp) (fun y => Gone us (grp us us.length) y) (fun y => [(1, .v (.pointer (some ⟨b1, 0, none⟩))), (1000001, blk b1 22 [.slice A₀ us.length q₀]), (1000200, old w₀.heap.size (memR A₀ (usR us))), (34, .v (.pointer (some ⟨it, 0, none⟩))), (7, own w₀.heap.size 77 (selG (grp us us.length) y.1).length ((selG (grp us us.length) y.1).map fun j => vs.getD j undef)), (1000105, iterM w₀.heap.size 3 bm it vs y.2 y.1)]) (fun y => (grp us us.length).length - y.1.length) ([], (grp us us.length)) ?_ ?_ ?_
  ·exact Gone.start us _
  ·exact (KC 1 rfl (KC 1000001 rfl (KC 1000200 rfl (KC 34 rfl (KC 7 rfl (KC 1000105 rfl KN))))))
  intro y hy
  refine GS ?_
  refine RunTK.newG 0 (by decide) rfl (.inl rfl) ?_
  refine RN ?_
  refine ⟨_, _, _, eff_next (s := 1000105) rfl rfl (Nat.le_refl _) (by decide) (by decide) (by decide) (LeftO.cons (t := 1) rfl (SurvO.v _) (LeftO.cons (t := 1000001) rfl (SurvO.blk) (LeftO.cons (t := 1000200) rfl (SurvO.old (by omega)) (LeftO.cons (t := 34) rfl (SurvO.v _) (LeftO.cons (t := 7) rfl (SurvO.own) LeftO.nil))))), fun c hc => ?_⟩
  refine TL ?_
  refine RS (ok_outB rfl) ?_
  refine RN ?_
  refine A.seq ?_
  refine A.cond rfl (fun hc36 => ?_) (fun hc36 => ?_)
  ·obtain ⟨j, rfl⟩ := Option.isSome_iff_exists.1 hc36
   obtain ⟨hjm, hjn⟩ := hc
   rw [hy.len] at hjm
   have hym := hy.members (grp_ok us us.length) hjm
   refine A.skip ?_
   refine EN ?_
   refine A.block ?_
   refine GS ?_
   refine TL ?_
   refine RS (ok_entry (s := 1000105) (by decide) rfl rfl (by rw [hy.len]; exact hjm)) ?_
   refine RS (ok_extractV (xs := [_, _]) rfl rfl) ?_
   refine RA rfl ?_
   refine RN ?_
   refine GS ?_
   refine TL ?_
   refine RM rfl ?_
   refine RS (ok_lenI (s := 1000105) (j := j) (by decide) Try.underlying77 rfl rfl (vs_at (hvl.trans hy.len.symm) (by rw [hy.len]; exact hjm)) (G_at2 (by rw [hy.len]; exact hjm))) ?_
   refine RBS rfl rfl rfl (.bool (bigG (grp us us.length) j)) (congrArg Value.bool (hy.big hjm)) ?_
   refine RN ?_
   refine A.cond rfl (fun hc41 => ?_) (fun hc41 => ?_)
   ·have hbig : 1 < (y.2.getD j default).2.length := by have h := of_decide_eq_true ((hy.big hjm).trans hc41); omega
    refine GS ?_
    refine RunTK.newG 2 (by decide) rfl (.inl rfl) ?_
    refine RM rfl ?_
    refine RS (ok_makeFuncN [.pointer (some ⟨b1, 0, none⟩)] ⟨rfl, trivial⟩) ?_
    refine RN ?_
    refine ⟨_, _, _, eff_sortI (s := 1000105) (us := us) (j := j) body55 rfl rfl rfl (vs_at (hvl.trans hy.len.symm) (by rw [hy.len]; exact hjm)) (G_at (by rw [hy.len]; exact hjm)) (sorts_env hf rfl rfl (Nat.le_refl _) (by have h1 := hym.2; omega)) hym.1 (fun h0 => by rw [h0] at hbig; simp at hbig) (by have := hym.2; omega) (by decide) (by decide) (by decide) (fun g hg => (LV 1 rfl (LT 1000001 rfl (LO 1000200 rfl (LV 34 rfl (LeftS.cons (t := 7) rfl (Surv.own (by decide)) (LV 9 rfl LN))))))), fun L' hL' => ?_⟩
    refine TL ?_
    refine RN ?_
    refine GE ?_
    refine TF 3 ?_
    refine RM rfl ?_
    refine RM rfl ?_
    refine RS (ok_buildF (m := 1) [vs.getD j undef] Try.underlying73 info77 rfl (by decide) (by decide) rfl ⟨rfl, rfl, trivial⟩ (by simpa using hv1 _ (List.mem_of_getElem? (vs_at hvl hjm)))) ?_
    refine RN ?_
    refine ⟨_, eff_appendS (vs := [vs.getD j undef]) Try.underlying73 info77 (by decide) rfl rfl rfl (fresh_vals [vs.getD j undef] (by simp [maxLen])) (fun u hu => by rw [List.mem_singleton.1 hu]; exact hv1 _ (List.mem_of_getElem? (vs_at hvl hjm))) (by have h1 := hy.sel_lt hjm hjn; have h2 := (grp_ok us us.length).len.1; simp only [List.length_singleton]; omega) (by decide) (fun g hg => (LV 1 rfl (LV 34 rfl (LT 1000001 rfl (LeftS.cons (t := 1000105) rfl ((by first | exact Surv.mapM (by decide) | exact Surv.iterM (by decide))) (LO 1000200 rfl LN)))))), ?_⟩
    refine TL ?_
    refine RA rfl ?_
    refine RN ?_
    refine End.normal_block ?_
    refine End.normal_then ?_
    refine End.again (by first | exact (y.1 ++ [j], y.2.set j ((y.2.getD j default).1, L')) | exact (y.1 ++ [j], y.2)) ?_ ?_ ?_
    ·first | exact hy.sort hjn (G_at (by rw [hy.len]; exact hjm)) hL'.1 hL'.2 | exact hy.pass hjm hjn hc41
    ·exact hy.less hjm hjn
    ·exact (KC 1 rfl (KC 1000001 rfl (KC 1000200 rfl (KC 34 rfl (KE 7 rfl (by first | (rw [selG_yes hc41]; simp) | rw [selG_no hc41]) (KC 1000105 rfl KN))))))
   ·refine A.skip ?_
    refine End.normal_block ?_
    refine End.normal_then ?_
    refine End.again (by first | exact (y.1 ++ [j], y.2.set j ((y.2.getD j default).1, L')) | exact (y.1 ++ [j], y.2)) ?_ ?_ ?_
    ·first | exact hy.sort hjn (G_at (by rw [hy.len]; exact hjm)) hL'.1 hL'.2 | exact hy.pass hjm hjn hc41
    ·exact hy.less hjm hjn
    ·exact (KC 1 rfl (KC 1000001 rfl (KC 1000200 rfl (KC 34 rfl (KE 7 rfl (by first | (rw [selG_yes hc41]; simp) | rw [selG_no hc41]) (KC 1000105 rfl KN))))))
  ·have hcn : c = none := by cases c with
    | none => rfl
    | some _ => cases hc36
   subst hcn
   refine A.exit ?_
   refine End.exit_then ?_
   refine End.exit_then ?_
   refine End.exit_here ?_
   refine EN ?_
   refine GS ?_
   refine TL ?_
   refine RM rfl ?_
   refine RA rfl ?_
   refine RN ?_
   refine A.ret ?_
   exact End.parts (k := 1000105) rfl rfl rfl (fun j hj => by rw [hy.len]; exact hy.lt j (List.mem_filter.1 hj).1) (hy.lists (fun j hj => hc j (by rw [hy.len]; exact hj))) (Nat.le_trans (selG_le hy) (grp_ok us us.length).len.1)
end Go.Proofs.Ythhmimnkfklhdaa
namespace Go.Proofs.Ythhmimnkfklhdaa
open Go Go.RowKit
variable {κ : Cx}

theorem vL {k : Nat} (h : Nat.ble vbase k = true) : vbase ≤ k := Nat.le_of_ble_eq_true h
/-! ### Several blocks are written -/
/-- At most the blocks that gs names (each with its cells' type) have changed of what was there. -/
structure WroteL (gs : List (TypeId × Nat)) (w w' : World) : Prop where
  os : w'.os = w.os
  tape : w'.tape = w.tape
  output : w'.output = w.output
  size : w.heap.size ≤ w'.heap.size
  lt : ∀ p ∈ gs, p.2 < w.heap.size
  cel : ∀ p ∈ gs, ∀ o, w.heap[p.2]? = some o → ∃ cs fr, o = .cells cs p.1 fr
  other : ∀ k, k < w.heap.size → (∀ p ∈ gs, k ≠ p.2) → w'.heap[k]? = w.heap[k]?
theorem WroteL.refl {gs : List (TypeId × Nat)} {w : World} (h : ∀ p ∈ gs, p.2 < w.heap.size) (hc : ∀ p ∈ gs, ∀ o, w.heap[p.2]? = some o → ∃ cs fr, o = .cells cs p.1 fr) : WroteL gs w w :=
  ⟨rfl, rfl, rfl, Nat.le_refl _, h, hc, fun _ _ _ => rfl⟩
/-- A fact that survives a write of each of them survives that of all. -/
theorem WroteL.keep {B : Nat} {d : D} : ∀ {gs : List (TypeId × Nat)}, (∀ p ∈ gs, B ≤ p.2) → (∀ p ∈ gs, Surv B p.1 p.2 d) → ∀ {w w' : World} {x : Value}, WroteL gs w w' → d.Of w x → d.Of w' x
  | [], _, _, w, w', x, h, hx => D.Of.grow hx ⟨h.os, h.tape, h.output, h.size, fun k hk => h.other k hk (fun _ hp => by cases hp)⟩
  | p :: gs, hB, hs, w, w', x, h, hx => by
    have hlt := h.lt p List.mem_cons_self
    have hlt' : p.2 < w'.heap.size := Nat.lt_of_lt_of_le hlt h.size
    obtain ⟨wm, e1, e2, e3, e4, hat⟩ : ∃ wm : World, wm.os = w'.os ∧ wm.tape = w'.tape ∧ wm.output = w'.output ∧ wm.heap.size = w'.heap.size ∧ ∀ k, wm.heap[k]? = if k = p.2 then w.heap[k]? else w'.heap[k]? :=
      ⟨{ w' with heap := w'.heap.setIfInBounds p.2 w.heap[p.2] }, rfl, rfl, rfl, by simp, fun k => by
        show (w'.heap.setIfInBounds p.2 w.heap[p.2])[k]? = _
        split
        · rename_i hk; subst hk; simp [hlt', hlt]
        · rename_i hk; exact Array.getElem?_setIfInBounds_ne (fun e => hk e.symm)⟩
    have h1 : WroteL gs w wm := ⟨e1.trans h.os, e2.trans h.tape, e3.trans h.output, by rw [e4]; exact h.size, fun q hq => h.lt q (List.mem_cons_of_mem _ hq), fun q hq => h.cel q (List.mem_cons_of_mem _ hq), fun k hk hne => by
      rw [hat]
      split
      · rfl
      · rename_i hkp
        exact h.other k hk fun q hq => by
          rcases List.mem_cons.1 hq with rfl | hq
          · exact hkp
          · exact hne q hq⟩
    have h2 := WroteL.keep (fun q hq => hB q (List.mem_cons_of_mem _ hq)) (fun q hq => hs q (List.mem_cons_of_mem _ hq)) h1 hx
    refine hs p List.mem_cons_self wm w' x ⟨hB p List.mem_cons_self, e1.symm, e2.symm, e3.symm, Nat.le_of_eq e4, fun o ho => ?_, fun k hk hne => ?_⟩ h2
    · rw [hat, if_pos rfl] at ho
      exact h.cel p List.mem_cons_self o ho
    · rw [hat, if_neg hne]
theorem WroteL.below {gs : List (TypeId × Nat)} {B : Nat} {w w' : World} (h : WroteL gs w w') (hB : ∀ p ∈ gs, B ≤ p.2) (hw : B ≤ w.heap.size) : Below B w w' :=
  ⟨h.os, h.tape, h.output, h.size, fun k hk => h.other k (by omega) fun p hp => by have := hB p hp; omega⟩
theorem WroteL.trans {gs : List (TypeId × Nat)} {a b c : World} (h : WroteL gs a b) (k : WroteL gs b c) : WroteL gs a c :=
  ⟨k.os.trans h.os, k.tape.trans h.tape, k.output.trans h.output, Nat.le_trans h.size k.size, h.lt, h.cel, fun j hj hne => (k.other j (Nat.lt_of_lt_of_le hj h.size) hne).trans (h.other j hj hne)⟩
/-- Since the world w₁ nothing that was there has changed but the blocks that gs names. -/
def wroteL (gs : List (TypeId × Nat)) (w₁ : World) : D :=
  .p (fun B w _ => w₁.heap.size ≤ B ∧ WroteL gs w₁ w) (fun _ _ _ _ h ⟨h1, h2⟩ => ⟨h1, ⟨h.os.trans h2.os, h.tape.trans h2.tape, h.output.trans h2.output, Nat.le_trans h2.size h.size, h2.lt, h2.cel, fun k hk hne => (h.block k (Nat.lt_of_lt_of_le hk h1)).trans (h2.other k hk hne)⟩⟩)
    (fun _ _ _ _ h ⟨h1, h2⟩ => ⟨Nat.le_trans h1 h, h2⟩)
theorem Surv.wroteL {B T g : Nat} {gs : List (TypeId × Nat)} {w₁ : World} (hg : ∃ p ∈ gs, p.2 = g) : Surv B T g (wroteL gs w₁) := fun _ _ _ k ⟨h1, h2⟩ => by
  obtain ⟨p, hp, rfl⟩ := hg
  exact ⟨Nat.le_trans h1 k.size, ⟨k.os.trans h2.os, k.tape.trans h2.tape, k.output.trans h2.output, Nat.le_trans h2.size k.size, h2.lt, h2.cel, fun j hj hne => (k.other j (Nat.lt_of_lt_of_le hj h1) (hne p hp)).trans (h2.other j hj hne)⟩⟩
/-- What is left of the environment behind it. -/
def LeftL (B : Nat) (gs : List (TypeId × Nat)) (E' E : Env) : Prop := ∀ q ∈ E', E.look q.1 = some q.2 ∧ ∀ p ∈ gs, Surv B p.1 p.2 q.2
theorem LeftL.one {B T g : Nat} {E' E : Env} (h : LeftS B T g E' E) : LeftL B [(T, g)] E' E := fun q hq => ⟨(h q hq).1, fun p hp => by
  rcases List.mem_cons.1 hp with rfl | hp
  · exact (h q hq).2
  · cases hp⟩
theorem LeftL.cons {B T g : Nat} {gs : List (TypeId × Nat)} {E' E : Env} (h : LeftS B T g E' E) (hr : LeftL B gs E' E) : LeftL B ((T, g) :: gs) E' E := fun q hq => ⟨(h q hq).1, fun p hp => by
  rcases List.mem_cons.1 hp with rfl | hp
  · exact (h q hq).2
  · exact (hr q hq).2 p hp⟩
theorem LeftL.st {n B : Nat} {gs : List (TypeId × Nat)} {E E' : Env} {a : Act} {w w' : World} (hl : LeftL B gs E' E) (hB : ∀ p ∈ gs, B ≤ p.2) (h : St κ n B E a w) (k : WroteL gs w w') : St κ n B E' a w' :=
  ⟨Nat.le_trans h.base k.size, h.defers, h.size, fun t d hd => by
    obtain ⟨h1, h2⟩ := hl _ (look_mem hd)
    exact k.keep hB h2 (h.of t d h1)⟩

/-- They are there, with cells of the types named. -/
def selfL (gs : List (TypeId × Nat)) : D :=
  .p (fun B w _ => ∀ p ∈ gs, p.2 < B ∧ ∃ cs fr, w.heap[p.2]? = some (.cells cs p.1 fr)) (fun _ _ _ _ g h p hp => ⟨(h p hp).1, by rw [g.block _ (h p hp).1]; exact (h p hp).2⟩) (fun _ _ _ _ g h p hp => ⟨Nat.lt_of_lt_of_le (h p hp).1 g, (h p hp).2⟩)
/-! ### Functions that do so -/
/-- A contract at base B: called with the values us where the memory's facts M hold, it returns u i, leaves the facts M' i, and changes of what was there at most what gs names; of i it is told G (over how much there was). -/
structure FnL (P : Program) (f : FuncId) (B : Nat) (gs : List (TypeId × Nat)) (us : List Value) (M : Env) (G : Nat → Nat → Prop) (u : Nat → Value) (M' : Nat → Env) : Prop where
  body : ∃ fn, P.funcs[f]? = some fn ∧ (fn.name == "runtime.NumGoroutine") = false ∧ fn.body.isNone = false
  calls : ∀ w : World, B ≤ w.heap.size → (∀ p ∈ M, p.2.Of w undef) → WroteL gs w w →
    Calls P f us.toArray w fun e w' => ∃ i, G w.heap.size i ∧ e = .returned (u i) ∧ WroteL gs w w' ∧ ∀ p ∈ M' i, p.2.Of w' undef
def PL (gs : List (TypeId × Nat)) (w₁ : World) (G : Nat → Nat → Prop) (u : Nat → Value) (M' : Nat → Env) : Ending → World → Prop :=
  fun e w' => ∃ i, G w₁.heap.size i ∧ e = .returned (u i) ∧ WroteL gs w₁ w' ∧ ∀ p ∈ M' i, p.2.Of w' undef
theorem FnL.of {P : Program} {n : Nat} {f : FuncId} {fn : Func} {c : Code} {B : Nat} {gs : List (TypeId × Nat)} {us : List Value} {M : Env} {G : Nat → Nat → Prop} {u : Nat → Value} {M' : Nat → Env} {kw ks : Nat}
    (hf : P.funcs[f]? = some fn) (hb : fn.body = some c) (hname : (fn.name == "runtime.NumGoroutine") = false) (hn : fn.ntmps = n) (hds : us.length ≤ n) (hnv : n ≤ vbase) (hMb : ∀ p ∈ M, vbase ≤ p.1) (hkw : vbase ≤ kw) (hks : vbase ≤ ks) (args : Env) (hargs : ∀ p ∈ args, ∃ v, p.2 = .v v ∧ us[p.1]? = some v)
    (h : ∀ w₀ w₁ : World, w₀.heap.size = B → B ≤ w₁.heap.size → A Cx.top P w₀ n c (args ++ ((kw, wroteL gs w₁) :: (ks, selfL gs) :: M)) (BP P fn (PL gs w₁ G u M'))) : FnL P f B gs us M G u M' := by
  refine ⟨⟨fn, hf, hname, by rw [hb]; rfl⟩, fun w hB hM hgs => ?_⟩
  have hsz := cutW_size (w := w) (g := B) hB
  refine callsIn_FR.1 (callsIn_of_wp_marks (F := FR none) (n := 0) hf hb trivial (h (cutW w B) w hsz hB _ w (cutW_below hB) ⟨by rw [hsz]; exact hB, rfl, ?_, fun t e he => ?_⟩))
  · simp [hn]; omega
  · show e.Of w ((us.toArray ++ Array.replicate (fn.ntmps - us.toArray.size) undef).getD t undef)
    have hund : vbase ≤ t → (us.toArray ++ Array.replicate (fn.ntmps - us.toArray.size) undef).getD t undef = undef := fun ht => by
      rw [Array.getD_eq_getD_getElem?, Array.getElem?_eq_none (by simp [hn]; omega)]; rfl
    rcases List.mem_append.1 (look_mem he) with hm | hm
    · obtain ⟨v, h1, h2⟩ := hargs _ hm
      simp only at h1 h2
      have hj : t < us.length := (List.getElem?_eq_some_iff.1 h2).1
      rw [Array.getD_eq_getD_getElem?, Array.getElem?_append_left (by simpa using hj)]
      subst h1
      simp [h2]; rfl
    · rcases List.mem_cons.1 hm with h1 | hm
      · injection h1 with h1 h2; subst h1; subst h2
        exact ⟨Nat.le_refl _, hgs⟩
      · rcases List.mem_cons.1 hm with h1 | hm
        · injection h1 with h1 h2; subst h1; subst h2
          exact fun p hp => ⟨hgs.lt p hp, by
            have h3 := Array.getElem?_eq_getElem (hgs.lt p hp)
            obtain ⟨cs, fr, h4⟩ := hgs.cel p hp _ h3
            exact ⟨cs, fr, by rw [h3, h4]⟩⟩
        · have h1 := hMb _ hm
          rw [hund h1]
          exact hM _ hm
section
variable {P : Program} {n B : Nat} {ops : Array Oper} {E : Env} {ty : TypeId} {pos : String} {after : Array Edge}
/-- The end of such a function. -/
theorem End.wroteL {w₀ w₁ : World} {fn : Func} {gs : List (TypeId × Nat)} {G : Nat → Nat → Prop} {u : Nat → Value} {M' : Nat → Env} {kw : Nat} {x : Exit} (hex : x = .ret ∨ x = .normal) (hw : E.look kw = some (Go.Proofs.Ythhmimnkfklhdaa.wroteL gs w₁)) (i : Nat) (hG : G w₁.heap.size i) (hn : n ≤ vbase)
    (hr : ∀ (a : Act) (w : World), St Cx.top n w₀.heap.size E a w → (results fn a.tmps).run P w = .ok (u i) w) (hM : ∀ p ∈ M' i, ∃ k, vbase ≤ k ∧ E.look k = some p.2) : End Cx.top w₀ n E (BP P fn (PL gs w₁ G u M') x) := fun a w _ hs => by
  have key : LeavesInM (FR none) 0 P fn a.tmps (PL gs w₁ G u M') a.defers .returning w := by
    rw [show a.defers = [] from hs.defers]
    refine ⟨u i, hr a w hs, i, hG, rfl, (hs.of kw _ hw).2, fun p hp => ?_⟩
    obtain ⟨k, h2, h3⟩ := hM p hp
    have h4 := hs.of k _ h3
    rwa [show a.tmps.getD k undef = undef from by
      rw [Array.getD_eq_getD_getElem?, Array.getElem?_eq_none (by rw [hs.size]; omega)]; rfl] at h4
  rcases hex with rfl | rfl
  · exact key
  · exact key
end

/-! ### More ends -/
section
variable {P : Program} {n : Nat} {w₀ : World} {E : Env}
/-- A slice over a new block, and another value. -/
theorem End.newTT {fn : Func} {r s g kg : Nat} {e : TypeId} {zs xs : List Value} {u v : Value} {val : Nat → Value} (hr : fn.results = #[.tmp r, .tmp s]) (h1 : E.look r = some (.v u)) (h2 : E.look s = some (.v v)) (h4 : E.look kg = some (blk g e zs)) (hg : w₀.heap.size ≤ g) (hv : val g = .tuple #[u, v]) (hz : zs = xs) :
    End Cx.top w₀ n E (BP P fn (PostOf w₀ (newD w₀.heap.size e val xs)) .ret) := fun a w gr hs => by
  subst hz
  have h3 : a.tmps[r]?.getD undef = u := by rw [← Array.getD_eq_getD_getElem?]; exact hs.of r _ h1
  have h6 : a.tmps[s]?.getD undef = v := by rw [← Array.getD_eq_getD_getElem?]; exact hs.of s _ h2
  obtain ⟨hl', hh'⟩ := hs.of kg _ h4
  exact BP.ret hs.defers ⟨.tuple #[u, v], by simp [results, hr, h3, h6], _, rfl, gr, g, hv.symm, hg, hl', hh'⟩
end

/-! ### Slices of bytes as arrays -/
/-- The address of bytes. -/
def arrP (l : List UInt8) : D := .p (fun B w x => ∃ ad, x = .pointer (some ad) ∧ RowIn B w (some ad) (l.map byteV)) (fun _ _ _ _ g ⟨ad, h1, h2⟩ => ⟨ad, h1, h2.keep g⟩) (fun _ _ _ _ g ⟨ad, h1, h2⟩ => ⟨ad, h1, fun j u hu => by
  obtain ⟨a, h3, h4, h5⟩ := h2 j u hu
  exact ⟨a, h3, Nat.lt_of_lt_of_le h4 g, h5⟩⟩)
section
variable {P : Program} {B : Nat} {E : Env} {dst : Option Tmp} {ty : TypeId} {pos : String} {after : Array Edge} {guard : Option (Nat × Bool)}
theorem ok_arrayB {t e : TypeId} {x : Operand} {f : D} (l : List UInt8) (ht : P.underlying t = some (.array l.length e)) (hx : E.at x = some f) (hf : Le f (byt l)) (hl : 0 < l.length) :
    OpOk P B ⟨dst, .sliceToArrayPointer t x, ty, pos, after, guard⟩ E (arrP l) := fun ρ w _ _ hρ => by
  obtain ⟨c, hb⟩ := hf.of (hρ x (by simp [Op.operands]) _ hx)
  obtain ⟨A, hxe, hle, hcm, hrow⟩ := bytes_open (l := l) hb
  cases A with
  | none =>
    cases l with
    | nil => cases hl
    | cons b l => obtain ⟨ad, h, _⟩ := hrow 0 (byteV b) rfl; cases h
  | some ad => exact out_val (x := .pointer (some ad)) (w' := w) (by simp [execOp, hxe, Instr.arrayAt, run_underlying ht]) ⟨Grow.refl w, ad, rfl, hrow⟩
theorem ok_loadB {T : TypeId} {td : TypeDesc} {x : Operand} {l : List UInt8} (ht : P.underlying T = some td) (hp : td.isRow = true) (hsz : SizeIs P T l.length) (hx : E.at x = some (arrP l)) : OpOk P B ⟨dst, .load T x, ty, pos, after, guard⟩ E (.v (aggV (l.map byteV))) := fun ρ w _ _ hρ => by
  obtain ⟨ad, h1, hrow⟩ := hρ x (by simp [Op.operands]) _ hx
  have hl : (loadCells ad (l.map byteV).length).run P w = .ok (l.map byteV).toArray w := run_loadCells_list (P := P) w ad (l.map byteV) fun j v hv => by
    obtain ⟨a, h2, _, h3⟩ := hrow j v hv
    injection h2 with h2; subst h2; exact h3
  have hr : (loadVar T ad).run P w = .ok (.agg (l.map byteV).toArray) w := by
    unfold SizeIs at hsz
    cases hq : P.info? T with
    | none => simp [hq] at hsz
    | some i =>
      have hs : i.size = l.length := by simpa [hq] using hsz
      have hagg : (isAgg T).run P w = .ok true w := by
        unfold isAgg
        rw [Sem.run_bind, run_underlying ht w]
        cases td <;> simp_all
      rw [List.length_map] at hl
      simp [loadVar, Sem.run_bind, hagg, sizeOf, typeInfo, hq, hs, hl]
  exact out_val (w' := w) (by simp [execOp, h1, Instr.loadAt, Instr.sureAddr, hr, aggV]) ⟨Grow.refl w, rfl⟩
end
end Go.Proofs.Ythhmimnkfklhdaa
namespace Go.Proofs.Ythhmimnkfklhdaa
open Go Go.RowKit
set_option linter.unusedVariables false
set_option linter.unusedSimpArgs false
set_option maxRecDepth 20000
def nl (l : List UInt8) : Nat := l.findIdx (· == 10)
theorem nl_le (l : List UInt8) : nl l ≤ l.length := List.findIdx_le_length
theorem ixB_eq (c : UInt8) : ∀ l : List UInt8, Lib.indexByte l c = if l.findIdx (· == c) < l.length then ((l.findIdx (· == c) : Nat) : Int) else -1
 | [] => rfl
 | b :: l => by
  rw [Lib.indexByte, List.findIdx_cons, ixB_eq c l]
  cases h : (b == c) with
  | true => simp
  | false =>
   simp only [Bool.false_eq_true, if_false, cond_false, List.length_cons]
   by_cases hl : l.findIdx (· == c) < l.length
   ·rw [if_pos hl, if_neg (by rw [beq_iff_eq]; omega), if_pos (by omega)]; omega
   ·rw [if_neg hl, if_pos (by rfl), if_neg (by omega)]
theorem Index_fn (l : List UInt8) : Fn Try.prog 75 [.v (strV l), .v (.string ⟨#[10]⟩)] (.v (.int .i64 (Lib.indexByte l 10))) :=
 Fn.exact2 ⟨_, Try.func75, by kernel_rfl, rfl⟩ fun w => (Try.stringslite_Index_one ⟨l.toArray⟩ 10 w).mono fun e w' ⟨he, hw⟩ => ⟨he, hw ▸ Grow.refl _⟩
def cutV (l : List UInt8) : Value := .tuple #[strV (l.take (nl l)), strV (l.drop (nl l + 1)), .bool (decide (nl l < l.length))]
def dgt (c : UInt8) : Int := Lib.indexByte digL c
theorem IndexByte_fn (c : UInt8) : Fn Try.prog 76 [.v (.string ⟨#[48, 49, 50, 51, 52, 53, 54, 55, 56, 57, 97, 98, 99, 100, 101, 102]⟩), .v (byteV c)] (.v (.int .i64 (dgt c))) :=
 Fn.exact2 ⟨_, Try.func76, by kernel_rfl, rfl⟩ fun w => (Try.strings_IndexByte ⟨digL.toArray⟩ (c.toNat : Int) w).mono fun e w' ⟨he, hw⟩ => ⟨by
  rw [he]; unfold dgt
  rw [show ((c.toNat : Int).toNat.toUInt8) = c from by simp], hw ▸ Grow.refl _⟩
def isDig (c : UInt8) : Bool := decide (0 ≤ dgt c)
def dv (c : UInt8) : Nat := (dgt c).toNat
theorem dv_lt (c : UInt8) : dv c < 16 := by
 unfold dv dgt
 rw [ixB_eq]
 split
 ·rename_i h; simp [digL] at h ⊢; omega
 ·decide
theorem dgt_dv {c : UInt8} (h : isDig c = true) : dgt c = ((dv c : Nat) : Int) := by
 unfold dv; rw [Int.toNat_of_nonneg (by simpa [isDig] using h)]

theorem cut_add {l : List UInt8} (hl : l.length ≤ 1099511627776) (h : nl l < l.length) : Value.int .i64 (IntKind.i64.wrap (((nl l : Nat) : Int) + (([10] : List UInt8).length : Int))) = nI (nl l + 1) := by
 rw [wrap_i64 (by simp; omega) (by simp; omega)]; rfl
theorem Cut62_yes (l : List UInt8) (hl : l.length ≤ 1099511627776) (h : nl l < l.length) : Fn Try.prog 62 [.v (strV l), .v (.string ⟨#[10]⟩)] (.v (cutV l)) := by
 refine Fn.of Try.func62 rfl (by kernel_rfl) Try.ntmps62 (by simp) (fun w => [(0, .v (strV l)), (1, .v (.string ⟨#[10]⟩))]) (fun w => (Start.v rfl (Start.v rfl Start.nil))) fun w₀ => ?_
 refine GS ?_
 refine TL ?_
 refine RA rfl ?_
 refine RA rfl ?_
 refine RA rfl ?_
 refine RN ?_
 refine A.seq ?_
 refine GS ?_
 refine TL ?_
 refine RM rfl ?_
 refine RM rfl ?_
 refine RS (ok_call (Index_fn l) (A2 rfl rfl)) ?_; refine RZ (nI (nl l)) (congrArg (Value.int .i64) ((ixB_eq 10 l).trans (if_pos h))) ?_
 refine RA rfl ?_
 refine RN ?_
 refine GS ?_
 refine TL ?_
 refine RM rfl ?_
 refine RBS rfl rfl rfl (.bool true) (by simp) ?_
 refine RN ?_
 refine A.yes rfl ?_
 refine GD ?_
 refine TL ?_
 refine RM rfl ?_
 refine RM rfl ?_
 refine RS (ok_sliceTo (nl l) Try.underlying9 rfl rfl (nl_le l)) ?_
 refine RM rfl ?_
 refine RM rfl ?_
 refine RM rfl ?_
 refine RS (ok_lenT (l := [10]) Try.underlying9 rfl) ?_
 refine RBS rfl rfl rfl (nI (nl l + 1)) (cut_add hl h) ?_
 refine RS (ok_sliceFrom (nl l + 1) Try.underlying9 rfl rfl h) ?_
 refine RA rfl ?_
 refine RA rfl ?_
 refine RA rfl ?_
 refine RN ?_
 refine A.ret ?_
 refine End.ret_then ?_
 rw [cutV, decide_eq_true h]
 exact End.ret3V rfl rfl rfl rfl
theorem Cut62_no (l : List UInt8) (h : ¬ nl l < l.length) : Fn Try.prog 62 [.v (strV l), .v (.string ⟨#[10]⟩)] (.v (cutV l)) := by
 refine Fn.of Try.func62 rfl (by kernel_rfl) Try.ntmps62 (by simp) (fun w => [(0, .v (strV l)), (1, .v (.string ⟨#[10]⟩))]) (fun w => (Start.v rfl (Start.v rfl Start.nil))) fun w₀ => ?_
 refine GS ?_
 refine TL ?_
 refine RA rfl ?_
 refine RA rfl ?_
 refine RA rfl ?_
 refine RN ?_
 refine A.seq ?_
 refine GS ?_
 refine TL ?_
 refine RM rfl ?_
 refine RM rfl ?_
 refine RS (ok_call (Index_fn l) (A2 rfl rfl)) ?_; refine RZ (.int .i64 (-1)) (congrArg (Value.int .i64) ((ixB_eq 10 l).trans (if_neg h))) ?_
 refine RA rfl ?_
 refine RN ?_
 refine GS ?_
 refine TL ?_
 refine RM rfl ?_
 refine RBS rfl rfl rfl (.bool false) (by rfl) ?_
 refine RN ?_
 refine A.no rfl ?_
 refine A.skip ?_
 refine EN ?_
 refine GS ?_
 refine TL ?_
 refine RM rfl ?_
 refine RA rfl ?_
 refine RA rfl ?_
 refine RA rfl ?_
 refine RN ?_
 refine A.ret ?_
 rw [cutV, decide_eq_false h, List.take_of_length_le (by omega), List.drop_of_length_le (by omega)]
 exact End.ret3V rfl rfl rfl rfl
theorem Cut62_fn (l : List UInt8) (hl : l.length ≤ 1099511627776) : Fn Try.prog 62 [.v (strV l), .v (.string ⟨#[10]⟩)] (.v (cutV l)) := by
 by_cases h : nl l < l.length
 ·exact Cut62_yes l hl h
 ·exact Cut62_no l h
theorem Cut_fn (l : List UInt8) (hl : l.length ≤ 1099511627776) : Fn Try.prog 43 [.v (strV l), .v (.string ⟨#[10]⟩)] (.v (cutV l)) := by
 refine Fn.of Try.func43 rfl (by kernel_rfl) Try.ntmps43 (by simp) (fun w => [(0, .v (strV l)), (1, .v (.string ⟨#[10]⟩))]) (fun w => (Start.v rfl (Start.v rfl Start.nil))) fun w₀ => ?_
 refine GS ?_
 refine TL ?_
 refine RA rfl ?_
 refine RA rfl ?_
 refine RA rfl ?_
 refine RN ?_
 refine GS ?_
 refine TL ?_
 refine RM rfl ?_
 refine RM rfl ?_
 refine RS (ok_call (Cut62_fn l hl) (A2 rfl rfl)) ?_
 refine RS (ok_extractV (xs := [_, _, _]) rfl rfl) ?_
 refine RS (ok_extractV (xs := [_, _, _]) rfl rfl) ?_
 refine RS (ok_extractV (xs := [_, _, _]) rfl rfl) ?_
 refine RA rfl ?_
 refine RA rfl ?_
 refine RA rfl ?_
 refine RN ?_
 refine A.ret ?_
 exact End.ret3V rfl rfl rfl rfl
def parB (l : List UInt8) (i j : Nat) : UInt8 := UInt8.ofNat (if 2 * j + 1 < i then 16 * dv l[2 * j]! + dv l[2 * j + 1]! else if 2 * j < i then dv l[2 * j]! else 0)
def parL (l : List UInt8) (i : Nat) : List UInt8 := (List.range (l.length / 2)).map (parB l i)
def unhex (l : List UInt8) : List UInt8 := parL l l.length
theorem parL_length (l : List UInt8) (i : Nat) : (parL l i).length = l.length / 2 := by simp [parL]
theorem parL_at {l : List UInt8} {i j : Nat} (hj : j < l.length / 2) : (parL l i)[j]? = some (parB l i j) := by
 unfold parL; rw [List.getElem?_map, List.getElem?_range hj]; rfl
theorem parL_zero (l : List UInt8) : (parL l 0).map byteV = List.replicate (l.length / 2) (.int .u8 0) := by
 apply List.ext_getElem?
 intro j
 rcases Nat.lt_or_ge j (l.length / 2) with hj | hj
 ·rw [List.getElem?_map, parL_at hj, List.getElem?_replicate, if_pos hj]; rfl
 ·rw [List.getElem?_eq_none (by simpa [parL_length] using hj), List.getElem?_eq_none (by simpa using hj)]
theorem nib (a d : Fin 16) : IntKind.u8.wrap (BitVec.ofInt IntKind.u8.bits (IntKind.u8.wrap ((a.val : Int) * 2 ^ (4 : Int).toNat)) ||| BitVec.ofInt IntKind.u8.bits (IntKind.u8.wrap (d.val : Int))).toNat = ((16 * a.val + d.val : Nat) : Int) := by
 revert a d; decide
theorem par_old {l : List UInt8} {i : Nat} : ∃ a : Nat, a < 16 ∧ (parB l i (i / 2)).toNat = a ∧ ∀ d : Nat, d < 16 → l[i]?.map dv = some d → parB l (i + 1) (i / 2) = UInt8.ofNat (16 * a + d) := by
 unfold parB
 rw [if_neg (by omega)]
 rcases Nat.mod_two_eq_zero_or_one i with h | h
 ·refine ⟨0, by decide, by rw [if_neg (by omega)]; rfl, fun d _ hd => ?_⟩
  rw [if_neg (by omega), if_pos (by omega), show 2 * (i / 2) = i by omega]
  cases hi : l[i]? with
  | none => rw [hi] at hd; cases hd
  | some c =>
   rw [hi] at hd; injection hd with hd
   rw [List.getElem!_eq_getElem?_getD, hi, ← hd]; simp
 ·have hlt := dv_lt l[2 * (i / 2)]!
  refine ⟨dv l[2 * (i / 2)]!, hlt, by rw [if_pos (by omega)]; exact UInt8.toNat_ofNat_of_lt' (by show _ < 256; omega), fun d _ hd => ?_⟩
  rw [if_pos (by omega), show 2 * (i / 2) + 1 = i by omega]
  cases hi : l[i]? with
  | none => rw [hi] at hd; cases hd
  | some c =>
   rw [hi] at hd; injection hd with hd
   have h5 : l[i]! = c := by rw [List.getElem!_eq_getElem?_getD, hi]; rfl
   rw [h5, ← hd]
theorem par_val {l : List UInt8} {i : Nat} (hi : i < l.length) (hd : isDig l[i] = true) :
  Value.int .u8 (IntKind.u8.wrap (BitVec.ofInt IntKind.u8.bits (IntKind.u8.wrap (((parB l i (i / 2)).toNat : Int) * 2 ^ (4 : Int).toNat)) ||| BitVec.ofInt IntKind.u8.bits (IntKind.u8.wrap (dgt l[i]))).toNat) = byteV (parB l (i + 1) (i / 2)) := by
 obtain ⟨a, ha, hp, hq⟩ := par_old (l := l) (i := i)
 have hdl := dv_lt l[i]
 rw [hp, dgt_dv hd, hq (dv l[i]) hdl (by rw [List.getElem?_eq_getElem hi]; rfl)]
 rw [nib ⟨a, ha⟩ ⟨dv l[i], hdl⟩]
 unfold byteV
 rw [UInt8.toNat_ofNat_of_lt' (by show 16 * a + dv l[i] < 256; omega)]
theorem parL_set {l : List UInt8} {i : Nat} (hi : i < l.length) (h2 : i / 2 < l.length / 2) : ((parL l i).map byteV).set (0 + i / 2) (byteV (parB l (i + 1) (i / 2))) = (parL l (i + 1)).map byteV := by
 apply List.ext_getElem?
 intro j
 rw [List.getElem?_set, Nat.zero_add, List.length_map, parL_length]
 by_cases hj : i / 2 = j
 ·subst hj; rw [if_pos rfl, if_pos h2, List.getElem?_map, parL_at h2]; rfl
 ·rw [if_neg hj, List.getElem?_map, List.getElem?_map]
  rcases Nat.lt_or_ge j (l.length / 2) with hl | hl
  ·rw [parL_at hl, parL_at hl]
   have : parB l i j = parB l (i + 1) j := by
    unfold parB
    by_cases h1 : 2 * j + 1 < i
    ·rw [if_pos h1, if_pos (by omega)]
    ·rw [if_neg h1, if_neg (by omega), if_neg (by omega), if_neg (by omega)]
   rw [this]
  ·rw [List.getElem?_eq_none (by simpa [parL_length] using hl), List.getElem?_eq_none (by simpa [parL_length] using hl)]
theorem rb_half {n : Nat} (h : n ≤ 1048576) : Value.int .i64 (IntKind.i64.wrap (((n : Nat) : Int).tdiv 2)) = nI (n / 2) := by
 rw [Int.tdiv_eq_ediv_of_nonneg (by omega), wrap_i64 (by omega) (by omega)]; rfl
theorem readBytes_okB (l : List UInt8) (hl : l.length ≤ 1048576) (hev : l.length % 2 = 0) (h : l.all isDig = true) : FnB Try.prog 63 [.v (strV l)] (fun B => newD B 5 (fun b => .tuple #[.slice (some ⟨b, 0, none⟩) (l.length / 2) (l.length / 2), .bool true]) ((unhex l).map byteV)) := by
 refine FnB.of Try.func63 rfl (by kernel_rfl) Try.ntmps63 (by simp) (fun w => [(0, .v (strV l))]) (fun w => (Start.v rfl Start.nil)) fun w₀ => ?_
 refine GS ?_
 refine TL ?_
 refine RA rfl ?_
 refine RA rfl ?_
 refine RN ?_
 refine GS ?_
 refine TN 3 ?_
 refine RM rfl ?_
 refine RS (ok_lenT Try.underlying9 rfl) ?_
 refine RS (ok_div rfl rfl (by decide)) ?_; refine RZ (nI (l.length / 2)) (rb_half (by omega)) ?_
 refine RN ?_
 refine ⟨_, _, eff_nameF (c := l.length / 2) (by simp) (n := 36) (d := 9) (k := 1000009) rfl rfl (fun B' => (ok_make (l.length / 2) Try.underlying67 info5 (by decide) rfl rfl rfl rfl rfl (by omega))) (by decide) (by decide), fun b9 hb9 => ?_⟩
 have hBb9 := hb9.1
 refine TL ?_
 refine RA rfl ?_
 refine RN ?_
 refine A.seq ?_
 refine GS ?_
 refine TL ?_
 refine RM rfl ?_
 refine RS (ok_lenT Try.underlying9 rfl) ?_
 refine RM rfl ?_
 refine RN ?_
 refine A.block ?_
 refine A.loop (ι := Nat) (fun x => x ≤ l.length) (fun x => [(0, .v (strV l)), (11, .v (nI (l.length))), (12, .v (nI x)), (2, .v (.slice (some ⟨b9, 0, none⟩) (l.length / 2) (l.length / 2))), (1000009, blk b9 5 ((parL l x).map byteV))]) (fun x => l.length - x) 0 ?_ ?_ ?_
 ·exact Nat.zero_le _
 ·exact (KC 0 rfl (KC 11 rfl (KE 12 rfl (by rfl) (KC 2 rfl (KE 1000009 rfl (by rw [parL_zero]) KN)))))
 intro x hx
 refine GS ?_
 refine TL ?_
 refine RB rfl rfl rfl ?_
 refine RN ?_
 refine A.seq ?_
 refine A.cond rfl (fun hc13 => ?_) (fun hc13 => ?_)
 ·have hi : x < l.length := by have h := hc13; simp at h; omega
  have hdg : isDig l[x] = true := List.all_eq_true.1 h _ (List.getElem_mem hi)
  refine A.skip ?_
  refine EN ?_
  refine A.seq ?_
  refine A.block ?_
  refine GS ?_
  refine TL ?_
  refine RM rfl ?_
  refine RA rfl ?_
  refine RN ?_
  refine GS ?_
  refine TL ?_
  refine RM rfl ?_
  refine RM rfl ?_
  refine RS (ok_strIndex x Try.underlying9 rfl rfl rfl (List.getElem?_eq_getElem hi)) ?_
  refine RS (ok_call (IndexByte_fn l[x]) (A2 rfl rfl)) ?_
  refine RA rfl ?_
  refine RN ?_
  refine A.seq ?_
  refine GS ?_
  refine TL ?_
  refine RM rfl ?_
  refine RBS rfl rfl rfl (.bool false) (by simpa [isDig] using hdg) ?_
  refine RN ?_
  refine A.no rfl ?_
  refine A.skip ?_
  refine EN ?_
  refine GE ?_
  refine TF 13 ?_
  refine RM rfl ?_
  refine RM rfl ?_
  refine RS (ok_div rfl rfl (by decide)) ?_; refine RZ (nI (x / 2)) (rb_half (by omega)) ?_
  refine RM rfl ?_
  refine RM rfl ?_
  refine RS (ok_div rfl rfl (by decide)) ?_; refine RZ (nI (x / 2)) (rb_half (by omega)) ?_
  refine RS (ok_indexV (x / 2) Try.underlying67 info5 rfl rfl rfl (by omega)) ?_
  refine RS (ok_loadV (u := byteV (parB l x (x / 2))) (s := 1000009) (by decide) Try.underlying5 rfl rfl rfl (by rw [Nat.zero_add, List.getElem?_map, parL_at (by omega)]; rfl)) ?_
  refine RS (ok_shl rfl rfl (by decide)) ?_
  refine RM rfl ?_
  refine RS (ok_conv Try.underlying3 Try.underlying5 rfl) ?_
  refine RBS rfl rfl rfl (byteV (parB l (x + 1) (x / 2))) (par_val hi hdg) ?_
  refine RS (ok_indexV (x / 2) Try.underlying67 info5 rfl rfl rfl (by omega)) ?_
  refine RN ?_
  refine ⟨_, eff_storeS (n := 36) (s := 1000009) info5 rfl rfl rfl hBb9 rfl (by rw [List.length_map, parL_length]; omega) (LV 0 rfl (LV 2 rfl (LV 11 rfl (LV 12 rfl LN)))), ?_⟩
  refine TL ?_
  refine RN ?_
  refine End.normal_block ?_
  refine EN ?_
  refine GE ?_
  refine TL ?_
  refine RBS rfl rfl rfl (nI (x + 1)) (by rw [wrap_i64 (by omega) (by omega)]; rfl) ?_
  refine RM rfl ?_
  refine RN ?_
  refine End.sub (KC 0 rfl (KC 2 rfl (KC 11 rfl (KC 12 rfl (KC 1000009 rfl KN))))) ?_
  refine End.normal_then ?_
  refine End.again (x + 1) ?_ ?_ ?_
  ·show _ ≤ _; omega
  ·show _ - _ < _ - _; omega
  ·exact (KC 0 rfl (KC 11 rfl (KC 12 rfl (KC 2 rfl (KE 1000009 rfl (by rw [parL_set hi (by omega)]) KN)))))
 ·have hi2 : x = l.length := by simp at hc13; omega
  refine A.exit ?_
  refine End.exit_then ?_
  refine End.exit_then ?_
  refine End.exit_here ?_
  refine EN ?_
  refine GS ?_
  refine TL ?_
  refine RM rfl ?_
  refine RA rfl ?_
  refine RA rfl ?_
  refine RN ?_
  refine A.ret ?_
  exact End.newTT (kg := 1000009) rfl rfl rfl rfl hBb9 rfl (by rw [hi2]; rfl)
structure RbG (l : List UInt8) (x : Nat) : Prop where
 le : x ≤ l.length
 all : ∀ j, j < x → isDig l[j]! = true
theorem RbG.lt {l : List UInt8} {x : Nat} (h : RbG l x) (hn : ¬ l.all isDig = true) : x < l.length := by
 rcases Nat.lt_or_ge x l.length with hl | hl
 ·exact hl
 ·refine absurd (List.all_eq_true.2 fun c hc => ?_) hn
  obtain ⟨j, hj, rfl⟩ := List.getElem_of_mem hc
  have := h.all j (by omega); rwa [getElem!_pos l j hj] at this
theorem RbG.next {l : List UInt8} {x : Nat} (h : RbG l x) (hi : x < l.length) (hd : isDig l[x] = true) : RbG l (x + 1) := ⟨hi, fun j hj => by
 rcases Nat.lt_or_ge j x with hl | hl
 ·exact h.all j hl
 ·rw [show j = x by omega, getElem!_pos l x hi]; exact hd⟩
theorem rb_neg (c : UInt8) : decide (dgt c < 0) = !(isDig c) := by
 unfold isDig; rw [← decide_not]; exact decide_eq_decide.2 (by omega)
theorem readBytes_bad (l : List UInt8) (hl : l.length ≤ 1048576) (hev : l.length % 2 = 0) (h : ¬ l.all isDig = true) : Fn Try.prog 63 [.v (strV l)] (.v (.tuple #[.slice none 0 0, .bool false])) := by
 refine Fn.of Try.func63 rfl (by kernel_rfl) Try.ntmps63 (by simp) (fun w => [(0, .v (strV l))]) (fun w => (Start.v rfl Start.nil)) fun w₀ => ?_
 refine GS ?_
 refine TL ?_
 refine RA rfl ?_
 refine RA rfl ?_
 refine RN ?_
 refine GS ?_
 refine TN 3 ?_
 refine RM rfl ?_
 refine RS (ok_lenT Try.underlying9 rfl) ?_
 refine RS (ok_div rfl rfl (by decide)) ?_; refine RZ (nI (l.length / 2)) (rb_half (by omega)) ?_
 refine RN ?_
 refine ⟨_, _, eff_nameF (c := l.length / 2) (by simp) (n := 36) (d := 9) (k := 1000009) rfl rfl (fun B' => (ok_make (l.length / 2) Try.underlying67 info5 (by decide) rfl rfl rfl rfl rfl (by omega))) (by decide) (by decide), fun b9 hb9 => ?_⟩
 have hBb9 := hb9.1
 refine TL ?_
 refine RA rfl ?_
 refine RN ?_
 refine A.seq ?_
 refine GS ?_
 refine TL ?_
 refine RM rfl ?_
 refine RS (ok_lenT Try.underlying9 rfl) ?_
 refine RM rfl ?_
 refine RN ?_
 refine A.block ?_
 refine A.loop (ι := Nat) (fun x => RbG l x) (fun x => [(0, .v (strV l)), (11, .v (nI (l.length))), (12, .v (nI x)), (2, .v (.slice (some ⟨b9, 0, none⟩) (l.length / 2) (l.length / 2))), (1000009, blk b9 5 ((parL l x).map byteV))]) (fun x => l.length - x) 0 ?_ ?_ ?_
 ·exact ⟨Nat.zero_le _, fun j hj => absurd hj (Nat.not_lt_zero _)⟩
 ·exact (KC 0 rfl (KC 11 rfl (KE 12 rfl (by rfl) (KC 2 rfl (KE 1000009 rfl (by rw [parL_zero]) KN)))))
 intro x hx
 refine GS ?_
 refine TL ?_
 refine RBS rfl rfl rfl (.bool true) (congrArg Value.bool (decide_eq_true (by have := hx.lt h; omega))) ?_
 refine RN ?_
 refine A.seq ?_
 refine A.yes rfl ?_
 refine A.skip ?_
 refine EN ?_
 refine A.seq ?_
 refine A.block ?_
 have hi : x < l.length := hx.lt h
 refine GS ?_
 refine TL ?_
 refine RM rfl ?_
 refine RA rfl ?_
 refine RN ?_
 refine GS ?_
 refine TL ?_
 refine RM rfl ?_
 refine RM rfl ?_
 refine RS (ok_strIndex x Try.underlying9 rfl rfl rfl (List.getElem?_eq_getElem hi)) ?_
 refine RS (ok_call (IndexByte_fn l[x]) (A2 rfl rfl)) ?_
 refine RA rfl ?_
 refine RN ?_
 refine A.seq ?_
 refine GS ?_
 refine TL ?_
 refine RM rfl ?_
 refine RBS rfl rfl rfl (.bool (!(isDig l[x]))) (congrArg Value.bool (rb_neg _)) ?_
 refine RN ?_
 refine A.cond rfl (fun hc20 => ?_) (fun hc20 => ?_)
 ·refine GS ?_
  refine TL ?_
  refine RA rfl ?_
  refine RA rfl ?_
  refine RN ?_
  refine A.ret ?_
  refine End.ret_then ?_
  refine End.ret_block ?_
  refine End.ret_then ?_
  refine End.ret_then ?_
  refine End.ret_block ?_
  refine End.ret_then ?_
  exact End.ret2V rfl rfl rfl
 ·have hdg : isDig l[x] = true := by simpa using hc20
  refine A.skip ?_
  refine EN ?_
  refine GE ?_
  refine TF 13 ?_
  refine RM rfl ?_
  refine RM rfl ?_
  refine RS (ok_div rfl rfl (by decide)) ?_; refine RZ (nI (x / 2)) (rb_half (by omega)) ?_
  refine RM rfl ?_
  refine RM rfl ?_
  refine RS (ok_div rfl rfl (by decide)) ?_; refine RZ (nI (x / 2)) (rb_half (by omega)) ?_
  refine RS (ok_indexV (x / 2) Try.underlying67 info5 rfl rfl rfl (by omega)) ?_
  refine RS (ok_loadV (u := byteV (parB l x (x / 2))) (s := 1000009) (by decide) Try.underlying5 rfl rfl rfl (by rw [Nat.zero_add, List.getElem?_map, parL_at (by omega)]; rfl)) ?_
  refine RS (ok_shl rfl rfl (by decide)) ?_
  refine RM rfl ?_
  refine RS (ok_conv Try.underlying3 Try.underlying5 rfl) ?_
  refine RBS rfl rfl rfl (byteV (parB l (x + 1) (x / 2))) (par_val hi hdg) ?_
  refine RS (ok_indexV (x / 2) Try.underlying67 info5 rfl rfl rfl (by omega)) ?_
  refine RN ?_
  refine ⟨_, eff_storeS (n := 36) (s := 1000009) info5 rfl rfl rfl hBb9 rfl (by rw [List.length_map, parL_length]; omega) (LV 0 rfl (LV 2 rfl (LV 11 rfl (LV 12 rfl LN)))), ?_⟩
  refine TL ?_
  refine RN ?_
  refine End.normal_block ?_
  refine EN ?_
  refine GE ?_
  refine TL ?_
  refine RBS rfl rfl rfl (nI (x + 1)) (by rw [wrap_i64 (by omega) (by omega)]; rfl) ?_
  refine RM rfl ?_
  refine RN ?_
  refine End.sub (KC 0 rfl (KC 2 rfl (KC 11 rfl (KC 12 rfl (KC 1000009 rfl KN))))) ?_
  refine End.normal_then ?_
  refine End.again (x + 1) ?_ ?_ ?_
  ·exact hx.next hi hdg
  ·show _ - _ < _ - _; omega
  ·exact (KC 0 rfl (KC 11 rfl (KC 12 rfl (KC 2 rfl (KE 1000009 rfl (by rw [parL_set hi (by omega)]) KN)))))
def useOf (b : List UInt8) : Us := ⟨b.take 16, gS ((b.drop 16).take 12), gC ((b.drop 16).take 12), (getV ((b.drop 28).take 4) 4).toNat, (getV (b.drop 32) 4).toNat⟩
theorem use_cells2 {K : List Value} (hK : K.length = 16) (s c f l : Value) : ((List.take (0 + 16 + 0) (List.take (0 + 0) (List.replicate 16 (Value.int .u8 0) ++ [Value.int .u32 0] ++ [Value.int .u64 0] ++ [Value.int .u32 0] ++ [Value.int .u32 0]) ++ K ++ List.drop (0 + 0 + K.length) (List.replicate 16 (Value.int .u8 0) ++ [Value.int .u32 0] ++ [Value.int .u64 0] ++ [Value.int .u32 0] ++ [Value.int .u32 0])) ++ [s, c] ++ List.drop (0 + 16 + 0 + [s, c].length) (List.take (0 + 0) (List.replicate 16 (Value.int .u8 0) ++ [Value.int .u32 0] ++ [Value.int .u64 0] ++ [Value.int .u32 0] ++ [Value.int .u32 0]) ++ K ++ List.drop (0 + 0 + K.length) (List.replicate 16 (Value.int .u8 0) ++ [Value.int .u32 0] ++ [Value.int .u64 0] ++ [Value.int .u32 0] ++ [Value.int .u32 0]))).set (0 + 16 + 2) f).set (0 + 16 + 3) l = K ++ [s, c, f, l] := by
 obtain ⟨a0, a1, a2, a3, a4, a5, a6, a7, a8, a9, a10, a11, a12, a13, a14, a15, rfl⟩ := list16 hK
 rfl
theorem getV_lt (l : List UInt8) : (getV l 4).toNat < 4294967296 := by
 unfold getV; split
 ·rename_i h; rw [Int.toNat_natCast]; have := num_lt l; rw [h] at this; simpa using this
 ·decide
theorem useOf_fit {b : List UInt8} (h : b.length = 36) : (useOf b).Fit := by
 refine ⟨by simp [useOf, h], ?_, ?_, getV_lt _, getV_lt _⟩
 ·show gS _ < _; unfold gS; split
  ·exact getV_lt _
  ·decide
 ·show gC _ < _; unfold gC getV; split
  ·split
   ·rename_i h; rw [Int.toNat_natCast]; have := num_lt (List.drop 4 ((b.drop 16).take 12)); rw [h] at this; simpa using this
   ·decide
  ·decide
theorem useOf_row {b : List UInt8} (h : b.length = 36) : (b.take 16).map byteV ++ [nW (gS ((b.drop 16).take 12)), nQ (gC ((b.drop 16).take 12)), .int .u32 (getV ((b.drop 28).take 4) 4), .int .u32 (getV (b.drop 32) 4)] = usV (useOf b) := by
 unfold usV useOf rV
 simp only [getV_nat]

theorem bytes_all (l : List UInt8) : (l.map byteV).all (·.oneCell') = true := by
 rw [List.all_eq_true]; intro x hx; obtain ⟨b, _, rfl⟩ := List.mem_map.1 hx; rfl
set_option maxHeartbeats 2000000 in
theorem readUse_fn (b : List UInt8) (hb : b.length = 36) : Fn Try.prog 64 [byt b] (.v (aggV (usV (useOf b)))) := by
 refine Fn.of Try.func64 rfl (by kernel_rfl) Try.ntmps64 (by simp) (fun w => [(0, old w.heap.size (byt b))]) (fun w => (Start.old rfl Start.nil)) fun w₀ => ?_
 refine GS ?_
 refine TN 0 ?_
 refine RN ?_
 refine ⟨_, _, eff_alloc (n := 42) (d := 2) (k := 1000002) zero31 (by decide), fun b2 hb2 => ?_⟩
 have hBb2 := hb2.1
 refine TL ?_
 refine RN ?_
 refine GD ?_
 refine TL ?_
 refine RM rfl ?_
 refine RS (OpOk.le (ok_sliceO 0 16 Try.underlying67 info5 rfl (Le.refl _) (.inr ⟨rfl, rfl⟩) (.inl ⟨_, _, rfl, rfl⟩) (by simp [hb]) (by simp [hb])) (Le.eq (congrArg (old _) (show lst _ = byt (b.take 16) from congrArg lst (by simp [← List.map_take, ← List.map_drop, hb, List.take_of_length_le, List.drop_drop]))))) ?_
 refine RM rfl ?_
 refine RS (OpOk.le (ok_sliceO 16 36 Try.underlying67 info5 rfl (Le.refl _) (.inl ⟨_, _, rfl, rfl⟩) (.inr ⟨rfl, by simp [hb]⟩) (by simp [hb]) (by simp [hb])) (Le.eq (congrArg (old _) (show lst _ = byt (b.drop 16) from congrArg lst (by simp [← List.map_take, ← List.map_drop, hb, List.take_of_length_le, List.drop_drop]))))) ?_
 refine RA rfl ?_
 refine RA rfl ?_
 refine RN ?_
 refine GD ?_
 refine TL ?_
 refine RM rfl ?_
 refine RS (OpOk.le (ok_sliceO 0 12 Try.underlying67 info5 rfl (Le.refl _) (.inr ⟨rfl, rfl⟩) (.inl ⟨_, _, rfl, rfl⟩) (by simp [hb]) (by simp [hb])) (Le.eq (congrArg (old _) (show lst _ = byt ((b.drop 16).take 12) from congrArg lst (by simp [← List.map_take, ← List.map_drop, hb, List.take_of_length_le, List.drop_drop]))))) ?_
 refine RM rfl ?_
 refine RS (OpOk.le (ok_sliceO 12 20 Try.underlying67 info5 rfl (Le.refl _) (.inl ⟨_, _, rfl, rfl⟩) (.inr ⟨rfl, by simp [hb]⟩) (by simp [hb]) (by simp [hb])) (Le.eq (congrArg (old _) (show lst _ = byt (b.drop 28) from congrArg lst (by simp [← List.map_take, ← List.map_drop, hb, List.take_of_length_le, List.drop_drop]))))) ?_
 refine RA rfl ?_
 refine RA rfl ?_
 refine RN ?_
 refine GS ?_
 refine TN 0 ?_
 refine RN ?_
 refine ⟨_, _, eff_alloc (n := 42) (d := 5) (k := 1000005) zero31 (by decide), fun b5 hb5 => ?_⟩
 have hBb5 := hb5.1
 have hlt_b2_b5 : b2 < b5 := hb5.2 1000002 _ _ _ rfl
 refine TL ?_
 refine RN ?_
 refine GS ?_
 refine TF 4 ?_
 refine RM rfl ?_
 refine RS (ok_arrayB (b.take 16) (by rw [List.length_take, hb]; exact Try.underlying23) rfl (Le.old _ _) (by rw [List.length_take, hb]; decide)) ?_
 refine RS (ok_loadB Try.underlying23 rfl (size23.of (by rw [List.length_take, hb]; rfl)) rfl) ?_
 refine RS (ok_field field31_0 (by decide) rfl) ?_
 refine RN ?_
 refine ⟨_, eff_storeP (n := 42) (s := 1000005) (size23.of (by rw [List.length_map, List.length_take, hb]; rfl)) rfl rfl (bytes_all _) hBb5 rfl (by simp [hb]) (LO 0 rfl (LV 2 rfl (LO 4 rfl (LV 5 rfl (LB 1000002 rfl LN))))), ?_⟩
 refine TL ?_
 refine RN ?_
 refine GS ?_
 refine TF 7 ?_
 refine RM rfl ?_
 refine RS (ok_call (Get_fn ((b.drop 16).take 12)) (Args.cons rfl (Le.old _ _) Args.nil)) ?_
 refine RM rfl ?_
 refine RS (ok_extract rfl rfl) ?_
 refine RS (ok_extract rfl rfl) ?_
 refine RS (ok_field field31_1 (by decide) rfl) ?_
 refine RS (ok_field field29_0 (by decide) rfl) ?_
 refine RN ?_
 refine ⟨_, eff_storeP (n := 42) (s := 1000005) (size27.of (rfl)) rfl rfl (rfl) hBb5 rfl (by simp [hb]) (LO 0 rfl (LV 2 rfl (LV 5 rfl (LB 1000002 rfl LN)))), ?_⟩
 refine TL ?_
 refine RN ?_
 refine A.sub (KC 0 rfl (KC 2 rfl (KC 5 rfl (KC 1000002 rfl (KC 1000005 rfl KN))))) ?_
 refine GS ?_
 refine TF 8 ?_
 refine RM rfl ?_
 refine RS (OpOk.le (ok_sliceO 0 4 Try.underlying67 info5 rfl (Le.refl _) (.inr ⟨rfl, rfl⟩) (.inl ⟨_, _, rfl, rfl⟩) (by simp [hb]) (by simp [hb])) (Le.eq (congrArg (old _) (show lst _ = byt ((b.drop 28).take 4) from congrArg lst (by simp [← List.map_take, ← List.map_drop, hb, List.take_of_length_le, List.drop_drop]))))) ?_
 refine RS (ok_call (Get32_fn ((b.drop 28).take 4)) (Args.cons rfl (Le.old _ _) Args.nil)) ?_
 refine RM rfl ?_
 refine RS (ok_extract rfl rfl) ?_
 refine RS (ok_extract rfl rfl) ?_
 refine RS (ok_field field31_1 (by decide) rfl) ?_
 refine RS (ok_field field29_1 (by decide) rfl) ?_
 refine RN ?_
 refine ⟨_, eff_storeS (n := 42) (s := 1000005) info24 rfl rfl rfl hBb5 rfl (by simp [hb]) (LO 0 rfl (LV 2 rfl (LV 5 rfl (LB 1000002 rfl LN)))), ?_⟩
 refine TL ?_
 refine RN ?_
 refine GS ?_
 refine TF 8 ?_
 refine RM rfl ?_
 refine RS (OpOk.le (ok_sliceO 4 8 Try.underlying67 info5 rfl (Le.refl _) (.inl ⟨_, _, rfl, rfl⟩) (.inr ⟨rfl, by simp [hb]⟩) (by simp [hb]) (by simp [hb])) (Le.eq (congrArg (old _) (show lst _ = byt (b.drop 32) from congrArg lst (by simp [← List.map_take, ← List.map_drop, hb, List.take_of_length_le, List.drop_drop]))))) ?_
 refine RS (ok_call (Get32_fn (b.drop 32)) (Args.cons rfl (Le.old _ _) Args.nil)) ?_
 refine RM rfl ?_
 refine RS (ok_extract rfl rfl) ?_
 refine RS (ok_extract rfl rfl) ?_
 refine RS (ok_field field31_1 (by decide) rfl) ?_
 refine RS (ok_field field29_2 (by decide) rfl) ?_
 refine RN ?_
 refine ⟨_, eff_storeS (n := 42) (s := 1000005) info24 rfl rfl rfl hBb5 rfl (by simp [hb]) (LV 2 rfl (LV 5 rfl (LB 1000002 rfl LN))), ?_⟩
 refine TL ?_
 refine RN ?_
 refine GS ?_
 refine TF 1 ?_
 refine RS (ok_loadA (s := 1000005) (by decide) Try.underlying31 rfl (size31.of (by rw [use_cells2 (by rw [List.length_map, List.length_take, hb]; rfl), useOf_row hb, usV_length (useOf_fit hb)])) rfl rfl) ?_; refine RZ (aggV (usV (useOf b))) (congrArg aggV ((use_cells2 (by rw [List.length_map, List.length_take, hb]; rfl) _ _ _ _).trans (useOf_row hb))) ?_
 refine RN ?_
 refine ⟨_, eff_storeA (n := 42) (s := 1000002) (size31.of (usV_length (useOf_fit hb))) rfl rfl (usV_one _) hBb2 rfl (by rw [usV_length (useOf_fit hb)]; rfl) (LV 2 rfl (LB 1000005 rfl LN)), ?_⟩
 refine TL ?_
 refine RN ?_
 refine A.ret ?_
 exact End.cell1 (s := 1000002) rfl Try.underlying31 rfl (size31.of (usV_length (useOf_fit hb))) rfl rfl (Le.refl _)
def usZ : Us := ⟨List.replicate 16 0, 0, 0, 0, 0⟩
theorem usZ_fit : usZ.Fit := ⟨rfl, by decide, by decide, by decide, by decide⟩
def lineOk (l : List UInt8) : Bool := decide (l.length = 72) && l.all isDig
def lineE (l : List UInt8) (ended : Bool) : Int := if ended && lineOk l then (if (useOf (unhex l)).ok then 0 else 1) else 5
theorem unhex_length {l : List UInt8} (h : l.length = 72) : (unhex l).length = 36 := by rw [unhex, parL_length, h]
theorem readLine_A (l : List UInt8)  : Fn Try.prog 44 [.v (strV l), .v (.bool false)] (.v (.tuple #[aggV (usV usZ), .int .i64 5])) := by
 refine Fn.of Try.func44 rfl (by kernel_rfl) Try.ntmps44 (by simp) (fun w => [(0, .v (strV l)), (1, .v (.bool false))]) (fun w => (Start.v rfl (Start.v rfl Start.nil))) fun w₀ => ?_
 refine GS ?_
 refine TN 0 ?_
 refine RN ?_
 refine ⟨_, _, eff_alloc (n := 33) (d := 4) (k := 1000004) zero31 (by decide), fun b4 hb4 => ?_⟩
 have hBb4 := hb4.1
 refine TL ?_
 refine RA rfl ?_
 refine RN ?_
 refine A.seq ?_
 refine GS ?_
 refine TL ?_
 refine RM rfl ?_
 refine RS (ok_not rfl) ?_; refine RZ (.bool true) (rfl) ?_
 refine RM rfl ?_
 refine RK ?_
 refine RK ?_
 refine RK ?_
 refine RP rfl rfl ?_; refine RZ (.bool true) (rfl) ?_
 refine RN ?_
 refine A.yes rfl ?_
 refine GS ?_
 refine TF 1 ?_
 refine RS (ok_lit [] (List.replicate 16 (.int .u8 0) ++ [.int .u32 0] ++ [.int .u64 0] ++ [.int .u32 0] ++ [.int .u32 0]) (fun _ _ => rfl) (by kernel_rfl)) ?_
 refine RN ?_
 refine ⟨_, eff_storeA (n := 33) (s := 1000004) (size31.of (rfl)) rfl rfl (rfl) hBb4 rfl (rfl) (LV 4 rfl LN), ?_⟩
 refine TL ?_
 refine RA rfl ?_
 refine RN ?_
 refine A.ret ?_
 refine End.ret_then ?_
 exact End.cellV (s := 1000004) rfl Try.underlying31 rfl (size31.of rfl) rfl rfl rfl
theorem readLine_B (l : List UInt8) (h : l.length ≠ 72) : Fn Try.prog 44 [.v (strV l), .v (.bool true)] (.v (.tuple #[aggV (usV usZ), .int .i64 5])) := by
 refine Fn.of Try.func44 rfl (by kernel_rfl) Try.ntmps44 (by simp) (fun w => [(0, .v (strV l)), (1, .v (.bool true))]) (fun w => (Start.v rfl (Start.v rfl Start.nil))) fun w₀ => ?_
 refine GS ?_
 refine TN 0 ?_
 refine RN ?_
 refine ⟨_, _, eff_alloc (n := 33) (d := 4) (k := 1000004) zero31 (by decide), fun b4 hb4 => ?_⟩
 have hBb4 := hb4.1
 refine TL ?_
 refine RA rfl ?_
 refine RN ?_
 refine A.seq ?_
 refine GS ?_
 refine TL ?_
 refine RM rfl ?_
 refine RS (ok_not rfl) ?_; refine RZ (.bool false) (rfl) ?_
 refine RM rfl ?_
 refine RQ (ok_move rfl) ?_
 refine RQ (ok_lenT Try.underlying9 rfl) ?_
 refine RQ (ok_bin rfl rfl rfl) ?_; refine RZ (.bool true) (by simp; omega) ?_
 refine RP rfl rfl ?_; refine RZ (.bool true) (rfl) ?_
 refine RN ?_
 refine A.yes rfl ?_
 refine GS ?_
 refine TF 1 ?_
 refine RS (ok_lit [] (List.replicate 16 (.int .u8 0) ++ [.int .u32 0] ++ [.int .u64 0] ++ [.int .u32 0] ++ [.int .u32 0]) (fun _ _ => rfl) (by kernel_rfl)) ?_
 refine RN ?_
 refine ⟨_, eff_storeA (n := 33) (s := 1000004) (size31.of (rfl)) rfl rfl (rfl) hBb4 rfl (rfl) (LV 4 rfl LN), ?_⟩
 refine TL ?_
 refine RA rfl ?_
 refine RN ?_
 refine A.ret ?_
 refine End.ret_then ?_
 exact End.cellV (s := 1000004) rfl Try.underlying31 rfl (size31.of rfl) rfl rfl rfl
theorem readLine_C (l : List UInt8) (h : l.length = 72) (hd : ¬ l.all isDig = true) : Fn Try.prog 44 [.v (strV l), .v (.bool true)] (.v (.tuple #[aggV (usV usZ), .int .i64 5])) := by
 refine Fn.of Try.func44 rfl (by kernel_rfl) Try.ntmps44 (by simp) (fun w => [(0, .v (strV l)), (1, .v (.bool true))]) (fun w => (Start.v rfl (Start.v rfl Start.nil))) fun w₀ => ?_
 refine GS ?_
 refine TN 0 ?_
 refine RN ?_
 refine ⟨_, _, eff_alloc (n := 33) (d := 4) (k := 1000004) zero31 (by decide), fun b4 hb4 => ?_⟩
 have hBb4 := hb4.1
 refine TL ?_
 refine RA rfl ?_
 refine RN ?_
 refine A.seq ?_
 refine GS ?_
 refine TL ?_
 refine RM rfl ?_
 refine RS (ok_not rfl) ?_; refine RZ (.bool false) (rfl) ?_
 refine RM rfl ?_
 refine RQ (ok_move rfl) ?_
 refine RQ (ok_lenT Try.underlying9 rfl) ?_
 refine RQ (ok_bin rfl rfl rfl) ?_; refine RZ (.bool false) (by simp; omega) ?_
 refine RP rfl rfl ?_; refine RZ (.bool false) (rfl) ?_
 refine RN ?_
 refine A.no rfl ?_
 refine A.skip ?_
 refine EN ?_
 refine GS ?_
 refine TL ?_
 refine RM rfl ?_
 refine RS (ok_call (readBytes_bad l (by omega) (by omega) hd) (A1 rfl)) ?_
 refine RM rfl ?_
 refine RS (ok_extractV (xs := [_, _]) rfl rfl) ?_
 refine RS (ok_extractV (xs := [_, _]) rfl rfl) ?_
 refine RA rfl ?_
 refine RA rfl ?_
 refine RN ?_
 refine A.seq ?_
 refine GS ?_
 refine TL ?_
 refine RM rfl ?_
 refine RS (ok_not rfl) ?_; refine RZ (.bool true) (rfl) ?_
 refine RN ?_
 refine A.yes rfl ?_
 refine GS ?_
 refine TF 1 ?_
 refine RS (ok_lit [] (List.replicate 16 (.int .u8 0) ++ [.int .u32 0] ++ [.int .u64 0] ++ [.int .u32 0] ++ [.int .u32 0]) (fun _ _ => rfl) (by kernel_rfl)) ?_
 refine RN ?_
 refine ⟨_, eff_storeA (n := 33) (s := 1000004) (size31.of (rfl)) rfl rfl (rfl) hBb4 rfl (rfl) (LV 4 rfl LN), ?_⟩
 refine TL ?_
 refine RA rfl ?_
 refine RN ?_
 refine A.ret ?_
 refine End.ret_then ?_
 exact End.cellV (s := 1000004) rfl Try.underlying31 rfl (size31.of rfl) rfl rfl rfl
theorem readLine_D (l : List UInt8) (h : l.length = 72) (hd : l.all isDig = true) (hv : (useOf (unhex l)).ok = false) : Fn Try.prog 44 [.v (strV l), .v (.bool true)] (.v (.tuple #[aggV (usV usZ), .int .i64 1])) := by
 have hfit : (useOf (unhex l)).Fit := useOf_fit (unhex_length h)
 refine Fn.of Try.func44 rfl (by kernel_rfl) Try.ntmps44 (by simp) (fun w => [(0, .v (strV l)), (1, .v (.bool true))]) (fun w => (Start.v rfl (Start.v rfl Start.nil))) fun w₀ => ?_
 refine GS ?_
 refine TN 0 ?_
 refine RN ?_
 refine ⟨_, _, eff_alloc (n := 33) (d := 4) (k := 1000004) zero31 (by decide), fun b4 hb4 => ?_⟩
 have hBb4 := hb4.1
 refine TL ?_
 refine RA rfl ?_
 refine RN ?_
 refine A.seq ?_
 refine GS ?_
 refine TL ?_
 refine RM rfl ?_
 refine RS (ok_not rfl) ?_; refine RZ (.bool false) (rfl) ?_
 refine RM rfl ?_
 refine RQ (ok_move rfl) ?_
 refine RQ (ok_lenT Try.underlying9 rfl) ?_
 refine RQ (ok_bin rfl rfl rfl) ?_; refine RZ (.bool false) (by simp; omega) ?_
 refine RP rfl rfl ?_; refine RZ (.bool false) (rfl) ?_
 refine RN ?_
 refine A.no rfl ?_
 refine A.skip ?_
 refine EN ?_
 refine GS ?_
 refine TN 1 ?_
 refine RM rfl ?_
 refine RN ?_
 refine ⟨_, _, eff_name (n := 33) (d := 19) (k := 1000019) rfl rfl (fun B' => ok_callB (readBytes_okB l (by omega) (by omega) hd) newD_mono (A1 rfl)) (by decide) (by decide), fun b19 hb19 => ?_⟩
 have hBb19 := hb19.1
 have hlt_b4_b19 : b4 < b19 := hb19.2 1000004 _ _ _ rfl
 refine TL ?_
 refine RM rfl ?_
 refine RS (ok_extractV (xs := [_, _]) rfl rfl) ?_
 refine RS (ok_extractV (xs := [_, _]) rfl rfl) ?_
 refine RA rfl ?_
 refine RA rfl ?_
 refine RN ?_
 refine A.seq ?_
 refine GS ?_
 refine TL ?_
 refine RM rfl ?_
 refine RS (ok_not rfl) ?_; refine RZ (.bool false) (rfl) ?_
 refine RN ?_
 refine A.no rfl ?_
 refine A.skip ?_
 refine EN ?_
 refine GS ?_
 refine TN 2 ?_
 refine RS (OpOk.fact (ok_move rfl) (d := byt (unhex l)) (s := 1000019) (by decide) rfl (slice_byt (unhex l) (by rw [unhex_length h, h]) (Nat.le_refl _) (by rw [h]; decide) (by rw [List.drop_zero, List.take_of_length_le (by rw [List.length_map, unhex_length h, h]; decide)]))) ?_
 refine RS (ok_call (readUse_fn (unhex l) (unhex_length h)) (A1 rfl)) ?_
 refine RN ?_
 refine ⟨_, _, eff_alloc (n := 33) (d := 8) (k := 1000008) zero31 (by decide), fun b8 hb8 => ?_⟩
 have hBb8 := hb8.1
 have hlt_b4_b8 : b4 < b8 := hb8.2 1000004 _ _ _ rfl
 refine TF 3 ?_
 refine RN ?_
 refine ⟨_, eff_storeA (n := 33) (s := 1000008) (size31.of (usV_length hfit)) rfl rfl (usV_one _) hBb8 rfl (by rw [usV_length hfit]; rfl) (LV 4 rfl (LV 8 rfl (LB 1000004 rfl (LT 1000019 rfl LN)))), ?_⟩
 refine TL ?_
 refine RN ?_
 refine A.seq ?_
 refine GS ?_
 refine TL ?_
 refine RS (ok_field field31_1 (by decide) rfl) ?_
 refine RS (ok_loadP (s := 1000008) (by decide) Try.underlying29 rfl size29 rfl rfl (us_fit hfit) (us_rng hfit)) ?_
 refine RS (ok_call (valid_fn (useOf (unhex l)).s (useOf (unhex l)).c (useOf (unhex l)).f (useOf (unhex l)).l) (A1 rfl)) ?_; refine RZ (.bool (useOf (unhex l)).ok) (rfl) ?_
 refine RS (ok_not rfl) ?_; refine RZ (.bool true) (congrArg (fun b => Value.bool (!b)) hv) ?_
 refine RN ?_
 refine A.sub (KC 4 rfl (KC 8 rfl (KC 30 rfl (KC 1000004 rfl (KC 1000008 rfl (KC 1000019 rfl KN)))))) ?_
 refine A.yes rfl ?_
 refine GS ?_
 refine TF 1 ?_
 refine RS (ok_lit [] (List.replicate 16 (.int .u8 0) ++ [.int .u32 0] ++ [.int .u64 0] ++ [.int .u32 0] ++ [.int .u32 0]) (fun _ _ => rfl) (by kernel_rfl)) ?_
 refine RN ?_
 refine ⟨_, eff_storeA (n := 33) (s := 1000004) (size31.of (rfl)) rfl rfl (rfl) hBb4 rfl (rfl) (LV 4 rfl (LB 1000008 rfl (LT 1000019 rfl LN))), ?_⟩
 refine TL ?_
 refine RA rfl ?_
 refine RN ?_
 refine A.ret ?_
 refine End.ret_then ?_
 exact End.cellV (s := 1000004) rfl Try.underlying31 rfl (size31.of rfl) rfl rfl rfl
theorem readLine_E (l : List UInt8) (h : l.length = 72) (hd : l.all isDig = true) (hv : (useOf (unhex l)).ok = true) : Fn Try.prog 44 [.v (strV l), .v (.bool true)] (.v (.tuple #[aggV (usV (useOf (unhex l))), .int .i64 0])) := by
 have hfit : (useOf (unhex l)).Fit := useOf_fit (unhex_length h)
 refine Fn.of Try.func44 rfl (by kernel_rfl) Try.ntmps44 (by simp) (fun w => [(0, .v (strV l)), (1, .v (.bool true))]) (fun w => (Start.v rfl (Start.v rfl Start.nil))) fun w₀ => ?_
 refine GS ?_
 refine TN 0 ?_
 refine RN ?_
 refine ⟨_, _, eff_alloc (n := 33) (d := 4) (k := 1000004) zero31 (by decide), fun b4 hb4 => ?_⟩
 have hBb4 := hb4.1
 refine TL ?_
 refine RA rfl ?_
 refine RN ?_
 refine A.seq ?_
 refine GS ?_
 refine TL ?_
 refine RM rfl ?_
 refine RS (ok_not rfl) ?_; refine RZ (.bool false) (rfl) ?_
 refine RM rfl ?_
 refine RQ (ok_move rfl) ?_
 refine RQ (ok_lenT Try.underlying9 rfl) ?_
 refine RQ (ok_bin rfl rfl rfl) ?_; refine RZ (.bool false) (by simp; omega) ?_
 refine RP rfl rfl ?_; refine RZ (.bool false) (rfl) ?_
 refine RN ?_
 refine A.no rfl ?_
 refine A.skip ?_
 refine EN ?_
 refine GS ?_
 refine TN 1 ?_
 refine RM rfl ?_
 refine RN ?_
 refine ⟨_, _, eff_name (n := 33) (d := 19) (k := 1000019) rfl rfl (fun B' => ok_callB (readBytes_okB l (by omega) (by omega) hd) newD_mono (A1 rfl)) (by decide) (by decide), fun b19 hb19 => ?_⟩
 have hBb19 := hb19.1
 have hlt_b4_b19 : b4 < b19 := hb19.2 1000004 _ _ _ rfl
 refine TL ?_
 refine RM rfl ?_
 refine RS (ok_extractV (xs := [_, _]) rfl rfl) ?_
 refine RS (ok_extractV (xs := [_, _]) rfl rfl) ?_
 refine RA rfl ?_
 refine RA rfl ?_
 refine RN ?_
 refine A.seq ?_
 refine GS ?_
 refine TL ?_
 refine RM rfl ?_
 refine RS (ok_not rfl) ?_; refine RZ (.bool false) (rfl) ?_
 refine RN ?_
 refine A.no rfl ?_
 refine A.skip ?_
 refine EN ?_
 refine GS ?_
 refine TN 2 ?_
 refine RS (OpOk.fact (ok_move rfl) (d := byt (unhex l)) (s := 1000019) (by decide) rfl (slice_byt (unhex l) (by rw [unhex_length h, h]) (Nat.le_refl _) (by rw [h]; decide) (by rw [List.drop_zero, List.take_of_length_le (by rw [List.length_map, unhex_length h, h]; decide)]))) ?_
 refine RS (ok_call (readUse_fn (unhex l) (unhex_length h)) (A1 rfl)) ?_
 refine RN ?_
 refine ⟨_, _, eff_alloc (n := 33) (d := 8) (k := 1000008) zero31 (by decide), fun b8 hb8 => ?_⟩
 have hBb8 := hb8.1
 have hlt_b4_b8 : b4 < b8 := hb8.2 1000004 _ _ _ rfl
 refine TF 3 ?_
 refine RN ?_
 refine ⟨_, eff_storeA (n := 33) (s := 1000008) (size31.of (usV_length hfit)) rfl rfl (usV_one _) hBb8 rfl (by rw [usV_length hfit]; rfl) (LV 4 rfl (LV 8 rfl (LB 1000004 rfl (LT 1000019 rfl LN)))), ?_⟩
 refine TL ?_
 refine RN ?_
 refine A.seq ?_
 refine GS ?_
 refine TL ?_
 refine RS (ok_field field31_1 (by decide) rfl) ?_
 refine RS (ok_loadP (s := 1000008) (by decide) Try.underlying29 rfl size29 rfl rfl (us_fit hfit) (us_rng hfit)) ?_
 refine RS (ok_call (valid_fn (useOf (unhex l)).s (useOf (unhex l)).c (useOf (unhex l)).f (useOf (unhex l)).l) (A1 rfl)) ?_; refine RZ (.bool (useOf (unhex l)).ok) (rfl) ?_
 refine RS (ok_not rfl) ?_; refine RZ (.bool false) (congrArg (fun b => Value.bool (!b)) hv) ?_
 refine RN ?_
 refine A.sub (KC 4 rfl (KC 8 rfl (KC 30 rfl (KC 1000004 rfl (KC 1000008 rfl (KC 1000019 rfl KN)))))) ?_
 refine A.no rfl ?_
 refine A.skip ?_
 refine EN ?_
 refine GS ?_
 refine TF 1 ?_
 refine RS (ok_loadA (s := 1000008) (by decide) Try.underlying31 rfl (size31.of (usV_length hfit)) rfl rfl) ?_
 refine RN ?_
 refine ⟨_, eff_storeA (n := 33) (s := 1000004) (size31.of (usV_length hfit)) rfl rfl (usV_one _) hBb4 rfl (by rw [usV_length hfit]; rfl) (LV 4 rfl (LB 1000008 rfl (LT 1000019 rfl LN))), ?_⟩
 refine TL ?_
 refine RA rfl ?_
 refine RN ?_
 refine A.ret ?_
 exact End.cellV (s := 1000004) rfl Try.underlying31 rfl (size31.of (usV_length hfit)) rfl rfl rfl
def lineU (l : List UInt8) (ended : Bool) : Us := if lineE l ended = 0 then useOf (unhex l) else usZ
theorem readLine_fn (l : List UInt8) (ended : Bool) : Fn Try.prog 44 [.v (strV l), .v (.bool ended)] (.v (.tuple #[aggV (usV (lineU l ended)), .int .i64 (lineE l ended)])) := by
 unfold lineU lineE lineOk
 cases ended with
 | false => exact readLine_A l
 | true =>
  by_cases h : l.length = 72
  ·by_cases hd : l.all isDig = true
   ·cases hv : (useOf (unhex l)).ok with
    | false => simpa [h, hd, hv] using readLine_D l h hd hv
    | true => simpa [h, hd, hv] using readLine_E l h hd hv
   ·simpa [h, hd] using readLine_C l h hd
  ·simpa [h] using readLine_B l h
theorem lineU_fit (l : List UInt8) (ended : Bool) : (lineU l ended).Fit := by
 unfold lineU; split
 ·rename_i h
  unfold lineE lineOk at h
  split at h
  ·rename_i h2
   simp only [Bool.and_eq_true, decide_eq_true_eq] at h2
   exact useOf_fit (unhex_length h2.2.1)
  ·cases h
 ·exact usZ_fit
def prs : Nat → List UInt8 → List Us → List Us × Nat × Int
 | 0, _, us => (us, 0, 0)
 | k + 1, r, us => if r = [] then (us, 0, 0) else
  if lineE (r.take (nl r)) (decide (nl r < r.length)) = 0 then prs k (r.drop (nl r + 1)) (us ++ [lineU (r.take (nl r)) (decide (nl r < r.length))]) else ([], us.length + 1, lineE (r.take (nl r)) (decide (nl r < r.length)))
theorem prs_fuel : ∀ (k m : Nat) (r : List UInt8) (us : List Us), r.length ≤ k → r.length ≤ m → prs k r us = prs m r us
 | 0, 0, _, _, _, _ => rfl
 | 0, m + 1, r, us, h, _ => by
  have : r = [] := List.length_eq_zero_iff.1 (by omega)
  subst this; simp [prs]
 | k + 1, 0, r, us, _, h => by
  have : r = [] := List.length_eq_zero_iff.1 (by omega)
  subst this; simp [prs]
 | k + 1, m + 1, r, us, h, h' => by
  unfold prs
  by_cases hr : r = []
  ·rw [if_pos hr, if_pos hr]
  ·rw [if_neg hr, if_neg hr]
   have hl : 0 < r.length := List.length_pos_iff.2 hr
   rw [prs_fuel k m _ _ (by simp only [List.length_drop]; omega) (by simp only [List.length_drop]; omega)]
structure PaG (l : List UInt8) (y : List UInt8 × List Us) : Prop where
 eq : prs y.1.length y.1 y.2 = prs l.length l []
 fit : Fits y.2
 len : y.1.length + 73 * y.2.length = l.length
theorem lineE_ok {l : List UInt8} {en : Bool} (h : lineE l en = 0) : en = true ∧ l.length = 72 := by
 unfold lineE lineOk at h
 split at h
 ·rename_i h2
  simp only [Bool.and_eq_true, decide_eq_true_eq] at h2
  exact ⟨h2.1, h2.2.1⟩
 ·cases h
theorem PaG.step {l : List UInt8} {y : List UInt8 × List Us} (h : PaG l y) (hr : y.1 ≠ []) : prs l.length l [] = if lineE (y.1.take (nl y.1)) (decide (nl y.1 < y.1.length)) = 0 then prs (y.1.length - 1) (y.1.drop (nl y.1 + 1)) (y.2 ++ [lineU (y.1.take (nl y.1)) (decide (nl y.1 < y.1.length))]) else ([], y.2.length + 1, lineE (y.1.take (nl y.1)) (decide (nl y.1 < y.1.length))) := by
 have hl : 0 < y.1.length := List.length_pos_iff.2 hr
 obtain ⟨k, hk⟩ : ∃ k, y.1.length = k + 1 := ⟨y.1.length - 1, by omega⟩
 rw [← h.eq]
 rw [show y.1.length - 1 = k by omega]
 conv => lhs; rw [hk]
 rw [prs, if_neg hr]
def paN (y : List UInt8 × List Us) : List UInt8 × List Us := (y.1.drop (nl y.1 + 1), y.2 ++ [lineU (y.1.take (nl y.1)) (decide (nl y.1 < y.1.length))])
theorem PaG.line {y : List UInt8 × List Us} (he : lineE (y.1.take (nl y.1)) (decide (nl y.1 < y.1.length)) = 0) : nl y.1 = 72 ∧ 73 ≤ y.1.length := by
 obtain ⟨h1, h2⟩ := lineE_ok he
 have h1 := of_decide_eq_true h1
 rw [List.length_take] at h2
 omega
theorem PaG.next {l : List UInt8} {y : List UInt8 × List Us} (h : PaG l y) (hr : y.1 ≠ []) (he : lineE (y.1.take (nl y.1)) (decide (nl y.1 < y.1.length)) = 0) : PaG l (paN y) := by
 obtain ⟨h1, h2⟩ := PaG.line he
 refine ⟨?_, h.fit.append fun u hu => by rw [List.mem_singleton.1 hu]; exact lineU_fit _ _, ?_⟩
 ·rw [h.step hr, if_pos he]
  unfold paN
  exact prs_fuel _ _ _ _ (Nat.le_refl _) (by simp only [List.length_drop]; omega)
 ·have := h.len
  simp only [paN, List.length_drop, List.length_append, List.length_cons, List.length_nil, h1]; omega
theorem PaG.less {y : List UInt8 × List Us} (hr : y.1 ≠ []) : (paN y).1.length < y.1.length := by
 have hl : 0 < y.1.length := List.length_pos_iff.2 hr
 simp only [paN, List.length_drop]; omega
theorem PaG.stop {l : List UInt8} {y : List UInt8 × List Us} (h : PaG l y) (hr : y.1 = []) : prs l.length l [] = (y.2, 0, 0) ∧ l.length / 73 = y.2.length := by
 have h1 := h.len
 rw [hr] at h1
 refine ⟨?_, by simp at h1; omega⟩
 rw [← h.eq, hr]; rfl
theorem PaG.good {l : List UInt8} {y : List UInt8 × List Us} (h : PaG l y) (hr : y.1 ≠ []) (hU : (prs l.length l []).2.2 = 0) : lineE (y.1.take (nl y.1)) (decide (nl y.1 < y.1.length)) = 0 := by
 rcases Decidable.em (lineE (y.1.take (nl y.1)) (decide (nl y.1 < y.1.length)) = 0) with he | he
 ·exact he
 ·rw [h.step hr, if_neg he] at hU; exact hU
def paR (l : List UInt8) (us : List Us) : List Value := usR us ++ (madeCells (aggV (List.replicate 16 (.int .u8 0) ++ rV 0 0 0 0)).cells (l.length / 73 * 20)).toList.drop (us.length * 20)
theorem paR_length {l : List UInt8} {us : List Us} (hf : Fits us) (h : us.length ≤ l.length / 73) : (paR l us).length = l.length / 73 * 20 := by
 have hm : (madeCells (aggV (List.replicate 16 (.int .u8 0) ++ rV 0 0 0 0)).cells (l.length / 73 * 20)).toList.length = l.length / 73 * 20 := (Array.length_toList).trans (size_madeCells _ _)
 unfold paR; rw [List.length_append, usR_length hf, List.length_drop, hm]; omega
theorem paR_next {l : List UInt8} {us : List Us} {u : Us} (hf : Fits us) (hu : u.Fit) : (paR l us).take (us.length * 20) ++ usV u ++ (paR l us).drop (us.length * 20 + 20) = paR l (us ++ [u]) := by
 unfold paR
 rw [List.take_append_of_le_length (by rw [usR_length hf]; omega), List.take_of_length_le (by rw [usR_length hf]; omega), List.drop_append, usR_length hf, List.drop_of_length_le (by rw [usR_length hf]; omega), List.nil_append, List.drop_drop, usR_append, usR_one]
 congr 2
 simp only [List.length_append, List.length_cons, List.length_nil]; omega
theorem paR_end {l : List UInt8} {us : List Us} (h : l.length / 73 = us.length) : paR l us = usR us := by
 unfold paR
 rw [List.drop_of_length_le (by rw [Array.length_toList, size_madeCells, h]; exact Nat.le_refl _), List.append_nil]
theorem quo73 {n : Nat} (h : n ≤ 1048576) : Value.int .i64 (IntKind.i64.wrap (((n : Nat) : Int).tdiv 73)) = nI (n / 73) := by
 rw [Int.tdiv_eq_ediv_of_nonneg (by omega), wrap_i64 (by omega) (by omega)]; rfl
theorem Parse_big (l : List UInt8) (h : 1048576 < l.length) : Fn Try.prog 23 [.v (strV l)] (.v (.tuple #[aggV [.slice none 0 0], .int .i64 0, .int .i64 3])) := by
 refine Fn.of Try.func23 rfl (by kernel_rfl) Try.ntmps23 (by simp) (fun w => [(0, .v (strV l))]) (fun w => (Start.v rfl Start.nil)) fun w₀ => ?_
 refine GS ?_
 refine TN 0 ?_
 refine RN ?_
 refine ⟨_, _, eff_alloc (n := 47) (d := 2) (k := 1000002) zero35 (by decide), fun b2 hb2 => ?_⟩
 have hBb2 := hb2.1
 refine TL ?_
 refine RA rfl ?_
 refine RA rfl ?_
 refine RN ?_
 refine A.seq ?_
 refine GS ?_
 refine TL ?_
 refine RM rfl ?_
 refine RS (ok_lenT Try.underlying9 rfl) ?_
 refine RBS rfl rfl rfl (.bool true) (by simp; omega) ?_
 refine RN ?_
 refine A.yes rfl ?_
 refine GS ?_
 refine TF 1 ?_
 refine RS (ok_lit [] [.slice none 0 0] (fun _ _ => rfl) (by kernel_rfl)) ?_
 refine RN ?_
 refine ⟨_, eff_storeA (n := 47) (s := 1000002) (size35.of (rfl)) rfl rfl (rfl) hBb2 rfl (rfl) (LV 2 rfl LN), ?_⟩
 refine TL ?_
 refine RA rfl ?_
 refine RA rfl ?_
 refine RN ?_
 refine A.ret ?_
 refine End.ret_then ?_
 exact End.cellVV (s := 1000002) rfl Try.underlying35 rfl (size35.of rfl) rfl rfl rfl rfl
theorem pa_ne (e : Int) : Value.bool (e != 0) = .bool (decide (e ≠ 0)) := by
 by_cases h : e = 0 <;> simp [h]
theorem pa_line {l : List UInt8} {y : List UInt8 × List Us} (hy : PaG l y) (hr : y.1 ≠ []) (he : ¬ lineE (y.1.take (nl y.1)) (decide (nl y.1 < y.1.length)) = 0) (hl : l.length ≤ 1048576) :
  Value.int .i64 (IntKind.i64.wrap ((y.2.length : Int) + 1)) = nI ((prs l.length l []).2.1) ∧ lineE (y.1.take (nl y.1)) (decide (nl y.1 < y.1.length)) = (prs l.length l []).2.2 := by
 have h1 := hy.len
 rw [hy.step hr, if_neg he]
 exact ⟨by rw [wrap_i64 (by omega) (by omega)]; rfl, rfl⟩
set_option maxHeartbeats 2000000 in
theorem Parse_okB (l : List UInt8) (hl : l.length ≤ 1048576) (hU : (prs l.length l []).2.2 = 0) : FnB Try.prog 23 [.v (strV l)] (fun B => newD B 31 (fun b => .tuple #[aggV [.slice (some ⟨b, 0, none⟩) (prs l.length l []).1.length (prs l.length l []).1.length], .int .i64 0, .int .i64 0]) (usR (prs l.length l []).1)) := by
 refine FnB.of Try.func23 rfl (by kernel_rfl) Try.ntmps23 (by simp) (fun w => [(0, .v (strV l))]) (fun w => (Start.v rfl Start.nil)) fun w₀ => ?_
 refine GS ?_
 refine TN 0 ?_
 refine RN ?_
 refine ⟨_, _, eff_alloc (n := 47) (d := 2) (k := 1000002) zero35 (by decide), fun b2 hb2 => ?_⟩
 have hBb2 := hb2.1
 refine TL ?_
 refine RA rfl ?_
 refine RA rfl ?_
 refine RN ?_
 refine A.seq ?_
 refine GS ?_
 refine TL ?_
 refine RM rfl ?_
 refine RS (ok_lenT Try.underlying9 rfl) ?_
 refine RBS rfl rfl rfl (.bool false) (by simp; omega) ?_
 refine RN ?_
 refine A.no rfl ?_
 refine A.skip ?_
 refine EN ?_
 refine GS ?_
 refine TN 3 ?_
 refine RM rfl ?_
 refine RS (ok_lenT Try.underlying9 rfl) ?_
 refine RS (ok_div rfl rfl (by decide)) ?_; refine RZ (nI (l.length / 73)) (quo73 hl) ?_
 refine RN ?_
 refine ⟨_, _, eff_name (n := 47) (d := 18) (k := 1000018) rfl rfl (fun B' => ok_make0K (l.length / 73) Try.underlying22 infoU (by decide) rfl rfl (by omega)) (by decide) (by decide), fun b18 hb18 => ?_⟩
 have hBb18 := hb18.1
 have hlt_b2_b18 : b2 < b18 := hb18.2 1000002 _ _ _ rfl
 refine TL ?_
 refine RA rfl ?_
 refine RN ?_
 refine A.seq ?_
 refine A.block ?_
 refine A.loop (ι := List UInt8 × List Us) (fun y => PaG l y) (fun y => [(0, .v (strV y.1)), (2, .v (.pointer (some ⟨b2, 0, none⟩))), (5, .v (.slice (some ⟨b18, 0, none⟩) y.2.length (l.length / 73))), (1000002, blk b2 35 [.slice none 0 0]), (1000018, blk b18 31 (paR l y.2))]) (fun y => y.1.length) (l, []) ?_ ?_ ?_
 ·exact ⟨rfl, (fun u hu => by cases hu), by simp⟩
 ·exact (KC 0 rfl (KC 2 rfl (KC 5 rfl (KC 1000002 rfl (KC 1000018 rfl KN)))))
 intro y hy
 refine A.seq ?_
 refine GS ?_
 refine TL ?_
 refine RM rfl ?_
 refine RS (ok_neqT0 rfl rfl) ?_
 refine RN ?_
 refine A.cond rfl (fun hc20 => ?_) (fun hc20 => ?_)
 ·have hr : y.1 ≠ [] := of_decide_eq_true hc20
  have he := hy.good hr hU
  refine A.skip ?_
  refine EN ?_
  refine A.block ?_
  refine GS ?_
  refine TL ?_
  refine RM rfl ?_
  refine RS (ok_call (Cut_fn y.1 (by have h1 := hy.len; omega)) (A2 rfl rfl)) ?_
  refine RM rfl ?_
  refine RS (ok_extractV (xs := [_, _, _]) rfl rfl) ?_
  refine RS (ok_extractV (xs := [_, _, _]) rfl rfl) ?_
  refine RS (ok_extractV (xs := [_, _, _]) rfl rfl) ?_
  refine RA rfl ?_
  refine RA rfl ?_
  refine RA rfl ?_
  refine RN ?_
  refine GS ?_
  refine TN 6 ?_
  refine RM rfl ?_
  refine RM rfl ?_
  refine RS (ok_call (readLine_fn (y.1.take (nl y.1)) (decide (nl y.1 < y.1.length))) (A2 rfl rfl)) ?_
  refine RM rfl ?_
  refine RS (ok_extractV (xs := [_, _]) rfl rfl) ?_
  refine RS (ok_extractV (xs := [_, _]) rfl rfl) ?_
  refine RN ?_
  refine ⟨_, _, eff_alloc (n := 47) (d := 9) (k := 1000009) zero31 (by decide), fun b9 hb9 => ?_⟩
  have hBb9 := hb9.1
  have hlt_b18_b9 : b18 < b9 := hb9.2 1000018 _ _ _ rfl
  refine TF 7 ?_
  refine RN ?_
  refine ⟨_, eff_storeA (n := 47) (s := 1000009) (size31.of (usV_length (lineU_fit _ _))) rfl rfl (usV_one _) hBb9 rfl (by rw [usV_length (lineU_fit _ _)]; rfl) (LV 2 rfl (LV 5 rfl (LV 7 rfl (LV 9 rfl (LV 32 rfl (LT 1000002 rfl (LB 1000018 rfl LN))))))), ?_⟩
  refine TL ?_
  refine RA rfl ?_
  refine RN ?_
  refine A.seq ?_
  refine GS ?_
  refine TL ?_
  refine RM rfl ?_
  refine RBS rfl rfl rfl (.bool false) (by rw [he]; rfl) ?_
  refine RN ?_
  refine A.no rfl ?_
  refine A.skip ?_
  refine EN ?_
  refine GS ?_
  refine TF 3 ?_
  refine RM rfl ?_
  refine RS (ok_loadA (s := 1000009) (by decide) Try.underlying31 rfl (size31.of (usV_length (lineU_fit _ _))) rfl rfl) ?_
  refine RS (ok_build1K Try.underlying22 infoU rfl (by decide) (by decide) rfl (usV_length (lineU_fit _ _))) ?_
  refine RN ?_
  refine ⟨_, eff_appendRoom (s := 1000018) (k := y.2.length) (c := l.length / 73) Try.underlying22 infoU rfl rfl (usV_length (lineU_fit _ _)) (usV_one _) (by have h1 := hy.len; have h2 := (PaG.line he).2; omega) hBb18 rfl (by rw [paR_length hy.fit (by have h1 := hy.len; omega)]; exact Nat.le_refl _) (fun q hq => by rw [Try.underlying22] at hq; cases hq) (by decide) (LV 2 rfl (LV 7 rfl (LT 1000002 rfl LN))), ?_⟩
  refine TL ?_
  refine RA rfl ?_
  refine RN ?_
  refine A.sub (KC 2 rfl (KC 5 rfl (KC 7 rfl (KC 1000002 rfl (KC 1000018 rfl KN))))) ?_
  refine GE ?_
  refine TL ?_
  refine RM rfl ?_
  refine RA rfl ?_
  refine RN ?_
  refine End.normal_block ?_
  refine End.normal_then ?_
  refine End.again (paN y) ?_ ?_ ?_
  ·exact hy.next hr he
  ·exact PaG.less hr
  ·exact (KC 0 rfl (KC 2 rfl (KE 5 rfl (by simp [paN]) (KC 1000002 rfl (KE 1000018 rfl (congrArg (blk b18 31) (paR_next hy.fit (lineU_fit _ _))) KN)))))
 ·have hr : y.1 = [] := Decidable.not_not.1 (of_decide_eq_false hc20)
  obtain ⟨hst, hcn⟩ := hy.stop hr
  refine A.exit ?_
  refine End.exit_then ?_
  refine End.exit_then ?_
  refine End.exit_here ?_
  refine EN ?_
  refine GS ?_
  refine TF 2 ?_
  refine RM rfl ?_
  refine RS (ok_litS [(0, .slice (some ⟨b18, 0, none⟩) y.2.length (l.length / 73))] [.slice (some ⟨b18, 0, none⟩) y.2.length (l.length / 73)] ⟨rfl, rfl, trivial⟩ (buildL _ _ _)) ?_
  refine RN ?_
  refine ⟨_, eff_storeA (n := 47) (s := 1000002) (size35.of (rfl)) rfl rfl (rfl) hBb2 rfl (rfl) (LV 2 rfl (LT 1000018 rfl LN)), ?_⟩
  refine TL ?_
  refine RA rfl ?_
  refine RA rfl ?_
  refine RN ?_
  refine A.ret ?_
  exact End.newVV (s := 1000002) (kg := 1000018) rfl Try.underlying35 rfl (size35.of rfl) rfl rfl rfl rfl rfl hBb18 (by rw [hst, hcn]) (by rw [hst]; exact paR_end hcn)
set_option maxHeartbeats 2000000 in
theorem Parse_bad (l : List UInt8) (hl : l.length ≤ 1048576) (hU : (prs l.length l []).2.2 ≠ 0) : Fn Try.prog 23 [.v (strV l)] (.v (.tuple #[aggV [.slice none 0 0], nI ((prs l.length l []).2.1), .int .i64 (prs l.length l []).2.2])) := by
 refine Fn.of Try.func23 rfl (by kernel_rfl) Try.ntmps23 (by simp) (fun w => [(0, .v (strV l))]) (fun w => (Start.v rfl Start.nil)) fun w₀ => ?_
 refine GS ?_
 refine TN 0 ?_
 refine RN ?_
 refine ⟨_, _, eff_alloc (n := 47) (d := 2) (k := 1000002) zero35 (by decide), fun b2 hb2 => ?_⟩
 have hBb2 := hb2.1
 refine TL ?_
 refine RA rfl ?_
 refine RA rfl ?_
 refine RN ?_
 refine A.seq ?_
 refine GS ?_
 refine TL ?_
 refine RM rfl ?_
 refine RS (ok_lenT Try.underlying9 rfl) ?_
 refine RBS rfl rfl rfl (.bool false) (by simp; omega) ?_
 refine RN ?_
 refine A.no rfl ?_
 refine A.skip ?_
 refine EN ?_
 refine GS ?_
 refine TN 3 ?_
 refine RM rfl ?_
 refine RS (ok_lenT Try.underlying9 rfl) ?_
 refine RS (ok_div rfl rfl (by decide)) ?_; refine RZ (nI (l.length / 73)) (quo73 hl) ?_
 refine RN ?_
 refine ⟨_, _, eff_name (n := 47) (d := 18) (k := 1000018) rfl rfl (fun B' => ok_make0K (l.length / 73) Try.underlying22 infoU (by decide) rfl rfl (by omega)) (by decide) (by decide), fun b18 hb18 => ?_⟩
 have hBb18 := hb18.1
 have hlt_b2_b18 : b2 < b18 := hb18.2 1000002 _ _ _ rfl
 refine TL ?_
 refine RA rfl ?_
 refine RN ?_
 refine A.seq ?_
 refine A.block ?_
 refine A.loop (ι := List UInt8 × List Us) (fun y => PaG l y) (fun y => [(0, .v (strV y.1)), (2, .v (.pointer (some ⟨b2, 0, none⟩))), (5, .v (.slice (some ⟨b18, 0, none⟩) y.2.length (l.length / 73))), (1000002, blk b2 35 [.slice none 0 0]), (1000018, blk b18 31 (paR l y.2))]) (fun y => y.1.length) (l, []) ?_ ?_ ?_
 ·exact ⟨rfl, (fun u hu => by cases hu), by simp⟩
 ·exact (KC 0 rfl (KC 2 rfl (KC 5 rfl (KC 1000002 rfl (KC 1000018 rfl KN)))))
 intro y hy
 refine A.seq ?_
 have hr : y.1 ≠ [] := fun h => hU (by rw [(hy.stop h).1])
 refine GS ?_
 refine TL ?_
 refine RM rfl ?_
 refine RS (ok_neqT0 rfl rfl) ?_; refine RZ (.bool true) (congrArg Value.bool (decide_eq_true hr)) ?_
 refine RN ?_
 refine A.yes rfl ?_
 refine A.skip ?_
 refine EN ?_
 refine A.block ?_
 refine GS ?_
 refine TL ?_
 refine RM rfl ?_
 refine RS (ok_call (Cut_fn y.1 (by have h1 := hy.len; omega)) (A2 rfl rfl)) ?_
 refine RM rfl ?_
 refine RS (ok_extractV (xs := [_, _, _]) rfl rfl) ?_
 refine RS (ok_extractV (xs := [_, _, _]) rfl rfl) ?_
 refine RS (ok_extractV (xs := [_, _, _]) rfl rfl) ?_
 refine RA rfl ?_
 refine RA rfl ?_
 refine RA rfl ?_
 refine RN ?_
 refine GS ?_
 refine TN 6 ?_
 refine RM rfl ?_
 refine RM rfl ?_
 refine RS (ok_call (readLine_fn (y.1.take (nl y.1)) (decide (nl y.1 < y.1.length))) (A2 rfl rfl)) ?_
 refine RM rfl ?_
 refine RS (ok_extractV (xs := [_, _]) rfl rfl) ?_
 refine RS (ok_extractV (xs := [_, _]) rfl rfl) ?_
 refine RN ?_
 refine ⟨_, _, eff_alloc (n := 47) (d := 9) (k := 1000009) zero31 (by decide), fun b9 hb9 => ?_⟩
 have hBb9 := hb9.1
 have hlt_b18_b9 : b18 < b9 := hb9.2 1000018 _ _ _ rfl
 refine TF 7 ?_
 refine RN ?_
 refine ⟨_, eff_storeA (n := 47) (s := 1000009) (size31.of (usV_length (lineU_fit _ _))) rfl rfl (usV_one _) hBb9 rfl (by rw [usV_length (lineU_fit _ _)]; rfl) (LV 2 rfl (LV 5 rfl (LV 7 rfl (LV 9 rfl (LV 32 rfl (LT 1000002 rfl (LB 1000018 rfl LN))))))), ?_⟩
 refine TL ?_
 refine RA rfl ?_
 refine RN ?_
 refine A.seq ?_
 refine GS ?_
 refine TL ?_
 refine RM rfl ?_
 refine RBS rfl rfl rfl (.bool (decide ((lineE (y.1.take (nl y.1)) (decide (nl y.1 < y.1.length))) ≠ 0))) (pa_ne _) ?_
 refine RN ?_
 refine A.cond rfl (fun hc34 => ?_) (fun hc34 => ?_)
 ·have he := of_decide_eq_true hc34
  refine GS ?_
  refine TF 5 ?_
  refine RS (ok_lit [] [.slice none 0 0] (fun _ _ => rfl) (by kernel_rfl)) ?_
  refine RM rfl ?_
  refine RS (ok_lenV Try.underlying22 rfl) ?_
  refine RBS rfl rfl rfl (nI ((prs l.length l []).2.1)) ((pa_line hy hr he hl).1) ?_
  refine RM rfl ?_; refine RZ (.int .i64 (prs l.length l []).2.2) (congrArg (Value.int .i64) (pa_line hy hr he hl).2) ?_
  refine RN ?_
  refine ⟨_, eff_storeA (n := 47) (s := 1000002) (size35.of (rfl)) rfl rfl (rfl) hBb2 rfl (rfl) (LV 2 rfl (LV 38 rfl (LV 39 rfl (LT 1000009 rfl (LT 1000018 rfl LN))))), ?_⟩
  refine TL ?_
  refine RA rfl ?_
  refine RA rfl ?_
  refine RN ?_
  refine A.sub (KC 2 rfl (KC 3 rfl (KC 4 rfl (KC 1000002 rfl (KC 1000009 rfl (KC 1000018 rfl KN)))))) ?_
  refine A.ret ?_
  refine End.ret_then ?_
  refine End.ret_block ?_
  refine End.ret_then ?_
  refine End.ret_block ?_
  refine End.ret_then ?_
  exact End.cellVV (s := 1000002) rfl Try.underlying35 rfl (size35.of rfl) rfl rfl rfl rfl
 ·have he := Decidable.not_not.1 (of_decide_eq_false hc34)
  refine A.skip ?_
  refine EN ?_
  refine GS ?_
  refine TF 3 ?_
  refine RM rfl ?_
  refine RS (ok_loadA (s := 1000009) (by decide) Try.underlying31 rfl (size31.of (usV_length (lineU_fit _ _))) rfl rfl) ?_
  refine RS (ok_build1K Try.underlying22 infoU rfl (by decide) (by decide) rfl (usV_length (lineU_fit _ _))) ?_
  refine RN ?_
  refine ⟨_, eff_appendRoom (s := 1000018) (k := y.2.length) (c := l.length / 73) Try.underlying22 infoU rfl rfl (usV_length (lineU_fit _ _)) (usV_one _) (by have h1 := hy.len; have h2 := (PaG.line he).2; omega) hBb18 rfl (by rw [paR_length hy.fit (by have h1 := hy.len; omega)]; exact Nat.le_refl _) (fun q hq => by rw [Try.underlying22] at hq; cases hq) (by decide) (LV 2 rfl (LV 7 rfl (LT 1000002 rfl LN))), ?_⟩
  refine TL ?_
  refine RA rfl ?_
  refine RN ?_
  refine A.sub (KC 2 rfl (KC 5 rfl (KC 7 rfl (KC 1000002 rfl (KC 1000018 rfl KN))))) ?_
  refine GE ?_
  refine TL ?_
  refine RM rfl ?_
  refine RA rfl ?_
  refine RN ?_
  refine End.normal_block ?_
  refine End.normal_then ?_
  refine End.again (paN y) ?_ ?_ ?_
  ·exact hy.next hr he
  ·exact PaG.less hr
  ·exact (KC 0 rfl (KC 2 rfl (KE 5 rfl (by simp [paN]) (KC 1000002 rfl (KE 1000018 rfl (congrArg (blk b18 31) (paR_next hy.fit (lineU_fit _ _))) KN)))))
end Go.Proofs.Ythhmimnkfklhdaa
