/-
  OWN TEXTS of this seat, put together, part 6: C11j, C11k, C11l, C11m, C11n.
-/
import Derived.Test.YthhmimnkfklhdaaM1
import Derived.Test.YthhmimnkfklhdaaM5
namespace Go.Proofs.Ythhmimnkfklhdaa
open Go Go.RowKit
set_option linter.unusedVariables false
set_option maxRecDepth 20000
set_option linter.unusedSimpArgs false
theorem buildX (A₀ : Option Addr) (m c : Nat) : Try.prog.built 50 [(0, .slice A₀ m c)] = some ([.slice A₀ m c] : List Value).toArray := by kernel_rfl
theorem q4_one (m : Q4) : q4R [m] = q4V m := by simp [q4R]
theorem us_one (m : Q4) : ((usR (usOf [m])).drop (0 * 20)).take 20 = usV (ofU m) := by
 have := usR_at (us := usOf [m]) (i := 0) (usOf_fit [m]) (by simp [usOf])
 rw [this]; simp [usOf]

def anyU (us : List Us) (u : Us) (n : Nat) : Bool := (List.range n).any fun i => clB us[i]! u
theorem anyU_succ (us : List Us) (u : Us) (n : Nat) : anyU us u (n + 1) = (anyU us u n || clB us[n]! u) := by
 unfold anyU; rw [List.range_succ, List.any_append]; simp
theorem anyU_iff {us : List Us} {u : Us} {n : Nat} : anyU us u n = true ↔ ∃ i, i < n ∧ clB us[i]! u = true := by simp [anyU]
theorem app_at {us vs : List Us} {i : Nat} (h : i < us.length) : (us ++ vs)[i]! = us[i]! := by
 rw [getElem!_pos (us ++ vs) i (by rw [List.length_append]; omega), getElem!_pos us i h, List.getElem_append_left h]
theorem app_at2 {us vs : List Us} {i : Nat} (h : i < vs.length) : (us ++ vs)[us.length + i]! = vs[i]! := by
 rw [getElem!_pos (us ++ vs) _ (by rw [List.length_append]; omega), getElem!_pos vs i h, List.getElem_append_right (by omega)]; simp
theorem cAt_app {us vs : List Us} {j : Nat} (h : j < us.length) : cAt (us ++ vs) j = cAt us j := by
 rw [Bool.eq_iff_iff, cAt_iff, cAt_iff]
 constructor <;> rintro ⟨i, hi, hc⟩ <;> refine ⟨i, hi, ?_⟩
 ·rwa [app_at (by omega), app_at h] at hc
 ·rwa [app_at (by omega), app_at h]
theorem cAt_last {us : List Us} {u : Us} : cAt (us ++ [u]) us.length = anyU us u us.length := by
 rw [Bool.eq_iff_iff, cAt_iff, anyU_iff]
 have h0 : (us ++ [u])[us.length]! = u := app_at2 (us := us) (vs := [u]) (i := 0) (by simp)
 constructor <;> rintro ⟨i, hi, hc⟩ <;> refine ⟨i, hi, ?_⟩
 ·rwa [app_at hi, h0] at hc
 ·rwa [app_at hi, h0]
theorem rep_A {us : List Us} {u : Us} (h : repJ us < us.length) : repJ (us ++ [u]) = repJ us := by
 obtain ⟨a, b, c⟩ := lst1_spec (cAt us) us.length
 refine lst1_eq (by rw [List.length_append]; omega) (fun i hi => ?_) fun _ => ?_
 ·rw [cAt_app (by omega)]; exact b i hi
 ·rw [cAt_app h]; exact c h
theorem rep_lt {us : List Us} (h : ¬ repJ us < us.length) {i : Nat} (hi : i < us.length) : cAt us i = false := by
 obtain ⟨a, b, c⟩ := lst1_spec (cAt us) us.length
 exact b i (by unfold repJ at h; omega)
theorem rep_B1 {us : List Us} {u : Us} (h : ¬ repJ us < us.length) (ha : anyU us u us.length = true) : repJ (us ++ [u]) = us.length :=
 lst1_eq (by rw [List.length_append]; omega) (fun i hi => by rw [cAt_app hi]; exact rep_lt h hi) fun _ => by rw [cAt_last]; exact ha
theorem rep_B0 {us : List Us} {u : Us} (h : ¬ repJ us < us.length) (ha : anyU us u us.length = false) : repJ (us ++ [u]) = us.length + 1 :=
 lst1_eq (by simp) (fun i hi => by
  rcases Nat.lt_or_ge i us.length with h1 | h1
  ·rw [cAt_app h1]; exact rep_lt h h1
  ·rw [show i = us.length by omega, cAt_last]; exact ha) fun hh => by simp at hh
theorem repV_yes {us : List Us} (h : repJ us < us.length) : repV us = .tuple #[nI (repI us), nI (repJ us), .bool true] := by
 unfold repV rI rJ rF; rw [if_pos h, if_pos h, decide_eq_true h]
theorem repV_no {us : List Us} (h : ¬ repJ us < us.length) : repV us = .tuple #[.int .i64 0, .int .i64 0, .bool false] := by
 unfold repV rI rJ rF; rw [if_neg h, if_neg h, decide_eq_false h]
theorem refR_yes {us : List Us} (h : repJ us < us.length) : Value.tuple #[.int .i64 (refR us).1, .int .i64 (refR us).2] = .tuple #[nI (repI us), nI (repJ us)] := by unfold refR; rw [if_pos h]
theorem refR_no {us : List Us} (h : ¬ repJ us < us.length) : Value.tuple #[.int .i64 (refR us).1, .int .i64 (refR us).2] = .tuple #[.int .i64 (-1), .int .i64 (-1)] := by unfold refR; rw [if_neg h]
theorem ok_chk {us : List Us} (h : us.length ≤ 65536) (hok : ∀ u ∈ us, u.ok = true) : chkU us = 0 := by
 unfold chkU; rw [if_neg (by omega), if_pos (List.all_eq_true.2 hok)]
theorem usOf_chk (q : List Q4) : chkU (usOf q) = 0 := ok_chk (Nat.le_trans (usOf_len q) (by decide)) (usOf_ok q)
theorem one_chk (x : Q4) : chkU [ofU x] = 0 := ok_chk (by simp) fun u hu => by rw [List.mem_singleton.1 hu]; exact ofU_ok x

set_option maxHeartbeats 4000000 in
theorem LRep_A (q : List Q4) (m : Q4) (hJ : repJ (usOf q) < (usOf q).length) : Fn Try.prog 4 [hdD (rowD q.length (q4R q)) [], .v (aggV (q4V m))] (.v (.bool true)) := by
 have hln : ((usOf q) ++ [(ofU m)]).length ≤ 1099511627776 := by rw [List.length_append]; have := usOf_len q; simp; omega
 have hok : ∀ v ∈ (usOf q) ++ [(ofU m)], v.ok = true := fun v hv => (List.mem_append.1 hv).elim (usOf_ok q v) (fun h => by rw [List.mem_singleton.1 h]; exact ofU_ok m)
 refine Fn.of Try.func4 rfl (by kernel_rfl) Try.ntmps4 (by simp) (fun w => [(0, old w.heap.size (hdD (rowD q.length (q4R q)) [])), (1, .v (aggV (q4V m)))]) (fun w => (Start.old rfl (Start.v rfl Start.nil))) fun w₀ => ?_
 refine A.nameHdR (t := 0) (k := 1000200) rfl fun A₀ q₀ => ?_
 refine GS ?_
 refine TN 0 ?_
 refine RN ?_
 refine ⟨_, _, eff_box (n := 157) (d := 2) (k := 1000002) rfl (by decide), fun b2 hb2 => ?_⟩
 have hBb2 := hb2.1
 refine TN 1 ?_
 refine RN ?_
 refine ⟨_, _, eff_box (n := 157) (d := 3) (k := 1000003) rfl (by decide), fun b3 hb3 => ?_⟩
 have hBb3 := hb3.1
 refine TL ?_
 refine RA rfl ?_
 refine RN ?_
 refine GS ?_
 refine TL ?_
 refine RS (OpOk.hdRow (ok_loadA (s := 1000002) (by decide) Try.underlying50 rfl (size50.of (rfl)) rfl rfl) (k := 1000200) (by decide) rfl) ?_
 refine RS (ok_call (Of11_fn q) (Args.cons rfl (Le.old _ _) Args.nil)) ?_
 refine RA rfl ?_
 refine RN ?_
 refine A.raise (fun w => [(2, .v (.pointer (some ⟨b2, 0, none⟩))), (1000002, blk b2 50 [.slice A₀ q.length q₀]), (3, .v (.pointer (some ⟨b3, 0, none⟩))), (1000003, blk b3 51 (q4V m)), (1000200, old w.heap.size (memR A₀ (q4R q))), (5, old w.heap.size (rowD (usOf q).length (usR (usOf q))))]) (fun w => (UpTo.same (t := 2) rfl (UpTo.same (t := 1000002) rfl (UpTo.same (t := 3) rfl (UpTo.same (t := 1000003) rfl (UpTo.old (t := 1000200) rfl (UpTo.new (t := 5) rfl UpTo.nil))))))) fun w₀ hgw => ?_
 refine A.nameR (t := 5) (k := 1000205) rfl fun A₅ q₅ => ?_
 refine GS ?_
 refine TL ?_
 refine RS (OpOk.rowO (ok_move rfl) (k := 1000205) (by decide) rfl) ?_
 refine RS (ok_call (of11_fn (usOf q).length (usR (usOf q))) (Args.cons rfl (Le.old _ _) Args.nil)) ?_
 refine RS (ok_call (Repeats_fn (usOf q) (usOf_fit q) (Nat.le_trans (usOf_len q) (by decide)) (usOf_chk q)) (A1 rfl)) ?_; refine RZ (.tuple #[nI (repI (usOf q)), nI (repJ (usOf q)), .bool true]) (repV_yes hJ) ?_
 refine RM rfl ?_
 refine RS (ok_extractV (xs := [_, _, _]) rfl rfl) ?_
 refine RS (ok_extractV (xs := [_, _, _]) rfl rfl) ?_
 refine RS (ok_extractV (xs := [_, _, _]) rfl rfl) ?_
 refine RA rfl ?_
 refine RA rfl ?_
 refine RA rfl ?_
 refine RN ?_
 refine GS ?_
 refine TL ?_
 refine RS (OpOk.rowO (ok_move rfl) (k := 1000205) (by decide) rfl) ?_
 refine RS (ok_call (refRepeat_fn (usOf q) (usOf_fit q) (Nat.le_trans (usOf_len q) (by decide))) (Args.cons rfl (Le.old _ _) Args.nil)) ?_; refine RZ (.tuple #[nI (repI (usOf q)), nI (repJ (usOf q))]) (refR_yes hJ) ?_
 refine RM rfl ?_
 refine RS (ok_extractV (xs := [_, _]) rfl rfl) ?_
 refine RS (ok_extractV (xs := [_, _]) rfl rfl) ?_
 refine RA rfl ?_
 refine RA rfl ?_
 refine RN ?_
 refine A.seq ?_
 refine GS ?_
 refine TL ?_
 refine RM rfl ?_
 refine RM rfl ?_
 refine RBS rfl rfl rfl (.bool true) (by simp) ?_
 refine RS (ok_neBool Try.underlying4 rfl rfl) ?_; refine RZ (.bool false) (by rfl) ?_
 refine RM rfl ?_
 refine RQ (ok_move rfl) ?_
 refine RQ (ok_move rfl) ?_
 refine RQ (ok_move rfl) ?_
 refine RQ (ok_move rfl) ?_
 refine RQ (ok_bin rfl rfl rfl) ?_; refine RZ (.bool false) (by simp) ?_
 refine RQ (ok_move rfl) ?_
 refine RQ (ok_move rfl) ?_
 refine RQ (ok_move rfl) ?_
 refine RQ (ok_bin rfl rfl rfl) ?_; refine RZ (.bool false) (by simp) ?_
 refine RQ (ok_pick rfl rfl) ?_
 refine RQ (ok_pick rfl rfl) ?_
 refine RP rfl rfl ?_
 refine RM rfl ?_
 refine RQ (ok_move rfl) ?_
 refine RQ (ok_not rfl) ?_; refine RZ (.bool false) (by rfl) ?_
 refine RQ (ok_move rfl) ?_
 refine RK ?_
 refine RK ?_
 refine RK ?_
 refine RunK.skippedU rfl rfl rfl rfl ?_
 refine RunK.skippedU rfl rfl rfl rfl ?_
 refine RK ?_
 refine RQ (ok_pick rfl rfl) ?_
 refine RP rfl rfl ?_
 refine RN ?_
 refine A.sub (KC 2 rfl (KC 3 rfl (KC 5 rfl (KC 7 rfl (KC 8 rfl (KC 63 rfl (KC 1000002 rfl (KC 1000003 rfl (KC 1000200 rfl (KC 1000205 rfl KN)))))))))) ?_
 refine A.no rfl ?_
 refine A.skip ?_
 refine EN ?_
 refine GS ?_
 refine TN 6 ?_
 refine RS (ok_loadA (s := 1000003) (by decide) Try.underlying51 rfl (size51.of (rfl)) rfl rfl) ?_
 refine RS (ok_build1K Try.underlying48 infoQ rfl (by decide) (by decide) rfl rfl) ?_
 refine RS (ok_buildS [] rfl rfl (fun _ _ _ h => oneP_slice h) trivial (fun A m c => buildX A m c)) ?_
 refine RS (ok_call (Of11_fn [m]) (Args.cons rfl (hd_le (oneP_rowD.trans (Le.eq (congrArg (rowD 1) (q4_one m).symm)))) Args.nil)) ?_
 refine RS (ok_indexRD 0 Try.underlying22 infoU rfl (Le.refl _) rfl (by simp [usOf]) (by rw [usR_length (usOf_fit [m])]; simp [usOf])) ?_
 refine RS (ok_loadElemP Try.underlying31 rfl (size31.of (by rw [us_one, usV_length (ofU_fit m)])) rfl) ?_; refine RZ (aggV (usV (ofU m))) (congrArg aggV (us_one m)) ?_
 refine RN ?_
 refine ⟨_, _, eff_alloc (n := 157) (d := 11) (k := 1000011) zero31 (by decide), fun b11 hb11 => ?_⟩
 have hBb11 := hb11.1
 refine TF 7 ?_
 refine RN ?_
 refine ⟨_, eff_storeA (n := 157) (s := 1000011) (size31.of (usV_length (ofU_fit m))) rfl rfl (usV_one _) hBb11 rfl (by rw [usV_length (ofU_fit m)]; rfl) (LV 2 rfl (LV 5 rfl (LV 7 rfl (LV 8 rfl (LV 11 rfl (LT 1000002 rfl (LT 1000003 rfl (LO 1000200 rfl (LO 1000205 rfl LN))))))))), ?_⟩
 refine TL ?_
 refine RN ?_
 refine A.dup (k := 1000011) (k' := 1000311) rfl (fun _ _ _ _ h => h) ?_
 refine A.regsLH _ (fun B => (OldH.same (t := 2) rfl (OldH.same (t := 5) rfl (OldH.same (t := 7) rfl (OldH.same (t := 8) rfl (OldH.same (t := 11) rfl (OldH.p (t := 1000002) rfl (OldH.p (t := 1000003) rfl (OldH.p (t := 1000011) rfl (OldH.p (t := 1000200) rfl (OldH.p (t := 1000205) rfl (OldH.same (t := 1000311) rfl OldH.nil)))))))))))) 8 [6] (by kernel_rfl) (by kernel_rfl) (by kernel_rfl) (by kernel_rfl) (fun B => [(2, .v (.pointer (some ⟨b2, 0, none⟩))), (1000002, blk b2 50 [.slice A₀ q.length q₀]), (1000200, old w₀.heap.size (memR A₀ (q4R q))), (5, .v (.slice A₅ (usOf q).length q₅)), (1000205, old w₀.heap.size (memR A₅ (usR (usOf q)))), (7, .v (nI (repJ (usOf q)))), (8, .v (.bool true)), (1000011, blk b11 31 (usV (ofU m))), (11, .v (.pointer (some ⟨b11, 0, none⟩))), (12, freshN B [b11] 35 31 ((usOf q).length + 1) (usR ((usOf q) ++ [(ofU m)]))), (13, .v (.int .i64 0))]) (fun B hB => ?_) (fun B hB => ?_)
 ·refine RS (OpOk.rowO2 (ok_move rfl) (k := 1000205) (by decide) rfl) ?_
  refine RS (ok_call (of11_fn (usOf q).length (usR (usOf q))) (Args.cons rfl (Le.old _ _) Args.nil)) ?_
  refine RS (ok_loadA (s := 1000311) (by decide) Try.underlying31 rfl (size31.of (usV_length (ofU_fit m))) rfl rfl) ?_
  refine RS (ok_callB (Add_okB (usOf q) (ofU m) (usOf_fit q) (ofU_fit m) (Nat.le_trans (usOf_len q) (by decide)) (usOf_chk q) (one_chk m) (by have := usOf_len q; omega)) newD_mono (A2 rfl rfl)) ?_
  refine RM rfl ?_
  refine RS (ok_extractN (f := fun b => [aggV [.slice (some ⟨b, 0, none⟩) ((usOf q).length + 1) ((usOf q).length + 1)], .int .i64 0]) rfl (fun _ => rfl)) ?_
  refine RS (ok_extractC (f := fun b => [aggV [.slice (some ⟨b, 0, none⟩) ((usOf q).length + 1) ((usOf q).length + 1)], .int .i64 0]) rfl (fun _ => rfl)) ?_
  refine RS (ok_allocF [b11] zero35 (Named.cons (s := 1000311) (by decide) rfl Named.nil)) ?_
  refine RN ?_
  intro S hS
  simp only [subs, List.map_cons, List.map_nil, List.cons_append, List.nil_append, List.mem_cons, List.not_mem_nil, or_false] at hS
  rcases hS with rfl | rfl
  ·refine ⟨1, Nat.le_of_ble_eq_true (by kernel_rfl), _, (KC 2 rfl (KC 5 rfl (KC 7 rfl (KC 8 rfl (KC 11 rfl (KC 12 rfl (KC 70 rfl (KC 71 rfl (KC 72 rfl (KC 73 rfl (KC 74 rfl (KC 75 rfl (KC 76 rfl (KC 1000002 rfl (KC 1000003 rfl (KC 1000011 rfl (KC 1000200 rfl (KC 1000205 rfl (KC 1000311 rfl KN))))))))))))))))))), by kernel_rfl, _, rfl, _, eff_storeFM (n := 157) size35 (Nat.le_refl _) rfl rfl rfl (by decide) (Nat.le_refl _) (fun b hb => (LV 2 rfl (LV 5 rfl (LV 7 rfl (LV 8 rfl (LV 11 rfl (LeftS.cons (t := 70) rfl (Surv.newD (by decide)) (LeftS.cons (t := 71) rfl (Surv.old hb) (LV 73 rfl (LV 76 rfl (LeftS.cons (t := 1000002) rfl (Surv.old hb) (LeftS.cons (t := 1000003) rfl (Surv.old hb) (LeftS.cons (t := 1000011) rfl (Surv.old hb) (LeftS.cons (t := 1000200) rfl (Surv.old hb) (LeftS.cons (t := 1000205) rfl (Surv.old hb) LN))))))))))))))), ?_⟩
   refine AnyT.step 9 [] (by kernel_rfl) ?_
   refine NextT.pure (by kernel_rfl) rfl rfl rfl (ok_assign rfl) ?_ ?_
   ·refine AnyT.last (by kernel_rfl) ?_
    exact (SubL.cons (t := 2) rfl (Le.refl _) (SubL.cons (t := 1000002) rfl (Le.old _ _) (SubL.cons (t := 1000200) rfl (Le.old _ _) (SubL.cons (t := 5) rfl (Le.refl _) (SubL.cons (t := 1000205) rfl (Le.old _ _) (SubL.cons (t := 7) rfl (Le.refl _) (SubL.cons (t := 8) rfl (Le.refl _) (SubL.cons (t := 1000011) rfl (Le.old _ _) (SubL.cons (t := 11) rfl (Le.refl _) (SubL.cons (t := 12) rfl (Le.refl _) (SubL.cons (t := 13) rfl (Le.refl _) SubL.nil)))))))))))
   exact trivial
  ·refine ⟨2, Nat.le_of_ble_eq_true (by kernel_rfl), _, (KC 2 rfl (KC 5 rfl (KC 7 rfl (KC 8 rfl (KC 11 rfl (KC 12 rfl (KC 70 rfl (KC 71 rfl (KC 72 rfl (KC 73 rfl (KC 74 rfl (KC 75 rfl (KC 1000002 rfl (KC 1000003 rfl (KC 1000011 rfl (KC 1000200 rfl (KC 1000205 rfl (KC 1000311 rfl KN)))))))))))))))))), by kernel_rfl, _, rfl, _, eff_storeFM (n := 157) size35 (Nat.le_refl _) rfl rfl rfl (by decide) (Nat.le_refl _) (fun b hb => (LV 2 rfl (LV 5 rfl (LV 7 rfl (LV 8 rfl (LV 11 rfl (LeftS.cons (t := 70) rfl (Surv.newD (by decide)) (LeftS.cons (t := 71) rfl (Surv.old hb) (LV 73 rfl (LeftS.cons (t := 1000002) rfl (Surv.old hb) (LeftS.cons (t := 1000003) rfl (Surv.old hb) (LeftS.cons (t := 1000011) rfl (Surv.old hb) (LeftS.cons (t := 1000200) rfl (Surv.old hb) (LeftS.cons (t := 1000205) rfl (Surv.old hb) LN)))))))))))))), ?_⟩
   refine AnyT.step 6 [] (by kernel_rfl) ?_
   refine NextT.pure (by kernel_rfl) rfl rfl rfl (ok_extractC (f := fun b => [aggV [.slice (some ⟨b, 0, none⟩) ((usOf q).length + 1) ((usOf q).length + 1)], .int .i64 0]) rfl (fun _ => rfl)) ?_ ?_
   ·refine AnyT.step 9 [] (by kernel_rfl) ?_
    refine NextT.pure (by kernel_rfl) rfl rfl rfl (ok_assign rfl) ?_ ?_
    ·refine AnyT.last (by kernel_rfl) ?_
     exact (SubL.cons (t := 2) rfl (Le.refl _) (SubL.cons (t := 1000002) rfl (Le.old _ _) (SubL.cons (t := 1000200) rfl (Le.old _ _) (SubL.cons (t := 5) rfl (Le.refl _) (SubL.cons (t := 1000205) rfl (Le.old _ _) (SubL.cons (t := 7) rfl (Le.refl _) (SubL.cons (t := 8) rfl (Le.refl _) (SubL.cons (t := 1000011) rfl (Le.old _ _) (SubL.cons (t := 11) rfl (Le.refl _) (SubL.cons (t := 12) rfl (Le.refl _) (SubL.cons (t := 13) rfl (Le.refl _) SubL.nil)))))))))))
    exact trivial
   exact trivial
 ·refine A.openFreshN (t := 12) (k := 1000012) (k' := 1000312) rfl fun b12 c12 hBr12 hCr12 hLt12 => ?_
  have hBb12 : w₀.heap.size ≤ b12 := by omega
  have hlt_b11_b12 := hLt12 b11 (by simp)
  refine GS ?_
  refine TL ?_
  refine RS (OpOk.hdBlk (ok_loadA (s := 1000012) (by decide) Try.underlying35 rfl (size35.of (rfl)) rfl rfl) (k := 1000312) (by decide) rfl) ?_
  refine RS (ok_call (Repeats_fn ((usOf q) ++ [(ofU m)]) ((usOf_fit q).append (fit_one (ofU_fit m))) hln (ok_chk (by rw [List.length_append]; have := usOf_len q; simp; omega) hok)) (Args.cons rfl (Le.eq (by rw [List.length_append]; rfl)) Args.nil)) ?_; refine RZ (.tuple #[nI (repI ((usOf q) ++ [(ofU m)])), nI (repJ (usOf q)), .bool true]) (by rw [repV_yes (by rw [rep_A hJ, List.length_append]; omega), rep_A hJ]) ?_
  refine RM rfl ?_
  refine RS (ok_extractV (xs := [_, _, _]) rfl rfl) ?_
  refine RS (ok_extractV (xs := [_, _, _]) rfl rfl) ?_
  refine RS (ok_extractV (xs := [_, _, _]) rfl rfl) ?_
  refine RA rfl ?_
  refine RA rfl ?_
  refine RA rfl ?_
  refine RN ?_
  refine GS ?_
  refine TL ?_
  refine RA rfl ?_
  refine RN ?_
  refine A.seq ?_
  refine GS ?_
  refine TL ?_
  refine RA rfl ?_
  refine RN ?_
  refine A.block ?_
  refine A.loop (ι := Nat) (fun n => n ≤ (usOf q).length) (fun n => [(2, .v (.pointer (some ⟨b2, 0, none⟩))), (1000002, blk b2 50 [.slice A₀ q.length q₀]), (1000200, old w₀.heap.size (memR A₀ (q4R q))), (5, .v (.slice A₅ (usOf q).length q₅)), (1000205, old w₀.heap.size (memR A₅ (usR (usOf q)))), (11, .v (.pointer (some ⟨b11, 0, none⟩))), (1000011, blk b11 31 (usV (ofU m))), (12, .v (.pointer (some ⟨b12, 0, none⟩))), (1000012, blk b12 35 [.slice (some ⟨c12, 0, none⟩) ((usOf q).length + 1) ((usOf q).length + 1)]), (1000312, blk c12 31 (usR ((usOf q) ++ [(ofU m)]))), (7, .v (nI (repJ (usOf q)))), (8, .v (.bool true)), (13, .v (.int .i64 0)), (15, .v (nI (repJ (usOf q)))), (16, .v (.bool true)), (17, .v (.bool (anyU (usOf q) (ofU m) n))), (18, .v (nI n))]) (fun n => (usOf q).length - n) 0 ?_ ?_ ?_
  ·exact Nat.zero_le _
  ·exact (KC 2 rfl (KC 1000002 rfl (KC 1000200 rfl (KC 5 rfl (KC 1000205 rfl (KC 11 rfl (KC 1000011 rfl (KC 12 rfl (KC 1000012 rfl (KC 1000312 rfl (KC 7 rfl (KC 8 rfl (KC 13 rfl (KC 15 rfl (KC 16 rfl (KE 17 rfl (by rfl) (KE 18 rfl (by rfl) KN)))))))))))))))))
  intro n hn'
  have h60 := usOf_len q
  refine A.seq ?_
  refine GS ?_
  refine TL ?_
  refine RM rfl ?_
  refine RM rfl ?_
  refine RS (ok_lenV Try.underlying22 rfl) ?_
  refine RB rfl rfl rfl ?_
  refine RN ?_
  refine A.cond rfl (fun hc86 => ?_) (fun hc86 => ?_)
  ·have hi : n < (usOf q).length := by simpa using hc86
   refine A.skip ?_
   refine EN ?_
   refine A.seq ?_
   refine A.block ?_
   rcases Bool.eq_false_or_eq_true (anyU (usOf q) (ofU m) n) with hsp | hsp
   ·refine A.reg (by kernel_rfl) (by kernel_rfl) (.inr (by kernel_rfl)) ?_
    refine TL ?_
    refine RM rfl ?_; refine RZ (.bool true) (congrArg Value.bool hsp) ?_
    refine RM rfl ?_
    refine RK ?_
    refine RK ?_
    refine RK ?_
    refine RK ?_
    refine RK ?_
    refine RK ?_
    refine RP rfl rfl ?_; refine RZ (.bool (anyU (usOf q) (ofU m) (n + 1))) (congrArg Value.bool (by rw [anyU_succ, hsp]; simp [getElem!_pos (usOf q) n hi])) ?_
    refine RA rfl ?_
    refine RN ?_
    refine End.normal_block ?_
    refine EN ?_
    refine GE ?_
    refine TL ?_
    refine RM rfl ?_
    refine RBS rfl rfl rfl (nI (n + 1)) (by rw [wrap_i64 (by omega) (by omega)]; rfl) ?_
    refine RA rfl ?_
    refine RN ?_
    refine End.normal_then ?_
    refine End.again (n + 1) ?_ ?_ ?_
    ·show _ ≤ _; omega
    ·show _ - _ < _ - _; omega
    ·exact (KC 2 rfl (KC 1000002 rfl (KC 1000200 rfl (KC 5 rfl (KC 1000205 rfl (KC 11 rfl (KC 1000011 rfl (KC 12 rfl (KC 1000012 rfl (KC 1000312 rfl (KC 7 rfl (KC 8 rfl (KC 13 rfl (KC 15 rfl (KC 16 rfl (KC 17 rfl (KC 18 rfl KN)))))))))))))))))
   ·refine A.reg (by kernel_rfl) (by kernel_rfl) (.inr (by kernel_rfl)) ?_
    refine TL ?_
    refine RM rfl ?_; refine RZ (.bool false) (congrArg Value.bool hsp) ?_
    refine RM rfl ?_
    refine RQ (ok_move rfl) ?_
    refine RQ (ok_move rfl) ?_
    refine RQ (ok_indexR (s := 1000205) n Try.underlying22 infoU rfl rfl (by decide) rfl hi (usR_lt (usOf_fit q) hi)) ?_
    refine RQ (ok_loadElemP Try.underlying31 rfl (size31.of (by rw [usR_at (usOf_fit q) hi, usV_length ((usOf_fit q).get hi)])) rfl) ?_; refine RZ (aggV (usV (usOf q)[n])) (congrArg aggV (usR_at (usOf_fit q) hi)) ?_
    refine RQ (ok_loadA (s := 1000011) (by decide) Try.underlying31 rfl (size31.of (usV_length (ofU_fit m))) rfl rfl) ?_
    refine RQ (ok_call (refClash_fn (usOf q)[n] (ofU m) ((usOf_fit q).get hi) (ofU_fit m)) (A2 rfl rfl)) ?_
    refine RP rfl rfl ?_; refine RZ (.bool (anyU (usOf q) (ofU m) (n + 1))) (congrArg Value.bool (by rw [anyU_succ, hsp]; simp [getElem!_pos (usOf q) n hi])) ?_
    refine RA rfl ?_
    refine RN ?_
    refine End.normal_block ?_
    refine EN ?_
    refine GE ?_
    refine TL ?_
    refine RM rfl ?_
    refine RBS rfl rfl rfl (nI (n + 1)) (by rw [wrap_i64 (by omega) (by omega)]; rfl) ?_
    refine RA rfl ?_
    refine RN ?_
    refine End.normal_then ?_
    refine End.again (n + 1) ?_ ?_ ?_
    ·show _ ≤ _; omega
    ·show _ - _ < _ - _; omega
    ·exact (KC 2 rfl (KC 1000002 rfl (KC 1000200 rfl (KC 5 rfl (KC 1000205 rfl (KC 11 rfl (KC 1000011 rfl (KC 12 rfl (KC 1000012 rfl (KC 1000312 rfl (KC 7 rfl (KC 8 rfl (KC 13 rfl (KC 15 rfl (KC 16 rfl (KC 17 rfl (KC 18 rfl KN)))))))))))))))))
  ·have hi2 : n = (usOf q).length := by have h := hn'; simp at hc86; omega
   refine A.exit ?_
   refine End.exit_then ?_
   refine End.exit_then ?_
   refine End.exit_here ?_
   refine EN ?_
   refine A.seq ?_
   refine GS ?_
   refine TL ?_
   refine RM rfl ?_
   refine RBS rfl rfl rfl (.bool false) (by simp) ?_
   refine RM rfl ?_
   refine RQ (ok_move rfl) ?_
   refine RQ (ok_move rfl) ?_
   refine RQ (ok_move rfl) ?_
   refine RK ?_
   refine RQ (ok_pick rfl rfl) ?_
   refine RQ (ok_neBool Try.underlying4 rfl rfl) ?_; refine RZ (.bool false) (by rfl) ?_
   refine RP rfl rfl ?_
   refine RM rfl ?_
   refine RQ (ok_move rfl) ?_
   refine RQ (ok_move rfl) ?_
   refine RQ (ok_move rfl) ?_
   refine RQ (ok_not rfl) ?_; refine RZ (.bool false) (by rfl) ?_
   refine RQ (ok_pick rfl rfl) ?_
   refine RQ (ok_move rfl) ?_
   refine RK ?_
   refine RK ?_
   refine RK ?_
   refine RK ?_
   refine RQ (ok_pick rfl rfl) ?_
   refine RP rfl rfl ?_
   refine RM rfl ?_
   refine RQ (ok_move rfl) ?_
   refine RQ (ok_move rfl) ?_
   refine RQ (ok_move rfl) ?_
   refine RQ (ok_move rfl) ?_
   refine RQ (ok_bin rfl rfl rfl) ?_; refine RZ (.bool false) (by simp) ?_
   refine RQ (ok_pick rfl rfl) ?_
   refine RP rfl rfl ?_
   refine RN ?_
   refine A.sub (KC 2 rfl (KC 5 rfl (KC 11 rfl (KC 12 rfl (KC 128 rfl (KC 1000002 rfl (KC 1000011 rfl (KC 1000012 rfl (KC 1000200 rfl (KC 1000205 rfl (KC 1000312 rfl KN))))))))))) ?_
   refine A.no rfl ?_
   refine A.skip ?_
   refine EN ?_
   refine GS ?_
   refine TL ?_
   refine RS (OpOk.hdRow (ok_loadA (s := 1000002) (by decide) Try.underlying50 rfl (size50.of (rfl)) rfl rfl) (k := 1000200) (by decide) rfl) ?_
   refine RS (ok_call (Of11_fn q) (Args.cons rfl (Le.old _ _) Args.nil)) ?_
   refine RA rfl ?_
   refine RN ?_
   refine A.seq ?_
   refine GS ?_
   refine TL ?_
   refine RA rfl ?_
   refine RN ?_
   refine A.block ?_
   refine A.loop (ι := Nat) (fun n => n ≤ (usOf q).length) (fun n => [(5, .v (.slice A₅ (usOf q).length q₅)), (1000205, old w₀.heap.size (memR A₅ (usR (usOf q)))), (11, .v (.pointer (some ⟨b11, 0, none⟩))), (1000011, blk b11 31 (usV (ofU m))), (12, .v (.pointer (some ⟨b12, 0, none⟩))), (1000012, blk b12 35 [.slice (some ⟨c12, 0, none⟩) ((usOf q).length + 1) ((usOf q).length + 1)]), (1000312, blk c12 31 (usR ((usOf q) ++ [(ofU m)]))), (19, rowD (usOf q).length (usR (usOf q))), (20, .v (nI n))]) (fun n => (usOf q).length - n) 0 ?_ ?_ ?_
   ·exact Nat.zero_le _
   ·exact (KC 5 rfl (KC 1000205 rfl (KC 11 rfl (KC 1000011 rfl (KC 12 rfl (KC 1000012 rfl (KC 1000312 rfl (KC 19 rfl (KE 20 rfl (by rfl) KN)))))))))
   intro n hn'
   have h60 := usOf_len q
   refine A.seq ?_
   refine GS ?_
   refine TL ?_
   refine RM rfl ?_
   refine RM rfl ?_
   refine RS (ok_lenV Try.underlying22 rfl) ?_
   refine RB rfl rfl rfl ?_
   refine RN ?_
   refine A.cond rfl (fun hc134 => ?_) (fun hc134 => ?_)
   ·have hi : n < (usOf q).length := by simpa using hc134
    refine A.skip ?_
    refine EN ?_
    refine A.seq ?_
    refine A.block ?_
    refine GD ?_
    refine TL ?_
    refine RM rfl ?_
    refine RM rfl ?_
    refine RS (ok_indexR (s := 1000205) n Try.underlying22 infoU rfl rfl (by decide) rfl hi (usR_lt (usOf_fit q) hi)) ?_
    refine RS (ok_loadElemP Try.underlying31 rfl (size31.of (by rw [usR_at (usOf_fit q) hi, usV_length ((usOf_fit q).get hi)])) rfl) ?_; refine RZ (aggV (usV (usOf q)[n])) (congrArg aggV (usR_at (usOf_fit q) hi)) ?_
    refine RM rfl ?_
    refine RM rfl ?_
    refine RS (ok_indexRD n Try.underlying22 infoU rfl (Le.refl _) rfl hi (usR_lt (usOf_fit q) hi)) ?_
    refine RS (ok_loadElemP Try.underlying31 rfl (size31.of (by rw [usR_at (usOf_fit q) hi, usV_length ((usOf_fit q).get hi)])) rfl) ?_; refine RZ (aggV (usV (usOf q)[n])) (congrArg aggV (usR_at (usOf_fit q) hi)) ?_
    refine RS (ok_neqT (n := 20) true flatU (by decide) (by kernel_rfl) (by kernel_rfl) rfl rfl (kinU ((usOf_fit q).get hi)) (kinU ((usOf_fit q).get hi)) ⟨fun _ => rfl, fun _ => rfl⟩) ?_; refine RZ (.bool false) (by rfl) ?_
    refine RN ?_
    refine A.no rfl ?_
    refine A.skip ?_
    refine End.normal_block ?_
    refine EN ?_
    refine GE ?_
    refine TL ?_
    refine RM rfl ?_
    refine RBS rfl rfl rfl (nI (n + 1)) (by rw [wrap_i64 (by omega) (by omega)]; rfl) ?_
    refine RA rfl ?_
    refine RN ?_
    refine End.normal_then ?_
    refine End.again (n + 1) ?_ ?_ ?_
    ·show _ ≤ _; omega
    ·show _ - _ < _ - _; omega
    ·exact (KC 5 rfl (KC 1000205 rfl (KC 11 rfl (KC 1000011 rfl (KC 12 rfl (KC 1000012 rfl (KC 1000312 rfl (KC 19 rfl (KC 20 rfl KN)))))))))
   ·refine A.exit ?_
    refine End.exit_then ?_
    refine End.exit_then ?_
    refine End.exit_here ?_
    refine EN ?_
    refine A.regsX [⟨false, true, none⟩, ⟨false, false, some 6⟩, ⟨false, true, none⟩, ⟨false, false, some 6⟩, ⟨false, true, none⟩, ⟨false, false, some 6⟩, ⟨true, false, none⟩, ⟨false, true, none⟩, ⟨false, true, none⟩, ⟨false, true, none⟩, ⟨false, true, none⟩, ⟨false, true, none⟩] _ (fun B => (OldH.same (t := 5) rfl (OldH.same (t := 11) rfl (OldH.same (t := 12) rfl (OldH.p (t := 19) rfl (OldH.same (t := 20) rfl (OldH.same (t := 134) rfl (OldH.same (t := 1000011) rfl (OldH.same (t := 1000012) rfl (OldH.p (t := 1000205) rfl (OldH.same (t := 1000312) rfl OldH.nil))))))))))) (by kernel_rfl) (by kernel_rfl) (by kernel_rfl) (by kernel_rfl) (fun B hlt => (StaysL.cons (k := 5) (Stays.v _ _) (StaysL.cons (k := 11) (Stays.v _ _) (StaysL.cons (k := 12) (Stays.v _ _) (StaysL.cons (k := 19) (Stays.old _ _) (StaysL.cons (k := 20) (Stays.v _ _) (StaysL.cons (k := 134) (Stays.v _ _) (StaysL.cons (k := 1000011) (Stays.blk (hlt 1000011 _ _ _ rfl)) (StaysL.cons (k := 1000012) (Stays.blk (hlt 1000012 _ _ _ rfl)) (StaysL.cons (k := 1000205) (Stays.old _ _) (StaysL.cons (k := 1000312) (Stays.blk (hlt 1000312 _ _ _ rfl)) StaysL.nil))))))))))) (fun B hB hlt => ?_)
    refine RunX.step rfl rfl (OpOk.hdBlkO (ok_loadA (s := 1000012) (by decide) Try.underlying35 rfl (size35.of (rfl)) rfl rfl) (k := 1000312) (by decide) rfl (hlt 1000312 _ _ _ rfl) (Nat.le_refl _)) (fun _ => Stays.old _ _) ?_
    refine RunX.step rfl rfl (ok_build0P Try.underlying22 infoU) (fun h => by cases h) ?_
    refine RunX.step rfl rfl (OpOk.rowO2 (ok_move rfl) (k := 1000205) (by decide) rfl) (fun _ => Stays.old _ _) ?_
    refine RunX.step rfl rfl (ok_append0P Try.underlying22 infoU (by decide) (by decide) rfl rfl rfl (Le.old _ _) (usR_length (usOf_fit q)) (by have := usOf_len q; omega)) (fun h => by cases h) ?_
    refine RunX.step rfl rfl (ok_loadA (s := 1000011) (by decide) Try.underlying31 rfl (size31.of (usV_length (ofU_fit m))) rfl rfl) (fun _ => Stays.v _ _) ?_
    refine RunX.step rfl rfl (ok_build1K Try.underlying22 infoU rfl (by decide) (by decide) rfl (usV_length (ofU_fit m))) (fun h => by cases h) ?_
    refine RunX.eff rfl rfl (okx_appendP Try.underlying22 infoU (by decide) (by decide) rfl rfl rfl oneP_rowD (usV_one (ofU m)) ((usV_length (ofU_fit m)).trans (Nat.one_mul 20).symm) (by have := usOf_len q; omega)) (fun h => by cases h) ?_
    refine RunX.step rfl rfl (ok_call (same11_fn ((usOf q) ++ [(ofU m)]) ((usOf_fit q).append (fit_one (ofU_fit m))) hln) (Args.cons rfl ((Le.old _ _).trans (Le.eq (by rw [List.length_append]; rfl))) (Args.cons rfl (ownP_rowD.trans (Le.eq (by rw [usR_append, usR_one, List.length_append]; rfl))) Args.nil))) (fun _ => Stays.v _ _) ?_
    refine RunX.step rfl rfl (ok_move rfl) (fun _ => Stays.v _ _) ?_
    refine RunX.guarded rfl rfl rfl rfl (ok_call lives11_fn Args.nil) (fun _ => Stays.v _ _) ?_
    refine RunX.step rfl rfl (ok_pick rfl rfl) (fun _ => Stays.v _ _) ?_
    refine RunX.step rfl rfl (ok_assign rfl) (fun _ => Stays.v _ _) ?_
    refine RunX.last (KC 4 rfl (KC 1000011 rfl (KC 1000012 rfl (KC 1000205 rfl (KC 1000312 rfl KN))))) (by kernel_rfl) ?_
    refine A.subL (SubL.cons (t := 4) rfl (Le.refl _) (SubL.cons (t := 1000011) rfl (Le.refl _) (SubL.cons (t := 1000012) rfl (Le.refl _) (SubL.cons (t := 1000205) rfl (Le.old _ _) (SubL.cons (t := 1000312) rfl (Le.refl _) SubL.nil))))) ?_
    refine A.ret ?_
    exact End.ret1U hgw rfl rfl (Le.refl _)
set_option maxHeartbeats 4000000 in
theorem LRep_B1 (q : List Q4) (m : Q4) (hJ : ¬ repJ (usOf q) < (usOf q).length) (ha : anyU (usOf q) (ofU m) (usOf q).length = true) : Fn Try.prog 4 [hdD (rowD q.length (q4R q)) [], .v (aggV (q4V m))] (.v (.bool true)) := by
 have hln : ((usOf q) ++ [(ofU m)]).length ≤ 1099511627776 := by rw [List.length_append]; have := usOf_len q; simp; omega
 have hok : ∀ v ∈ (usOf q) ++ [(ofU m)], v.ok = true := fun v hv => (List.mem_append.1 hv).elim (usOf_ok q v) (fun h => by rw [List.mem_singleton.1 h]; exact ofU_ok m)
 refine Fn.of Try.func4 rfl (by kernel_rfl) Try.ntmps4 (by simp) (fun w => [(0, old w.heap.size (hdD (rowD q.length (q4R q)) [])), (1, .v (aggV (q4V m)))]) (fun w => (Start.old rfl (Start.v rfl Start.nil))) fun w₀ => ?_
 refine A.nameHdR (t := 0) (k := 1000200) rfl fun A₀ q₀ => ?_
 refine GS ?_
 refine TN 0 ?_
 refine RN ?_
 refine ⟨_, _, eff_box (n := 157) (d := 2) (k := 1000002) rfl (by decide), fun b2 hb2 => ?_⟩
 have hBb2 := hb2.1
 refine TN 1 ?_
 refine RN ?_
 refine ⟨_, _, eff_box (n := 157) (d := 3) (k := 1000003) rfl (by decide), fun b3 hb3 => ?_⟩
 have hBb3 := hb3.1
 refine TL ?_
 refine RA rfl ?_
 refine RN ?_
 refine GS ?_
 refine TL ?_
 refine RS (OpOk.hdRow (ok_loadA (s := 1000002) (by decide) Try.underlying50 rfl (size50.of (rfl)) rfl rfl) (k := 1000200) (by decide) rfl) ?_
 refine RS (ok_call (Of11_fn q) (Args.cons rfl (Le.old _ _) Args.nil)) ?_
 refine RA rfl ?_
 refine RN ?_
 refine A.raise (fun w => [(2, .v (.pointer (some ⟨b2, 0, none⟩))), (1000002, blk b2 50 [.slice A₀ q.length q₀]), (3, .v (.pointer (some ⟨b3, 0, none⟩))), (1000003, blk b3 51 (q4V m)), (1000200, old w.heap.size (memR A₀ (q4R q))), (5, old w.heap.size (rowD (usOf q).length (usR (usOf q))))]) (fun w => (UpTo.same (t := 2) rfl (UpTo.same (t := 1000002) rfl (UpTo.same (t := 3) rfl (UpTo.same (t := 1000003) rfl (UpTo.old (t := 1000200) rfl (UpTo.new (t := 5) rfl UpTo.nil))))))) fun w₀ hgw => ?_
 refine A.nameR (t := 5) (k := 1000205) rfl fun A₅ q₅ => ?_
 refine GS ?_
 refine TL ?_
 refine RS (OpOk.rowO (ok_move rfl) (k := 1000205) (by decide) rfl) ?_
 refine RS (ok_call (of11_fn (usOf q).length (usR (usOf q))) (Args.cons rfl (Le.old _ _) Args.nil)) ?_
 refine RS (ok_call (Repeats_fn (usOf q) (usOf_fit q) (Nat.le_trans (usOf_len q) (by decide)) (usOf_chk q)) (A1 rfl)) ?_; refine RZ (.tuple #[.int .i64 0, .int .i64 0, .bool false]) (repV_no hJ) ?_
 refine RM rfl ?_
 refine RS (ok_extractV (xs := [_, _, _]) rfl rfl) ?_
 refine RS (ok_extractV (xs := [_, _, _]) rfl rfl) ?_
 refine RS (ok_extractV (xs := [_, _, _]) rfl rfl) ?_
 refine RA rfl ?_
 refine RA rfl ?_
 refine RA rfl ?_
 refine RN ?_
 refine GS ?_
 refine TL ?_
 refine RS (OpOk.rowO (ok_move rfl) (k := 1000205) (by decide) rfl) ?_
 refine RS (ok_call (refRepeat_fn (usOf q) (usOf_fit q) (Nat.le_trans (usOf_len q) (by decide))) (Args.cons rfl (Le.old _ _) Args.nil)) ?_; refine RZ (.tuple #[.int .i64 (-1), .int .i64 (-1)]) (refR_no hJ) ?_
 refine RM rfl ?_
 refine RS (ok_extractV (xs := [_, _]) rfl rfl) ?_
 refine RS (ok_extractV (xs := [_, _]) rfl rfl) ?_
 refine RA rfl ?_
 refine RA rfl ?_
 refine RN ?_
 refine A.seq ?_
 refine GS ?_
 refine TL ?_
 refine RM rfl ?_
 refine RM rfl ?_
 refine RBS rfl rfl rfl (.bool false) (by rfl) ?_
 refine RS (ok_neBool Try.underlying4 rfl rfl) ?_; refine RZ (.bool false) (by rfl) ?_
 refine RM rfl ?_
 refine RQ (ok_move rfl) ?_
 refine RQ (ok_move rfl) ?_
 refine RK ?_
 refine RK ?_
 refine RK ?_
 refine RK ?_
 refine RunK.skippedU rfl rfl rfl rfl ?_
 refine RunK.skippedU rfl rfl rfl rfl ?_
 refine RunK.skippedU rfl rfl rfl rfl ?_
 refine RK ?_
 refine RQ (ok_pick rfl rfl) ?_
 refine RP rfl rfl ?_
 refine RM rfl ?_
 refine RQ (ok_move rfl) ?_
 refine RQ (ok_not rfl) ?_; refine RZ (.bool true) (by rfl) ?_
 refine RQ (ok_move rfl) ?_
 refine RQ (ok_move rfl) ?_
 refine RQ (ok_bin rfl rfl rfl) ?_; refine RZ (.bool false) (by rfl) ?_
 refine RQ (ok_move rfl) ?_
 refine RQ (ok_move rfl) ?_
 refine RQ (ok_bin rfl rfl rfl) ?_; refine RZ (.bool false) (by rfl) ?_
 refine RQ (ok_pick rfl rfl) ?_
 refine RQ (ok_pick rfl rfl) ?_
 refine RP rfl rfl ?_
 refine RN ?_
 refine A.sub (KC 2 rfl (KC 3 rfl (KC 5 rfl (KC 7 rfl (KC 8 rfl (KC 63 rfl (KC 1000002 rfl (KC 1000003 rfl (KC 1000200 rfl (KC 1000205 rfl KN)))))))))) ?_
 refine A.no rfl ?_
 refine A.skip ?_
 refine EN ?_
 refine GS ?_
 refine TN 6 ?_
 refine RS (ok_loadA (s := 1000003) (by decide) Try.underlying51 rfl (size51.of (rfl)) rfl rfl) ?_
 refine RS (ok_build1K Try.underlying48 infoQ rfl (by decide) (by decide) rfl rfl) ?_
 refine RS (ok_buildS [] rfl rfl (fun _ _ _ h => oneP_slice h) trivial (fun A m c => buildX A m c)) ?_
 refine RS (ok_call (Of11_fn [m]) (Args.cons rfl (hd_le (oneP_rowD.trans (Le.eq (congrArg (rowD 1) (q4_one m).symm)))) Args.nil)) ?_
 refine RS (ok_indexRD 0 Try.underlying22 infoU rfl (Le.refl _) rfl (by simp [usOf]) (by rw [usR_length (usOf_fit [m])]; simp [usOf])) ?_
 refine RS (ok_loadElemP Try.underlying31 rfl (size31.of (by rw [us_one, usV_length (ofU_fit m)])) rfl) ?_; refine RZ (aggV (usV (ofU m))) (congrArg aggV (us_one m)) ?_
 refine RN ?_
 refine ⟨_, _, eff_alloc (n := 157) (d := 11) (k := 1000011) zero31 (by decide), fun b11 hb11 => ?_⟩
 have hBb11 := hb11.1
 refine TF 7 ?_
 refine RN ?_
 refine ⟨_, eff_storeA (n := 157) (s := 1000011) (size31.of (usV_length (ofU_fit m))) rfl rfl (usV_one _) hBb11 rfl (by rw [usV_length (ofU_fit m)]; rfl) (LV 2 rfl (LV 5 rfl (LV 7 rfl (LV 8 rfl (LV 11 rfl (LT 1000002 rfl (LT 1000003 rfl (LO 1000200 rfl (LO 1000205 rfl LN))))))))), ?_⟩
 refine TL ?_
 refine RN ?_
 refine A.dup (k := 1000011) (k' := 1000311) rfl (fun _ _ _ _ h => h) ?_
 refine A.regsLH _ (fun B => (OldH.same (t := 2) rfl (OldH.same (t := 5) rfl (OldH.same (t := 7) rfl (OldH.same (t := 8) rfl (OldH.same (t := 11) rfl (OldH.p (t := 1000002) rfl (OldH.p (t := 1000003) rfl (OldH.p (t := 1000011) rfl (OldH.p (t := 1000200) rfl (OldH.p (t := 1000205) rfl (OldH.same (t := 1000311) rfl OldH.nil)))))))))))) 8 [6] (by kernel_rfl) (by kernel_rfl) (by kernel_rfl) (by kernel_rfl) (fun B => [(2, .v (.pointer (some ⟨b2, 0, none⟩))), (1000002, blk b2 50 [.slice A₀ q.length q₀]), (1000200, old w₀.heap.size (memR A₀ (q4R q))), (5, .v (.slice A₅ (usOf q).length q₅)), (1000205, old w₀.heap.size (memR A₅ (usR (usOf q)))), (7, .v (.int .i64 0)), (8, .v (.bool false)), (1000011, blk b11 31 (usV (ofU m))), (11, .v (.pointer (some ⟨b11, 0, none⟩))), (12, freshN B [b11] 35 31 ((usOf q).length + 1) (usR ((usOf q) ++ [(ofU m)]))), (13, .v (.int .i64 0))]) (fun B hB => ?_) (fun B hB => ?_)
 ·refine RS (OpOk.rowO2 (ok_move rfl) (k := 1000205) (by decide) rfl) ?_
  refine RS (ok_call (of11_fn (usOf q).length (usR (usOf q))) (Args.cons rfl (Le.old _ _) Args.nil)) ?_
  refine RS (ok_loadA (s := 1000311) (by decide) Try.underlying31 rfl (size31.of (usV_length (ofU_fit m))) rfl rfl) ?_
  refine RS (ok_callB (Add_okB (usOf q) (ofU m) (usOf_fit q) (ofU_fit m) (Nat.le_trans (usOf_len q) (by decide)) (usOf_chk q) (one_chk m) (by have := usOf_len q; omega)) newD_mono (A2 rfl rfl)) ?_
  refine RM rfl ?_
  refine RS (ok_extractN (f := fun b => [aggV [.slice (some ⟨b, 0, none⟩) ((usOf q).length + 1) ((usOf q).length + 1)], .int .i64 0]) rfl (fun _ => rfl)) ?_
  refine RS (ok_extractC (f := fun b => [aggV [.slice (some ⟨b, 0, none⟩) ((usOf q).length + 1) ((usOf q).length + 1)], .int .i64 0]) rfl (fun _ => rfl)) ?_
  refine RS (ok_allocF [b11] zero35 (Named.cons (s := 1000311) (by decide) rfl Named.nil)) ?_
  refine RN ?_
  intro S hS
  simp only [subs, List.map_cons, List.map_nil, List.cons_append, List.nil_append, List.mem_cons, List.not_mem_nil, or_false] at hS
  rcases hS with rfl | rfl
  ·refine ⟨1, Nat.le_of_ble_eq_true (by kernel_rfl), _, (KC 2 rfl (KC 5 rfl (KC 7 rfl (KC 8 rfl (KC 11 rfl (KC 12 rfl (KC 70 rfl (KC 71 rfl (KC 72 rfl (KC 73 rfl (KC 74 rfl (KC 75 rfl (KC 76 rfl (KC 1000002 rfl (KC 1000003 rfl (KC 1000011 rfl (KC 1000200 rfl (KC 1000205 rfl (KC 1000311 rfl KN))))))))))))))))))), by kernel_rfl, _, rfl, _, eff_storeFM (n := 157) size35 (Nat.le_refl _) rfl rfl rfl (by decide) (Nat.le_refl _) (fun b hb => (LV 2 rfl (LV 5 rfl (LV 7 rfl (LV 8 rfl (LV 11 rfl (LeftS.cons (t := 70) rfl (Surv.newD (by decide)) (LeftS.cons (t := 71) rfl (Surv.old hb) (LV 73 rfl (LV 76 rfl (LeftS.cons (t := 1000002) rfl (Surv.old hb) (LeftS.cons (t := 1000003) rfl (Surv.old hb) (LeftS.cons (t := 1000011) rfl (Surv.old hb) (LeftS.cons (t := 1000200) rfl (Surv.old hb) (LeftS.cons (t := 1000205) rfl (Surv.old hb) LN))))))))))))))), ?_⟩
   refine AnyT.step 9 [] (by kernel_rfl) ?_
   refine NextT.pure (by kernel_rfl) rfl rfl rfl (ok_assign rfl) ?_ ?_
   ·refine AnyT.last (by kernel_rfl) ?_
    exact (SubL.cons (t := 2) rfl (Le.refl _) (SubL.cons (t := 1000002) rfl (Le.old _ _) (SubL.cons (t := 1000200) rfl (Le.old _ _) (SubL.cons (t := 5) rfl (Le.refl _) (SubL.cons (t := 1000205) rfl (Le.old _ _) (SubL.cons (t := 7) rfl (Le.refl _) (SubL.cons (t := 8) rfl (Le.refl _) (SubL.cons (t := 1000011) rfl (Le.old _ _) (SubL.cons (t := 11) rfl (Le.refl _) (SubL.cons (t := 12) rfl (Le.refl _) (SubL.cons (t := 13) rfl (Le.refl _) SubL.nil)))))))))))
   exact trivial
  ·refine ⟨2, Nat.le_of_ble_eq_true (by kernel_rfl), _, (KC 2 rfl (KC 5 rfl (KC 7 rfl (KC 8 rfl (KC 11 rfl (KC 12 rfl (KC 70 rfl (KC 71 rfl (KC 72 rfl (KC 73 rfl (KC 74 rfl (KC 75 rfl (KC 1000002 rfl (KC 1000003 rfl (KC 1000011 rfl (KC 1000200 rfl (KC 1000205 rfl (KC 1000311 rfl KN)))))))))))))))))), by kernel_rfl, _, rfl, _, eff_storeFM (n := 157) size35 (Nat.le_refl _) rfl rfl rfl (by decide) (Nat.le_refl _) (fun b hb => (LV 2 rfl (LV 5 rfl (LV 7 rfl (LV 8 rfl (LV 11 rfl (LeftS.cons (t := 70) rfl (Surv.newD (by decide)) (LeftS.cons (t := 71) rfl (Surv.old hb) (LV 73 rfl (LeftS.cons (t := 1000002) rfl (Surv.old hb) (LeftS.cons (t := 1000003) rfl (Surv.old hb) (LeftS.cons (t := 1000011) rfl (Surv.old hb) (LeftS.cons (t := 1000200) rfl (Surv.old hb) (LeftS.cons (t := 1000205) rfl (Surv.old hb) LN)))))))))))))), ?_⟩
   refine AnyT.step 6 [] (by kernel_rfl) ?_
   refine NextT.pure (by kernel_rfl) rfl rfl rfl (ok_extractC (f := fun b => [aggV [.slice (some ⟨b, 0, none⟩) ((usOf q).length + 1) ((usOf q).length + 1)], .int .i64 0]) rfl (fun _ => rfl)) ?_ ?_
   ·refine AnyT.step 9 [] (by kernel_rfl) ?_
    refine NextT.pure (by kernel_rfl) rfl rfl rfl (ok_assign rfl) ?_ ?_
    ·refine AnyT.last (by kernel_rfl) ?_
     exact (SubL.cons (t := 2) rfl (Le.refl _) (SubL.cons (t := 1000002) rfl (Le.old _ _) (SubL.cons (t := 1000200) rfl (Le.old _ _) (SubL.cons (t := 5) rfl (Le.refl _) (SubL.cons (t := 1000205) rfl (Le.old _ _) (SubL.cons (t := 7) rfl (Le.refl _) (SubL.cons (t := 8) rfl (Le.refl _) (SubL.cons (t := 1000011) rfl (Le.old _ _) (SubL.cons (t := 11) rfl (Le.refl _) (SubL.cons (t := 12) rfl (Le.refl _) (SubL.cons (t := 13) rfl (Le.refl _) SubL.nil)))))))))))
    exact trivial
   exact trivial
 ·refine A.openFreshN (t := 12) (k := 1000012) (k' := 1000312) rfl fun b12 c12 hBr12 hCr12 hLt12 => ?_
  have hBb12 : w₀.heap.size ≤ b12 := by omega
  have hlt_b11_b12 := hLt12 b11 (by simp)
  refine GS ?_
  refine TL ?_
  refine RS (OpOk.hdBlk (ok_loadA (s := 1000012) (by decide) Try.underlying35 rfl (size35.of (rfl)) rfl rfl) (k := 1000312) (by decide) rfl) ?_
  refine RS (ok_call (Repeats_fn ((usOf q) ++ [(ofU m)]) ((usOf_fit q).append (fit_one (ofU_fit m))) hln (ok_chk (by rw [List.length_append]; have := usOf_len q; simp; omega) hok)) (Args.cons rfl (Le.eq (by rw [List.length_append]; rfl)) Args.nil)) ?_; refine RZ (.tuple #[nI (repI ((usOf q) ++ [(ofU m)])), nI ((usOf q).length), .bool true]) (by rw [repV_yes (by rw [rep_B1 hJ ha, List.length_append]; simp), rep_B1 hJ ha]) ?_
  refine RM rfl ?_
  refine RS (ok_extractV (xs := [_, _, _]) rfl rfl) ?_
  refine RS (ok_extractV (xs := [_, _, _]) rfl rfl) ?_
  refine RS (ok_extractV (xs := [_, _, _]) rfl rfl) ?_
  refine RA rfl ?_
  refine RA rfl ?_
  refine RA rfl ?_
  refine RN ?_
  refine GS ?_
  refine TL ?_
  refine RA rfl ?_
  refine RN ?_
  refine A.seq ?_
  refine GS ?_
  refine TL ?_
  refine RA rfl ?_
  refine RN ?_
  refine A.block ?_
  refine A.loop (ι := Nat) (fun n => n ≤ (usOf q).length) (fun n => [(2, .v (.pointer (some ⟨b2, 0, none⟩))), (1000002, blk b2 50 [.slice A₀ q.length q₀]), (1000200, old w₀.heap.size (memR A₀ (q4R q))), (5, .v (.slice A₅ (usOf q).length q₅)), (1000205, old w₀.heap.size (memR A₅ (usR (usOf q)))), (11, .v (.pointer (some ⟨b11, 0, none⟩))), (1000011, blk b11 31 (usV (ofU m))), (12, .v (.pointer (some ⟨b12, 0, none⟩))), (1000012, blk b12 35 [.slice (some ⟨c12, 0, none⟩) ((usOf q).length + 1) ((usOf q).length + 1)]), (1000312, blk c12 31 (usR ((usOf q) ++ [(ofU m)]))), (7, .v (.int .i64 0)), (8, .v (.bool false)), (13, .v (.int .i64 0)), (15, .v (nI ((usOf q).length))), (16, .v (.bool true)), (17, .v (.bool (anyU (usOf q) (ofU m) n))), (18, .v (nI n))]) (fun n => (usOf q).length - n) 0 ?_ ?_ ?_
  ·exact Nat.zero_le _
  ·exact (KC 2 rfl (KC 1000002 rfl (KC 1000200 rfl (KC 5 rfl (KC 1000205 rfl (KC 11 rfl (KC 1000011 rfl (KC 12 rfl (KC 1000012 rfl (KC 1000312 rfl (KC 7 rfl (KC 8 rfl (KC 13 rfl (KC 15 rfl (KC 16 rfl (KE 17 rfl (by rfl) (KE 18 rfl (by rfl) KN)))))))))))))))))
  intro n hn'
  have h60 := usOf_len q
  refine A.seq ?_
  refine GS ?_
  refine TL ?_
  refine RM rfl ?_
  refine RM rfl ?_
  refine RS (ok_lenV Try.underlying22 rfl) ?_
  refine RB rfl rfl rfl ?_
  refine RN ?_
  refine A.cond rfl (fun hc86 => ?_) (fun hc86 => ?_)
  ·have hi : n < (usOf q).length := by simpa using hc86
   refine A.skip ?_
   refine EN ?_
   refine A.seq ?_
   refine A.block ?_
   rcases Bool.eq_false_or_eq_true (anyU (usOf q) (ofU m) n) with hsp | hsp
   ·refine A.reg (by kernel_rfl) (by kernel_rfl) (.inr (by kernel_rfl)) ?_
    refine TL ?_
    refine RM rfl ?_; refine RZ (.bool true) (congrArg Value.bool hsp) ?_
    refine RM rfl ?_
    refine RK ?_
    refine RK ?_
    refine RK ?_
    refine RK ?_
    refine RK ?_
    refine RK ?_
    refine RP rfl rfl ?_; refine RZ (.bool (anyU (usOf q) (ofU m) (n + 1))) (congrArg Value.bool (by rw [anyU_succ, hsp]; simp [getElem!_pos (usOf q) n hi])) ?_
    refine RA rfl ?_
    refine RN ?_
    refine End.normal_block ?_
    refine EN ?_
    refine GE ?_
    refine TL ?_
    refine RM rfl ?_
    refine RBS rfl rfl rfl (nI (n + 1)) (by rw [wrap_i64 (by omega) (by omega)]; rfl) ?_
    refine RA rfl ?_
    refine RN ?_
    refine End.normal_then ?_
    refine End.again (n + 1) ?_ ?_ ?_
    ·show _ ≤ _; omega
    ·show _ - _ < _ - _; omega
    ·exact (KC 2 rfl (KC 1000002 rfl (KC 1000200 rfl (KC 5 rfl (KC 1000205 rfl (KC 11 rfl (KC 1000011 rfl (KC 12 rfl (KC 1000012 rfl (KC 1000312 rfl (KC 7 rfl (KC 8 rfl (KC 13 rfl (KC 15 rfl (KC 16 rfl (KC 17 rfl (KC 18 rfl KN)))))))))))))))))
   ·refine A.reg (by kernel_rfl) (by kernel_rfl) (.inr (by kernel_rfl)) ?_
    refine TL ?_
    refine RM rfl ?_; refine RZ (.bool false) (congrArg Value.bool hsp) ?_
    refine RM rfl ?_
    refine RQ (ok_move rfl) ?_
    refine RQ (ok_move rfl) ?_
    refine RQ (ok_indexR (s := 1000205) n Try.underlying22 infoU rfl rfl (by decide) rfl hi (usR_lt (usOf_fit q) hi)) ?_
    refine RQ (ok_loadElemP Try.underlying31 rfl (size31.of (by rw [usR_at (usOf_fit q) hi, usV_length ((usOf_fit q).get hi)])) rfl) ?_; refine RZ (aggV (usV (usOf q)[n])) (congrArg aggV (usR_at (usOf_fit q) hi)) ?_
    refine RQ (ok_loadA (s := 1000011) (by decide) Try.underlying31 rfl (size31.of (usV_length (ofU_fit m))) rfl rfl) ?_
    refine RQ (ok_call (refClash_fn (usOf q)[n] (ofU m) ((usOf_fit q).get hi) (ofU_fit m)) (A2 rfl rfl)) ?_
    refine RP rfl rfl ?_; refine RZ (.bool (anyU (usOf q) (ofU m) (n + 1))) (congrArg Value.bool (by rw [anyU_succ, hsp]; simp [getElem!_pos (usOf q) n hi])) ?_
    refine RA rfl ?_
    refine RN ?_
    refine End.normal_block ?_
    refine EN ?_
    refine GE ?_
    refine TL ?_
    refine RM rfl ?_
    refine RBS rfl rfl rfl (nI (n + 1)) (by rw [wrap_i64 (by omega) (by omega)]; rfl) ?_
    refine RA rfl ?_
    refine RN ?_
    refine End.normal_then ?_
    refine End.again (n + 1) ?_ ?_ ?_
    ·show _ ≤ _; omega
    ·show _ - _ < _ - _; omega
    ·exact (KC 2 rfl (KC 1000002 rfl (KC 1000200 rfl (KC 5 rfl (KC 1000205 rfl (KC 11 rfl (KC 1000011 rfl (KC 12 rfl (KC 1000012 rfl (KC 1000312 rfl (KC 7 rfl (KC 8 rfl (KC 13 rfl (KC 15 rfl (KC 16 rfl (KC 17 rfl (KC 18 rfl KN)))))))))))))))))
  ·have hi2 : n = (usOf q).length := by have h := hn'; simp at hc86; omega
   refine A.exit ?_
   refine End.exit_then ?_
   refine End.exit_then ?_
   refine End.exit_here ?_
   refine EN ?_
   refine A.seq ?_
   refine GS ?_
   refine TL ?_
   refine RM rfl ?_
   refine RBS rfl rfl rfl (.bool false) (by simp) ?_
   refine RM rfl ?_
   refine RQ (ok_move rfl) ?_
   refine RQ (ok_move rfl) ?_
   refine RQ (ok_move rfl) ?_
   refine RQ (ok_move rfl) ?_; refine RZ (.bool true) (by rw [hi2]; exact congrArg Value.bool ha) ?_
   refine RQ (ok_pick rfl rfl) ?_
   refine RQ (ok_neBool Try.underlying4 rfl rfl) ?_; refine RZ (.bool false) (by rfl) ?_
   refine RP rfl rfl ?_
   refine RM rfl ?_
   refine RQ (ok_move rfl) ?_
   refine RQ (ok_move rfl) ?_
   refine RQ (ok_move rfl) ?_
   refine RQ (ok_not rfl) ?_; refine RZ (.bool true) (by rfl) ?_
   refine RQ (ok_pick rfl rfl) ?_
   refine RQ (ok_move rfl) ?_
   refine RQ (ok_move rfl) ?_
   refine RQ (ok_move rfl) ?_
   refine RQ (ok_lenV Try.underlying22 rfl) ?_
   refine RQ (ok_bin rfl rfl rfl) ?_; refine RZ (.bool false) (by simp) ?_
   refine RQ (ok_pick rfl rfl) ?_
   refine RP rfl rfl ?_
   refine RM rfl ?_
   refine RQ (ok_move rfl) ?_
   refine RQ (ok_move rfl) ?_
   refine RK ?_
   refine RK ?_
   refine RK ?_
   refine RQ (ok_pick rfl rfl) ?_
   refine RP rfl rfl ?_
   refine RN ?_
   refine A.sub (KC 2 rfl (KC 5 rfl (KC 11 rfl (KC 12 rfl (KC 128 rfl (KC 1000002 rfl (KC 1000011 rfl (KC 1000012 rfl (KC 1000200 rfl (KC 1000205 rfl (KC 1000312 rfl KN))))))))))) ?_
   refine A.no rfl ?_
   refine A.skip ?_
   refine EN ?_
   refine GS ?_
   refine TL ?_
   refine RS (OpOk.hdRow (ok_loadA (s := 1000002) (by decide) Try.underlying50 rfl (size50.of (rfl)) rfl rfl) (k := 1000200) (by decide) rfl) ?_
   refine RS (ok_call (Of11_fn q) (Args.cons rfl (Le.old _ _) Args.nil)) ?_
   refine RA rfl ?_
   refine RN ?_
   refine A.seq ?_
   refine GS ?_
   refine TL ?_
   refine RA rfl ?_
   refine RN ?_
   refine A.block ?_
   refine A.loop (ι := Nat) (fun n => n ≤ (usOf q).length) (fun n => [(5, .v (.slice A₅ (usOf q).length q₅)), (1000205, old w₀.heap.size (memR A₅ (usR (usOf q)))), (11, .v (.pointer (some ⟨b11, 0, none⟩))), (1000011, blk b11 31 (usV (ofU m))), (12, .v (.pointer (some ⟨b12, 0, none⟩))), (1000012, blk b12 35 [.slice (some ⟨c12, 0, none⟩) ((usOf q).length + 1) ((usOf q).length + 1)]), (1000312, blk c12 31 (usR ((usOf q) ++ [(ofU m)]))), (19, rowD (usOf q).length (usR (usOf q))), (20, .v (nI n))]) (fun n => (usOf q).length - n) 0 ?_ ?_ ?_
   ·exact Nat.zero_le _
   ·exact (KC 5 rfl (KC 1000205 rfl (KC 11 rfl (KC 1000011 rfl (KC 12 rfl (KC 1000012 rfl (KC 1000312 rfl (KC 19 rfl (KE 20 rfl (by rfl) KN)))))))))
   intro n hn'
   have h60 := usOf_len q
   refine A.seq ?_
   refine GS ?_
   refine TL ?_
   refine RM rfl ?_
   refine RM rfl ?_
   refine RS (ok_lenV Try.underlying22 rfl) ?_
   refine RB rfl rfl rfl ?_
   refine RN ?_
   refine A.cond rfl (fun hc134 => ?_) (fun hc134 => ?_)
   ·have hi : n < (usOf q).length := by simpa using hc134
    refine A.skip ?_
    refine EN ?_
    refine A.seq ?_
    refine A.block ?_
    refine GD ?_
    refine TL ?_
    refine RM rfl ?_
    refine RM rfl ?_
    refine RS (ok_indexR (s := 1000205) n Try.underlying22 infoU rfl rfl (by decide) rfl hi (usR_lt (usOf_fit q) hi)) ?_
    refine RS (ok_loadElemP Try.underlying31 rfl (size31.of (by rw [usR_at (usOf_fit q) hi, usV_length ((usOf_fit q).get hi)])) rfl) ?_; refine RZ (aggV (usV (usOf q)[n])) (congrArg aggV (usR_at (usOf_fit q) hi)) ?_
    refine RM rfl ?_
    refine RM rfl ?_
    refine RS (ok_indexRD n Try.underlying22 infoU rfl (Le.refl _) rfl hi (usR_lt (usOf_fit q) hi)) ?_
    refine RS (ok_loadElemP Try.underlying31 rfl (size31.of (by rw [usR_at (usOf_fit q) hi, usV_length ((usOf_fit q).get hi)])) rfl) ?_; refine RZ (aggV (usV (usOf q)[n])) (congrArg aggV (usR_at (usOf_fit q) hi)) ?_
    refine RS (ok_neqT (n := 20) true flatU (by decide) (by kernel_rfl) (by kernel_rfl) rfl rfl (kinU ((usOf_fit q).get hi)) (kinU ((usOf_fit q).get hi)) ⟨fun _ => rfl, fun _ => rfl⟩) ?_; refine RZ (.bool false) (by rfl) ?_
    refine RN ?_
    refine A.no rfl ?_
    refine A.skip ?_
    refine End.normal_block ?_
    refine EN ?_
    refine GE ?_
    refine TL ?_
    refine RM rfl ?_
    refine RBS rfl rfl rfl (nI (n + 1)) (by rw [wrap_i64 (by omega) (by omega)]; rfl) ?_
    refine RA rfl ?_
    refine RN ?_
    refine End.normal_then ?_
    refine End.again (n + 1) ?_ ?_ ?_
    ·show _ ≤ _; omega
    ·show _ - _ < _ - _; omega
    ·exact (KC 5 rfl (KC 1000205 rfl (KC 11 rfl (KC 1000011 rfl (KC 12 rfl (KC 1000012 rfl (KC 1000312 rfl (KC 19 rfl (KC 20 rfl KN)))))))))
   ·refine A.exit ?_
    refine End.exit_then ?_
    refine End.exit_then ?_
    refine End.exit_here ?_
    refine EN ?_
    refine A.regsX [⟨false, true, none⟩, ⟨false, false, some 6⟩, ⟨false, true, none⟩, ⟨false, false, some 6⟩, ⟨false, true, none⟩, ⟨false, false, some 6⟩, ⟨true, false, none⟩, ⟨false, true, none⟩, ⟨false, true, none⟩, ⟨false, true, none⟩, ⟨false, true, none⟩, ⟨false, true, none⟩] _ (fun B => (OldH.same (t := 5) rfl (OldH.same (t := 11) rfl (OldH.same (t := 12) rfl (OldH.p (t := 19) rfl (OldH.same (t := 20) rfl (OldH.same (t := 134) rfl (OldH.same (t := 1000011) rfl (OldH.same (t := 1000012) rfl (OldH.p (t := 1000205) rfl (OldH.same (t := 1000312) rfl OldH.nil))))))))))) (by kernel_rfl) (by kernel_rfl) (by kernel_rfl) (by kernel_rfl) (fun B hlt => (StaysL.cons (k := 5) (Stays.v _ _) (StaysL.cons (k := 11) (Stays.v _ _) (StaysL.cons (k := 12) (Stays.v _ _) (StaysL.cons (k := 19) (Stays.old _ _) (StaysL.cons (k := 20) (Stays.v _ _) (StaysL.cons (k := 134) (Stays.v _ _) (StaysL.cons (k := 1000011) (Stays.blk (hlt 1000011 _ _ _ rfl)) (StaysL.cons (k := 1000012) (Stays.blk (hlt 1000012 _ _ _ rfl)) (StaysL.cons (k := 1000205) (Stays.old _ _) (StaysL.cons (k := 1000312) (Stays.blk (hlt 1000312 _ _ _ rfl)) StaysL.nil))))))))))) (fun B hB hlt => ?_)
    refine RunX.step rfl rfl (OpOk.hdBlkO (ok_loadA (s := 1000012) (by decide) Try.underlying35 rfl (size35.of (rfl)) rfl rfl) (k := 1000312) (by decide) rfl (hlt 1000312 _ _ _ rfl) (Nat.le_refl _)) (fun _ => Stays.old _ _) ?_
    refine RunX.step rfl rfl (ok_build0P Try.underlying22 infoU) (fun h => by cases h) ?_
    refine RunX.step rfl rfl (OpOk.rowO2 (ok_move rfl) (k := 1000205) (by decide) rfl) (fun _ => Stays.old _ _) ?_
    refine RunX.step rfl rfl (ok_append0P Try.underlying22 infoU (by decide) (by decide) rfl rfl rfl (Le.old _ _) (usR_length (usOf_fit q)) (by have := usOf_len q; omega)) (fun h => by cases h) ?_
    refine RunX.step rfl rfl (ok_loadA (s := 1000011) (by decide) Try.underlying31 rfl (size31.of (usV_length (ofU_fit m))) rfl rfl) (fun _ => Stays.v _ _) ?_
    refine RunX.step rfl rfl (ok_build1K Try.underlying22 infoU rfl (by decide) (by decide) rfl (usV_length (ofU_fit m))) (fun h => by cases h) ?_
    refine RunX.eff rfl rfl (okx_appendP Try.underlying22 infoU (by decide) (by decide) rfl rfl rfl oneP_rowD (usV_one (ofU m)) ((usV_length (ofU_fit m)).trans (Nat.one_mul 20).symm) (by have := usOf_len q; omega)) (fun h => by cases h) ?_
    refine RunX.step rfl rfl (ok_call (same11_fn ((usOf q) ++ [(ofU m)]) ((usOf_fit q).append (fit_one (ofU_fit m))) hln) (Args.cons rfl ((Le.old _ _).trans (Le.eq (by rw [List.length_append]; rfl))) (Args.cons rfl (ownP_rowD.trans (Le.eq (by rw [usR_append, usR_one, List.length_append]; rfl))) Args.nil))) (fun _ => Stays.v _ _) ?_
    refine RunX.step rfl rfl (ok_move rfl) (fun _ => Stays.v _ _) ?_
    refine RunX.guarded rfl rfl rfl rfl (ok_call lives11_fn Args.nil) (fun _ => Stays.v _ _) ?_
    refine RunX.step rfl rfl (ok_pick rfl rfl) (fun _ => Stays.v _ _) ?_
    refine RunX.step rfl rfl (ok_assign rfl) (fun _ => Stays.v _ _) ?_
    refine RunX.last (KC 4 rfl (KC 1000011 rfl (KC 1000012 rfl (KC 1000205 rfl (KC 1000312 rfl KN))))) (by kernel_rfl) ?_
    refine A.subL (SubL.cons (t := 4) rfl (Le.refl _) (SubL.cons (t := 1000011) rfl (Le.refl _) (SubL.cons (t := 1000012) rfl (Le.refl _) (SubL.cons (t := 1000205) rfl (Le.old _ _) (SubL.cons (t := 1000312) rfl (Le.refl _) SubL.nil))))) ?_
    refine A.ret ?_
    exact End.ret1U hgw rfl rfl (Le.refl _)
set_option maxHeartbeats 4000000 in
theorem LRep_B0 (q : List Q4) (m : Q4) (hJ : ¬ repJ (usOf q) < (usOf q).length) (ha : anyU (usOf q) (ofU m) (usOf q).length = false) : Fn Try.prog 4 [hdD (rowD q.length (q4R q)) [], .v (aggV (q4V m))] (.v (.bool true)) := by
 have hln : ((usOf q) ++ [(ofU m)]).length ≤ 1099511627776 := by rw [List.length_append]; have := usOf_len q; simp; omega
 have hok : ∀ v ∈ (usOf q) ++ [(ofU m)], v.ok = true := fun v hv => (List.mem_append.1 hv).elim (usOf_ok q v) (fun h => by rw [List.mem_singleton.1 h]; exact ofU_ok m)
 refine Fn.of Try.func4 rfl (by kernel_rfl) Try.ntmps4 (by simp) (fun w => [(0, old w.heap.size (hdD (rowD q.length (q4R q)) [])), (1, .v (aggV (q4V m)))]) (fun w => (Start.old rfl (Start.v rfl Start.nil))) fun w₀ => ?_
 refine A.nameHdR (t := 0) (k := 1000200) rfl fun A₀ q₀ => ?_
 refine GS ?_
 refine TN 0 ?_
 refine RN ?_
 refine ⟨_, _, eff_box (n := 157) (d := 2) (k := 1000002) rfl (by decide), fun b2 hb2 => ?_⟩
 have hBb2 := hb2.1
 refine TN 1 ?_
 refine RN ?_
 refine ⟨_, _, eff_box (n := 157) (d := 3) (k := 1000003) rfl (by decide), fun b3 hb3 => ?_⟩
 have hBb3 := hb3.1
 refine TL ?_
 refine RA rfl ?_
 refine RN ?_
 refine GS ?_
 refine TL ?_
 refine RS (OpOk.hdRow (ok_loadA (s := 1000002) (by decide) Try.underlying50 rfl (size50.of (rfl)) rfl rfl) (k := 1000200) (by decide) rfl) ?_
 refine RS (ok_call (Of11_fn q) (Args.cons rfl (Le.old _ _) Args.nil)) ?_
 refine RA rfl ?_
 refine RN ?_
 refine A.raise (fun w => [(2, .v (.pointer (some ⟨b2, 0, none⟩))), (1000002, blk b2 50 [.slice A₀ q.length q₀]), (3, .v (.pointer (some ⟨b3, 0, none⟩))), (1000003, blk b3 51 (q4V m)), (1000200, old w.heap.size (memR A₀ (q4R q))), (5, old w.heap.size (rowD (usOf q).length (usR (usOf q))))]) (fun w => (UpTo.same (t := 2) rfl (UpTo.same (t := 1000002) rfl (UpTo.same (t := 3) rfl (UpTo.same (t := 1000003) rfl (UpTo.old (t := 1000200) rfl (UpTo.new (t := 5) rfl UpTo.nil))))))) fun w₀ hgw => ?_
 refine A.nameR (t := 5) (k := 1000205) rfl fun A₅ q₅ => ?_
 refine GS ?_
 refine TL ?_
 refine RS (OpOk.rowO (ok_move rfl) (k := 1000205) (by decide) rfl) ?_
 refine RS (ok_call (of11_fn (usOf q).length (usR (usOf q))) (Args.cons rfl (Le.old _ _) Args.nil)) ?_
 refine RS (ok_call (Repeats_fn (usOf q) (usOf_fit q) (Nat.le_trans (usOf_len q) (by decide)) (usOf_chk q)) (A1 rfl)) ?_; refine RZ (.tuple #[.int .i64 0, .int .i64 0, .bool false]) (repV_no hJ) ?_
 refine RM rfl ?_
 refine RS (ok_extractV (xs := [_, _, _]) rfl rfl) ?_
 refine RS (ok_extractV (xs := [_, _, _]) rfl rfl) ?_
 refine RS (ok_extractV (xs := [_, _, _]) rfl rfl) ?_
 refine RA rfl ?_
 refine RA rfl ?_
 refine RA rfl ?_
 refine RN ?_
 refine GS ?_
 refine TL ?_
 refine RS (OpOk.rowO (ok_move rfl) (k := 1000205) (by decide) rfl) ?_
 refine RS (ok_call (refRepeat_fn (usOf q) (usOf_fit q) (Nat.le_trans (usOf_len q) (by decide))) (Args.cons rfl (Le.old _ _) Args.nil)) ?_; refine RZ (.tuple #[.int .i64 (-1), .int .i64 (-1)]) (refR_no hJ) ?_
 refine RM rfl ?_
 refine RS (ok_extractV (xs := [_, _]) rfl rfl) ?_
 refine RS (ok_extractV (xs := [_, _]) rfl rfl) ?_
 refine RA rfl ?_
 refine RA rfl ?_
 refine RN ?_
 refine A.seq ?_
 refine GS ?_
 refine TL ?_
 refine RM rfl ?_
 refine RM rfl ?_
 refine RBS rfl rfl rfl (.bool false) (by rfl) ?_
 refine RS (ok_neBool Try.underlying4 rfl rfl) ?_; refine RZ (.bool false) (by rfl) ?_
 refine RM rfl ?_
 refine RQ (ok_move rfl) ?_
 refine RQ (ok_move rfl) ?_
 refine RK ?_
 refine RK ?_
 refine RK ?_
 refine RK ?_
 refine RunK.skippedU rfl rfl rfl rfl ?_
 refine RunK.skippedU rfl rfl rfl rfl ?_
 refine RunK.skippedU rfl rfl rfl rfl ?_
 refine RK ?_
 refine RQ (ok_pick rfl rfl) ?_
 refine RP rfl rfl ?_
 refine RM rfl ?_
 refine RQ (ok_move rfl) ?_
 refine RQ (ok_not rfl) ?_; refine RZ (.bool true) (by rfl) ?_
 refine RQ (ok_move rfl) ?_
 refine RQ (ok_move rfl) ?_
 refine RQ (ok_bin rfl rfl rfl) ?_; refine RZ (.bool false) (by rfl) ?_
 refine RQ (ok_move rfl) ?_
 refine RQ (ok_move rfl) ?_
 refine RQ (ok_bin rfl rfl rfl) ?_; refine RZ (.bool false) (by rfl) ?_
 refine RQ (ok_pick rfl rfl) ?_
 refine RQ (ok_pick rfl rfl) ?_
 refine RP rfl rfl ?_
 refine RN ?_
 refine A.sub (KC 2 rfl (KC 3 rfl (KC 5 rfl (KC 7 rfl (KC 8 rfl (KC 63 rfl (KC 1000002 rfl (KC 1000003 rfl (KC 1000200 rfl (KC 1000205 rfl KN)))))))))) ?_
 refine A.no rfl ?_
 refine A.skip ?_
 refine EN ?_
 refine GS ?_
 refine TN 6 ?_
 refine RS (ok_loadA (s := 1000003) (by decide) Try.underlying51 rfl (size51.of (rfl)) rfl rfl) ?_
 refine RS (ok_build1K Try.underlying48 infoQ rfl (by decide) (by decide) rfl rfl) ?_
 refine RS (ok_buildS [] rfl rfl (fun _ _ _ h => oneP_slice h) trivial (fun A m c => buildX A m c)) ?_
 refine RS (ok_call (Of11_fn [m]) (Args.cons rfl (hd_le (oneP_rowD.trans (Le.eq (congrArg (rowD 1) (q4_one m).symm)))) Args.nil)) ?_
 refine RS (ok_indexRD 0 Try.underlying22 infoU rfl (Le.refl _) rfl (by simp [usOf]) (by rw [usR_length (usOf_fit [m])]; simp [usOf])) ?_
 refine RS (ok_loadElemP Try.underlying31 rfl (size31.of (by rw [us_one, usV_length (ofU_fit m)])) rfl) ?_; refine RZ (aggV (usV (ofU m))) (congrArg aggV (us_one m)) ?_
 refine RN ?_
 refine ⟨_, _, eff_alloc (n := 157) (d := 11) (k := 1000011) zero31 (by decide), fun b11 hb11 => ?_⟩
 have hBb11 := hb11.1
 refine TF 7 ?_
 refine RN ?_
 refine ⟨_, eff_storeA (n := 157) (s := 1000011) (size31.of (usV_length (ofU_fit m))) rfl rfl (usV_one _) hBb11 rfl (by rw [usV_length (ofU_fit m)]; rfl) (LV 2 rfl (LV 5 rfl (LV 7 rfl (LV 8 rfl (LV 11 rfl (LT 1000002 rfl (LT 1000003 rfl (LO 1000200 rfl (LO 1000205 rfl LN))))))))), ?_⟩
 refine TL ?_
 refine RN ?_
 refine A.dup (k := 1000011) (k' := 1000311) rfl (fun _ _ _ _ h => h) ?_
 refine A.regsLH _ (fun B => (OldH.same (t := 2) rfl (OldH.same (t := 5) rfl (OldH.same (t := 7) rfl (OldH.same (t := 8) rfl (OldH.same (t := 11) rfl (OldH.p (t := 1000002) rfl (OldH.p (t := 1000003) rfl (OldH.p (t := 1000011) rfl (OldH.p (t := 1000200) rfl (OldH.p (t := 1000205) rfl (OldH.same (t := 1000311) rfl OldH.nil)))))))))))) 8 [6] (by kernel_rfl) (by kernel_rfl) (by kernel_rfl) (by kernel_rfl) (fun B => [(2, .v (.pointer (some ⟨b2, 0, none⟩))), (1000002, blk b2 50 [.slice A₀ q.length q₀]), (1000200, old w₀.heap.size (memR A₀ (q4R q))), (5, .v (.slice A₅ (usOf q).length q₅)), (1000205, old w₀.heap.size (memR A₅ (usR (usOf q)))), (7, .v (.int .i64 0)), (8, .v (.bool false)), (1000011, blk b11 31 (usV (ofU m))), (11, .v (.pointer (some ⟨b11, 0, none⟩))), (12, freshN B [b11] 35 31 ((usOf q).length + 1) (usR ((usOf q) ++ [(ofU m)]))), (13, .v (.int .i64 0))]) (fun B hB => ?_) (fun B hB => ?_)
 ·refine RS (OpOk.rowO2 (ok_move rfl) (k := 1000205) (by decide) rfl) ?_
  refine RS (ok_call (of11_fn (usOf q).length (usR (usOf q))) (Args.cons rfl (Le.old _ _) Args.nil)) ?_
  refine RS (ok_loadA (s := 1000311) (by decide) Try.underlying31 rfl (size31.of (usV_length (ofU_fit m))) rfl rfl) ?_
  refine RS (ok_callB (Add_okB (usOf q) (ofU m) (usOf_fit q) (ofU_fit m) (Nat.le_trans (usOf_len q) (by decide)) (usOf_chk q) (one_chk m) (by have := usOf_len q; omega)) newD_mono (A2 rfl rfl)) ?_
  refine RM rfl ?_
  refine RS (ok_extractN (f := fun b => [aggV [.slice (some ⟨b, 0, none⟩) ((usOf q).length + 1) ((usOf q).length + 1)], .int .i64 0]) rfl (fun _ => rfl)) ?_
  refine RS (ok_extractC (f := fun b => [aggV [.slice (some ⟨b, 0, none⟩) ((usOf q).length + 1) ((usOf q).length + 1)], .int .i64 0]) rfl (fun _ => rfl)) ?_
  refine RS (ok_allocF [b11] zero35 (Named.cons (s := 1000311) (by decide) rfl Named.nil)) ?_
  refine RN ?_
  intro S hS
  simp only [subs, List.map_cons, List.map_nil, List.cons_append, List.nil_append, List.mem_cons, List.not_mem_nil, or_false] at hS
  rcases hS with rfl | rfl
  ·refine ⟨1, Nat.le_of_ble_eq_true (by kernel_rfl), _, (KC 2 rfl (KC 5 rfl (KC 7 rfl (KC 8 rfl (KC 11 rfl (KC 12 rfl (KC 70 rfl (KC 71 rfl (KC 72 rfl (KC 73 rfl (KC 74 rfl (KC 75 rfl (KC 76 rfl (KC 1000002 rfl (KC 1000003 rfl (KC 1000011 rfl (KC 1000200 rfl (KC 1000205 rfl (KC 1000311 rfl KN))))))))))))))))))), by kernel_rfl, _, rfl, _, eff_storeFM (n := 157) size35 (Nat.le_refl _) rfl rfl rfl (by decide) (Nat.le_refl _) (fun b hb => (LV 2 rfl (LV 5 rfl (LV 7 rfl (LV 8 rfl (LV 11 rfl (LeftS.cons (t := 70) rfl (Surv.newD (by decide)) (LeftS.cons (t := 71) rfl (Surv.old hb) (LV 73 rfl (LV 76 rfl (LeftS.cons (t := 1000002) rfl (Surv.old hb) (LeftS.cons (t := 1000003) rfl (Surv.old hb) (LeftS.cons (t := 1000011) rfl (Surv.old hb) (LeftS.cons (t := 1000200) rfl (Surv.old hb) (LeftS.cons (t := 1000205) rfl (Surv.old hb) LN))))))))))))))), ?_⟩
   refine AnyT.step 9 [] (by kernel_rfl) ?_
   refine NextT.pure (by kernel_rfl) rfl rfl rfl (ok_assign rfl) ?_ ?_
   ·refine AnyT.last (by kernel_rfl) ?_
    exact (SubL.cons (t := 2) rfl (Le.refl _) (SubL.cons (t := 1000002) rfl (Le.old _ _) (SubL.cons (t := 1000200) rfl (Le.old _ _) (SubL.cons (t := 5) rfl (Le.refl _) (SubL.cons (t := 1000205) rfl (Le.old _ _) (SubL.cons (t := 7) rfl (Le.refl _) (SubL.cons (t := 8) rfl (Le.refl _) (SubL.cons (t := 1000011) rfl (Le.old _ _) (SubL.cons (t := 11) rfl (Le.refl _) (SubL.cons (t := 12) rfl (Le.refl _) (SubL.cons (t := 13) rfl (Le.refl _) SubL.nil)))))))))))
   exact trivial
  ·refine ⟨2, Nat.le_of_ble_eq_true (by kernel_rfl), _, (KC 2 rfl (KC 5 rfl (KC 7 rfl (KC 8 rfl (KC 11 rfl (KC 12 rfl (KC 70 rfl (KC 71 rfl (KC 72 rfl (KC 73 rfl (KC 74 rfl (KC 75 rfl (KC 1000002 rfl (KC 1000003 rfl (KC 1000011 rfl (KC 1000200 rfl (KC 1000205 rfl (KC 1000311 rfl KN)))))))))))))))))), by kernel_rfl, _, rfl, _, eff_storeFM (n := 157) size35 (Nat.le_refl _) rfl rfl rfl (by decide) (Nat.le_refl _) (fun b hb => (LV 2 rfl (LV 5 rfl (LV 7 rfl (LV 8 rfl (LV 11 rfl (LeftS.cons (t := 70) rfl (Surv.newD (by decide)) (LeftS.cons (t := 71) rfl (Surv.old hb) (LV 73 rfl (LeftS.cons (t := 1000002) rfl (Surv.old hb) (LeftS.cons (t := 1000003) rfl (Surv.old hb) (LeftS.cons (t := 1000011) rfl (Surv.old hb) (LeftS.cons (t := 1000200) rfl (Surv.old hb) (LeftS.cons (t := 1000205) rfl (Surv.old hb) LN)))))))))))))), ?_⟩
   refine AnyT.step 6 [] (by kernel_rfl) ?_
   refine NextT.pure (by kernel_rfl) rfl rfl rfl (ok_extractC (f := fun b => [aggV [.slice (some ⟨b, 0, none⟩) ((usOf q).length + 1) ((usOf q).length + 1)], .int .i64 0]) rfl (fun _ => rfl)) ?_ ?_
   ·refine AnyT.step 9 [] (by kernel_rfl) ?_
    refine NextT.pure (by kernel_rfl) rfl rfl rfl (ok_assign rfl) ?_ ?_
    ·refine AnyT.last (by kernel_rfl) ?_
     exact (SubL.cons (t := 2) rfl (Le.refl _) (SubL.cons (t := 1000002) rfl (Le.old _ _) (SubL.cons (t := 1000200) rfl (Le.old _ _) (SubL.cons (t := 5) rfl (Le.refl _) (SubL.cons (t := 1000205) rfl (Le.old _ _) (SubL.cons (t := 7) rfl (Le.refl _) (SubL.cons (t := 8) rfl (Le.refl _) (SubL.cons (t := 1000011) rfl (Le.old _ _) (SubL.cons (t := 11) rfl (Le.refl _) (SubL.cons (t := 12) rfl (Le.refl _) (SubL.cons (t := 13) rfl (Le.refl _) SubL.nil)))))))))))
    exact trivial
   exact trivial
 ·refine A.openFreshN (t := 12) (k := 1000012) (k' := 1000312) rfl fun b12 c12 hBr12 hCr12 hLt12 => ?_
  have hBb12 : w₀.heap.size ≤ b12 := by omega
  have hlt_b11_b12 := hLt12 b11 (by simp)
  refine GS ?_
  refine TL ?_
  refine RS (OpOk.hdBlk (ok_loadA (s := 1000012) (by decide) Try.underlying35 rfl (size35.of (rfl)) rfl rfl) (k := 1000312) (by decide) rfl) ?_
  refine RS (ok_call (Repeats_fn ((usOf q) ++ [(ofU m)]) ((usOf_fit q).append (fit_one (ofU_fit m))) hln (ok_chk (by rw [List.length_append]; have := usOf_len q; simp; omega) hok)) (Args.cons rfl (Le.eq (by rw [List.length_append]; rfl)) Args.nil)) ?_; refine RZ (.tuple #[.int .i64 0, .int .i64 0, .bool false]) (repV_no (by rw [rep_B0 hJ ha, List.length_append]; simp)) ?_
  refine RM rfl ?_
  refine RS (ok_extractV (xs := [_, _, _]) rfl rfl) ?_
  refine RS (ok_extractV (xs := [_, _, _]) rfl rfl) ?_
  refine RS (ok_extractV (xs := [_, _, _]) rfl rfl) ?_
  refine RA rfl ?_
  refine RA rfl ?_
  refine RA rfl ?_
  refine RN ?_
  refine GS ?_
  refine TL ?_
  refine RA rfl ?_
  refine RN ?_
  refine A.seq ?_
  refine GS ?_
  refine TL ?_
  refine RA rfl ?_
  refine RN ?_
  refine A.block ?_
  refine A.loop (ι := Nat) (fun n => n ≤ (usOf q).length) (fun n => [(2, .v (.pointer (some ⟨b2, 0, none⟩))), (1000002, blk b2 50 [.slice A₀ q.length q₀]), (1000200, old w₀.heap.size (memR A₀ (q4R q))), (5, .v (.slice A₅ (usOf q).length q₅)), (1000205, old w₀.heap.size (memR A₅ (usR (usOf q)))), (11, .v (.pointer (some ⟨b11, 0, none⟩))), (1000011, blk b11 31 (usV (ofU m))), (12, .v (.pointer (some ⟨b12, 0, none⟩))), (1000012, blk b12 35 [.slice (some ⟨c12, 0, none⟩) ((usOf q).length + 1) ((usOf q).length + 1)]), (1000312, blk c12 31 (usR ((usOf q) ++ [(ofU m)]))), (7, .v (.int .i64 0)), (8, .v (.bool false)), (13, .v (.int .i64 0)), (15, .v (.int .i64 0)), (16, .v (.bool false)), (17, .v (.bool (anyU (usOf q) (ofU m) n))), (18, .v (nI n))]) (fun n => (usOf q).length - n) 0 ?_ ?_ ?_
  ·exact Nat.zero_le _
  ·exact (KC 2 rfl (KC 1000002 rfl (KC 1000200 rfl (KC 5 rfl (KC 1000205 rfl (KC 11 rfl (KC 1000011 rfl (KC 12 rfl (KC 1000012 rfl (KC 1000312 rfl (KC 7 rfl (KC 8 rfl (KC 13 rfl (KC 15 rfl (KC 16 rfl (KE 17 rfl (by rfl) (KE 18 rfl (by rfl) KN)))))))))))))))))
  intro n hn'
  have h60 := usOf_len q
  refine A.seq ?_
  refine GS ?_
  refine TL ?_
  refine RM rfl ?_
  refine RM rfl ?_
  refine RS (ok_lenV Try.underlying22 rfl) ?_
  refine RB rfl rfl rfl ?_
  refine RN ?_
  refine A.cond rfl (fun hc86 => ?_) (fun hc86 => ?_)
  ·have hi : n < (usOf q).length := by simpa using hc86
   refine A.skip ?_
   refine EN ?_
   refine A.seq ?_
   refine A.block ?_
   rcases Bool.eq_false_or_eq_true (anyU (usOf q) (ofU m) n) with hsp | hsp
   ·refine A.reg (by kernel_rfl) (by kernel_rfl) (.inr (by kernel_rfl)) ?_
    refine TL ?_
    refine RM rfl ?_; refine RZ (.bool true) (congrArg Value.bool hsp) ?_
    refine RM rfl ?_
    refine RK ?_
    refine RK ?_
    refine RK ?_
    refine RK ?_
    refine RK ?_
    refine RK ?_
    refine RP rfl rfl ?_; refine RZ (.bool (anyU (usOf q) (ofU m) (n + 1))) (congrArg Value.bool (by rw [anyU_succ, hsp]; simp [getElem!_pos (usOf q) n hi])) ?_
    refine RA rfl ?_
    refine RN ?_
    refine End.normal_block ?_
    refine EN ?_
    refine GE ?_
    refine TL ?_
    refine RM rfl ?_
    refine RBS rfl rfl rfl (nI (n + 1)) (by rw [wrap_i64 (by omega) (by omega)]; rfl) ?_
    refine RA rfl ?_
    refine RN ?_
    refine End.normal_then ?_
    refine End.again (n + 1) ?_ ?_ ?_
    ·show _ ≤ _; omega
    ·show _ - _ < _ - _; omega
    ·exact (KC 2 rfl (KC 1000002 rfl (KC 1000200 rfl (KC 5 rfl (KC 1000205 rfl (KC 11 rfl (KC 1000011 rfl (KC 12 rfl (KC 1000012 rfl (KC 1000312 rfl (KC 7 rfl (KC 8 rfl (KC 13 rfl (KC 15 rfl (KC 16 rfl (KC 17 rfl (KC 18 rfl KN)))))))))))))))))
   ·refine A.reg (by kernel_rfl) (by kernel_rfl) (.inr (by kernel_rfl)) ?_
    refine TL ?_
    refine RM rfl ?_; refine RZ (.bool false) (congrArg Value.bool hsp) ?_
    refine RM rfl ?_
    refine RQ (ok_move rfl) ?_
    refine RQ (ok_move rfl) ?_
    refine RQ (ok_indexR (s := 1000205) n Try.underlying22 infoU rfl rfl (by decide) rfl hi (usR_lt (usOf_fit q) hi)) ?_
    refine RQ (ok_loadElemP Try.underlying31 rfl (size31.of (by rw [usR_at (usOf_fit q) hi, usV_length ((usOf_fit q).get hi)])) rfl) ?_; refine RZ (aggV (usV (usOf q)[n])) (congrArg aggV (usR_at (usOf_fit q) hi)) ?_
    refine RQ (ok_loadA (s := 1000011) (by decide) Try.underlying31 rfl (size31.of (usV_length (ofU_fit m))) rfl rfl) ?_
    refine RQ (ok_call (refClash_fn (usOf q)[n] (ofU m) ((usOf_fit q).get hi) (ofU_fit m)) (A2 rfl rfl)) ?_
    refine RP rfl rfl ?_; refine RZ (.bool (anyU (usOf q) (ofU m) (n + 1))) (congrArg Value.bool (by rw [anyU_succ, hsp]; simp [getElem!_pos (usOf q) n hi])) ?_
    refine RA rfl ?_
    refine RN ?_
    refine End.normal_block ?_
    refine EN ?_
    refine GE ?_
    refine TL ?_
    refine RM rfl ?_
    refine RBS rfl rfl rfl (nI (n + 1)) (by rw [wrap_i64 (by omega) (by omega)]; rfl) ?_
    refine RA rfl ?_
    refine RN ?_
    refine End.normal_then ?_
    refine End.again (n + 1) ?_ ?_ ?_
    ·show _ ≤ _; omega
    ·show _ - _ < _ - _; omega
    ·exact (KC 2 rfl (KC 1000002 rfl (KC 1000200 rfl (KC 5 rfl (KC 1000205 rfl (KC 11 rfl (KC 1000011 rfl (KC 12 rfl (KC 1000012 rfl (KC 1000312 rfl (KC 7 rfl (KC 8 rfl (KC 13 rfl (KC 15 rfl (KC 16 rfl (KC 17 rfl (KC 18 rfl KN)))))))))))))))))
  ·have hi2 : n = (usOf q).length := by have h := hn'; simp at hc86; omega
   refine A.exit ?_
   refine End.exit_then ?_
   refine End.exit_then ?_
   refine End.exit_here ?_
   refine EN ?_
   refine A.seq ?_
   refine GS ?_
   refine TL ?_
   refine RM rfl ?_
   refine RBS rfl rfl rfl (.bool false) (by simp) ?_
   refine RM rfl ?_
   refine RQ (ok_move rfl) ?_
   refine RQ (ok_move rfl) ?_
   refine RQ (ok_move rfl) ?_
   refine RQ (ok_move rfl) ?_; refine RZ (.bool false) (by rw [hi2]; exact congrArg Value.bool ha) ?_
   refine RQ (ok_pick rfl rfl) ?_
   refine RQ (ok_neBool Try.underlying4 rfl rfl) ?_; refine RZ (.bool false) (by rfl) ?_
   refine RP rfl rfl ?_
   refine RM rfl ?_
   refine RQ (ok_move rfl) ?_
   refine RQ (ok_move rfl) ?_
   refine RK ?_
   refine RK ?_
   refine RQ (ok_pick rfl rfl) ?_
   refine RQ (ok_move rfl) ?_
   refine RK ?_
   refine RK ?_
   refine RK ?_
   refine RK ?_
   refine RQ (ok_pick rfl rfl) ?_
   refine RP rfl rfl ?_
   refine RM rfl ?_
   refine RQ (ok_move rfl) ?_
   refine RQ (ok_move rfl) ?_
   refine RK ?_
   refine RK ?_
   refine RK ?_
   refine RQ (ok_pick rfl rfl) ?_
   refine RP rfl rfl ?_
   refine RN ?_
   refine A.sub (KC 2 rfl (KC 5 rfl (KC 11 rfl (KC 12 rfl (KC 128 rfl (KC 1000002 rfl (KC 1000011 rfl (KC 1000012 rfl (KC 1000200 rfl (KC 1000205 rfl (KC 1000312 rfl KN))))))))))) ?_
   refine A.no rfl ?_
   refine A.skip ?_
   refine EN ?_
   refine GS ?_
   refine TL ?_
   refine RS (OpOk.hdRow (ok_loadA (s := 1000002) (by decide) Try.underlying50 rfl (size50.of (rfl)) rfl rfl) (k := 1000200) (by decide) rfl) ?_
   refine RS (ok_call (Of11_fn q) (Args.cons rfl (Le.old _ _) Args.nil)) ?_
   refine RA rfl ?_
   refine RN ?_
   refine A.seq ?_
   refine GS ?_
   refine TL ?_
   refine RA rfl ?_
   refine RN ?_
   refine A.block ?_
   refine A.loop (ι := Nat) (fun n => n ≤ (usOf q).length) (fun n => [(5, .v (.slice A₅ (usOf q).length q₅)), (1000205, old w₀.heap.size (memR A₅ (usR (usOf q)))), (11, .v (.pointer (some ⟨b11, 0, none⟩))), (1000011, blk b11 31 (usV (ofU m))), (12, .v (.pointer (some ⟨b12, 0, none⟩))), (1000012, blk b12 35 [.slice (some ⟨c12, 0, none⟩) ((usOf q).length + 1) ((usOf q).length + 1)]), (1000312, blk c12 31 (usR ((usOf q) ++ [(ofU m)]))), (19, rowD (usOf q).length (usR (usOf q))), (20, .v (nI n))]) (fun n => (usOf q).length - n) 0 ?_ ?_ ?_
   ·exact Nat.zero_le _
   ·exact (KC 5 rfl (KC 1000205 rfl (KC 11 rfl (KC 1000011 rfl (KC 12 rfl (KC 1000012 rfl (KC 1000312 rfl (KC 19 rfl (KE 20 rfl (by rfl) KN)))))))))
   intro n hn'
   have h60 := usOf_len q
   refine A.seq ?_
   refine GS ?_
   refine TL ?_
   refine RM rfl ?_
   refine RM rfl ?_
   refine RS (ok_lenV Try.underlying22 rfl) ?_
   refine RB rfl rfl rfl ?_
   refine RN ?_
   refine A.cond rfl (fun hc134 => ?_) (fun hc134 => ?_)
   ·have hi : n < (usOf q).length := by simpa using hc134
    refine A.skip ?_
    refine EN ?_
    refine A.seq ?_
    refine A.block ?_
    refine GD ?_
    refine TL ?_
    refine RM rfl ?_
    refine RM rfl ?_
    refine RS (ok_indexR (s := 1000205) n Try.underlying22 infoU rfl rfl (by decide) rfl hi (usR_lt (usOf_fit q) hi)) ?_
    refine RS (ok_loadElemP Try.underlying31 rfl (size31.of (by rw [usR_at (usOf_fit q) hi, usV_length ((usOf_fit q).get hi)])) rfl) ?_; refine RZ (aggV (usV (usOf q)[n])) (congrArg aggV (usR_at (usOf_fit q) hi)) ?_
    refine RM rfl ?_
    refine RM rfl ?_
    refine RS (ok_indexRD n Try.underlying22 infoU rfl (Le.refl _) rfl hi (usR_lt (usOf_fit q) hi)) ?_
    refine RS (ok_loadElemP Try.underlying31 rfl (size31.of (by rw [usR_at (usOf_fit q) hi, usV_length ((usOf_fit q).get hi)])) rfl) ?_; refine RZ (aggV (usV (usOf q)[n])) (congrArg aggV (usR_at (usOf_fit q) hi)) ?_
    refine RS (ok_neqT (n := 20) true flatU (by decide) (by kernel_rfl) (by kernel_rfl) rfl rfl (kinU ((usOf_fit q).get hi)) (kinU ((usOf_fit q).get hi)) ⟨fun _ => rfl, fun _ => rfl⟩) ?_; refine RZ (.bool false) (by rfl) ?_
    refine RN ?_
    refine A.no rfl ?_
    refine A.skip ?_
    refine End.normal_block ?_
    refine EN ?_
    refine GE ?_
    refine TL ?_
    refine RM rfl ?_
    refine RBS rfl rfl rfl (nI (n + 1)) (by rw [wrap_i64 (by omega) (by omega)]; rfl) ?_
    refine RA rfl ?_
    refine RN ?_
    refine End.normal_then ?_
    refine End.again (n + 1) ?_ ?_ ?_
    ·show _ ≤ _; omega
    ·show _ - _ < _ - _; omega
    ·exact (KC 5 rfl (KC 1000205 rfl (KC 11 rfl (KC 1000011 rfl (KC 12 rfl (KC 1000012 rfl (KC 1000312 rfl (KC 19 rfl (KC 20 rfl KN)))))))))
   ·refine A.exit ?_
    refine End.exit_then ?_
    refine End.exit_then ?_
    refine End.exit_here ?_
    refine EN ?_
    refine A.regsX [⟨false, true, none⟩, ⟨false, false, some 6⟩, ⟨false, true, none⟩, ⟨false, false, some 6⟩, ⟨false, true, none⟩, ⟨false, false, some 6⟩, ⟨true, false, none⟩, ⟨false, true, none⟩, ⟨false, true, none⟩, ⟨false, true, none⟩, ⟨false, true, none⟩, ⟨false, true, none⟩] _ (fun B => (OldH.same (t := 5) rfl (OldH.same (t := 11) rfl (OldH.same (t := 12) rfl (OldH.p (t := 19) rfl (OldH.same (t := 20) rfl (OldH.same (t := 134) rfl (OldH.same (t := 1000011) rfl (OldH.same (t := 1000012) rfl (OldH.p (t := 1000205) rfl (OldH.same (t := 1000312) rfl OldH.nil))))))))))) (by kernel_rfl) (by kernel_rfl) (by kernel_rfl) (by kernel_rfl) (fun B hlt => (StaysL.cons (k := 5) (Stays.v _ _) (StaysL.cons (k := 11) (Stays.v _ _) (StaysL.cons (k := 12) (Stays.v _ _) (StaysL.cons (k := 19) (Stays.old _ _) (StaysL.cons (k := 20) (Stays.v _ _) (StaysL.cons (k := 134) (Stays.v _ _) (StaysL.cons (k := 1000011) (Stays.blk (hlt 1000011 _ _ _ rfl)) (StaysL.cons (k := 1000012) (Stays.blk (hlt 1000012 _ _ _ rfl)) (StaysL.cons (k := 1000205) (Stays.old _ _) (StaysL.cons (k := 1000312) (Stays.blk (hlt 1000312 _ _ _ rfl)) StaysL.nil))))))))))) (fun B hB hlt => ?_)
    refine RunX.step rfl rfl (OpOk.hdBlkO (ok_loadA (s := 1000012) (by decide) Try.underlying35 rfl (size35.of (rfl)) rfl rfl) (k := 1000312) (by decide) rfl (hlt 1000312 _ _ _ rfl) (Nat.le_refl _)) (fun _ => Stays.old _ _) ?_
    refine RunX.step rfl rfl (ok_build0P Try.underlying22 infoU) (fun h => by cases h) ?_
    refine RunX.step rfl rfl (OpOk.rowO2 (ok_move rfl) (k := 1000205) (by decide) rfl) (fun _ => Stays.old _ _) ?_
    refine RunX.step rfl rfl (ok_append0P Try.underlying22 infoU (by decide) (by decide) rfl rfl rfl (Le.old _ _) (usR_length (usOf_fit q)) (by have := usOf_len q; omega)) (fun h => by cases h) ?_
    refine RunX.step rfl rfl (ok_loadA (s := 1000011) (by decide) Try.underlying31 rfl (size31.of (usV_length (ofU_fit m))) rfl rfl) (fun _ => Stays.v _ _) ?_
    refine RunX.step rfl rfl (ok_build1K Try.underlying22 infoU rfl (by decide) (by decide) rfl (usV_length (ofU_fit m))) (fun h => by cases h) ?_
    refine RunX.eff rfl rfl (okx_appendP Try.underlying22 infoU (by decide) (by decide) rfl rfl rfl oneP_rowD (usV_one (ofU m)) ((usV_length (ofU_fit m)).trans (Nat.one_mul 20).symm) (by have := usOf_len q; omega)) (fun h => by cases h) ?_
    refine RunX.step rfl rfl (ok_call (same11_fn ((usOf q) ++ [(ofU m)]) ((usOf_fit q).append (fit_one (ofU_fit m))) hln) (Args.cons rfl ((Le.old _ _).trans (Le.eq (by rw [List.length_append]; rfl))) (Args.cons rfl (ownP_rowD.trans (Le.eq (by rw [usR_append, usR_one, List.length_append]; rfl))) Args.nil))) (fun _ => Stays.v _ _) ?_
    refine RunX.step rfl rfl (ok_move rfl) (fun _ => Stays.v _ _) ?_
    refine RunX.guarded rfl rfl rfl rfl (ok_call lives11_fn Args.nil) (fun _ => Stays.v _ _) ?_
    refine RunX.step rfl rfl (ok_pick rfl rfl) (fun _ => Stays.v _ _) ?_
    refine RunX.step rfl rfl (ok_assign rfl) (fun _ => Stays.v _ _) ?_
    refine RunX.last (KC 4 rfl (KC 1000011 rfl (KC 1000012 rfl (KC 1000205 rfl (KC 1000312 rfl KN))))) (by kernel_rfl) ?_
    refine A.subL (SubL.cons (t := 4) rfl (Le.refl _) (SubL.cons (t := 1000011) rfl (Le.refl _) (SubL.cons (t := 1000012) rfl (Le.refl _) (SubL.cons (t := 1000205) rfl (Le.old _ _) (SubL.cons (t := 1000312) rfl (Le.refl _) SubL.nil))))) ?_
    refine A.ret ?_
    exact End.ret1U hgw rfl rfl (Le.refl _)
theorem LedgersRepeats_fn (q : List Q4) (m : Q4) : Fn Try.prog 4 [hdD (rowD q.length (q4R q)) [], .v (aggV (q4V m))] (.v (.bool true)) := by
 by_cases hJ : repJ (usOf q) < (usOf q).length
 ·exact LRep_A q m hJ
 ·cases ha : anyU (usOf q) (ofU m) (usOf q).length with
  | true => exact LRep_B1 q m hJ ha
  | false => exact LRep_B0 q m hJ ha
end Go.Proofs.Ythhmimnkfklhdaa
namespace Go.Proofs.Ythhmimnkfklhdaa
open Go Go.RowKit
set_option linter.unusedVariables false
set_option maxRecDepth 20000
set_option linter.unusedSimpArgs false
def prM (l m : List Us) (i k : Nat) : Bool := ((List.range i).any fun a => (List.range m.length).any fun b => clB l[a]! m[b]!) || (List.range k).any fun b => clB l[i]! m[b]!
theorem prM_succ (l m : List Us) (i k : Nat) : prM l m i (k + 1) = (prM l m i k || clB l[i]! m[k]!) := by
 unfold prM; rw [List.range_succ, List.any_append, ← Bool.or_assoc]; simp
theorem prM_row (l m : List Us) (i : Nat) : prM l m i m.length = prM l m (i + 1) 0 := by
 unfold prM; rw [List.range_succ, List.any_append]; simp
theorem prM_iff {l m : List Us} {i : Nat} : prM l m i 0 = true ↔ ∃ a b, a < i ∧ b < m.length ∧ clB l[a]! m[b]! = true := by
 unfold prM
 simp only [List.range_zero, List.any_nil, Bool.or_false, List.any_eq_true, List.mem_range]
 constructor
 ·rintro ⟨a, ha, b, hb, h⟩; exact ⟨a, b, ha, hb, h⟩
 ·rintro ⟨a, b, ha, hb, h⟩; exact ⟨a, ha, b, hb, h⟩
theorem rF_iff {us : List Us} : rF us = true ↔ ∃ i j, i < j ∧ j < us.length ∧ clB us[i]! us[j]! = true := by
 unfold rF
 rw [decide_eq_true_iff]
 constructor
 ·intro h
  have h1 := repI_lt h
  exact ⟨_, _, h1.1, h, h1.2⟩
 ·rintro ⟨i, j, hi, hj, hc⟩
  rcases Nat.lt_or_ge (repJ us) us.length with h | h
  ·exact h
  ·have := rep_lt (Nat.not_lt.2 h) hj
   rw [show cAt us j = true from cAt_iff.2 ⟨i, hi, hc⟩] at this; cases this
theorem rF_merge (l m : List Us) : rF (l ++ m) = (rF l || rF m || prM l m l.length 0) := by
 rw [Bool.eq_iff_iff, Bool.or_eq_true, Bool.or_eq_true, rF_iff, rF_iff, rF_iff, prM_iff]
 constructor
 ·rintro ⟨i, j, hi, hj, hc⟩
  rw [List.length_append] at hj
  rcases Nat.lt_or_ge j l.length with h1 | h1
  ·exact .inl (.inl ⟨i, j, hi, h1, by rwa [app_at (by omega), app_at h1] at hc⟩)
  ·obtain ⟨j', rfl⟩ : ∃ j', j = l.length + j' := ⟨j - l.length, by omega⟩
   have hj' : j' < m.length := by omega
   rw [app_at2 hj'] at hc
   rcases Nat.lt_or_ge i l.length with h2 | h2
   ·exact .inr ⟨i, j', h2, hj', by rwa [app_at h2] at hc⟩
   ·obtain ⟨i', rfl⟩ : ∃ i', i = l.length + i' := ⟨i - l.length, by omega⟩
    exact .inl (.inr ⟨i', j', by omega, hj', by rwa [app_at2 (by omega)] at hc⟩)
 ·rintro ((⟨i, j, hi, hj, hc⟩ | ⟨i, j, hi, hj, hc⟩) | ⟨i, j, hi, hj, hc⟩)
  ·exact ⟨i, j, hi, by rw [List.length_append]; omega, by rwa [app_at (by omega), app_at hj]⟩
  ·exact ⟨l.length + i, l.length + j, by omega, by rw [List.length_append]; omega, by rwa [app_at2 (by omega), app_at2 hj]⟩
  ·exact ⟨i, l.length + j, by omega, by rw [List.length_append]; omega, by rwa [app_at hi, app_at2 hj]⟩
theorem mg_neq (l m : List Us) : Value.bool (!(rF (l ++ m) == (rF l || rF m || prM l m l.length 0))) = .bool false := by rw [← rF_merge]; simp
theorem cntU_append (l m : List Us) (k : List UInt8) : cntU (l ++ m) k = cntU l k + cntU m k := by unfold cntU; rw [List.countP_append]
def idL (x : UInt8) : List UInt8 := List.replicate 15 0 ++ [x % 4]
theorem idL_length (x : UInt8) : (idL x).length = 16 := by simp [idL]
theorem bId (x : UInt8) : Try.prog.built 23 [(15, byteV (x % 4))] = some ((idL x).map byteV).toArray := bKey _
theorem m4 (b : UInt8) : Value.int .u8 ((b.toNat : Int).tmod 4) = byteV (b % 4) := by
 rw [Int.tmod_eq_emod_of_nonneg (by omega)]; unfold byteV; rw [UInt8.toNat_mod]; rfl

set_option maxHeartbeats 4000000 in
theorem LedgersMerge_fn (q r : List Q4) (x : UInt8) : Fn Try.prog 5 [hdD (rowD q.length (q4R q)) [], hdD (rowD r.length (q4R r)) [], .v (byteV x)] (.v (.bool true)) := by
 have hok : ∀ v ∈ (usOf q) ++ (usOf r), v.ok = true := fun v hv => (List.mem_append.1 hv).elim (usOf_ok q v) (usOf_ok r v)
 refine Fn.of Try.func5 rfl (by kernel_rfl) Try.ntmps5 (by simp) (fun w => [(0, old w.heap.size (hdD (rowD q.length (q4R q)) [])), (1, old w.heap.size (hdD (rowD r.length (q4R r)) [])), (2, .v (byteV x))]) (fun w => (Start.old rfl (Start.old rfl (Start.v rfl Start.nil)))) fun w₀ => ?_
 refine A.nameHdR (t := 0) (k := 1000200) rfl fun A₀ q₀ => ?_
 refine A.nameHdR (t := 1) (k := 1000201) rfl fun A₁ q₁ => ?_
 refine GS ?_
 refine TN 0 ?_
 refine RN ?_
 refine ⟨_, _, eff_box (n := 135) (d := 3) (k := 1000003) rfl (by decide), fun b3 hb3 => ?_⟩
 have hBb3 := hb3.1
 refine TN 1 ?_
 refine RN ?_
 refine ⟨_, _, eff_box (n := 135) (d := 4) (k := 1000004) rfl (by decide), fun b4 hb4 => ?_⟩
 have hBb4 := hb4.1
 have hlt_b3_b4 : b3 < b4 := hb4.2 1000003 _ _ _ rfl
 refine TL ?_
 refine RA rfl ?_
 refine RN ?_
 refine GD ?_
 refine TL ?_
 refine RS (OpOk.hdRow (ok_loadA (s := 1000003) (by decide) Try.underlying50 rfl (size50.of (rfl)) rfl rfl) (k := 1000200) (by decide) rfl) ?_
 refine RS (ok_call (Of11_fn q) (Args.cons rfl (Le.old _ _) Args.nil)) ?_
 refine RS (OpOk.hdRow (ok_loadA (s := 1000004) (by decide) Try.underlying50 rfl (size50.of (rfl)) rfl rfl) (k := 1000201) (by decide) rfl) ?_
 refine RS (ok_call (Of11_fn r) (Args.cons rfl (Le.old _ _) Args.nil)) ?_
 refine RA rfl ?_
 refine RA rfl ?_
 refine RN ?_
 refine A.raise (fun w => [(2, .v (byteV x)), (1000003, blk b3 50 [.slice A₀ q.length q₀]), (1000004, blk b4 50 [.slice A₁ r.length q₁]), (1000200, old w.heap.size (memR A₀ (q4R q))), (1000201, old w.heap.size (memR A₁ (q4R r))), (7, old w.heap.size (rowD (usOf q).length (usR (usOf q)))), (8, old w.heap.size (rowD (usOf r).length (usR (usOf r))))]) (fun w => (UpTo.same (t := 2) rfl (UpTo.same (t := 1000003) rfl (UpTo.same (t := 1000004) rfl (UpTo.old (t := 1000200) rfl (UpTo.old (t := 1000201) rfl (UpTo.new (t := 7) rfl (UpTo.new (t := 8) rfl UpTo.nil)))))))) fun w₀ hgw => ?_
 refine A.nameR (t := 7) (k := 1000207) rfl fun A₇ q₇ => ?_
 refine A.nameR (t := 8) (k := 1000208) rfl fun A₈ q₈ => ?_
 refine GS ?_
 refine TN 4 ?_
 refine RS (OpOk.rowO (ok_move rfl) (k := 1000207) (by decide) rfl) ?_
 refine RS (ok_call (of11_fn (usOf q).length (usR (usOf q))) (Args.cons rfl (Le.old _ _) Args.nil)) ?_
 refine RS (OpOk.rowO (ok_move rfl) (k := 1000208) (by decide) rfl) ?_
 refine RS (ok_call (of11_fn (usOf r).length (usR (usOf r))) (Args.cons rfl (Le.old _ _) Args.nil)) ?_
 refine RN ?_
 refine ⟨_, _, eff_name (n := 135) (d := 35) (k := 1000035) rfl rfl (fun B' => ok_callB (Merge_okB (usOf q) (usOf r) (usOf_fit q) (usOf_fit r) (Nat.le_trans (usOf_len q) (by decide)) (Nat.le_trans (usOf_len r) (by decide)) (usOf_chk q) (usOf_chk r) (by have := usOf_len q; have := usOf_len r; omega)) newD_mono (A2 rfl rfl)) (by decide) (by decide), fun b35 hb35 => ?_⟩
 have hBb35 := hb35.1
 have hlt_b3_b35 : b3 < b35 := hb35.2 1000003 _ _ _ rfl
 have hlt_b4_b35 : b4 < b35 := hb35.2 1000004 _ _ _ rfl
 refine TN 8 ?_
 refine RM rfl ?_
 refine RS (ok_extractV (xs := [_, _]) rfl rfl) ?_
 refine RS (ok_extractV (xs := [_, _]) rfl rfl) ?_
 refine RN ?_
 refine ⟨_, _, eff_alloc (n := 135) (d := 9) (k := 1000009) zero35 (by decide), fun b9 hb9 => ?_⟩
 have hBb9 := hb9.1
 refine TF 9 ?_
 refine RN ?_
 refine ⟨_, eff_storeA (n := 135) (s := 1000009) (size35.of (rfl)) rfl rfl (rfl) hBb9 rfl (rfl) (LV 2 rfl (LV 7 rfl (LV 8 rfl (LV 9 rfl (LV 37 rfl (LT 1000003 rfl (LT 1000004 rfl (LT 1000035 rfl (LO 1000200 rfl (LO 1000201 rfl (LO 1000207 rfl (LO 1000208 rfl LN)))))))))))), ?_⟩
 refine TL ?_
 refine RA rfl ?_
 refine RN ?_
 refine GS ?_
 refine TL ?_
 refine RS (OpOk.rowO (ok_move rfl) (k := 1000207) (by decide) rfl) ?_
 refine RS (ok_call (of11_fn (usOf q).length (usR (usOf q))) (Args.cons rfl (Le.old _ _) Args.nil)) ?_
 refine RS (ok_call (Repeats_fn (usOf q) (usOf_fit q) (Nat.le_trans (usOf_len q) (by decide)) (usOf_chk q)) (A1 rfl)) ?_
 refine RM rfl ?_
 refine RS (ok_extractV (xs := [_, _, _]) rfl rfl) ?_
 refine RS (ok_extractV (xs := [_, _, _]) rfl rfl) ?_
 refine RS (ok_extractV (xs := [_, _, _]) rfl rfl) ?_
 refine RA rfl ?_
 refine RA rfl ?_
 refine RA rfl ?_
 refine RN ?_
 refine A.sub (KC 2 rfl (KC 7 rfl (KC 8 rfl (KC 9 rfl (KC 10 rfl (KC 13 rfl (KC 1000003 rfl (KC 1000004 rfl (KC 1000009 rfl (KC 1000035 rfl (KC 1000200 rfl (KC 1000201 rfl (KC 1000207 rfl (KC 1000208 rfl KN)))))))))))))) ?_
 refine GS ?_
 refine TL ?_
 refine RS (OpOk.rowO (ok_move rfl) (k := 1000208) (by decide) rfl) ?_
 refine RS (ok_call (of11_fn (usOf r).length (usR (usOf r))) (Args.cons rfl (Le.old _ _) Args.nil)) ?_
 refine RS (ok_call (Repeats_fn (usOf r) (usOf_fit r) (Nat.le_trans (usOf_len r) (by decide)) (usOf_chk r)) (A1 rfl)) ?_
 refine RM rfl ?_
 refine RS (ok_extractV (xs := [_, _, _]) rfl rfl) ?_
 refine RS (ok_extractV (xs := [_, _, _]) rfl rfl) ?_
 refine RS (ok_extractV (xs := [_, _, _]) rfl rfl) ?_
 refine RA rfl ?_
 refine RA rfl ?_
 refine RA rfl ?_
 refine RN ?_
 refine GS ?_
 refine TL ?_
 refine RS (OpOk.hdBlk (ok_loadA (s := 1000009) (by decide) Try.underlying35 rfl (size35.of (rfl)) rfl rfl) (k := 1000035) (by decide) rfl) ?_
 refine RS (ok_call (Repeats_fn ((usOf q) ++ (usOf r)) ((usOf_fit q).append (usOf_fit r)) (by rw [List.length_append]; have := usOf_len q; have := usOf_len r; omega) (ok_chk (by rw [List.length_append]; have := usOf_len q; have := usOf_len r; omega) hok)) (Args.cons rfl (Le.eq (by rw [List.length_append])) Args.nil)) ?_
 refine RM rfl ?_
 refine RS (ok_extractV (xs := [_, _, _]) rfl rfl) ?_
 refine RS (ok_extractV (xs := [_, _, _]) rfl rfl) ?_
 refine RS (ok_extractV (xs := [_, _, _]) rfl rfl) ?_
 refine RA rfl ?_
 refine RA rfl ?_
 refine RA rfl ?_
 refine RN ?_
 rcases Bool.eq_false_or_eq_true (rF (usOf q)) with hsp | hsp
 ·refine GS ?_
  refine TL ?_
  refine RM rfl ?_; refine RZ (.bool true) (congrArg Value.bool hsp) ?_
  refine RM rfl ?_
  refine RK ?_
  refine RP rfl rfl ?_; refine RZ (.bool (rF (usOf q) || rF (usOf r))) (congrArg Value.bool (by simp [hsp])) ?_
  refine RA rfl ?_
  refine RN ?_
  refine A.seq ?_
  refine GS ?_
  refine TL ?_
  refine RA rfl ?_
  refine RN ?_
  refine A.sub (KC 2 rfl (KC 7 rfl (KC 8 rfl (KC 9 rfl (KC 10 rfl (KC 19 rfl (KC 20 rfl (KC 21 rfl (KC 1000003 rfl (KC 1000004 rfl (KC 1000009 rfl (KC 1000035 rfl (KC 1000200 rfl (KC 1000201 rfl (KC 1000207 rfl (KC 1000208 rfl KN)))))))))))))))) ?_
  refine A.block ?_
  refine A.loop (ι := Nat) (fun i => i ≤ (usOf q).length) (fun i => [(2, .v (byteV x)), (7, .v (.slice A₇ (usOf q).length q₇)), (1000207, old w₀.heap.size (memR A₇ (usR (usOf q)))), (8, .v (.slice A₈ (usOf r).length q₈)), (1000208, old w₀.heap.size (memR A₈ (usR (usOf r)))), (9, .v (.pointer (some ⟨b9, 0, none⟩))), (1000009, blk b9 35 [.slice (some ⟨b35, 0, none⟩) ((usOf q).length + (usOf r).length) ((usOf q).length + (usOf r).length)]), (1000035, blk b35 31 (usR ((usOf q) ++ (usOf r)))), (10, .v (.int .i64 0)), (19, .v (.bool (rF ((usOf q) ++ (usOf r))))), (21, .v (nI i)), (20, .v (.bool ((rF (usOf q) || rF (usOf r)) || prM (usOf q) (usOf r) i 0)))]) (fun i => (usOf q).length - i) 0 ?_ ?_ ?_
  ·exact Nat.zero_le _
  ·exact (KC 2 rfl (KC 7 rfl (KC 1000207 rfl (KC 8 rfl (KC 1000208 rfl (KC 9 rfl (KC 1000009 rfl (KC 1000035 rfl (KC 10 rfl (KC 19 rfl (KE 21 rfl (by rfl) (KE 20 rfl (congrArg (fun b => D.v (Value.bool b)) (by simp [prM])) KN))))))))))))
  intro i hi'
  have h60 := usOf_len q
  have h61 := usOf_len r
  refine A.seq ?_
  refine GS ?_
  refine TL ?_
  refine RM rfl ?_
  refine RM rfl ?_
  refine RS (ok_lenV Try.underlying22 rfl) ?_
  refine RB rfl rfl rfl ?_
  refine RN ?_
  refine A.cond rfl (fun hc65 => ?_) (fun hc65 => ?_)
  ·have hi : i < (usOf q).length := by simpa using hc65
   refine A.skip ?_
   refine EN ?_
   refine A.seq ?_
   refine A.block ?_
   refine GS ?_
   refine TL ?_
   refine RA rfl ?_
   refine RN ?_
   refine A.block ?_
   refine A.loop (ι := Nat) (fun k => k ≤ (usOf r).length) (fun k => [(2, .v (byteV x)), (7, .v (.slice A₇ (usOf q).length q₇)), (1000207, old w₀.heap.size (memR A₇ (usR (usOf q)))), (8, .v (.slice A₈ (usOf r).length q₈)), (1000208, old w₀.heap.size (memR A₈ (usR (usOf r)))), (9, .v (.pointer (some ⟨b9, 0, none⟩))), (1000009, blk b9 35 [.slice (some ⟨b35, 0, none⟩) ((usOf q).length + (usOf r).length) ((usOf q).length + (usOf r).length)]), (1000035, blk b35 31 (usR ((usOf q) ++ (usOf r)))), (10, .v (.int .i64 0)), (19, .v (.bool (rF ((usOf q) ++ (usOf r))))), (21, .v (nI i)), (22, .v (nI k)), (20, .v (.bool ((rF (usOf q) || rF (usOf r)) || prM (usOf q) (usOf r) i k)))]) (fun k => (usOf r).length - k) 0 ?_ ?_ ?_
   ·exact Nat.zero_le _
   ·exact (KC 2 rfl (KC 7 rfl (KC 1000207 rfl (KC 8 rfl (KC 1000208 rfl (KC 9 rfl (KC 1000009 rfl (KC 1000035 rfl (KC 10 rfl (KC 19 rfl (KC 21 rfl (KE 22 rfl (by rfl) (KC 20 rfl KN)))))))))))))
   intro k hk'
   refine A.seq ?_
   refine GS ?_
   refine TL ?_
   refine RM rfl ?_
   refine RM rfl ?_
   refine RS (ok_lenV Try.underlying22 rfl) ?_
   refine RB rfl rfl rfl ?_
   refine RN ?_
   refine A.cond rfl (fun hc71 => ?_) (fun hc71 => ?_)
   ·have hk : k < (usOf r).length := by simpa using hc71
    refine A.skip ?_
    refine EN ?_
    refine A.seq ?_
    refine A.block ?_
    rcases Bool.eq_false_or_eq_true (((rF (usOf q) || rF (usOf r)) || prM (usOf q) (usOf r) i k)) with hsp | hsp
    ·refine A.reg (by kernel_rfl) (by kernel_rfl) (.inr (by kernel_rfl)) ?_
     refine TL ?_
     refine RM rfl ?_; refine RZ (.bool true) (congrArg Value.bool hsp) ?_
     refine RM rfl ?_
     refine RK ?_
     refine RK ?_
     refine RK ?_
     refine RK ?_
     refine RK ?_
     refine RK ?_
     refine RK ?_
     refine RK ?_
     refine RK ?_
     refine RP rfl rfl ?_; refine RZ (.bool ((rF (usOf q) || rF (usOf r)) || prM (usOf q) (usOf r) i (k + 1))) (congrArg Value.bool (by rw [prM_succ, ← Bool.or_assoc, hsp]; simp [getElem!_pos (usOf q) i hi, getElem!_pos (usOf r) k hk])) ?_
     refine RA rfl ?_
     refine RN ?_
     refine End.normal_block ?_
     refine EN ?_
     refine GE ?_
     refine TL ?_
     refine RM rfl ?_
     refine RBS rfl rfl rfl (nI (k + 1)) (by rw [wrap_i64 (by omega) (by omega)]; rfl) ?_
     refine RA rfl ?_
     refine RN ?_
     refine End.normal_then ?_
     refine End.again (k + 1) ?_ ?_ ?_
     ·show _ ≤ _; omega
     ·show _ - _ < _ - _; omega
     ·exact (KC 2 rfl (KC 7 rfl (KC 1000207 rfl (KC 8 rfl (KC 1000208 rfl (KC 9 rfl (KC 1000009 rfl (KC 1000035 rfl (KC 10 rfl (KC 19 rfl (KC 21 rfl (KC 22 rfl (KC 20 rfl KN)))))))))))))
    ·refine A.reg (by kernel_rfl) (by kernel_rfl) (.inr (by kernel_rfl)) ?_
     refine TL ?_
     refine RM rfl ?_; refine RZ (.bool false) (congrArg Value.bool hsp) ?_
     refine RM rfl ?_
     refine RQ (ok_move rfl) ?_
     refine RQ (ok_move rfl) ?_
     refine RQ (ok_indexR (s := 1000207) i Try.underlying22 infoU rfl rfl (by decide) rfl hi (usR_lt (usOf_fit q) hi)) ?_
     refine RQ (ok_loadElemP Try.underlying31 rfl (size31.of (by rw [usR_at (usOf_fit q) hi, usV_length ((usOf_fit q).get hi)])) rfl) ?_; refine RZ (aggV (usV (usOf q)[i])) (congrArg aggV (usR_at (usOf_fit q) hi)) ?_
     refine RQ (ok_move rfl) ?_
     refine RQ (ok_move rfl) ?_
     refine RQ (ok_indexR (s := 1000208) k Try.underlying22 infoU rfl rfl (by decide) rfl hk (usR_lt (usOf_fit r) hk)) ?_
     refine RQ (ok_loadElemP Try.underlying31 rfl (size31.of (by rw [usR_at (usOf_fit r) hk, usV_length ((usOf_fit r).get hk)])) rfl) ?_; refine RZ (aggV (usV (usOf r)[k])) (congrArg aggV (usR_at (usOf_fit r) hk)) ?_
     refine RQ (ok_call (refClash_fn (usOf q)[i] (usOf r)[k] ((usOf_fit q).get hi) ((usOf_fit r).get hk)) (A2 rfl rfl)) ?_
     refine RP rfl rfl ?_; refine RZ (.bool ((rF (usOf q) || rF (usOf r)) || prM (usOf q) (usOf r) i (k + 1))) (congrArg Value.bool (by rw [prM_succ, ← Bool.or_assoc, hsp]; simp [getElem!_pos (usOf q) i hi, getElem!_pos (usOf r) k hk])) ?_
     refine RA rfl ?_
     refine RN ?_
     refine End.normal_block ?_
     refine EN ?_
     refine GE ?_
     refine TL ?_
     refine RM rfl ?_
     refine RBS rfl rfl rfl (nI (k + 1)) (by rw [wrap_i64 (by omega) (by omega)]; rfl) ?_
     refine RA rfl ?_
     refine RN ?_
     refine End.normal_then ?_
     refine End.again (k + 1) ?_ ?_ ?_
     ·show _ ≤ _; omega
     ·show _ - _ < _ - _; omega
     ·exact (KC 2 rfl (KC 7 rfl (KC 1000207 rfl (KC 8 rfl (KC 1000208 rfl (KC 9 rfl (KC 1000009 rfl (KC 1000035 rfl (KC 10 rfl (KC 19 rfl (KC 21 rfl (KC 22 rfl (KC 20 rfl KN)))))))))))))
   ·have hk2 : k = (usOf r).length := by have h := hk'; simp at hc71; omega
    refine A.exit ?_
    refine End.exit_then ?_
    refine End.exit_then ?_
    refine End.exit_here ?_
    refine End.normal_block ?_
    refine EN ?_
    refine GE ?_
    refine TL ?_
    refine RM rfl ?_
    refine RBS rfl rfl rfl (nI (i + 1)) (by rw [wrap_i64 (by omega) (by omega)]; rfl) ?_
    refine RA rfl ?_
    refine RN ?_
    refine End.normal_then ?_
    refine End.again (i + 1) ?_ ?_ ?_
    ·show _ ≤ _; omega
    ·show _ - _ < _ - _; omega
    ·exact (KC 2 rfl (KC 7 rfl (KC 1000207 rfl (KC 8 rfl (KC 1000208 rfl (KC 9 rfl (KC 1000009 rfl (KC 1000035 rfl (KC 10 rfl (KC 19 rfl (KC 21 rfl (KE 20 rfl (congrArg (fun b => D.v (Value.bool b)) (by rw [hk2, prM_row])) KN))))))))))))
  ·have hi2 : i = (usOf q).length := by have h := hi'; simp at hc65; omega
   refine A.exit ?_
   refine End.exit_then ?_
   refine End.exit_then ?_
   refine End.exit_here ?_
   refine EN ?_
   refine GS ?_
   refine TN 3 ?_
   refine RM rfl ?_
   refine RS (ok_rem rfl rfl (by decide)) ?_; refine RZ (byteV (x % 4)) (m4 x) ?_
   refine RS (ok_litS [(15, byteV (x % 4))] ((idL x).map byteV) ⟨rfl, rfl, trivial⟩ (by exact bId x)) ?_
   refine RN ?_
   refine ⟨_, _, eff_alloc (n := 135) (d := 23) (k := 1000023) zero23 (by decide), fun b23 hb23 => ?_⟩
   have hBb23 := hb23.1
   refine TF 4 ?_
   refine RN ?_
   refine ⟨_, eff_storeA (n := 135) (s := 1000023) (size23.of (by rw [List.length_map, idL_length])) rfl rfl (all_bytes _) hBb23 rfl (by rw [List.length_map, idL_length]; rfl) (LV 7 rfl (LV 8 rfl (LV 9 rfl (LV 10 rfl (LV 19 rfl (LV 20 rfl (LV 23 rfl (LT 1000009 rfl (LT 1000035 rfl (LO 1000207 rfl (LO 1000208 rfl LN))))))))))), ?_⟩
   refine TL ?_
   refine RN ?_
   refine A.seq ?_
   refine GD ?_
   refine TL ?_
   refine RM rfl ?_
   refine RBS rfl rfl rfl (.bool false) (by rfl) ?_
   refine RM rfl ?_
   refine RQ (ok_move rfl) ?_
   refine RQ (ok_move rfl) ?_
   refine RQ (ok_neBool Try.underlying4 rfl rfl) ?_; refine RZ (.bool false) (by rw [hi2]; exact mg_neq _ _) ?_
   refine RP rfl rfl ?_
   refine RM rfl ?_
   refine RQ (OpOk.hdBlk (ok_loadA (s := 1000009) (by decide) Try.underlying35 rfl (size35.of (rfl)) rfl rfl) (k := 1000035) (by decide) rfl) ?_
   refine RQ (ok_loadA (s := 1000023) (by decide) Try.underlying23 rfl (size23.of (by rw [List.length_map, idL_length])) rfl rfl) ?_
   refine RQ (ok_call (Count_fn ((usOf q) ++ (usOf r)) ((usOf_fit q).append (usOf_fit r)) (by rw [List.length_append]; have := usOf_len q; have := usOf_len r; omega) (idL x) (idL_length x)) (Args.cons rfl (Le.eq (by rw [List.length_append])) (A1 rfl))) ?_
   refine RQ (OpOk.rowO (ok_move rfl) (k := 1000207) (by decide) rfl) ?_
   refine RQ (ok_call (of11_fn (usOf q).length (usR (usOf q))) (Args.cons rfl (Le.old _ _) Args.nil)) ?_
   refine RQ (ok_loadA (s := 1000023) (by decide) Try.underlying23 rfl (size23.of (by rw [List.length_map, idL_length])) rfl rfl) ?_
   refine RQ (ok_call (Count_fn (usOf q) (usOf_fit q) (Nat.le_trans (usOf_len q) (by decide)) (idL x) (idL_length x)) (A2 rfl rfl)) ?_
   refine RQ (OpOk.rowO (ok_move rfl) (k := 1000208) (by decide) rfl) ?_
   refine RQ (ok_call (of11_fn (usOf r).length (usR (usOf r))) (Args.cons rfl (Le.old _ _) Args.nil)) ?_
   refine RQ (ok_loadA (s := 1000023) (by decide) Try.underlying23 rfl (size23.of (by rw [List.length_map, idL_length])) rfl rfl) ?_
   refine RQ (ok_call (Count_fn (usOf r) (usOf_fit r) (Nat.le_trans (usOf_len r) (by decide)) (idL x) (idL_length x)) (A2 rfl rfl)) ?_
   refine RQ (ok_bin rfl rfl rfl) ?_; refine RZ (nI (cntU (usOf q) (idL x) + cntU (usOf r) (idL x))) (by rw [wrap_i64 (by omega) (by have := cntU_le (usOf q) (idL x); have := cntU_le (usOf r) (idL x); have := usOf_len q; have := usOf_len r; omega)]; rfl) ?_
   refine RQ (ok_bin rfl rfl rfl) ?_; refine RZ (.bool false) (by rw [cntU_append]; simp) ?_
   refine RP rfl rfl ?_
   refine RN ?_
   refine A.sub (KC 7 rfl (KC 23 rfl (KC 110 rfl (KC 1000009 rfl (KC 1000023 rfl (KC 1000035 rfl (KC 1000207 rfl (KC 1000208 rfl KN)))))))) ?_
   refine A.no rfl ?_
   refine A.skip ?_
   refine EN ?_
   refine GS ?_
   refine TL ?_
   refine RA rfl ?_
   refine RN ?_
   refine A.seq ?_
   refine GS ?_
   refine TL ?_
   refine RA rfl ?_
   refine RN ?_
   refine A.block ?_
   refine A.loop (ι := Nat) (fun j => j ≤ (usOf q).length) (fun j => [(7, .v (.slice A₇ (usOf q).length q₇)), (1000207, old w₀.heap.size (memR A₇ (usR (usOf q)))), (23, .v (.pointer (some ⟨b23, 0, none⟩))), (1000023, blk b23 23 ((idL x).map byteV)), (24, .v (nI (cntU ((usOf q).take j) (idL x)))), (25, .v (nI j))]) (fun j => (usOf q).length - j) 0 ?_ ?_ ?_
   ·exact Nat.zero_le _
   ·exact (KC 7 rfl (KC 1000207 rfl (KC 23 rfl (KC 1000023 rfl (KE 24 rfl (by rfl) (KE 25 rfl (by rfl) KN))))))
   intro j hj'
   have h60 := usOf_len q
   refine A.seq ?_
   refine GS ?_
   refine TL ?_
   refine RM rfl ?_
   refine RM rfl ?_
   refine RS (ok_lenV Try.underlying22 rfl) ?_
   refine RB rfl rfl rfl ?_
   refine RN ?_
   refine A.cond rfl (fun hc114 => ?_) (fun hc114 => ?_)
   ·have hj : j < (usOf q).length := by simpa using hc114
    refine A.skip ?_
    refine EN ?_
    refine A.seq ?_
    refine A.block ?_
    refine GD ?_
    refine TL ?_
    refine RM rfl ?_
    refine RM rfl ?_
    refine RS (ok_indexR (s := 1000207) j Try.underlying22 infoU rfl rfl (by decide) rfl hj (usR_lt (usOf_fit q) hj)) ?_
    refine RS (ok_fieldP field31_0 (by decide) rfl) ?_
    refine RS (ok_loadElemT 16 Try.underlying23 rfl size23 (by rw [List.drop_zero, usR_at (usOf_fit q) hj, usV_length ((usOf_fit q).get hj)]; decide) rfl) ?_; refine RZ (aggV ((usOf q)[j].key.map byteV)) (congrArg aggV (by rw [List.drop_zero, usR_at (usOf_fit q) hj]; exact us_key ((usOf_fit q).get hj))) ?_
    refine RS (ok_loadA (s := 1000023) (by decide) Try.underlying23 rfl (size23.of (by rw [List.length_map, idL_length])) rfl rfl) ?_
    refine RS (ok_eqlT (n := 17) (decide ((usOf q)[j].key = idL x)) flatK (by decide) (by kernel_rfl) (by kernel_rfl) rfl rfl (kinY ((usOf_fit q).get hj).1) (kinY (idL_length x)) (decY _ _)) ?_
    refine RN ?_
    refine A.cond rfl (fun hc123 => ?_) (fun hc123 => ?_)
    ·refine GE ?_
     refine TL ?_
     refine RM rfl ?_
     refine RBS rfl rfl rfl (nI (cntU ((usOf q).take j) (idL x) + 1)) (by rw [wrap_i64 (by omega) (by have := cntU_le ((usOf q).take j) (idL x); simp only [List.length_take] at this; omega)]; rfl) ?_
     refine RA rfl ?_
     refine RN ?_
     refine End.normal_block ?_
     refine EN ?_
     refine GE ?_
     refine TL ?_
     refine RM rfl ?_
     refine RBS rfl rfl rfl (nI (j + 1)) (by rw [wrap_i64 (by omega) (by omega)]; rfl) ?_
     refine RA rfl ?_
     refine RN ?_
     refine End.normal_then ?_
     refine End.again (j + 1) ?_ ?_ ?_
     ·show _ ≤ _; omega
     ·show _ - _ < _ - _; omega
     ·exact (KC 7 rfl (KC 1000207 rfl (KC 23 rfl (KC 1000023 rfl (KE 24 rfl (by first | rw [cntU_yes hj (by simpa using hc123)] | rw [cntU_no hj (by simpa using hc123)]) (KC 25 rfl KN))))))
    ·refine A.skip ?_
     refine End.normal_block ?_
     refine EN ?_
     refine GE ?_
     refine TL ?_
     refine RM rfl ?_
     refine RBS rfl rfl rfl (nI (j + 1)) (by rw [wrap_i64 (by omega) (by omega)]; rfl) ?_
     refine RA rfl ?_
     refine RN ?_
     refine End.normal_then ?_
     refine End.again (j + 1) ?_ ?_ ?_
     ·show _ ≤ _; omega
     ·show _ - _ < _ - _; omega
     ·exact (KC 7 rfl (KC 1000207 rfl (KC 23 rfl (KC 1000023 rfl (KE 24 rfl (by first | rw [cntU_yes hj (by simpa using hc123)] | rw [cntU_no hj (by simpa using hc123)]) (KC 25 rfl KN))))))
   ·have hj2 : j = (usOf q).length := by have h := hj'; simp at hc114; omega
    refine A.exit ?_
    refine End.exit_then ?_
    refine End.exit_then ?_
    refine End.exit_here ?_
    refine EN ?_
    refine GD ?_
    refine TL ?_
    refine RS (OpOk.rowO (ok_move rfl) (k := 1000207) (by decide) rfl) ?_
    refine RS (ok_call (of11_fn (usOf q).length (usR (usOf q))) (Args.cons rfl (Le.old _ _) Args.nil)) ?_
    refine RS (ok_loadA (s := 1000023) (by decide) Try.underlying23 rfl (size23.of (by rw [List.length_map, idL_length])) rfl rfl) ?_
    refine RS (ok_call (Count_fn (usOf q) (usOf_fit q) (Nat.le_trans (usOf_len q) (by decide)) (idL x) (idL_length x)) (A2 rfl rfl)) ?_
    refine RM rfl ?_
    refine RBS rfl rfl rfl (.bool true) (by rw [hj2, List.take_of_length_le (Nat.le_refl _)]; simp) ?_
    refine RM rfl ?_
    refine RQ (ok_call lives11_fn Args.nil) ?_
    refine RP rfl rfl ?_
    refine RA rfl ?_
    refine RN ?_
    refine A.ret ?_
    exact End.ret1U hgw rfl rfl (Le.refl _)
 ·refine GS ?_
  refine TL ?_
  refine RM rfl ?_; refine RZ (.bool false) (congrArg Value.bool hsp) ?_
  refine RM rfl ?_
  refine RQ (ok_move rfl) ?_
  refine RP rfl rfl ?_; refine RZ (.bool (rF (usOf q) || rF (usOf r))) (congrArg Value.bool (by simp [hsp])) ?_
  refine RA rfl ?_
  refine RN ?_
  refine A.seq ?_
  refine GS ?_
  refine TL ?_
  refine RA rfl ?_
  refine RN ?_
  refine A.sub (KC 2 rfl (KC 7 rfl (KC 8 rfl (KC 9 rfl (KC 10 rfl (KC 19 rfl (KC 20 rfl (KC 21 rfl (KC 1000003 rfl (KC 1000004 rfl (KC 1000009 rfl (KC 1000035 rfl (KC 1000200 rfl (KC 1000201 rfl (KC 1000207 rfl (KC 1000208 rfl KN)))))))))))))))) ?_
  refine A.block ?_
  refine A.loop (ι := Nat) (fun i => i ≤ (usOf q).length) (fun i => [(2, .v (byteV x)), (7, .v (.slice A₇ (usOf q).length q₇)), (1000207, old w₀.heap.size (memR A₇ (usR (usOf q)))), (8, .v (.slice A₈ (usOf r).length q₈)), (1000208, old w₀.heap.size (memR A₈ (usR (usOf r)))), (9, .v (.pointer (some ⟨b9, 0, none⟩))), (1000009, blk b9 35 [.slice (some ⟨b35, 0, none⟩) ((usOf q).length + (usOf r).length) ((usOf q).length + (usOf r).length)]), (1000035, blk b35 31 (usR ((usOf q) ++ (usOf r)))), (10, .v (.int .i64 0)), (19, .v (.bool (rF ((usOf q) ++ (usOf r))))), (21, .v (nI i)), (20, .v (.bool ((rF (usOf q) || rF (usOf r)) || prM (usOf q) (usOf r) i 0)))]) (fun i => (usOf q).length - i) 0 ?_ ?_ ?_
  ·exact Nat.zero_le _
  ·exact (KC 2 rfl (KC 7 rfl (KC 1000207 rfl (KC 8 rfl (KC 1000208 rfl (KC 9 rfl (KC 1000009 rfl (KC 1000035 rfl (KC 10 rfl (KC 19 rfl (KE 21 rfl (by rfl) (KE 20 rfl (congrArg (fun b => D.v (Value.bool b)) (by simp [prM])) KN))))))))))))
  intro i hi'
  have h60 := usOf_len q
  have h61 := usOf_len r
  refine A.seq ?_
  refine GS ?_
  refine TL ?_
  refine RM rfl ?_
  refine RM rfl ?_
  refine RS (ok_lenV Try.underlying22 rfl) ?_
  refine RB rfl rfl rfl ?_
  refine RN ?_
  refine A.cond rfl (fun hc65 => ?_) (fun hc65 => ?_)
  ·have hi : i < (usOf q).length := by simpa using hc65
   refine A.skip ?_
   refine EN ?_
   refine A.seq ?_
   refine A.block ?_
   refine GS ?_
   refine TL ?_
   refine RA rfl ?_
   refine RN ?_
   refine A.block ?_
   refine A.loop (ι := Nat) (fun k => k ≤ (usOf r).length) (fun k => [(2, .v (byteV x)), (7, .v (.slice A₇ (usOf q).length q₇)), (1000207, old w₀.heap.size (memR A₇ (usR (usOf q)))), (8, .v (.slice A₈ (usOf r).length q₈)), (1000208, old w₀.heap.size (memR A₈ (usR (usOf r)))), (9, .v (.pointer (some ⟨b9, 0, none⟩))), (1000009, blk b9 35 [.slice (some ⟨b35, 0, none⟩) ((usOf q).length + (usOf r).length) ((usOf q).length + (usOf r).length)]), (1000035, blk b35 31 (usR ((usOf q) ++ (usOf r)))), (10, .v (.int .i64 0)), (19, .v (.bool (rF ((usOf q) ++ (usOf r))))), (21, .v (nI i)), (22, .v (nI k)), (20, .v (.bool ((rF (usOf q) || rF (usOf r)) || prM (usOf q) (usOf r) i k)))]) (fun k => (usOf r).length - k) 0 ?_ ?_ ?_
   ·exact Nat.zero_le _
   ·exact (KC 2 rfl (KC 7 rfl (KC 1000207 rfl (KC 8 rfl (KC 1000208 rfl (KC 9 rfl (KC 1000009 rfl (KC 1000035 rfl (KC 10 rfl (KC 19 rfl (KC 21 rfl (KE 22 rfl (by rfl) (KC 20 rfl KN)))))))))))))
   intro k hk'
   refine A.seq ?_
   refine GS ?_
   refine TL ?_
   refine RM rfl ?_
   refine RM rfl ?_
   refine RS (ok_lenV Try.underlying22 rfl) ?_
   refine RB rfl rfl rfl ?_
   refine RN ?_
   refine A.cond rfl (fun hc71 => ?_) (fun hc71 => ?_)
   ·have hk : k < (usOf r).length := by simpa using hc71
    refine A.skip ?_
    refine EN ?_
    refine A.seq ?_
    refine A.block ?_
    rcases Bool.eq_false_or_eq_true (((rF (usOf q) || rF (usOf r)) || prM (usOf q) (usOf r) i k)) with hsp | hsp
    ·refine A.reg (by kernel_rfl) (by kernel_rfl) (.inr (by kernel_rfl)) ?_
     refine TL ?_
     refine RM rfl ?_; refine RZ (.bool true) (congrArg Value.bool hsp) ?_
     refine RM rfl ?_
     refine RK ?_
     refine RK ?_
     refine RK ?_
     refine RK ?_
     refine RK ?_
     refine RK ?_
     refine RK ?_
     refine RK ?_
     refine RK ?_
     refine RP rfl rfl ?_; refine RZ (.bool ((rF (usOf q) || rF (usOf r)) || prM (usOf q) (usOf r) i (k + 1))) (congrArg Value.bool (by rw [prM_succ, ← Bool.or_assoc, hsp]; simp [getElem!_pos (usOf q) i hi, getElem!_pos (usOf r) k hk])) ?_
     refine RA rfl ?_
     refine RN ?_
     refine End.normal_block ?_
     refine EN ?_
     refine GE ?_
     refine TL ?_
     refine RM rfl ?_
     refine RBS rfl rfl rfl (nI (k + 1)) (by rw [wrap_i64 (by omega) (by omega)]; rfl) ?_
     refine RA rfl ?_
     refine RN ?_
     refine End.normal_then ?_
     refine End.again (k + 1) ?_ ?_ ?_
     ·show _ ≤ _; omega
     ·show _ - _ < _ - _; omega
     ·exact (KC 2 rfl (KC 7 rfl (KC 1000207 rfl (KC 8 rfl (KC 1000208 rfl (KC 9 rfl (KC 1000009 rfl (KC 1000035 rfl (KC 10 rfl (KC 19 rfl (KC 21 rfl (KC 22 rfl (KC 20 rfl KN)))))))))))))
    ·refine A.reg (by kernel_rfl) (by kernel_rfl) (.inr (by kernel_rfl)) ?_
     refine TL ?_
     refine RM rfl ?_; refine RZ (.bool false) (congrArg Value.bool hsp) ?_
     refine RM rfl ?_
     refine RQ (ok_move rfl) ?_
     refine RQ (ok_move rfl) ?_
     refine RQ (ok_indexR (s := 1000207) i Try.underlying22 infoU rfl rfl (by decide) rfl hi (usR_lt (usOf_fit q) hi)) ?_
     refine RQ (ok_loadElemP Try.underlying31 rfl (size31.of (by rw [usR_at (usOf_fit q) hi, usV_length ((usOf_fit q).get hi)])) rfl) ?_; refine RZ (aggV (usV (usOf q)[i])) (congrArg aggV (usR_at (usOf_fit q) hi)) ?_
     refine RQ (ok_move rfl) ?_
     refine RQ (ok_move rfl) ?_
     refine RQ (ok_indexR (s := 1000208) k Try.underlying22 infoU rfl rfl (by decide) rfl hk (usR_lt (usOf_fit r) hk)) ?_
     refine RQ (ok_loadElemP Try.underlying31 rfl (size31.of (by rw [usR_at (usOf_fit r) hk, usV_length ((usOf_fit r).get hk)])) rfl) ?_; refine RZ (aggV (usV (usOf r)[k])) (congrArg aggV (usR_at (usOf_fit r) hk)) ?_
     refine RQ (ok_call (refClash_fn (usOf q)[i] (usOf r)[k] ((usOf_fit q).get hi) ((usOf_fit r).get hk)) (A2 rfl rfl)) ?_
     refine RP rfl rfl ?_; refine RZ (.bool ((rF (usOf q) || rF (usOf r)) || prM (usOf q) (usOf r) i (k + 1))) (congrArg Value.bool (by rw [prM_succ, ← Bool.or_assoc, hsp]; simp [getElem!_pos (usOf q) i hi, getElem!_pos (usOf r) k hk])) ?_
     refine RA rfl ?_
     refine RN ?_
     refine End.normal_block ?_
     refine EN ?_
     refine GE ?_
     refine TL ?_
     refine RM rfl ?_
     refine RBS rfl rfl rfl (nI (k + 1)) (by rw [wrap_i64 (by omega) (by omega)]; rfl) ?_
     refine RA rfl ?_
     refine RN ?_
     refine End.normal_then ?_
     refine End.again (k + 1) ?_ ?_ ?_
     ·show _ ≤ _; omega
     ·show _ - _ < _ - _; omega
     ·exact (KC 2 rfl (KC 7 rfl (KC 1000207 rfl (KC 8 rfl (KC 1000208 rfl (KC 9 rfl (KC 1000009 rfl (KC 1000035 rfl (KC 10 rfl (KC 19 rfl (KC 21 rfl (KC 22 rfl (KC 20 rfl KN)))))))))))))
   ·have hk2 : k = (usOf r).length := by have h := hk'; simp at hc71; omega
    refine A.exit ?_
    refine End.exit_then ?_
    refine End.exit_then ?_
    refine End.exit_here ?_
    refine End.normal_block ?_
    refine EN ?_
    refine GE ?_
    refine TL ?_
    refine RM rfl ?_
    refine RBS rfl rfl rfl (nI (i + 1)) (by rw [wrap_i64 (by omega) (by omega)]; rfl) ?_
    refine RA rfl ?_
    refine RN ?_
    refine End.normal_then ?_
    refine End.again (i + 1) ?_ ?_ ?_
    ·show _ ≤ _; omega
    ·show _ - _ < _ - _; omega
    ·exact (KC 2 rfl (KC 7 rfl (KC 1000207 rfl (KC 8 rfl (KC 1000208 rfl (KC 9 rfl (KC 1000009 rfl (KC 1000035 rfl (KC 10 rfl (KC 19 rfl (KC 21 rfl (KE 20 rfl (congrArg (fun b => D.v (Value.bool b)) (by rw [hk2, prM_row])) KN))))))))))))
  ·have hi2 : i = (usOf q).length := by have h := hi'; simp at hc65; omega
   refine A.exit ?_
   refine End.exit_then ?_
   refine End.exit_then ?_
   refine End.exit_here ?_
   refine EN ?_
   refine GS ?_
   refine TN 3 ?_
   refine RM rfl ?_
   refine RS (ok_rem rfl rfl (by decide)) ?_; refine RZ (byteV (x % 4)) (m4 x) ?_
   refine RS (ok_litS [(15, byteV (x % 4))] ((idL x).map byteV) ⟨rfl, rfl, trivial⟩ (by exact bId x)) ?_
   refine RN ?_
   refine ⟨_, _, eff_alloc (n := 135) (d := 23) (k := 1000023) zero23 (by decide), fun b23 hb23 => ?_⟩
   have hBb23 := hb23.1
   refine TF 4 ?_
   refine RN ?_
   refine ⟨_, eff_storeA (n := 135) (s := 1000023) (size23.of (by rw [List.length_map, idL_length])) rfl rfl (all_bytes _) hBb23 rfl (by rw [List.length_map, idL_length]; rfl) (LV 7 rfl (LV 8 rfl (LV 9 rfl (LV 10 rfl (LV 19 rfl (LV 20 rfl (LV 23 rfl (LT 1000009 rfl (LT 1000035 rfl (LO 1000207 rfl (LO 1000208 rfl LN))))))))))), ?_⟩
   refine TL ?_
   refine RN ?_
   refine A.seq ?_
   refine GD ?_
   refine TL ?_
   refine RM rfl ?_
   refine RBS rfl rfl rfl (.bool false) (by rfl) ?_
   refine RM rfl ?_
   refine RQ (ok_move rfl) ?_
   refine RQ (ok_move rfl) ?_
   refine RQ (ok_neBool Try.underlying4 rfl rfl) ?_; refine RZ (.bool false) (by rw [hi2]; exact mg_neq _ _) ?_
   refine RP rfl rfl ?_
   refine RM rfl ?_
   refine RQ (OpOk.hdBlk (ok_loadA (s := 1000009) (by decide) Try.underlying35 rfl (size35.of (rfl)) rfl rfl) (k := 1000035) (by decide) rfl) ?_
   refine RQ (ok_loadA (s := 1000023) (by decide) Try.underlying23 rfl (size23.of (by rw [List.length_map, idL_length])) rfl rfl) ?_
   refine RQ (ok_call (Count_fn ((usOf q) ++ (usOf r)) ((usOf_fit q).append (usOf_fit r)) (by rw [List.length_append]; have := usOf_len q; have := usOf_len r; omega) (idL x) (idL_length x)) (Args.cons rfl (Le.eq (by rw [List.length_append])) (A1 rfl))) ?_
   refine RQ (OpOk.rowO (ok_move rfl) (k := 1000207) (by decide) rfl) ?_
   refine RQ (ok_call (of11_fn (usOf q).length (usR (usOf q))) (Args.cons rfl (Le.old _ _) Args.nil)) ?_
   refine RQ (ok_loadA (s := 1000023) (by decide) Try.underlying23 rfl (size23.of (by rw [List.length_map, idL_length])) rfl rfl) ?_
   refine RQ (ok_call (Count_fn (usOf q) (usOf_fit q) (Nat.le_trans (usOf_len q) (by decide)) (idL x) (idL_length x)) (A2 rfl rfl)) ?_
   refine RQ (OpOk.rowO (ok_move rfl) (k := 1000208) (by decide) rfl) ?_
   refine RQ (ok_call (of11_fn (usOf r).length (usR (usOf r))) (Args.cons rfl (Le.old _ _) Args.nil)) ?_
   refine RQ (ok_loadA (s := 1000023) (by decide) Try.underlying23 rfl (size23.of (by rw [List.length_map, idL_length])) rfl rfl) ?_
   refine RQ (ok_call (Count_fn (usOf r) (usOf_fit r) (Nat.le_trans (usOf_len r) (by decide)) (idL x) (idL_length x)) (A2 rfl rfl)) ?_
   refine RQ (ok_bin rfl rfl rfl) ?_; refine RZ (nI (cntU (usOf q) (idL x) + cntU (usOf r) (idL x))) (by rw [wrap_i64 (by omega) (by have := cntU_le (usOf q) (idL x); have := cntU_le (usOf r) (idL x); have := usOf_len q; have := usOf_len r; omega)]; rfl) ?_
   refine RQ (ok_bin rfl rfl rfl) ?_; refine RZ (.bool false) (by rw [cntU_append]; simp) ?_
   refine RP rfl rfl ?_
   refine RN ?_
   refine A.sub (KC 7 rfl (KC 23 rfl (KC 110 rfl (KC 1000009 rfl (KC 1000023 rfl (KC 1000035 rfl (KC 1000207 rfl (KC 1000208 rfl KN)))))))) ?_
   refine A.no rfl ?_
   refine A.skip ?_
   refine EN ?_
   refine GS ?_
   refine TL ?_
   refine RA rfl ?_
   refine RN ?_
   refine A.seq ?_
   refine GS ?_
   refine TL ?_
   refine RA rfl ?_
   refine RN ?_
   refine A.block ?_
   refine A.loop (ι := Nat) (fun j => j ≤ (usOf q).length) (fun j => [(7, .v (.slice A₇ (usOf q).length q₇)), (1000207, old w₀.heap.size (memR A₇ (usR (usOf q)))), (23, .v (.pointer (some ⟨b23, 0, none⟩))), (1000023, blk b23 23 ((idL x).map byteV)), (24, .v (nI (cntU ((usOf q).take j) (idL x)))), (25, .v (nI j))]) (fun j => (usOf q).length - j) 0 ?_ ?_ ?_
   ·exact Nat.zero_le _
   ·exact (KC 7 rfl (KC 1000207 rfl (KC 23 rfl (KC 1000023 rfl (KE 24 rfl (by rfl) (KE 25 rfl (by rfl) KN))))))
   intro j hj'
   have h60 := usOf_len q
   refine A.seq ?_
   refine GS ?_
   refine TL ?_
   refine RM rfl ?_
   refine RM rfl ?_
   refine RS (ok_lenV Try.underlying22 rfl) ?_
   refine RB rfl rfl rfl ?_
   refine RN ?_
   refine A.cond rfl (fun hc114 => ?_) (fun hc114 => ?_)
   ·have hj : j < (usOf q).length := by simpa using hc114
    refine A.skip ?_
    refine EN ?_
    refine A.seq ?_
    refine A.block ?_
    refine GD ?_
    refine TL ?_
    refine RM rfl ?_
    refine RM rfl ?_
    refine RS (ok_indexR (s := 1000207) j Try.underlying22 infoU rfl rfl (by decide) rfl hj (usR_lt (usOf_fit q) hj)) ?_
    refine RS (ok_fieldP field31_0 (by decide) rfl) ?_
    refine RS (ok_loadElemT 16 Try.underlying23 rfl size23 (by rw [List.drop_zero, usR_at (usOf_fit q) hj, usV_length ((usOf_fit q).get hj)]; decide) rfl) ?_; refine RZ (aggV ((usOf q)[j].key.map byteV)) (congrArg aggV (by rw [List.drop_zero, usR_at (usOf_fit q) hj]; exact us_key ((usOf_fit q).get hj))) ?_
    refine RS (ok_loadA (s := 1000023) (by decide) Try.underlying23 rfl (size23.of (by rw [List.length_map, idL_length])) rfl rfl) ?_
    refine RS (ok_eqlT (n := 17) (decide ((usOf q)[j].key = idL x)) flatK (by decide) (by kernel_rfl) (by kernel_rfl) rfl rfl (kinY ((usOf_fit q).get hj).1) (kinY (idL_length x)) (decY _ _)) ?_
    refine RN ?_
    refine A.cond rfl (fun hc123 => ?_) (fun hc123 => ?_)
    ·refine GE ?_
     refine TL ?_
     refine RM rfl ?_
     refine RBS rfl rfl rfl (nI (cntU ((usOf q).take j) (idL x) + 1)) (by rw [wrap_i64 (by omega) (by have := cntU_le ((usOf q).take j) (idL x); simp only [List.length_take] at this; omega)]; rfl) ?_
     refine RA rfl ?_
     refine RN ?_
     refine End.normal_block ?_
     refine EN ?_
     refine GE ?_
     refine TL ?_
     refine RM rfl ?_
     refine RBS rfl rfl rfl (nI (j + 1)) (by rw [wrap_i64 (by omega) (by omega)]; rfl) ?_
     refine RA rfl ?_
     refine RN ?_
     refine End.normal_then ?_
     refine End.again (j + 1) ?_ ?_ ?_
     ·show _ ≤ _; omega
     ·show _ - _ < _ - _; omega
     ·exact (KC 7 rfl (KC 1000207 rfl (KC 23 rfl (KC 1000023 rfl (KE 24 rfl (by first | rw [cntU_yes hj (by simpa using hc123)] | rw [cntU_no hj (by simpa using hc123)]) (KC 25 rfl KN))))))
    ·refine A.skip ?_
     refine End.normal_block ?_
     refine EN ?_
     refine GE ?_
     refine TL ?_
     refine RM rfl ?_
     refine RBS rfl rfl rfl (nI (j + 1)) (by rw [wrap_i64 (by omega) (by omega)]; rfl) ?_
     refine RA rfl ?_
     refine RN ?_
     refine End.normal_then ?_
     refine End.again (j + 1) ?_ ?_ ?_
     ·show _ ≤ _; omega
     ·show _ - _ < _ - _; omega
     ·exact (KC 7 rfl (KC 1000207 rfl (KC 23 rfl (KC 1000023 rfl (KE 24 rfl (by first | rw [cntU_yes hj (by simpa using hc123)] | rw [cntU_no hj (by simpa using hc123)]) (KC 25 rfl KN))))))
   ·have hj2 : j = (usOf q).length := by have h := hj'; simp at hc114; omega
    refine A.exit ?_
    refine End.exit_then ?_
    refine End.exit_then ?_
    refine End.exit_here ?_
    refine EN ?_
    refine GD ?_
    refine TL ?_
    refine RS (OpOk.rowO (ok_move rfl) (k := 1000207) (by decide) rfl) ?_
    refine RS (ok_call (of11_fn (usOf q).length (usR (usOf q))) (Args.cons rfl (Le.old _ _) Args.nil)) ?_
    refine RS (ok_loadA (s := 1000023) (by decide) Try.underlying23 rfl (size23.of (by rw [List.length_map, idL_length])) rfl rfl) ?_
    refine RS (ok_call (Count_fn (usOf q) (usOf_fit q) (Nat.le_trans (usOf_len q) (by decide)) (idL x) (idL_length x)) (A2 rfl rfl)) ?_
    refine RM rfl ?_
    refine RBS rfl rfl rfl (.bool true) (by rw [hj2, List.take_of_length_le (Nat.le_refl _)]; simp) ?_
    refine RM rfl ?_
    refine RQ (ok_call lives11_fn Args.nil) ?_
    refine RP rfl rfl ?_
    refine RA rfl ?_
    refine RN ?_
    refine A.ret ?_
    exact End.ret1U hgw rfl rfl (Le.refl _)
end Go.Proofs.Ythhmimnkfklhdaa
namespace Go.Proofs.Ythhmimnkfklhdaa
open Go Go.RowKit
set_option linter.unusedVariables false
set_option maxRecDepth 20000
set_option linter.unusedSimpArgs false


/-! ### Digits -/
theorem hex_dig (n : Fin 16) : isDig (hexD n.val) = true ∧ dv (hexD n.val) = n.val := by revert n; decide +kernel
theorem dig_hex (n : Fin 256) : isDig (UInt8.ofNat n.val) = true → hexD (dv (UInt8.ofNat n.val)) = UInt8.ofNat n.val := by revert n; decide +kernel
theorem hexD_dig {n : Nat} (h : n < 16) : isDig (hexD n) = true := (hex_dig ⟨n, h⟩).1
theorem dv_hexD {n : Nat} (h : n < 16) : dv (hexD n) = n := (hex_dig ⟨n, h⟩).2
theorem hexD_dv {c : UInt8} (h : isDig c = true) : hexD (dv c) = c := by
 have := dig_hex ⟨c.toNat, c.toNat_lt⟩
 simp only [UInt8.ofNat_toNat] at this
 exact this h
theorem dig_ten {c : UInt8} (h : isDig c = true) : c ≠ 10 := fun hc => by
 rw [hc] at h
 rcases dig_cases 10 with h1 | h1 | h1 | h1 | h1
 ·rw [h1.2] at h; cases h
 ·have := h1.1; simp at this
 ·have := h1.1; simp at this
 ·have := h1.1; simp at this
 ·have := h1.1; simp at this
theorem hexL_cons (b : UInt8) (l : List UInt8) : hexL (b :: l) = hexD (b.toNat / 16) :: hexD (b.toNat % 16) :: hexL l := rfl
theorem hexL_append (a b : List UInt8) : hexL (a ++ b) = hexL a ++ hexL b := by unfold hexL; rw [List.flatMap_append]
theorem hexL_all (l : List UInt8) : (hexL l).all isDig = true := by
 induction l with
 | nil => rfl
 | cons b l ih =>
  have := b.toNat_lt
  rw [hexL_cons, List.all_cons, List.all_cons, ih, hexD_dig (by omega), hexD_dig (by omega)]; rfl
theorem unhex_cons2 (c1 c2 : UInt8) (r : List UInt8) : unhex (c1 :: c2 :: r) = UInt8.ofNat (16 * dv c1 + dv c2) :: unhex r := by
 unfold unhex parL
 rw [show (c1 :: c2 :: r).length / 2 = r.length / 2 + 1 by simp only [List.length_cons]; omega, List.range_succ_eq_map, List.map_cons, List.map_map]
 refine List.cons_eq_cons.2 ⟨?_, ?_⟩
 ·unfold parB; rw [if_pos (by simp)]; rfl
 ·refine List.map_congr_left fun j _ => ?_
  simp only [Function.comp_apply]
  unfold parB
  have e1 : (c1 :: c2 :: r)[2 * j.succ]! = r[2 * j]! := by
   rw [show 2 * j.succ = 2 * j + 2 by omega]; simp [List.getElem!_eq_getElem?_getD]
  have e2 : (c1 :: c2 :: r)[2 * j.succ + 1]! = r[2 * j + 1]! := by
   rw [show 2 * j.succ + 1 = 2 * j + 1 + 2 by omega]; simp [List.getElem!_eq_getElem?_getD]
  rw [e1, e2]
  have a1 : (2 * j.succ + 1 < (c1 :: c2 :: r).length) = (2 * j + 1 < r.length) := by simp only [List.length_cons]; exact propext ⟨fun h => by omega, fun h => by omega⟩
  have a2 : (2 * j.succ < (c1 :: c2 :: r).length) = (2 * j < r.length) := by simp only [List.length_cons]; exact propext ⟨fun h => by omega, fun h => by omega⟩
  simp only [a1, a2]
theorem unhex_hexL : ∀ l : List UInt8, unhex (hexL l) = l
 | [] => rfl
 | b :: l => by
  have h := b.toNat_lt
  rw [hexL_cons, unhex_cons2, unhex_hexL l, dv_hexD (by omega), dv_hexD (by omega), show 16 * (b.toNat / 16) + b.toNat % 16 = b.toNat by omega, UInt8.ofNat_toNat]
theorem hexL_unhex : ∀ (n : Nat) {d : List UInt8}, d.length = 2 * n → d.all isDig = true → hexL (unhex d) = d
 | 0, d, h, _ => by
  have : d = [] := List.length_eq_zero_iff.1 (by omega)
  subst this; rfl
 | n + 1, c1 :: c2 :: r, h, ha => by
  simp only [List.all_cons, Bool.and_eq_true] at ha
  have h1 := dv_lt c1
  have h2 := dv_lt c2
  rw [unhex_cons2, hexL_cons, hexL_unhex n (by simp only [List.length_cons] at h; omega) ha.2.2, UInt8.toNat_ofNat_of_lt' (by show _ < 256; omega), show (16 * dv c1 + dv c2) / 16 = dv c1 by omega, show (16 * dv c1 + dv c2) % 16 = dv c2 by omega, hexD_dv ha.1, hexD_dv ha.2.1]
 | n + 1, [c], h, _ => by simp only [List.length_cons, List.length_nil] at h; omega
 | n + 1, [], h, _ => by simp only [List.length_nil] at h; omega

/-! ### Uses as bytes -/
theorem useOf_useL {u : Us} (hu : u.Fit) : useOf (useL u) = u := by
 obtain ⟨K, s, c, f, l⟩ := u
 obtain ⟨h1, h2, h3, h4, h5⟩ := hu
 simp only at h1 h2 h3 h4 h5
 have e : useL ⟨K, s, c, f, l⟩ = K ++ (nonceL s c ++ (be 4 f ++ be 4 l)) := by simp [useL]
 have t0 : (useL ⟨K, s, c, f, l⟩).take 16 = K := by rw [e, List.take_left' h1]
 have t1 : (useL ⟨K, s, c, f, l⟩).drop 16 = nonceL s c ++ (be 4 f ++ be 4 l) := by rw [e, List.drop_left' h1]
 have t2 : (useL ⟨K, s, c, f, l⟩).drop 28 = be 4 f ++ be 4 l := by rw [show 28 = 16 + 12 by rfl, ← List.drop_drop, t1, List.drop_left' (nonceL_length s c)]
 have t3 : (useL ⟨K, s, c, f, l⟩).drop 32 = be 4 l := by rw [show 32 = 28 + 4 by rfl, ← List.drop_drop, t2, List.drop_left' (be_length 4 f)]
 unfold useOf
 rw [t0, t1, t2, t3, List.take_left' (nonceL_length s c), List.take_left' (be_length 4 f), gS_nonce h2, gC_nonce h3, getV, if_pos (be_length 4 f), getV, if_pos (be_length 4 l), num_be, num_be, Nat.mod_eq_of_lt (by omega), Nat.mod_eq_of_lt (by omega), Int.toNat_natCast, Int.toNat_natCast]
theorem useL_useOf {b : List UInt8} (h : b.length = 36) : useL (useOf b) = b := by
 unfold useL useOf
 simp only
 rw [nonce_back (by simp [h]), be_getV (by simp [h]), be_getV (by simp [h])]
 have e1 : b.take 16 ++ (b.drop 16).take 12 = b.take 28 := by rw [show 28 = 16 + 12 by rfl, List.take_add]
 have e2 : b.take 28 ++ (b.drop 28).take 4 = b.take 32 := by rw [show 32 = 28 + 4 by rfl, List.take_add]
 rw [e1, e2, List.take_append_drop]

/-! ### Lines -/
theorem nl_line : ∀ {d : List UInt8} (r : List UInt8), (∀ c ∈ d, c ≠ 10) → nl (d ++ 10 :: r) = d.length
 | [], r, _ => by rw [List.nil_append]; unfold nl; rw [List.findIdx_cons]; rfl
 | c :: d, r, h => by
  have ih := nl_line (d := d) r fun x hx => h x (List.mem_cons_of_mem _ hx)
  unfold nl at ih ⊢
  rw [List.cons_append, List.findIdx_cons, ih]
  have : (c == 10) = false := beq_eq_false_iff_ne.2 (h c List.mem_cons_self)
  rw [this]; simp
theorem nl_split {r : List UInt8} (h : nl r < r.length) : r = r.take (nl r) ++ 10 :: r.drop (nl r + 1) := by
 have h1 : r[nl r] = 10 := by
  have := List.findIdx_getElem (p := fun c : UInt8 => c == 10) (xs := r) (w := h)
  exact eq_of_beq this
 conv => lhs; rw [← List.take_append_drop (nl r) r]
 rw [List.drop_eq_getElem_cons h, h1]
theorem line_ten (u : Us) (r : List UInt8) : lineL u ++ r = hexL (useL u) ++ 10 :: r := by simp [lineL]
theorem nl_lineL {u : Us} (hu : u.Fit) (r : List UInt8) : nl (lineL u ++ r) = 72 := by
 rw [line_ten, nl_line r fun c hc => dig_ten (List.all_eq_true.1 (hexL_all _) c hc), hexL_length, useL_length hu]
theorem take_lineL {u : Us} (hu : u.Fit) (r : List UInt8) : (lineL u ++ r).take 72 = hexL (useL u) := by
 rw [line_ten, List.take_left' (by rw [hexL_length, useL_length hu])]
theorem drop_lineL {u : Us} (hu : u.Fit) (r : List UInt8) : (lineL u ++ r).drop 73 = r := List.drop_left' (lineL_length hu)
theorem lineE_line {u : Us} (hu : u.Fit) (hok : u.ok = true) : lineE (hexL (useL u)) true = 0 := by
 unfold lineE lineOk
 rw [hexL_length, useL_length hu, hexL_all, unhex_hexL, useOf_useL hu, hok]; rfl
theorem lineU_line {u : Us} (hu : u.Fit) (hok : u.ok = true) : lineU (hexL (useL u)) true = u := by
 unfold lineU; rw [lineE_line hu hok, if_pos rfl, unhex_hexL, useOf_useL hu]
theorem line_back {d : List UInt8} (h : lineE d true = 0) : lineL (lineU d true) = d ++ [10] ∧ (lineU d true).ok = true ∧ d.length = 72 := by
 unfold lineU; rw [if_pos h]
 unfold lineE lineOk at h
 split at h
 ·rename_i h1
  simp only [Bool.true_and, Bool.and_eq_true, decide_eq_true_eq] at h1
  split at h
  ·rename_i h2
   refine ⟨?_, h2, h1.1⟩
   unfold lineL; rw [useL_useOf (unhex_length h1.1), hexL_unhex 36 (by omega) h1.2]
  ·cases h
 ·cases h
/-- What is read: lines without a fault, and behind them nothing, or a line with one. -/
theorem prs_spec : ∀ (k : Nat) (r : List UInt8) (acc : List Us), r.length ≤ k → ∃ (pre : List Us) (rest : List UInt8), Fits pre ∧ (∀ u ∈ pre, u.ok = true) ∧ r = textL pre ++ rest ∧
  ((rest = [] ∧ prs k r acc = (acc ++ pre, 0, 0)) ∨ (rest ≠ [] ∧ lineE (rest.take (nl rest)) (decide (nl rest < rest.length)) ≠ 0 ∧ prs k r acc = ([], acc.length + pre.length + 1, lineE (rest.take (nl rest)) (decide (nl rest < rest.length)))))
 | 0, r, acc, h => by
  have : r = [] := List.length_eq_zero_iff.1 (by omega)
  subst this
  exact ⟨[], [], (fun u hu => by cases hu), (fun u hu => by cases hu), rfl, .inl ⟨rfl, by simp [prs]⟩⟩
 | k + 1, r, acc, h => by
  by_cases hr : r = []
  ·subst hr
   exact ⟨[], [], (fun u hu => by cases hu), (fun u hu => by cases hu), rfl, .inl ⟨rfl, by simp [prs]⟩⟩
  ·by_cases he : lineE (r.take (nl r)) (decide (nl r < r.length)) = 0
   ·obtain ⟨hen, h72⟩ := lineE_ok he
    have hlt : nl r < r.length := of_decide_eq_true hen
    rw [hen] at he
    obtain ⟨hb, hok, hd⟩ := line_back he
    have hl : 0 < r.length := List.length_pos_iff.2 hr
    obtain ⟨pre, rest, h1, h2, h3, h4⟩ := prs_spec k (r.drop (nl r + 1)) (acc ++ [lineU (r.take (nl r)) true]) (by simp only [List.length_drop]; omega)
    refine ⟨lineU (r.take (nl r)) true :: pre, rest, fun u hu => ?_, fun u hu => ?_, ?_, ?_⟩
    ·rcases List.mem_cons.1 hu with rfl | hu
     ·exact lineU_fit _ _
     ·exact h1 u hu
    ·rcases List.mem_cons.1 hu with rfl | hu
     ·exact hok
     ·exact h2 u hu
    ·have hs := nl_split hlt
     show r = lineL (lineU (r.take (nl r)) true) ++ textL pre ++ rest
     rw [hb, List.append_assoc, ← h3]
     conv => lhs; rw [hs]
     simp
    ·have hp : prs (k + 1) r acc = prs k (r.drop (nl r + 1)) (acc ++ [lineU (r.take (nl r)) true]) := by
      rw [prs, if_neg hr, hen, if_pos he]
     rw [hp]
     rcases h4 with ⟨h5, h6⟩ | ⟨h5, h6, h7⟩
     ·exact .inl ⟨h5, by rw [h6]; simp⟩
     ·exact .inr ⟨h5, h6, by rw [h7]; simp; omega⟩
   ·refine ⟨[], r, (fun u hu => by cases hu), (fun u hu => by cases hu), rfl, .inr ⟨hr, he, ?_⟩⟩
    rw [prs, if_neg hr, if_neg he]; rfl
theorem prs_text : ∀ (us acc : List Us) (k : Nat), Fits us → (∀ u ∈ us, u.ok = true) → (textL us).length ≤ k → prs k (textL us) acc = (acc ++ us, 0, 0)
 | [], acc, k, _, _, _ => by cases k <;> simp [prs, textL]
 | u :: us, acc, k, hf, hok, hk => by
  have hu := hf.cons.1
  have hc : textL (u :: us) = lineL u ++ textL us := rfl
  have hl : (textL (u :: us)).length = 73 + (textL us).length := by rw [hc, List.length_append, lineL_length hu]
  obtain ⟨k, rfl⟩ : ∃ k', k = k' + 1 := ⟨k - 1, by omega⟩
  have ih := prs_text us (acc ++ [u]) k hf.cons.2 (fun v hv => hok v (List.mem_cons_of_mem _ hv)) (by omega)
  have hne : textL (u :: us) ≠ [] := fun h => by rw [h] at hl; simp at hl; omega
  have hlt : nl (textL (u :: us)) = 72 := by rw [hc, nl_lineL hu]
  rw [prs, if_neg hne, hlt, decide_eq_true (by omega), hc, take_lineL hu, lineE_line hu (hok u List.mem_cons_self), if_pos rfl, lineU_line hu (hok u List.mem_cons_self), drop_lineL hu, ih]
  simp
theorem prs_back {us : List Us} (hf : Fits us) (hok : ∀ u ∈ us, u.ok = true) : prs (textL us).length (textL us) [] = (us, 0, 0) := prs_text us [] _ hf hok (Nat.le_refl _)
theorem Parse_text (us : List Us) (hf : Fits us) (hok : ∀ u ∈ us, u.ok = true) (hn : us.length * 73 ≤ 1048576) : FnB Try.prog 23 [.v (strV (textL us))] (fun B => newD B 31 (fun b => .tuple #[aggV [.slice (some ⟨b, 0, none⟩) us.length us.length], .int .i64 0, .int .i64 0]) (usR us)) := by
 have h := Parse_okB (textL us) (by rw [textL_length hf]; omega) (by rw [prs_back hf hok])
 rw [prs_back hf hok] at h
 exact h

theorem Fits.take {us : List Us} (h : Fits us) (i : Nat) : Fits (us.take i) := fun u hu => h u (List.mem_of_mem_take hu)
theorem LText_l (us : List Us) (hf : Fits us) (h : 60 < us.length) : Fn Try.prog 6 [rowD us.length (usR us)] (.v (.bool true)) := by
 refine Fn.of Try.func6 rfl (by kernel_rfl) Try.ntmps6 (by simp) (fun w => [(0, old w.heap.size (rowD us.length (usR us)))]) (fun w => (Start.old rfl Start.nil)) fun w₀ => ?_
 refine GS ?_
 refine TL ?_
 refine RA rfl ?_
 refine RN ?_
 refine A.seq ?_
 refine GS ?_
 refine TL ?_
 refine RM rfl ?_
 refine RS (ok_lenRD Try.underlying22 rfl (Le.old _ _)) ?_
 refine RBS rfl rfl rfl (.bool true) (by simp; omega) ?_
 refine RM rfl ?_
 refine RK ?_
 refine RK ?_
 refine RK ?_
 refine RP rfl rfl ?_
 refine RN ?_
 refine A.yes rfl ?_
 refine GS ?_
 refine TL ?_
 refine RS (ok_call lives11_fn Args.nil) ?_
 refine RA rfl ?_
 refine RN ?_
 refine A.ret ?_
 refine End.ret_then ?_
 exact End.ret1 rfl rfl (by first | exact Le.refl _ | exact Le.old _ _)
theorem LText_b (us : List Us) (hf : Fits us) (h1 : us.length ≤ 60) (hc : chkU us ≠ 0) : Fn Try.prog 6 [rowD us.length (usR us)] (.v (.bool true)) := by
 refine Fn.of Try.func6 rfl (by kernel_rfl) Try.ntmps6 (by simp) (fun w => [(0, old w.heap.size (rowD us.length (usR us)))]) (fun w => (Start.old rfl Start.nil)) fun w₀ => ?_
 refine GS ?_
 refine TL ?_
 refine RA rfl ?_
 refine RN ?_
 refine A.seq ?_
 refine GS ?_
 refine TL ?_
 refine RM rfl ?_
 refine RS (ok_lenRD Try.underlying22 rfl (Le.old _ _)) ?_
 refine RBS rfl rfl rfl (.bool false) (by simp; omega) ?_
 refine RM rfl ?_
 refine RQ (ok_move rfl) ?_
 refine RQ (ok_call (refCheck_fn us hf (Nat.le_trans h1 (by decide))) (Args.cons rfl (Le.old _ _) Args.nil)) ?_
 refine RQ (ok_bin rfl rfl rfl) ?_; refine RZ (.bool true) (by simpa using hc) ?_
 refine RP rfl rfl ?_
 refine RN ?_
 refine A.yes rfl ?_
 refine GS ?_
 refine TL ?_
 refine RS (ok_call lives11_fn Args.nil) ?_
 refine RA rfl ?_
 refine RN ?_
 refine A.ret ?_
 refine End.ret_then ?_
 exact End.ret1 rfl rfl (by first | exact Le.refl _ | exact Le.old _ _)
set_option maxHeartbeats 4000000 in
theorem LText_g (us : List Us) (hf : Fits us) (h1 : us.length ≤ 60) (hc : chkU us = 0) : Fn Try.prog 6 [rowD us.length (usR us)] (.v (.bool true)) := by
 refine Fn.of Try.func6 rfl (by kernel_rfl) Try.ntmps6 (by simp) (fun w => [(0, old w.heap.size (rowD us.length (usR us)))]) (fun w => (Start.old rfl Start.nil)) fun w₀ => ?_
 refine A.nameR (t := 0) (k := 1000200) rfl fun A₀ q₀ => ?_
 refine GS ?_
 refine TL ?_
 refine RA rfl ?_
 refine RN ?_
 refine A.seq ?_
 refine GS ?_
 refine TL ?_
 refine RM rfl ?_
 refine RS (ok_lenV Try.underlying22 rfl) ?_
 refine RBS rfl rfl rfl (.bool false) (by simp; omega) ?_
 refine RM rfl ?_
 refine RQ (OpOk.rowO (ok_move rfl) (k := 1000200) (by decide) rfl) ?_
 refine RQ (ok_call (refCheck_fn us hf (Nat.le_trans h1 (by decide))) (Args.cons rfl (Le.old _ _) Args.nil)) ?_
 refine RQ (ok_bin rfl rfl rfl) ?_; refine RZ (.bool false) (by simpa using hc) ?_
 refine RP rfl rfl ?_
 refine RN ?_
 refine A.no rfl ?_
 refine A.skip ?_
 refine EN ?_
 refine GS ?_
 refine TL ?_
 refine RA rfl ?_
 refine RN ?_
 refine A.seq ?_
 refine GS ?_
 refine TL ?_
 refine RA rfl ?_
 refine RN ?_
 refine A.block ?_
 refine A.loop (ι := Nat) (fun i => i ≤ us.length) (fun i => [(0, .v (.slice A₀ us.length q₀)), (1000200, old w₀.heap.size (memR A₀ (usR us))), (3, .v (strV (textL (us.take i)))), (4, .v (nI i))]) (fun i => us.length - i) 0 ?_ ?_ ?_
 ·exact Nat.zero_le _
 ·exact (KC 0 rfl (KC 1000200 rfl (KE 3 rfl (by rfl) (KE 4 rfl (by rfl) KN))))
 intro i hi'
 refine A.seq ?_
 refine GS ?_
 refine TL ?_
 refine RM rfl ?_
 refine RM rfl ?_
 refine RS (ok_lenV Try.underlying22 rfl) ?_
 refine RB rfl rfl rfl ?_
 refine RN ?_
 refine A.cond rfl (fun hc22 => ?_) (fun hc22 => ?_)
 ·have hi : i < us.length := by simpa using hc22
  refine A.skip ?_
  refine EN ?_
  refine A.seq ?_
  refine A.block ?_
  refine GE ?_
  refine TL ?_
  refine RM rfl ?_
  refine RM rfl ?_
  refine RM rfl ?_
  refine RS (ok_indexR (s := 1000200) i Try.underlying22 infoU rfl rfl (by decide) rfl hi (usR_lt hf hi)) ?_
  refine RS (ok_loadElemP Try.underlying31 rfl (size31.of (by rw [usR_at hf hi, usV_length (hf.get hi)])) rfl) ?_; refine RZ (aggV (usV us[i])) (congrArg aggV (usR_at hf hi)) ?_
  refine RS (ok_call (refLine_fn us[i] (hf.get hi)) (A1 rfl)) ?_
  refine RS (ok_addS (a := textL (us.take i)) (b := lineL us[i]) rfl rfl (by rw [textL_length (hf.take i), lineL_length (hf.get hi), List.length_take]; omega)) ?_
  refine RA rfl ?_
  refine RN ?_
  refine End.normal_block ?_
  refine EN ?_
  refine GE ?_
  refine TL ?_
  refine RM rfl ?_
  refine RBS rfl rfl rfl (nI (i + 1)) (by rw [wrap_i64 (by omega) (by omega)]; rfl) ?_
  refine RA rfl ?_
  refine RN ?_
  refine End.normal_then ?_
  refine End.again (i + 1) ?_ ?_ ?_
  ·show _ ≤ _; omega
  ·show _ - _ < _ - _; omega
  ·exact (KC 0 rfl (KC 1000200 rfl (KE 3 rfl (by rw [textL_succ hi]; rfl) (KC 4 rfl KN))))
 ·have hi2 : i = us.length := by have h := hi'; simp at hc22; omega
  refine A.exit ?_
  refine End.exit_then ?_
  refine End.exit_then ?_
  refine End.exit_here ?_
  refine EN ?_
  refine GS ?_
  refine TL ?_
  refine RS (OpOk.rowO (ok_move rfl) (k := 1000200) (by decide) rfl) ?_
  refine RS (ok_call (of11_fn us.length (usR us)) (Args.cons rfl (Le.old _ _) Args.nil)) ?_
  refine RS (ok_call (Text_ok us hf (Nat.le_trans h1 (by decide)) hc (by omega)) (A1 rfl)) ?_
  refine RM rfl ?_
  refine RS (ok_extractV (xs := [_, _]) rfl rfl) ?_
  refine RS (ok_extractV (xs := [_, _]) rfl rfl) ?_
  refine RA rfl ?_
  refine RA rfl ?_
  refine RN ?_
  refine GS ?_
  refine TN 1 ?_
  refine RM rfl ?_
  refine RN ?_
  refine ⟨_, _, eff_name (n := 67) (d := 40) (k := 1000040) rfl rfl (fun B' => ok_callB (Parse_text us hf (chk_ok hc) (by omega)) newD_mono (A1 rfl)) (by decide) (by decide), fun b40 hb40 => ?_⟩
  have hBb40 := hb40.1
  refine TN 6 ?_
  refine RM rfl ?_
  refine RS (ok_extractV (xs := [_, _, _]) rfl rfl) ?_
  refine RS (ok_extractV (xs := [_, _, _]) rfl rfl) ?_
  refine RS (ok_extractV (xs := [_, _, _]) rfl rfl) ?_
  refine RN ?_
  refine ⟨_, _, eff_alloc (n := 67) (d := 7) (k := 1000007) zero35 (by decide), fun b7 hb7 => ?_⟩
  have hBb7 := hb7.1
  refine TF 7 ?_
  refine RN ?_
  refine ⟨_, eff_storeA (n := 67) (s := 1000007) (size35.of (rfl)) rfl rfl (rfl) hBb7 rfl (rfl) (LV 0 rfl (LV 3 rfl (LV 5 rfl (LV 6 rfl (LV 7 rfl (LV 42 rfl (LV 43 rfl (LT 1000040 rfl (LO 1000200 rfl LN))))))))), ?_⟩
  refine TL ?_
  refine RA rfl ?_
  refine RA rfl ?_
  refine RN ?_
  refine GS ?_
  refine TL ?_
  refine RM rfl ?_
  refine RM rfl ?_
  refine RS (ok_seq (a := textL us) (b := textL (us.take i)) rfl rfl) ?_; refine RZ (.bool true) (by rw [hi2, List.take_of_length_le (Nat.le_refl _)]; simp) ?_
  refine RM rfl ?_
  refine RQ (ok_move rfl) ?_
  refine RQ (ok_bin rfl rfl rfl) ?_; refine RZ (.bool true) (by rfl) ?_
  refine RP rfl rfl ?_
  refine RM rfl ?_
  refine RQ (OpOk.hdBlkN (ok_loadA (s := 1000007) (by decide) Try.underlying35 rfl (size35.of (rfl)) rfl rfl) (k := 1000040) (by decide) rfl) ?_
  refine RQ (OpOk.rowO (ok_move rfl) (k := 1000200) (by decide) rfl) ?_
  refine RQ (ok_call (same11_fn us hf (Nat.le_trans h1 (by decide))) (Args.cons rfl (Le.refl _) (Args.cons rfl (Le.old _ _) Args.nil))) ?_
  refine RP rfl rfl ?_
  refine RM rfl ?_
  refine RQ (ok_move rfl) ?_
  refine RQ (ok_bin rfl rfl rfl) ?_; refine RZ (.bool true) (by rfl) ?_
  refine RP rfl rfl ?_
  refine RM rfl ?_
  refine RQ (ok_move rfl) ?_
  refine RQ (ok_bin rfl rfl rfl) ?_; refine RZ (.bool true) (by rfl) ?_
  refine RP rfl rfl ?_
  refine RM rfl ?_
  refine RQ (ok_call lives11_fn Args.nil) ?_
  refine RP rfl rfl ?_
  refine RA rfl ?_
  refine RN ?_
  refine A.sub (KC 2 rfl (KC 1000007 rfl (KC 1000040 rfl (KC 1000200 rfl KN)))) ?_
  refine A.ret ?_
  exact End.ret1 rfl rfl (by first | exact Le.refl _ | exact Le.old _ _)
theorem LedgersText_fn (us : List Us) (hf : Fits us) : Fn Try.prog 6 [rowD us.length (usR us)] (.v (.bool true)) := by
 by_cases h1 : 60 < us.length
 ·exact LText_l us hf h1
 by_cases hc : chkU us = 0
 ·exact LText_g us hf (by omega) hc
 ·exact LText_b us hf (by omega) hc
end Go.Proofs.Ythhmimnkfklhdaa
namespace Go.Proofs.Ythhmimnkfklhdaa
open Go Go.RowKit
set_option linter.unusedVariables false
set_option maxRecDepth 20000
set_option linter.unusedSimpArgs false


/-! ### The order of texts is the order of numbers -/
theorem less_num : ∀ {a b : List UInt8}, a.length = b.length → Op.bytesLess a b = decide (num a < num b)
 | [], [], _ => by simp [Op.bytesLess]
 | [], _ :: _, h => by cases h
 | _ :: _, [], h => by cases h
 | x :: a, y :: b, h => by
  have hl : a.length = b.length := by simpa using h
  have ih := less_num hl
  have h1 := num_lt a
  have h2 := num_lt b
  rw [hl] at h1
  rw [Op.bytesLess, ih, num_cons, num_cons, hl]
  generalize hP : 256 ^ b.length = P at *
  generalize num a = na at *
  generalize num b = nb at *
  rw [Bool.eq_iff_iff]
  simp only [Bool.or_eq_true, Bool.and_eq_true, decide_eq_true_eq, beq_iff_eq, UInt8.lt_iff_toNat_lt]
  rcases Nat.lt_trichotomy x.toNat y.toNat with hc | hc | hc
  ·refine ⟨fun _ => ?_, fun _ => .inl hc⟩
   have : (x.toNat + 1) * P ≤ y.toNat * P := Nat.mul_le_mul_right P hc
   rw [Nat.add_mul, Nat.one_mul] at this; omega
  ·have hxy : x = y := UInt8.toNat_inj.1 hc
   subst hxy
   constructor
   ·rintro (h | ⟨_, h⟩)
    ·exact absurd h (Nat.lt_irrefl _)
    ·omega
   ·intro h; exact .inr ⟨rfl, by omega⟩
  ·have : (y.toNat + 1) * P ≤ x.toNat * P := Nat.mul_le_mul_right P hc
   rw [Nat.add_mul, Nat.one_mul] at this
   constructor
   ·rintro (h | ⟨h, _⟩)
    ·omega
    ·subst h; exact absurd hc (Nat.lt_irrefl _)
   ·intro h; omega
theorem hex_less (a b : Fin 16) : decide (hexD a.val < hexD b.val) = decide (a.val < b.val) ∧ (hexD a.val == hexD b.val) = decide (a.val = b.val) := by revert a b; decide +kernel
theorem less_hex : ∀ {a b : List UInt8}, a.length = b.length → Op.bytesLess (hexL a) (hexL b) = Op.bytesLess a b
 | [], [], _ => rfl
 | [], _ :: _, h => by cases h
 | _ :: _, [], h => by cases h
 | x :: a, y :: b, h => by
  have hx := x.toNat_lt
  have hy := y.toNat_lt
  have h1 := hex_less ⟨x.toNat / 16, by omega⟩ ⟨y.toNat / 16, by omega⟩
  have h2 := hex_less ⟨x.toNat % 16, by omega⟩ ⟨y.toNat % 16, by omega⟩
  rw [hexL_cons, hexL_cons, Op.bytesLess, Op.bytesLess, Op.bytesLess, less_hex (a := a) (b := b) (by simpa using h), h1.1, h1.2, h2.1, h2.2]
  rw [Bool.eq_iff_iff]
  simp only [Bool.or_eq_true, Bool.and_eq_true, decide_eq_true_eq, beq_iff_eq, UInt8.lt_iff_toNat_lt, ← UInt8.toNat_inj]
  constructor
  ·rintro (h | ⟨h, h' | ⟨h', h3⟩⟩)
   ·exact .inl (by omega)
   ·exact .inl (by omega)
   ·exact .inr ⟨by omega, h3⟩
  ·rintro (h | ⟨h, h3⟩)
   ·by_cases he : x.toNat / 16 = y.toNat / 16
    ·exact .inr ⟨he, .inl (by omega)⟩
    ·exact .inl (by omega)
   ·exact .inr ⟨by omega, .inr ⟨by omega, h3⟩⟩
theorem hexL_take {l : List UInt8} {n : Nat} (h : n ≤ l.length) : (hexL l).take (2 * n) = hexL (l.take n) := by
 conv => lhs; rw [← List.take_append_drop n l, hexL_append]
 rw [List.take_left' (by rw [hexL_length, List.length_take, Nat.min_eq_left h])]
theorem hexL_drop {l : List UInt8} {n : Nat} (h : n ≤ l.length) : (hexL l).drop (2 * n) = hexL (l.drop n) := by
 conv => lhs; rw [← List.take_append_drop n l, hexL_append]
 rw [List.drop_left' (by rw [hexL_length, List.length_take, Nat.min_eq_left h])]
theorem cut_first {d : List UInt8} (h : d.length = 72) (ha : d.all isDig = true) : (d.take 64).drop 56 = hexL (((unhex d).drop 28).take 4) ∧ (d.take 72).drop 64 = hexL ((unhex d).drop 32) := by
 have hb := unhex_length h
 have e := hexL_unhex 36 (d := d) (by omega) ha
 constructor
 ·conv => lhs; rw [← e]
  rw [show 64 = 2 * 32 by rfl, hexL_take (by omega), show 56 = 2 * 28 by rfl, hexL_drop (by rw [List.length_take]; omega), List.drop_take]
 ·conv => lhs; rw [← e]
  rw [show 72 = 2 * 36 by rfl, hexL_take (by omega), show 64 = 2 * 32 by rfl, hexL_drop (by rw [List.length_take]; omega), List.take_of_length_le (by omega)]
theorem lineE_cases (d : List UInt8) (en : Bool) : lineE d en = 0 ∨ (lineE d en = 1 ∧ en = true ∧ d.length = 72 ∧ d.all isDig = true ∧ (useOf (unhex d)).ok = false) ∨ (lineE d en = 5 ∧ ¬ (en = true ∧ d.length = 72 ∧ d.all isDig = true)) := by
 unfold lineE lineOk
 cases en with
 | false => exact .inr (.inr ⟨rfl, fun h => by cases h.1⟩)
 | true =>
  by_cases h1 : d.length = 72
  ·cases h2 : d.all isDig with
   | false => exact .inr (.inr ⟨by simp [h1], fun h => by cases h.2.2⟩)
   | true =>
    cases h3 : (useOf (unhex d)).ok with
    | true => exact .inl (by simp [h1])
    | false => exact .inr (.inl ⟨by simp [h1], rfl, h1, rfl, rfl⟩)
  ·exact .inr (.inr ⟨by simp [h1], fun h => h1 h.2.1⟩)
theorem nl_at {r : List UInt8} (h : nl r < r.length) : r[nl r]? = some 10 := by
 rw [List.getElem?_eq_getElem h]
 have := List.findIdx_getElem (p := fun c : UInt8 => c == 10) (xs := r) (w := h)
 exact congrArg some (eq_of_beq this)
structure ArgF (r : List UInt8) : Prop where
 len : 73 ≤ r.length
 dig : (r.take 72).all isDig = true
 ten : r[72]? = some 10
 gt : (!Op.bytesLess ((r.take 64).drop 56) ((r.take 72).drop 64) && !((r.take 64).drop 56 == (r.take 72).drop 64)) = true
theorem arg_facts {r : List UInt8} (h : lineE (r.take (nl r)) (decide (nl r < r.length)) = 1) : ArgF r := by
 rcases lineE_cases (r.take (nl r)) (decide (nl r < r.length)) with h1 | ⟨_, h2, h3, h4, h5⟩ | h1
 ·rw [h1] at h; cases h
 ·have hlt : nl r < r.length := of_decide_eq_true h2
  have h72 : nl r = 72 := by rw [List.length_take] at h3; omega
  have ht := nl_at hlt
  rw [h72] at h3 h4 h5 ht hlt
  obtain ⟨e1, e2⟩ := cut_first h3 h4
  rw [List.take_take, Nat.min_eq_left (by decide)] at e1
  rw [List.take_take, Nat.min_self] at e2
  have hb := unhex_length h3
  refine ⟨hlt, h4, ht, ?_⟩
  rw [e1, e2]
  have l1 : (((unhex (r.take 72)).drop 28).take 4).length = 4 := by simp [hb]
  have l2 : ((unhex (r.take 72)).drop 32).length = 4 := by simp [hb]
  rw [less_hex (l1.trans l2.symm), less_num (l1.trans l2.symm)]
  have hgt : num ((unhex (r.take 72)).drop 32) < num (((unhex (r.take 72)).drop 28).take 4) := by
   have := of_decide_eq_false h5
   unfold useOf getV at this
   simp only at this
   rw [if_pos l1, if_pos l2, Int.toNat_natCast, Int.toNat_natCast] at this
   omega
  rw [decide_eq_false (by omega)]
  have hne : hexL (((unhex (r.take 72)).drop 28).take 4) ≠ hexL ((unhex (r.take 72)).drop 32) := fun he => by
   have h6 := congrArg unhex he
   rw [unhex_hexL, unhex_hexL] at h6
   rw [h6] at hgt; exact absurd hgt (Nat.lt_irrefl _)
  rw [beq_eq_false_iff_ne.2 hne]; rfl
 ·rw [h1.1] at h; cases h
theorem form_facts {r : List UInt8} (h : lineE (r.take (nl r)) (decide (nl r < r.length)) = 5) : r.length < 73 ∨ (73 ≤ r.length ∧ (r.take 72).all isDig = false) ∨ (73 ≤ r.length ∧ (r.take 72).all isDig = true ∧ ∃ c, r[72]? = some c ∧ c ≠ 10) := by
 by_cases hl : r.length < 73
 ·exact .inl hl
 cases hd : (r.take 72).all isDig with
 | false => exact .inr (.inl ⟨by omega, rfl⟩)
 | true =>
  refine .inr (.inr ⟨by omega, rfl, r[72], List.getElem?_eq_getElem (by omega), fun hc => ?_⟩)
  have hs : r = r.take 72 ++ 10 :: r.drop 73 := by
   conv => lhs; rw [← List.take_append_drop 72 r]
   rw [List.drop_eq_getElem_cons (by omega), hc]
  have hn : nl r = 72 := by
   rw [hs, nl_line _ fun c hc => dig_ten (List.all_eq_true.1 hd c hc), List.length_take]; omega
  rcases lineE_cases (r.take (nl r)) (decide (nl r < r.length)) with h1 | ⟨h1, _⟩ | ⟨_, h1⟩
  ·rw [h1] at h; cases h
  ·rw [h1] at h; cases h
  ·exact h1 ⟨by rw [hn]; exact decide_eq_true (by omega), by rw [hn, List.length_take]; omega, by rw [hn]; exact hd⟩
theorem ok_chk11 {us : List Us} (h : us.length ≤ 65536) (hok : ∀ u ∈ us, u.ok = true) : chkU us = 0 := by
 unfold chkU; rw [if_neg (by omega), if_pos (List.all_eq_true.2 hok)]
theorem LPar_l (l : List UInt8) (h : 400 < l.length) : Fn Try.prog 7 [.v (strV l)] (.v (.bool true)) := by
 refine Fn.of Try.func7 rfl (by kernel_rfl) Try.ntmps7 (by simp) (fun w => [(0, .v (strV l))]) (fun w => (Start.v rfl Start.nil)) fun w₀ => ?_
 refine GS ?_
 refine TL ?_
 refine RA rfl ?_
 refine RN ?_
 refine A.seq ?_
 refine GS ?_
 refine TL ?_
 refine RM rfl ?_
 refine RS (ok_lenT Try.underlying9 rfl) ?_
 refine RBS rfl rfl rfl (.bool true) (by simp; omega) ?_
 refine RN ?_
 refine A.yes rfl ?_
 refine GS ?_
 refine TL ?_
 refine RS (ok_call lives11_fn Args.nil) ?_
 refine RA rfl ?_
 refine RN ?_
 refine A.ret ?_
 refine End.ret_then ?_
 exact End.ret1 rfl rfl (by first | exact Le.refl _ | exact Le.old _ _)
set_option maxHeartbeats 1000000 in
theorem LPar_ok (pre : List Us) (hf : Fits pre) (hok : ∀ u ∈ pre, u.ok = true) (h1 : (textL pre).length ≤ 400) : Fn Try.prog 7 [.v (strV (textL pre))] (.v (.bool true)) := by
 have hlen := textL_length hf
 refine Fn.of Try.func7 rfl (by kernel_rfl) Try.ntmps7 (by simp) (fun w => [(0, .v (strV (textL pre)))]) (fun w => (Start.v rfl Start.nil)) fun w₀ => ?_
 refine GS ?_
 refine TL ?_
 refine RA rfl ?_
 refine RN ?_
 refine A.seq ?_
 refine GS ?_
 refine TL ?_
 refine RM rfl ?_
 refine RS (ok_lenT Try.underlying9 rfl) ?_
 refine RBS rfl rfl rfl (.bool false) (by simp; omega) ?_
 refine RN ?_
 refine A.no rfl ?_
 refine A.skip ?_
 refine EN ?_
 refine GS ?_
 refine TN 1 ?_
 refine RM rfl ?_
 refine RN ?_
 refine ⟨_, _, eff_name (n := 134) (d := 19) (k := 1000019) rfl rfl (fun B' => ok_callB (Parse_text pre hf hok (by omega)) newD_mono (A1 rfl)) (by decide) (by decide), fun b19 hb19 => ?_⟩
 have hBb19 := hb19.1
 refine TN 6 ?_
 refine RM rfl ?_
 refine RS (ok_extractV (xs := [_, _, _]) rfl rfl) ?_
 refine RS (ok_extractV (xs := [_, _, _]) rfl rfl) ?_
 refine RS (ok_extractV (xs := [_, _, _]) rfl rfl) ?_
 refine RN ?_
 refine ⟨_, _, eff_alloc (n := 134) (d := 3) (k := 1000003) zero35 (by decide), fun b3 hb3 => ?_⟩
 have hBb3 := hb3.1
 refine TF 7 ?_
 refine RN ?_
 refine ⟨_, eff_storeA (n := 134) (s := 1000003) (size35.of (rfl)) rfl rfl (rfl) hBb3 rfl (rfl) (LV 0 rfl (LV 3 rfl (LV 21 rfl (LV 22 rfl (LT 1000019 rfl LN))))), ?_⟩
 refine TL ?_
 refine RA rfl ?_
 refine RA rfl ?_
 refine RN ?_
 refine A.seq ?_
 refine GS ?_
 refine TL ?_
 refine RM rfl ?_
 refine RBS rfl rfl rfl (.bool true) (by rfl) ?_
 refine RN ?_
 refine A.yes rfl ?_
 refine GS ?_
 refine TL ?_
 refine RS (OpOk.hdBlk (ok_loadA (s := 1000003) (by decide) Try.underlying35 rfl (size35.of (rfl)) rfl rfl) (k := 1000019) (by decide) rfl) ?_
 refine RS (ok_call (Text_ok pre hf (by omega) (ok_chk11 (by omega) hok) (by omega)) (A1 rfl)) ?_
 refine RM rfl ?_
 refine RS (ok_extractV (xs := [_, _]) rfl rfl) ?_
 refine RS (ok_extractV (xs := [_, _]) rfl rfl) ?_
 refine RA rfl ?_
 refine RA rfl ?_
 refine RN ?_
 refine GS ?_
 refine TL ?_
 refine RM rfl ?_
 refine RBS rfl rfl rfl (.bool true) (by rfl) ?_
 refine RM rfl ?_
 refine RQ (ok_move rfl) ?_
 refine RQ (ok_move rfl) ?_
 refine RQ (ok_seq (a := textL pre) (b := textL pre) rfl rfl) ?_; refine RZ (.bool true) (by simp) ?_
 refine RP rfl rfl ?_
 refine RM rfl ?_
 refine RQ (ok_move rfl) ?_
 refine RQ (ok_bin rfl rfl rfl) ?_; refine RZ (.bool true) (by rfl) ?_
 refine RP rfl rfl ?_
 refine RM rfl ?_
 refine RQ (ok_call lives11_fn Args.nil) ?_
 refine RP rfl rfl ?_
 refine RA rfl ?_
 refine RN ?_
 refine A.sub (KC 2 rfl (KC 1000003 rfl (KC 1000019 rfl KN))) ?_
 refine A.ret ?_
 refine End.ret_then ?_
 exact End.ret1 rfl rfl (by first | exact Le.refl _ | exact Le.old _ _)
theorem byte_ne {c : UInt8} (h : c ≠ 10) : ((c.toNat : Int) != 10) = true := by
 rw [bne_iff_ne]
 intro h1
 have h2 : c.toNat = 10 := by omega
 exact h (UInt8.toNat_inj.1 h2)
set_option maxHeartbeats 4000000 in
theorem LPar_arg (pre : List Us) (rest : List UInt8) (hf : Fits pre) (hok : ∀ u ∈ pre, u.ok = true) (h1 : (textL pre ++ rest).length ≤ 400) (hr : rest ≠ []) (hp : prs (textL pre ++ rest).length (textL pre ++ rest) [] = ([], pre.length + 1, 1)) (ha : ArgF rest) : Fn Try.prog 7 [.v (strV (textL pre ++ rest))] (.v (.bool true)) := by
 have hT := textL_length hf
 have hlen : (textL pre ++ rest).length = 73 * pre.length + rest.length := by rw [List.length_append, hT]
 have hr0 : 0 < rest.length := List.length_pos_iff.2 hr
 refine Fn.of Try.func7 rfl (by kernel_rfl) Try.ntmps7 (by simp) (fun w => [(0, .v (strV (textL pre ++ rest)))]) (fun w => (Start.v rfl Start.nil)) fun w₀ => ?_
 refine GS ?_
 refine TL ?_
 refine RA rfl ?_
 refine RN ?_
 refine A.seq ?_
 refine GS ?_
 refine TL ?_
 refine RM rfl ?_
 refine RS (ok_lenT Try.underlying9 rfl) ?_
 refine RBS rfl rfl rfl (.bool false) (congrArg Value.bool (decide_eq_false (by omega))) ?_
 refine RN ?_
 refine A.no rfl ?_
 refine A.skip ?_
 refine EN ?_
 refine GS ?_
 refine TN 6 ?_
 refine RM rfl ?_
 refine RS (ok_call (Parse_bad (textL pre ++ rest) (by omega) (by rw [hp]; exact (by decide : (1 : Int) ≠ 0))) (A1 rfl)) ?_; refine RZ (.tuple #[aggV [.slice none 0 0], nI (pre.length + 1), .int .i64 1]) (prs_val hp) ?_
 refine RM rfl ?_
 refine RS (ok_extractV (xs := [_, _, _]) rfl rfl) ?_
 refine RS (ok_extractV (xs := [_, _, _]) rfl rfl) ?_
 refine RS (ok_extractV (xs := [_, _, _]) rfl rfl) ?_
 refine RN ?_
 refine ⟨_, _, eff_alloc (n := 134) (d := 3) (k := 1000003) zero35 (by decide), fun b3 hb3 => ?_⟩
 have hBb3 := hb3.1
 refine TF 7 ?_
 refine RN ?_
 refine ⟨_, eff_storeA (n := 134) (s := 1000003) (size35.of (rfl)) rfl rfl (rfl) hBb3 rfl (rfl) (LV 0 rfl (LV 3 rfl (LV 21 rfl (LV 22 rfl LN)))), ?_⟩
 refine TL ?_
 refine RA rfl ?_
 refine RA rfl ?_
 refine RN ?_
 refine A.seq ?_
 refine GS ?_
 refine TL ?_
 refine RM rfl ?_
 refine RBS rfl rfl rfl (.bool false) (by rfl) ?_
 refine RN ?_
 refine A.no rfl ?_
 refine A.skip ?_
 refine EN ?_
 refine A.seq ?_
 refine GS ?_
 refine TL ?_
 refine RS (ok_field field35_0 (by decide) rfl) ?_
 refine RS (ok_loadV (s := 1000003) (by decide) Try.underlying22 rfl rfl rfl (rfl)) ?_
 refine RS (ok_lenV Try.underlying22 rfl) ?_
 refine RBS rfl rfl rfl (.bool false) (by rfl) ?_
 refine RM rfl ?_
 refine RQ (ok_move rfl) ?_
 refine RQ (ok_bin rfl rfl rfl) ?_; refine RZ (.bool false) (congrArg Value.bool (decide_eq_false (by omega))) ?_
 refine RP rfl rfl ?_
 refine RM rfl ?_
 refine RQ (ok_move rfl) ?_
 refine RQ (ok_bin rfl rfl rfl) ?_; refine RZ (nI (pre.length)) (by rw [wrap_i64 (by omega) (by omega)]; congr 1; omega) ?_
 refine RQ (ok_bin rfl rfl rfl) ?_; refine RZ (nI (pre.length * 73)) (by rw [wrap_i64 (by omega) (by omega)]; rfl) ?_
 refine RQ (ok_move rfl) ?_
 refine RQ (ok_lenT Try.underlying9 rfl) ?_
 refine RQ (ok_bin rfl rfl rfl) ?_; refine RZ (.bool false) (congrArg Value.bool (decide_eq_false (by omega))) ?_
 refine RP rfl rfl ?_
 refine RN ?_
 refine A.sub (KC 0 rfl (KC 4 rfl (KC 5 rfl (KC 59 rfl (KC 1000003 rfl KN))))) ?_
 refine A.no rfl ?_
 refine A.skip ?_
 refine EN ?_
 refine GS ?_
 refine TL ?_
 refine RM rfl ?_
 refine RBS rfl rfl rfl (nI (pre.length)) (by rw [wrap_i64 (by omega) (by omega)]; congr 1; omega) ?_
 refine RBS rfl rfl rfl (nI (pre.length * 73)) (by rw [wrap_i64 (by omega) (by omega)]; rfl) ?_
 refine RA rfl ?_
 refine RN ?_
 refine GS ?_
 refine TN 3 ?_
 refine RM rfl ?_
 refine RM rfl ?_
 refine RS (ok_sliceTo (l := (textL pre ++ rest)) (pre.length * 73) Try.underlying9 rfl rfl (by omega)) ?_; refine RZ (strV (textL pre)) (congrArg strV (List.take_left' (by omega))) ?_
 refine RN ?_
 refine ⟨_, _, eff_name (n := 134) (d := 67) (k := 1000067) rfl rfl (fun B' => ok_callB (Parse_text pre hf hok (by omega)) newD_mono (A1 rfl)) (by decide) (by decide), fun b67 hb67 => ?_⟩
 have hBb67 := hb67.1
 have hlt_b3_b67 : b3 < b67 := hb67.2 1000003 _ _ _ rfl
 refine TN 8 ?_
 refine RM rfl ?_
 refine RS (ok_extractV (xs := [_, _, _]) rfl rfl) ?_
 refine RS (ok_extractV (xs := [_, _, _]) rfl rfl) ?_
 refine RS (ok_extractV (xs := [_, _, _]) rfl rfl) ?_
 refine RN ?_
 refine ⟨_, _, eff_alloc (n := 134) (d := 9) (k := 1000009) zero35 (by decide), fun b9 hb9 => ?_⟩
 have hBb9 := hb9.1
 have hlt_b3_b9 : b3 < b9 := hb9.2 1000003 _ _ _ rfl
 refine TF 9 ?_
 refine RN ?_
 refine ⟨_, eff_storeA (n := 134) (s := 1000009) (size35.of (rfl)) rfl rfl (rfl) hBb9 rfl (rfl) (LV 0 rfl (LV 4 rfl (LV 5 rfl (LV 8 rfl (LV 9 rfl (LV 69 rfl (LV 70 rfl (LB 1000003 rfl (LT 1000067 rfl LN))))))))), ?_⟩
 refine TL ?_
 refine RA rfl ?_
 refine RA rfl ?_
 refine RN ?_
 refine A.seq ?_
 refine GS ?_
 refine TL ?_
 refine RM rfl ?_
 refine RBS rfl rfl rfl (.bool false) (by rfl) ?_
 refine RM rfl ?_
 refine RQ (ok_move rfl) ?_
 refine RQ (ok_bin rfl rfl rfl) ?_; refine RZ (.bool false) (by rfl) ?_
 refine RP rfl rfl ?_
 refine RM rfl ?_
 refine RQ (ok_field field35_0 (by decide) rfl) ?_
 refine RQ (ok_loadV (s := 1000009) (by decide) Try.underlying22 rfl rfl rfl (rfl)) ?_
 refine RQ (ok_lenV Try.underlying22 rfl) ?_
 refine RQ (ok_move rfl) ?_
 refine RQ (ok_bin rfl rfl rfl) ?_; refine RZ (nI (pre.length)) (by rw [wrap_i64 (by omega) (by omega)]; congr 1; omega) ?_
 refine RQ (ok_bin rfl rfl rfl) ?_; refine RZ (.bool false) (by simp) ?_
 refine RP rfl rfl ?_
 refine RN ?_
 refine A.sub (KC 0 rfl (KC 5 rfl (KC 8 rfl (KC 84 rfl (KC 1000003 rfl (KC 1000009 rfl (KC 1000067 rfl KN))))))) ?_
 refine A.no rfl ?_
 refine A.skip ?_
 refine EN ?_
 refine GS ?_
 refine TL ?_
 refine RM rfl ?_
 refine RM rfl ?_
 refine RS (ok_sliceFrom (l := (textL pre ++ rest)) (pre.length * 73) Try.underlying9 rfl rfl (by omega)) ?_; refine RZ (strV rest) (congrArg strV (List.drop_left' (by omega))) ?_
 refine RA rfl ?_
 refine RN ?_
 refine A.seq ?_
 refine GS ?_
 refine TL ?_
 refine RM rfl ?_
 refine RBS rfl rfl rfl (.bool true) (by rfl) ?_
 refine RN ?_
 refine A.yes rfl ?_
 refine GD ?_
 refine TL ?_
 refine RM rfl ?_
 refine RS (ok_lenT Try.underlying9 rfl) ?_
 refine RBS rfl rfl rfl (.bool true) (congrArg Value.bool (decide_eq_true (by have := ha.len; omega))) ?_
 refine RM rfl ?_
 refine RQ (ok_move rfl) ?_
 refine RQ (ok_sliceBT (l := rest) 56 64 Try.underlying9 rfl rfl rfl (by decide) (by have := ha.len; omega)) ?_
 refine RQ (ok_move rfl) ?_
 refine RQ (ok_sliceBT (l := rest) 64 72 Try.underlying9 rfl rfl rfl (by decide) (by have := ha.len; omega)) ?_
 refine RQ (ok_sgt rfl rfl) ?_; refine RZ (.bool true) (congrArg Value.bool ha.gt) ?_
 refine RP rfl rfl ?_
 refine RM rfl ?_
 refine RQ (ok_move rfl) ?_
 refine RQ (ok_sliceTo (l := rest) 72 Try.underlying9 rfl rfl (by have := ha.len; omega)) ?_
 refine RQ (ok_call (digits_fn (rest.take 72) (by rw [List.length_take]; omega)) (A1 rfl)) ?_; refine RZ (.bool true) (congrArg Value.bool ha.dig) ?_
 refine RP rfl rfl ?_
 refine RM rfl ?_
 refine RQ (ok_move rfl) ?_
 refine RQ (ok_strIndex (l := rest) 72 Try.underlying9 rfl rfl rfl ha.ten) ?_
 refine RQ (ok_bin rfl rfl rfl) ?_; refine RZ (.bool true) (by rfl) ?_
 refine RP rfl rfl ?_
 refine RM rfl ?_
 refine RQ (ok_call lives11_fn Args.nil) ?_
 refine RP rfl rfl ?_
 refine RA rfl ?_
 refine RN ?_
 refine A.sub (KC 2 rfl (KC 1000003 rfl (KC 1000009 rfl (KC 1000067 rfl KN)))) ?_
 refine A.ret ?_
 refine End.ret_then ?_
 exact End.ret1 rfl rfl (by first | exact Le.refl _ | exact Le.old _ _)
set_option maxHeartbeats 4000000 in
theorem LPar_form (pre : List Us) (rest : List UInt8) (hf : Fits pre) (hok : ∀ u ∈ pre, u.ok = true) (h1 : (textL pre ++ rest).length ≤ 400) (hr : rest ≠ []) (hp : prs (textL pre ++ rest).length (textL pre ++ rest) [] = ([], pre.length + 1, 5)) (hform : rest.length < 73 ∨ (73 ≤ rest.length ∧ (rest.take 72).all isDig = false) ∨ (73 ≤ rest.length ∧ (rest.take 72).all isDig = true ∧ ∃ c, rest[72]? = some c ∧ c ≠ 10)) : Fn Try.prog 7 [.v (strV (textL pre ++ rest))] (.v (.bool true)) := by
 have hT := textL_length hf
 have hlen : (textL pre ++ rest).length = 73 * pre.length + rest.length := by rw [List.length_append, hT]
 have hr0 : 0 < rest.length := List.length_pos_iff.2 hr
 refine Fn.of Try.func7 rfl (by kernel_rfl) Try.ntmps7 (by simp) (fun w => [(0, .v (strV (textL pre ++ rest)))]) (fun w => (Start.v rfl Start.nil)) fun w₀ => ?_
 refine GS ?_
 refine TL ?_
 refine RA rfl ?_
 refine RN ?_
 refine A.seq ?_
 refine GS ?_
 refine TL ?_
 refine RM rfl ?_
 refine RS (ok_lenT Try.underlying9 rfl) ?_
 refine RBS rfl rfl rfl (.bool false) (congrArg Value.bool (decide_eq_false (by omega))) ?_
 refine RN ?_
 refine A.no rfl ?_
 refine A.skip ?_
 refine EN ?_
 refine GS ?_
 refine TN 6 ?_
 refine RM rfl ?_
 refine RS (ok_call (Parse_bad (textL pre ++ rest) (by omega) (by rw [hp]; exact (by decide : (5 : Int) ≠ 0))) (A1 rfl)) ?_; refine RZ (.tuple #[aggV [.slice none 0 0], nI (pre.length + 1), .int .i64 5]) (prs_val hp) ?_
 refine RM rfl ?_
 refine RS (ok_extractV (xs := [_, _, _]) rfl rfl) ?_
 refine RS (ok_extractV (xs := [_, _, _]) rfl rfl) ?_
 refine RS (ok_extractV (xs := [_, _, _]) rfl rfl) ?_
 refine RN ?_
 refine ⟨_, _, eff_alloc (n := 134) (d := 3) (k := 1000003) zero35 (by decide), fun b3 hb3 => ?_⟩
 have hBb3 := hb3.1
 refine TF 7 ?_
 refine RN ?_
 refine ⟨_, eff_storeA (n := 134) (s := 1000003) (size35.of (rfl)) rfl rfl (rfl) hBb3 rfl (rfl) (LV 0 rfl (LV 3 rfl (LV 21 rfl (LV 22 rfl LN)))), ?_⟩
 refine TL ?_
 refine RA rfl ?_
 refine RA rfl ?_
 refine RN ?_
 refine A.seq ?_
 refine GS ?_
 refine TL ?_
 refine RM rfl ?_
 refine RBS rfl rfl rfl (.bool false) (by rfl) ?_
 refine RN ?_
 refine A.no rfl ?_
 refine A.skip ?_
 refine EN ?_
 refine A.seq ?_
 refine GS ?_
 refine TL ?_
 refine RS (ok_field field35_0 (by decide) rfl) ?_
 refine RS (ok_loadV (s := 1000003) (by decide) Try.underlying22 rfl rfl rfl (rfl)) ?_
 refine RS (ok_lenV Try.underlying22 rfl) ?_
 refine RBS rfl rfl rfl (.bool false) (by rfl) ?_
 refine RM rfl ?_
 refine RQ (ok_move rfl) ?_
 refine RQ (ok_bin rfl rfl rfl) ?_; refine RZ (.bool false) (congrArg Value.bool (decide_eq_false (by omega))) ?_
 refine RP rfl rfl ?_
 refine RM rfl ?_
 refine RQ (ok_move rfl) ?_
 refine RQ (ok_bin rfl rfl rfl) ?_; refine RZ (nI (pre.length)) (by rw [wrap_i64 (by omega) (by omega)]; congr 1; omega) ?_
 refine RQ (ok_bin rfl rfl rfl) ?_; refine RZ (nI (pre.length * 73)) (by rw [wrap_i64 (by omega) (by omega)]; rfl) ?_
 refine RQ (ok_move rfl) ?_
 refine RQ (ok_lenT Try.underlying9 rfl) ?_
 refine RQ (ok_bin rfl rfl rfl) ?_; refine RZ (.bool false) (congrArg Value.bool (decide_eq_false (by omega))) ?_
 refine RP rfl rfl ?_
 refine RN ?_
 refine A.sub (KC 0 rfl (KC 4 rfl (KC 5 rfl (KC 59 rfl (KC 1000003 rfl KN))))) ?_
 refine A.no rfl ?_
 refine A.skip ?_
 refine EN ?_
 refine GS ?_
 refine TL ?_
 refine RM rfl ?_
 refine RBS rfl rfl rfl (nI (pre.length)) (by rw [wrap_i64 (by omega) (by omega)]; congr 1; omega) ?_
 refine RBS rfl rfl rfl (nI (pre.length * 73)) (by rw [wrap_i64 (by omega) (by omega)]; rfl) ?_
 refine RA rfl ?_
 refine RN ?_
 refine GS ?_
 refine TN 3 ?_
 refine RM rfl ?_
 refine RM rfl ?_
 refine RS (ok_sliceTo (l := (textL pre ++ rest)) (pre.length * 73) Try.underlying9 rfl rfl (by omega)) ?_; refine RZ (strV (textL pre)) (congrArg strV (List.take_left' (by omega))) ?_
 refine RN ?_
 refine ⟨_, _, eff_name (n := 134) (d := 67) (k := 1000067) rfl rfl (fun B' => ok_callB (Parse_text pre hf hok (by omega)) newD_mono (A1 rfl)) (by decide) (by decide), fun b67 hb67 => ?_⟩
 have hBb67 := hb67.1
 have hlt_b3_b67 : b3 < b67 := hb67.2 1000003 _ _ _ rfl
 refine TN 8 ?_
 refine RM rfl ?_
 refine RS (ok_extractV (xs := [_, _, _]) rfl rfl) ?_
 refine RS (ok_extractV (xs := [_, _, _]) rfl rfl) ?_
 refine RS (ok_extractV (xs := [_, _, _]) rfl rfl) ?_
 refine RN ?_
 refine ⟨_, _, eff_alloc (n := 134) (d := 9) (k := 1000009) zero35 (by decide), fun b9 hb9 => ?_⟩
 have hBb9 := hb9.1
 have hlt_b3_b9 : b3 < b9 := hb9.2 1000003 _ _ _ rfl
 refine TF 9 ?_
 refine RN ?_
 refine ⟨_, eff_storeA (n := 134) (s := 1000009) (size35.of (rfl)) rfl rfl (rfl) hBb9 rfl (rfl) (LV 0 rfl (LV 4 rfl (LV 5 rfl (LV 8 rfl (LV 9 rfl (LV 69 rfl (LV 70 rfl (LB 1000003 rfl (LT 1000067 rfl LN))))))))), ?_⟩
 refine TL ?_
 refine RA rfl ?_
 refine RA rfl ?_
 refine RN ?_
 refine A.seq ?_
 refine GS ?_
 refine TL ?_
 refine RM rfl ?_
 refine RBS rfl rfl rfl (.bool false) (by rfl) ?_
 refine RM rfl ?_
 refine RQ (ok_move rfl) ?_
 refine RQ (ok_bin rfl rfl rfl) ?_; refine RZ (.bool false) (by rfl) ?_
 refine RP rfl rfl ?_
 refine RM rfl ?_
 refine RQ (ok_field field35_0 (by decide) rfl) ?_
 refine RQ (ok_loadV (s := 1000009) (by decide) Try.underlying22 rfl rfl rfl (rfl)) ?_
 refine RQ (ok_lenV Try.underlying22 rfl) ?_
 refine RQ (ok_move rfl) ?_
 refine RQ (ok_bin rfl rfl rfl) ?_; refine RZ (nI (pre.length)) (by rw [wrap_i64 (by omega) (by omega)]; congr 1; omega) ?_
 refine RQ (ok_bin rfl rfl rfl) ?_; refine RZ (.bool false) (by simp) ?_
 refine RP rfl rfl ?_
 refine RN ?_
 refine A.sub (KC 0 rfl (KC 5 rfl (KC 8 rfl (KC 84 rfl (KC 1000003 rfl (KC 1000009 rfl (KC 1000067 rfl KN))))))) ?_
 refine A.no rfl ?_
 refine A.skip ?_
 refine EN ?_
 refine GS ?_
 refine TL ?_
 refine RM rfl ?_
 refine RM rfl ?_
 refine RS (ok_sliceFrom (l := (textL pre ++ rest)) (pre.length * 73) Try.underlying9 rfl rfl (by omega)) ?_; refine RZ (strV rest) (congrArg strV (List.drop_left' (by omega))) ?_
 refine RA rfl ?_
 refine RN ?_
 refine A.seq ?_
 refine GS ?_
 refine TL ?_
 refine RM rfl ?_
 refine RBS rfl rfl rfl (.bool false) (by rfl) ?_
 refine RN ?_
 refine A.no rfl ?_
 refine A.skip ?_
 refine EN ?_
 rcases hform with hF | ⟨h73, hF⟩ | ⟨h73, hD, cc, hcc, hcn⟩
 ·refine GS ?_
  refine TL ?_
  refine RM rfl ?_
  refine RBS rfl rfl rfl (.bool true) (by rfl) ?_
  refine RM rfl ?_
  refine RQ (ok_move rfl) ?_
  refine RQ (ok_lenT Try.underlying9 rfl) ?_
  refine RQ (ok_bin rfl rfl rfl) ?_; refine RZ (.bool true) (congrArg Value.bool (decide_eq_true (by omega))) ?_
  refine RQ (ok_move rfl) ?_
  refine RK ?_
  refine RK ?_
  refine RK ?_
  refine RK ?_
  refine RQ (ok_pick rfl rfl) ?_
  refine RQ (ok_move rfl) ?_
  refine RK ?_
  refine RK ?_
  refine RK ?_
  refine RQ (ok_pick rfl rfl) ?_
  refine RP rfl rfl ?_
  refine RM rfl ?_
  refine RQ (ok_call lives11_fn Args.nil) ?_
  refine RP rfl rfl ?_
  refine RA rfl ?_
  refine RN ?_
  refine A.sub (KC 2 rfl (KC 1000003 rfl (KC 1000009 rfl (KC 1000067 rfl KN)))) ?_
  refine A.ret ?_
  exact End.ret1 rfl rfl (by first | exact Le.refl _ | exact Le.old _ _)
 ·refine GS ?_
  refine TL ?_
  refine RM rfl ?_
  refine RBS rfl rfl rfl (.bool true) (by rfl) ?_
  refine RM rfl ?_
  refine RQ (ok_move rfl) ?_
  refine RQ (ok_lenT Try.underlying9 rfl) ?_
  refine RQ (ok_bin rfl rfl rfl) ?_; refine RZ (.bool false) (congrArg Value.bool (decide_eq_false (by omega))) ?_
  refine RQ (ok_move rfl) ?_
  refine RQ (ok_move rfl) ?_
  refine RQ (ok_sliceTo (l := rest) 72 Try.underlying9 rfl rfl (by omega)) ?_
  refine RQ (ok_call (digits_fn (rest.take 72) (by rw [List.length_take]; omega)) (A1 rfl)) ?_; refine RZ (.bool false) (congrArg Value.bool hF) ?_
  refine RQ (ok_not rfl) ?_
  refine RQ (ok_pick rfl rfl) ?_
  refine RQ (ok_move rfl) ?_
  refine RK ?_
  refine RK ?_
  refine RK ?_
  refine RQ (ok_pick rfl rfl) ?_
  refine RP rfl rfl ?_
  refine RM rfl ?_
  refine RQ (ok_call lives11_fn Args.nil) ?_
  refine RP rfl rfl ?_
  refine RA rfl ?_
  refine RN ?_
  refine A.sub (KC 2 rfl (KC 1000003 rfl (KC 1000009 rfl (KC 1000067 rfl KN)))) ?_
  refine A.ret ?_
  exact End.ret1 rfl rfl (by first | exact Le.refl _ | exact Le.old _ _)
 ·refine GS ?_
  refine TL ?_
  refine RM rfl ?_
  refine RBS rfl rfl rfl (.bool true) (by rfl) ?_
  refine RM rfl ?_
  refine RQ (ok_move rfl) ?_
  refine RQ (ok_lenT Try.underlying9 rfl) ?_
  refine RQ (ok_bin rfl rfl rfl) ?_; refine RZ (.bool false) (congrArg Value.bool (decide_eq_false (by omega))) ?_
  refine RQ (ok_move rfl) ?_
  refine RQ (ok_move rfl) ?_
  refine RQ (ok_sliceTo (l := rest) 72 Try.underlying9 rfl rfl (by omega)) ?_
  refine RQ (ok_call (digits_fn (rest.take 72) (by rw [List.length_take]; omega)) (A1 rfl)) ?_; refine RZ (.bool true) (congrArg Value.bool hD) ?_
  refine RQ (ok_not rfl) ?_
  refine RQ (ok_pick rfl rfl) ?_
  refine RQ (ok_move rfl) ?_
  refine RQ (ok_move rfl) ?_
  refine RQ (ok_strIndex (l := rest) 72 Try.underlying9 rfl rfl rfl hcc) ?_
  refine RQ (ok_bin rfl rfl rfl) ?_; refine RZ (.bool true) (by have := byte_ne hcn; simpa using this) ?_
  refine RQ (ok_pick rfl rfl) ?_
  refine RP rfl rfl ?_
  refine RM rfl ?_
  refine RQ (ok_call lives11_fn Args.nil) ?_
  refine RP rfl rfl ?_
  refine RA rfl ?_
  refine RN ?_
  refine A.sub (KC 2 rfl (KC 1000003 rfl (KC 1000009 rfl (KC 1000067 rfl KN)))) ?_
  refine A.ret ?_
  exact End.ret1 rfl rfl (by first | exact Le.refl _ | exact Le.old _ _)
theorem LedgersParse_fn (l : List UInt8) : Fn Try.prog 7 [.v (strV l)] (.v (.bool true)) := by
 by_cases h : 400 < l.length
 ·exact LPar_l l h
 obtain ⟨pre, rest, h1, h2, h3, h4⟩ := prs_spec l.length l [] (Nat.le_refl _)
 rcases h4 with ⟨h5, h6⟩ | ⟨h5, h6, h7⟩
 ·subst h5; rw [List.append_nil] at h3; subst h3
  exact LPar_ok pre h1 h2 (by omega)
 ·rcases lineE_cases (rest.take (nl rest)) (decide (nl rest < rest.length)) with h8 | ⟨h8, _⟩ | ⟨h8, _⟩
  ·exact absurd h8 h6
  ·rw [h8] at h7; subst h3
   exact LPar_arg pre rest h1 h2 (by omega) h5 (by simpa using h7) (arg_facts h8)
  ·rw [h8] at h7; subst h3
   exact LPar_form pre rest h1 h2 (by omega) h5 (by simpa using h7) (form_facts h8)
end Go.Proofs.Ythhmimnkfklhdaa
namespace Go.Proofs.Ythhmimnkfklhdaa
open Go Go.RowKit
set_option linter.unusedVariables false
set_option maxRecDepth 20000
set_option linter.unusedSimpArgs false
/-- The first i uses have counters of their own. -/
def knL (i : Nat) : List Us := (List.range 65537).map fun j => exU (if j < i then j else 0) 0 0
theorem knL_length (i : Nat) : (knL i).length = 65537 := by unfold knL; rw [List.length_map, List.length_range]
theorem knL_get {i j : Nat} (h : j < 65537) : (knL i)[j]? = some (exU (if j < i then j else 0) 0 0) := by unfold knL; rw [List.getElem?_map, List.getElem?_range h]; rfl
theorem knL_fit {i : Nat} (hi : i ≤ 65537) : Fits (knL i) := fun u hu => by
 unfold knL at hu
 obtain ⟨j, hj, rfl⟩ := List.mem_map.1 hu
 have := List.mem_range.1 hj
 exact exU_fit (by split <;> omega) (by omega) (by omega)
theorem knL_zero : List.replicate 65537 (exU 0 0 0) = knL 0 := by
 apply List.ext_getElem?
 intro j
 rcases Nat.lt_or_ge j 65537 with h | h
 ·rw [knL_get h, List.getElem?_replicate, if_pos h, if_neg (Nat.not_lt_zero _)]
 ·rw [List.getElem?_eq_none (by rw [List.length_replicate]; exact h), List.getElem?_eq_none (by rw [knL_length]; exact h)]
theorem knL_succ {i : Nat} (hi : i < 65537) : (knL i).set i (exU i 0 0) = knL (i + 1) := by
 apply List.ext_getElem?
 intro j
 rcases Nat.lt_or_ge j 65537 with h | h
 ·rw [knL_get h, List.getElem?_set]
  by_cases hj : i = j
  ·subst hj; rw [if_pos rfl, if_pos (by rw [knL_length]; exact hi), if_pos (by omega)]
  ·rw [if_neg hj, knL_get h]
   by_cases h1 : j < i
   ·rw [if_pos h1, if_pos (by omega)]
   ·rw [if_neg h1, if_neg (by omega)]
 ·rw [List.getElem?_eq_none (by rw [List.length_set, knL_length]; exact h), List.getElem?_eq_none (by rw [knL_length]; exact h)]
theorem knL_at {i : Nat} (hi : i < 65537) : (knL i)[i]'(by rw [knL_length]; exact hi) = exU 0 0 0 := by
 have := knL_get (i := i) hi
 rw [List.getElem?_eq_getElem (by rw [knL_length]; exact hi), if_neg (Nat.lt_irrefl _)] at this
 exact Option.some.inj this
theorem kn_set {i : Nat} (hi : i < 65537) {v : Value} (hv : v = .int .u64 (i : Int)) : (usR (knL i)).set (i * 20 + 16 + 0 + 1) v = usR (knL (i + 1)) := by
 subst hv
 rw [← knL_succ hi]
 exact usR_set (k := 17) (knL_fit (by omega)) (by rw [knL_length]; exact hi) (by decide) (by rw [knL_at hi]; rfl)
theorem made_kn {z : Array Value} (hz : z.toList = usV (exU 0 0 0)) : (madeCells z (65537 * 20)).toList = usR (knL 0) := by
 rw [made_usR (exU_fit (by decide) (by decide) (by decide)) hz, knL_zero]
def KNu : List Us := knL 65537
theorem KN_eq : knL 65537 = KNu := rfl
theorem KN_len : KNu.length = 65537 := knL_length _
theorem KN_fit : Fits KNu := knL_fit (Nat.le_refl _)
theorem KN_get {j : Nat} (h : j < 65537) : KNu[j]? = some (exU j 0 0) := by unfold KNu; rw [knL_get h, if_pos h]
theorem KN_ok : ∀ u ∈ KNu, u.ok = true := fun u hu => by
 obtain ⟨j, hj, rfl⟩ := List.getElem_of_mem hu
 have := KN_get (j := j) (by rw [← KN_len]; exact hj)
 rw [List.getElem?_eq_getElem hj] at this
 rw [Option.some.inj this]; rfl
attribute [irreducible] KNu knL
theorem kt_len {m : Nat} (h : m ≤ 65537) : (KNu.take m).length = m := by rw [List.length_take, KN_len, Nat.min_eq_left h]
theorem kt_fit (m : Nat) : Fits (KNu.take m) := fun u hu => KN_fit u (List.mem_of_mem_take hu)
theorem kt_ok (m : Nat) : ∀ u ∈ KNu.take m, u.ok = true := fun u hu => KN_ok u (List.mem_of_mem_take hu)
theorem kt_get {m j : Nat} (h : m ≤ 65537) (hj : j < m) : (KNu.take m)[j]! = exU j 0 0 := by
 rw [List.getElem!_eq_getElem?_getD, List.getElem?_take, if_pos hj, KN_get (by omega)]; rfl
theorem kt_chk {m : Nat} (h : m ≤ 65536) : chkU (KNu.take m) = 0 := by
 unfold chkU; rw [if_neg (by rw [kt_len (by omega)]; omega), if_pos (List.all_eq_true.2 (kt_ok m))]
theorem KN_chk : chkU KNu = 3 := by unfold chkU; rw [if_pos (by rw [KN_len]; decide)]
theorem exU_apart {i j : Nat} (h : i ≠ j) : clB (exU i 0 0) (exU j 0 0) = false := by
 cases hc : clB (exU i 0 0) (exU j 0 0) with
 | false => rfl
 | true =>
  have := (clB_iff.1 hc).1
  simp only [stOf, exU, Prod.mk.injEq] at this
  exact absurd this.2.2 h
theorem kt_rep {m : Nat} (h : m ≤ 65537) : repJ (KNu.take m) = (KNu.take m).length := by
 refine lst1_eq (Nat.le_refl _) (fun j hj => ?_) fun h => absurd h (Nat.lt_irrefl _)
 rw [kt_len h] at hj
 cases hc : cAt (KNu.take m) j with
 | false => rfl
 | true =>
  obtain ⟨i, hi, hcl⟩ := cAt_iff.1 hc
  rw [kt_get h (by omega), kt_get h hj, exU_apart (by omega)] at hcl; cases hcl
def KMu : List Us := KNu.take 65535 ++ KNu.take 1
theorem KM_len : KMu.length = 65536 := by unfold KMu; rw [List.length_append, kt_len (by decide), kt_len (by decide)]
theorem KM_fit : Fits KMu := (kt_fit _).append (kt_fit _)
theorem KM_chk : chkU KMu = 0 := by
 have hok : ∀ u ∈ KMu, u.ok = true := fun u hu => (List.mem_append.1 hu).elim (kt_ok _ u) (kt_ok _ u)
 unfold chkU; rw [if_neg (by rw [KM_len]; decide), if_pos (List.all_eq_true.2 hok)]
theorem KM_lo {j : Nat} (h : j < 65535) : KMu[j]! = exU j 0 0 := by
 have := kt_get (m := 65535) (j := j) (by decide) h
 rw [List.getElem!_eq_getElem?_getD] at this ⊢
 unfold KMu; rw [List.getElem?_append_left (by rw [kt_len (by decide)]; exact h)]; exact this
theorem KM_hi : KMu[65535]! = exU 0 0 0 := by
 have := kt_get (m := 1) (j := 0) (by decide) (by decide)
 rw [List.getElem!_eq_getElem?_getD] at this ⊢
 unfold KMu; rw [List.getElem?_append_right (by rw [kt_len (by decide)]; exact Nat.le_refl _), kt_len (by decide)]; exact this
theorem exU_self (n : Nat) : clB (exU n 0 0) (exU n 0 0) = true := clB_iff.2 ⟨rfl, by simp [exU]⟩
theorem KM_repJ : repJ KMu = 65535 := by
 refine lst1_eq (by rw [KM_len]; decide) (fun j hj => ?_) fun _ => cAt_iff.2 ⟨0, by decide, by rw [KM_lo (by decide), KM_hi]; exact exU_self 0⟩
 cases hc : cAt KMu j with
 | false => rfl
 | true =>
  obtain ⟨i, hi, hcl⟩ := cAt_iff.1 hc
  rw [KM_lo (by omega), KM_lo hj, exU_apart (by omega)] at hcl; cases hcl
theorem KM_repI : repI KMu = 0 := by
 unfold repI; rw [KM_repJ]
 exact lst1_eq (Nat.zero_le _) (fun j hj => absurd hj (Nat.not_lt_zero _)) fun _ => by rw [KM_lo (by decide), KM_hi]; exact exU_self 0
theorem KM_rep : repV KMu = .tuple #[.int .i64 0, .int .i64 65535, .bool true] := by
 have h : repJ KMu < KMu.length := by rw [KM_repJ, KM_len]; decide
 unfold repV rI rJ rF; rw [if_pos h, if_pos h, decide_eq_true h, KM_repJ, KM_repI]; rfl
theorem kt_repV {m : Nat} (h : m ≤ 65537) : repV (KNu.take m) = .tuple #[.int .i64 0, .int .i64 0, .bool false] := by
 have h : ¬ repJ (KNu.take m) < (KNu.take m).length := by rw [kt_rep h]; exact Nat.lt_irrefl _
 unfold repV rI rJ rF; rw [if_neg h, if_neg h, decide_eq_false h]
def KTu : List Us := KNu.take 14364
theorem KT_fit : Fits KTu := kt_fit _
theorem KT_len : KTu.length = 14364 := kt_len (by decide)
theorem KT_ok : ∀ u ∈ KTu, u.ok = true := kt_ok _
theorem KT_chk : chkU KTu = 0 := kt_chk (by decide)
theorem KT_text : (textL KTu).length = 1048572 := by rw [textL_length KT_fit, KT_len]
theorem prs_more : ∀ (us acc : List Us) (k : Nat) (rest : List UInt8), Fits us → (∀ u ∈ us, u.ok = true) → (textL us ++ rest).length ≤ k → prs k (textL us ++ rest) acc = prs (k - us.length) rest (acc ++ us)
 | [], acc, k, rest, _, _, _ => by simp [textL]
 | u :: us, acc, k, rest, hf, hok, hk => by
  have hu := hf.cons.1
  have hc : textL (u :: us) ++ rest = lineL u ++ (textL us ++ rest) := by simp [textL]
  have hl : (textL (u :: us) ++ rest).length = 73 + (textL us ++ rest).length := by rw [hc, List.length_append, lineL_length hu]
  obtain ⟨k, rfl⟩ : ∃ k', k = k' + 1 := ⟨k - 1, by omega⟩
  have ih := prs_more us (acc ++ [u]) k rest hf.cons.2 (fun v hv => hok v (List.mem_cons_of_mem _ hv)) (by omega)
  have hne : textL (u :: us) ++ rest ≠ [] := fun h => by rw [h] at hl; simp at hl; omega
  have hlt : nl (textL (u :: us) ++ rest) = 72 := by rw [hc, nl_lineL hu]
  rw [prs, if_neg hne, hlt, decide_eq_true (by omega), hc, take_lineL hu, lineE_line hu (hok u List.mem_cons_self), if_pos rfl, lineU_line hu (hok u List.mem_cons_self), drop_lineL hu, ih]
  simp
theorem prs_four (k : Nat) (acc : List Us) : prs (k + 1) [48, 48, 48, 48] acc = ([], acc.length + 1, 5) := by
 rw [prs, if_neg (by simp)]
 have h : lineE (([48, 48, 48, 48] : List UInt8).take (nl [48, 48, 48, 48])) (decide (nl [48, 48, 48, 48] < ([48, 48, 48, 48] : List UInt8).length)) = 5 := by kernel_rfl
 rw [h, if_neg (by decide)]
theorem KT_four : prs (textL KTu ++ [48, 48, 48, 48]).length (textL KTu ++ [48, 48, 48, 48]) [] = ([], 14365, 5) := by
 rw [prs_more KTu [] _ _ KT_fit KT_ok (Nat.le_refl _)]
 have hk : (textL KTu ++ [48, 48, 48, 48]).length - KTu.length = 1034211 + 1 := by rw [List.length_append, KT_text, KT_len]; rfl
 rw [hk, prs_four, List.nil_append, KT_len]
attribute [irreducible] KMu KTu

theorem KM_led : hdD (rowD ((KNu.take 65535).length + (KNu.take 1).length) (usR (KNu.take 65535 ++ KNu.take 1))) [] = hdD (rowD KMu.length (usR KMu)) [] := by rw [KM_len, kt_len (by decide), kt_len (by decide)]; unfold KMu; rfl
theorem KT_row : rowD (KNu.take 14364).length (usR (KNu.take 14364)) = rowD KTu.length (usR KTu) := by unfold KTu; rfl
theorem KT_led : hdD (rowD (KNu.take 14364).length (usR (KNu.take 14364))) [] = hdD (rowD KTu.length (usR KTu)) [] := congrArg (fun d => hdD d []) KT_row
theorem ok_one {u : Us} (h : u.ok = true) : chkU [u] = 0 := by unfold chkU; rw [if_neg (by simp), if_pos (by simp [h])]
theorem KN_first : ((usR KNu).drop (0 * 20)).take 20 = usV (exU 0 0 0) := by
 have h0 : 0 < KNu.length := by rw [KN_len]; decide
 rw [usR_at KN_fit h0]
 have := KN_get (j := 0) (by decide)
 rw [List.getElem?_eq_getElem h0] at this
 rw [Option.some.inj this]
theorem zero_fit : (exU 0 0 0).Fit := exU_fit (by decide) (by decide) (by decide)
theorem of11_fnX (A₀ : Option Addr) (m q : Nat) : Fn Try.prog 12 [.v (.slice A₀ m q)] (.v (aggV [.slice A₀ m q])) := by
 refine Fn.of Try.func12 rfl (by kernel_rfl) Try.ntmps12 (by simp) (fun w => [(0, .v (.slice A₀ m q))]) (fun w => (Start.v rfl Start.nil)) fun w₀ => ?_
 refine GS ?_
 refine TN 0 ?_
 refine RN ?_
 refine ⟨_, _, eff_alloc (n := 5) (d := 2) (k := 1000002) zero35 (by decide), fun b2 hb2 => ?_⟩
 have hBb2 := hb2.1
 refine TL ?_
 refine RN ?_
 refine GS ?_
 refine TF 2 ?_
 refine RM rfl ?_
 refine RS (ok_litS [(0, .slice A₀ m q)] [.slice A₀ m q] ⟨rfl, rfl, trivial⟩ (buildL _ _ _)) ?_
 refine RN ?_
 refine ⟨_, eff_storeA (n := 5) (s := 1000002) (size35.of (rfl)) rfl rfl (rfl) hBb2 rfl (rfl) (LV 2 rfl LN), ?_⟩
 refine TL ?_
 refine RN ?_
 refine A.ret ?_
 exact End.cell1 (s := 1000002) rfl Try.underlying35 rfl (size35.of rfl) rfl rfl (Le.refl _)
set_option maxHeartbeats 4000000 in
theorem LedgersKnown_fn  : Fn Try.prog 8 [] (.v (.bool true)) := by
 refine Fn.of Try.func8 rfl (by kernel_rfl) Try.ntmps8 (by simp) (fun w => []) (fun w => Start.nil) fun w₀ => ?_
 refine GS ?_
 refine TL ?_
 refine RA rfl ?_
 refine RN ?_
 refine GS ?_
 refine TN 0 ?_
 refine RN ?_
 refine ⟨_, _, eff_name (n := 201) (d := 29) (k := 1000029) rfl rfl (fun B' => ok_makeK 65537 Try.underlying22 infoU (by decide) rfl rfl (by decide)) (by decide) (by decide), fun b29 hb29 => ?_⟩
 have hBb29 := hb29.1
 refine TL ?_
 refine RA rfl ?_
 refine RN ?_
 refine A.seq ?_
 refine GS ?_
 refine TL ?_
 refine RA rfl ?_
 refine RN ?_
 refine A.block ?_
 refine A.loop (ι := Nat) (fun i => i ≤ 65537) (fun i => [(1, .v (.slice (some ⟨b29, 0, none⟩) 65537 65537)), (2, .v (nI i)), (1000029, blk b29 31 (usR (knL i)))]) (fun i => 65537 - i) 0 ?_ ?_ ?_
 ·exact Nat.zero_le _
 ·exact (KC 1 rfl (KE 2 rfl (by rfl) (KE 1000029 rfl (congrArg (blk b29 31) (made_kn rfl)) KN)))
 intro i hi'
 refine A.seq ?_
 refine GS ?_
 refine TL ?_
 refine RM rfl ?_
 refine RM rfl ?_
 refine RS (ok_lenV Try.underlying22 rfl) ?_
 refine RB rfl rfl rfl ?_
 refine RN ?_
 refine A.cond rfl (fun hc33 => ?_) (fun hc33 => ?_)
 ·have hi : i < 65537 := by have h := hc33; simp at h; omega
  refine A.skip ?_
  refine EN ?_
  refine A.seq ?_
  refine A.block ?_
  refine GE ?_
  refine TF 8 ?_
  refine RM rfl ?_
  refine RM rfl ?_
  refine RM rfl ?_
  refine RS (ok_conv Try.underlying3 Try.underlying25 rfl) ?_; refine RZ (.int .u64 (i : Int)) (congrArg (Value.int .u64) (wrapN_u64 (by omega))) ?_
  refine RS (ok_indexVK i Try.underlying22 infoU rfl rfl hi) ?_
  refine RS (ok_field field31_1 (by decide) rfl) ?_
  refine RS (ok_field field29_0 (by decide) rfl) ?_
  refine RS (ok_field field27_1 (by decide) rfl) ?_
  refine RN ?_
  refine ⟨_, eff_storeS (n := 201) (s := 1000029) info25 rfl rfl rfl hBb29 rfl (by rw [usR_length (knL_fit (by omega)), knL_length]; omega) (LV 1 rfl (LV 2 rfl LN)), ?_⟩
  refine TL ?_
  refine RN ?_
  refine End.normal_block ?_
  refine EN ?_
  refine GE ?_
  refine TL ?_
  refine RM rfl ?_
  refine RBS rfl rfl rfl (nI (i + 1)) (by rw [wrap_i64 (by omega) (by omega)]; rfl) ?_
  refine RA rfl ?_
  refine RN ?_
  refine End.normal_then ?_
  refine End.again (i + 1) ?_ ?_ ?_
  ·show _ ≤ _; omega
  ·show _ - _ < _ - _; omega
  ·exact (KC 1 rfl (KC 2 rfl (KE 1000029 rfl (congrArg (blk b29 31) (kn_set hi rfl)) KN)))
 ·have hi2 : i = 65537 := by have h := hi'; simp at hc33; omega
  subst hi2
  refine A.exit ?_
  refine End.exit_then ?_
  refine End.exit_then ?_
  refine End.exit_here ?_
  refine EN ?_
  refine GS ?_
  refine TN 3 ?_
  refine RM rfl ?_
  refine RS (ok_sliceHiK 65536 Try.underlying22 infoU rfl rfl (by decide)) ?_
  refine RS (ok_call (of11_fnX (some ⟨b29, 0, none⟩) 65536 65537) (A1 rfl)) ?_
  refine RN ?_
  refine ⟨_, _, eff_alloc (n := 201) (d := 3) (k := 1000003) zero35 (by decide), fun b3 hb3 => ?_⟩
  have hBb3 := hb3.1
  refine TF 4 ?_
  refine RN ?_
  refine ⟨_, eff_storeA (n := 201) (s := 1000003) (size35.of (rfl)) rfl rfl (rfl) hBb3 rfl (rfl) (LV 1 rfl (LV 3 rfl (LT 1000029 rfl LN))), ?_⟩
  refine TL ?_
  refine RN ?_
  refine A.sub (KC 1 rfl (KC 3 rfl (KC 1000003 rfl (KE 1000029 rfl (congrArg (fun l => blk b29 31 (usR l)) KN_eq) KN)))) ?_
  refine A.dup (k := 1000003) (k' := 1000303) rfl (fun _ _ _ _ h => h) ?_
  refine A.dup (k := 1000029) (k' := 1000329) rfl (fun _ _ _ _ h => h) ?_
  refine A.regsLH _ (fun B => (OldH.same (t := 1) rfl (OldH.same (t := 3) rfl (OldH.p (t := 1000003) rfl (OldH.p (t := 1000029) rfl (OldH.same (t := 1000303) rfl (OldH.same (t := 1000329) rfl OldH.nil))))))) 9 [7] (by kernel_rfl) (by kernel_rfl) (by kernel_rfl) (by kernel_rfl) (fun B => [(1, .v (.slice (some ⟨b29, 0, none⟩) 65537 65537)), (1000029, blk b29 31 (usR KNu)), (3, .v (.pointer (some ⟨b3, 0, none⟩))), (1000003, blk b3 35 [.slice (some ⟨b29, 0, none⟩) 65536 65537]), (4, freshV B [b3, b29] 35 [.slice none 0 0]), (5, .v (.int .i64 3))]) (fun B hB => ?_) (fun B hB => ?_)
  ·refine RS (OpOk.hdTake KNu (ok_loadA (s := 1000303) (by decide) Try.underlying35 rfl (size35.of (rfl)) rfl rfl) (k := 1000329) (by decide) rfl KN_fit (by rw [KN_len]; decide)) ?_
   refine RS (OpOk.rowBlk (ok_move rfl) (k := 1000329) (by decide) rfl) ?_
   refine RS (ok_indexRD 0 Try.underlying22 infoU rfl (Le.refl _) rfl (by decide) (by rw [usR_length KN_fit, KN_len]; decide)) ?_
   refine RS (ok_loadElemP Try.underlying31 rfl (size31.of (by rw [KN_first, usV_length zero_fit])) rfl) ?_; refine RZ (aggV (usV (exU 0 0 0))) (congrArg aggV KN_first) ?_
   refine RS (ok_call (Add_big (KNu.take 65536) (exU 0 0 0) (kt_fit _) zero_fit (by rw [kt_len (by decide)]; decide) (kt_chk (by decide)) (ok_one rfl) (by rw [kt_len (by decide)]; decide)) (A2 rfl rfl)) ?_
   refine RM rfl ?_
   refine RS (ok_extractV (xs := [_, _]) rfl rfl) ?_
   refine RS (ok_extractV (xs := [_, _]) rfl rfl) ?_
   refine RS (ok_allocF [b3, b29] zero35 (Named.cons (s := 1000303) (by decide) rfl (Named.cons (s := 1000329) (by decide) rfl Named.nil))) ?_
   refine RN ?_
   intro S hS
   simp only [subs, List.map_cons, List.map_nil, List.cons_append, List.nil_append, List.mem_cons, List.not_mem_nil, or_false] at hS
   rcases hS with rfl | rfl
   ·refine ⟨1, Nat.le_of_ble_eq_true (by kernel_rfl), _, (KC 1 rfl (KC 3 rfl (KC 4 rfl (KC 47 rfl (KC 48 rfl (KC 49 rfl (KC 50 rfl (KC 51 rfl (KC 52 rfl (KC 53 rfl (KC 54 rfl (KC 1000003 rfl (KC 1000029 rfl (KC 1000303 rfl (KC 1000329 rfl KN))))))))))))))), by kernel_rfl, _, rfl, _, eff_storeFF (n := 201) (size35.of (rfl)) (Nat.le_refl _) rfl rfl (rfl) (rfl) (fun b hb => (LV 1 rfl (LV 3 rfl (LV 47 rfl (LV 51 rfl (LV 52 rfl (LV 53 rfl (LV 54 rfl (LeftS.cons (t := 1000003) rfl (Surv.old hb) (LeftS.cons (t := 1000029) rfl (Surv.old hb) LN)))))))))), ?_⟩
    refine AnyT.step 10 [] (by kernel_rfl) ?_
    refine NextT.pure (by kernel_rfl) rfl rfl rfl (ok_assign rfl) ?_ ?_
    ·refine AnyT.last (by kernel_rfl) ?_
     exact (SubL.cons (t := 1) rfl (Le.refl _) (SubL.cons (t := 1000029) rfl (Le.old _ _) (SubL.cons (t := 3) rfl (Le.refl _) (SubL.cons (t := 1000003) rfl (Le.old _ _) (SubL.cons (t := 4) rfl (Le.refl _) (SubL.cons (t := 5) rfl (Le.refl _) SubL.nil))))))
    exact trivial
   ·refine ⟨2, Nat.le_of_ble_eq_true (by kernel_rfl), _, (KC 1 rfl (KC 3 rfl (KC 4 rfl (KC 47 rfl (KC 48 rfl (KC 49 rfl (KC 50 rfl (KC 51 rfl (KC 52 rfl (KC 53 rfl (KC 1000003 rfl (KC 1000029 rfl (KC 1000303 rfl (KC 1000329 rfl KN)))))))))))))), by kernel_rfl, _, rfl, _, eff_storeFF (n := 201) (size35.of (rfl)) (Nat.le_refl _) rfl rfl (rfl) (rfl) (fun b hb => (LV 1 rfl (LV 3 rfl (LV 47 rfl (LV 51 rfl (LV 52 rfl (LV 53 rfl (LeftS.cons (t := 1000003) rfl (Surv.old hb) (LeftS.cons (t := 1000029) rfl (Surv.old hb) LN))))))))), ?_⟩
    refine AnyT.step 7 [] (by kernel_rfl) ?_
    refine NextT.pure (by kernel_rfl) rfl rfl rfl (ok_extractV (xs := [_, _]) rfl rfl) ?_ ?_
    ·refine AnyT.step 10 [] (by kernel_rfl) ?_
     refine NextT.pure (by kernel_rfl) rfl rfl rfl (ok_assign rfl) ?_ ?_
     ·refine AnyT.last (by kernel_rfl) ?_
      exact (SubL.cons (t := 1) rfl (Le.refl _) (SubL.cons (t := 1000029) rfl (Le.old _ _) (SubL.cons (t := 3) rfl (Le.refl _) (SubL.cons (t := 1000003) rfl (Le.old _ _) (SubL.cons (t := 4) rfl (Le.refl _) (SubL.cons (t := 5) rfl (Le.refl _) SubL.nil))))))
     exact trivial
    exact trivial
  ·refine A.openFreshV (t := 4) (k := 1000004) rfl fun b4 hBr4 hLt4 => ?_
   have hBb4 : w₀.heap.size ≤ b4 := by omega
   refine A.dup (k := 1000003) (k' := 1000303) rfl (fun _ _ _ _ h => h) ?_
   refine A.dup (k := 1000029) (k' := 1000329) rfl (fun _ _ _ _ h => h) ?_
   refine A.regsLH _ (fun B => (OldH.same (t := 1) rfl (OldH.same (t := 3) rfl (OldH.same (t := 4) rfl (OldH.same (t := 5) rfl (OldH.p (t := 1000003) rfl (OldH.p (t := 1000004) rfl (OldH.p (t := 1000029) rfl (OldH.same (t := 1000303) rfl (OldH.same (t := 1000329) rfl OldH.nil)))))))))) 9 [7] (by kernel_rfl) (by kernel_rfl) (by kernel_rfl) (by kernel_rfl) (fun B => [(1, .v (.slice (some ⟨b29, 0, none⟩) 65537 65537)), (1000029, blk b29 31 (usR KNu)), (3, .v (.pointer (some ⟨b3, 0, none⟩))), (1000003, blk b3 35 [.slice (some ⟨b29, 0, none⟩) 65536 65537]), (5, .v (.int .i64 3)), (6, freshV B [b3, b29] 35 [.slice none 0 0]), (7, .v (.int .i64 3))]) (fun B hB => ?_) (fun B hB => ?_)
   ·refine RS (OpOk.hdTake KNu (ok_loadA (s := 1000303) (by decide) Try.underlying35 rfl (size35.of (rfl)) rfl rfl) (k := 1000329) (by decide) rfl KN_fit (by rw [KN_len]; decide)) ?_
    refine RM rfl ?_
    refine RS (OpOk.rowTake KNu (ok_sliceHiK 1 Try.underlying22 infoU rfl rfl (by decide)) (k := 1000329) (by decide) rfl KN_fit (by rw [KN_len]; decide)) ?_
    refine RS (ok_call (of11_fn (KNu.take 1).length (usR (KNu.take 1))) (A1 rfl)) ?_
    refine RS (ok_call (Merge_big (KNu.take 65536) (KNu.take 1) (kt_fit _) (kt_fit _) (by rw [kt_len (by decide)]; decide) (by rw [kt_len (by decide)]; decide) (kt_chk (by decide)) (kt_chk (by decide)) (by rw [kt_len (by decide), kt_len (by decide)]; decide)) (A2 rfl rfl)) ?_
    refine RM rfl ?_
    refine RS (ok_extractV (xs := [_, _]) rfl rfl) ?_
    refine RS (ok_extractV (xs := [_, _]) rfl rfl) ?_
    refine RS (ok_allocF [b3, b29] zero35 (Named.cons (s := 1000303) (by decide) rfl (Named.cons (s := 1000329) (by decide) rfl Named.nil))) ?_
    refine RN ?_
    intro S hS
    simp only [subs, List.map_cons, List.map_nil, List.cons_append, List.nil_append, List.mem_cons, List.not_mem_nil, or_false] at hS
    rcases hS with rfl | rfl
    ·refine ⟨1, Nat.le_of_ble_eq_true (by kernel_rfl), _, (KC 1 rfl (KC 3 rfl (KC 4 rfl (KC 5 rfl (KC 6 rfl (KC 55 rfl (KC 56 rfl (KC 57 rfl (KC 58 rfl (KC 59 rfl (KC 60 rfl (KC 61 rfl (KC 62 rfl (KC 1000003 rfl (KC 1000004 rfl (KC 1000029 rfl (KC 1000303 rfl (KC 1000329 rfl KN)))))))))))))))))), by kernel_rfl, _, rfl, _, eff_storeFF (n := 201) (size35.of (rfl)) (Nat.le_refl _) rfl rfl (rfl) (rfl) (fun b hb => (LV 1 rfl (LV 3 rfl (LV 4 rfl (LV 5 rfl (LV 55 rfl (LV 57 rfl (LV 60 rfl (LV 61 rfl (LV 62 rfl (LeftS.cons (t := 1000003) rfl (Surv.old hb) (LeftS.cons (t := 1000004) rfl (Surv.old hb) (LeftS.cons (t := 1000029) rfl (Surv.old hb) LN))))))))))))), ?_⟩
     refine AnyT.step 10 [] (by kernel_rfl) ?_
     refine NextT.pure (by kernel_rfl) rfl rfl rfl (ok_assign rfl) ?_ ?_
     ·refine AnyT.last (by kernel_rfl) ?_
      exact (SubL.cons (t := 1) rfl (Le.refl _) (SubL.cons (t := 1000029) rfl (Le.old _ _) (SubL.cons (t := 3) rfl (Le.refl _) (SubL.cons (t := 1000003) rfl (Le.old _ _) (SubL.cons (t := 5) rfl (Le.refl _) (SubL.cons (t := 6) rfl (Le.refl _) (SubL.cons (t := 7) rfl (Le.refl _) SubL.nil)))))))
     exact trivial
    ·refine ⟨2, Nat.le_of_ble_eq_true (by kernel_rfl), _, (KC 1 rfl (KC 3 rfl (KC 4 rfl (KC 5 rfl (KC 6 rfl (KC 55 rfl (KC 56 rfl (KC 57 rfl (KC 58 rfl (KC 59 rfl (KC 60 rfl (KC 61 rfl (KC 1000003 rfl (KC 1000004 rfl (KC 1000029 rfl (KC 1000303 rfl (KC 1000329 rfl KN))))))))))))))))), by kernel_rfl, _, rfl, _, eff_storeFF (n := 201) (size35.of (rfl)) (Nat.le_refl _) rfl rfl (rfl) (rfl) (fun b hb => (LV 1 rfl (LV 3 rfl (LV 4 rfl (LV 5 rfl (LV 55 rfl (LV 57 rfl (LV 60 rfl (LV 61 rfl (LeftS.cons (t := 1000003) rfl (Surv.old hb) (LeftS.cons (t := 1000004) rfl (Surv.old hb) (LeftS.cons (t := 1000029) rfl (Surv.old hb) LN)))))))))))), ?_⟩
     refine AnyT.step 7 [] (by kernel_rfl) ?_
     refine NextT.pure (by kernel_rfl) rfl rfl rfl (ok_extractV (xs := [_, _]) rfl rfl) ?_ ?_
     ·refine AnyT.step 10 [] (by kernel_rfl) ?_
      refine NextT.pure (by kernel_rfl) rfl rfl rfl (ok_assign rfl) ?_ ?_
      ·refine AnyT.last (by kernel_rfl) ?_
       exact (SubL.cons (t := 1) rfl (Le.refl _) (SubL.cons (t := 1000029) rfl (Le.old _ _) (SubL.cons (t := 3) rfl (Le.refl _) (SubL.cons (t := 1000003) rfl (Le.old _ _) (SubL.cons (t := 5) rfl (Le.refl _) (SubL.cons (t := 6) rfl (Le.refl _) (SubL.cons (t := 7) rfl (Le.refl _) SubL.nil)))))))
      exact trivial
     exact trivial
   ·refine A.openFreshV (t := 6) (k := 1000006) rfl fun b6 hBr6 hLt6 => ?_
    have hBb6 : w₀.heap.size ≤ b6 := by omega
    refine A.dup (k := 1000003) (k' := 1000303) rfl (fun _ _ _ _ h => h) ?_
    refine A.dup (k := 1000029) (k' := 1000329) rfl (fun _ _ _ _ h => h) ?_
    refine A.regsLH _ (fun B => (OldH.same (t := 1) rfl (OldH.same (t := 3) rfl (OldH.same (t := 5) rfl (OldH.same (t := 6) rfl (OldH.same (t := 7) rfl (OldH.p (t := 1000003) rfl (OldH.p (t := 1000006) rfl (OldH.p (t := 1000029) rfl (OldH.same (t := 1000303) rfl (OldH.same (t := 1000329) rfl OldH.nil))))))))))) 11 [9] (by kernel_rfl) (by kernel_rfl) (by kernel_rfl) (by kernel_rfl) (fun B => [(1, .v (.slice (some ⟨b29, 0, none⟩) 65537 65537)), (1000029, blk b29 31 (usR KNu)), (3, .v (.pointer (some ⟨b3, 0, none⟩))), (1000003, blk b3 35 [.slice (some ⟨b29, 0, none⟩) 65536 65537]), (5, .v (.int .i64 3)), (7, .v (.int .i64 3)), (8, freshN B [b3, b29] 35 31 ((KNu.take 65535).length + (KNu.take 1).length) (usR (KNu.take 65535 ++ KNu.take 1))), (9, .v (.int .i64 0))]) (fun B hB => ?_) (fun B hB => ?_)
    ·refine RM rfl ?_
     refine RS (OpOk.rowTake KNu (ok_sliceHiK 65535 Try.underlying22 infoU rfl rfl (by decide)) (k := 1000329) (by decide) rfl KN_fit (by rw [KN_len]; decide)) ?_
     refine RS (ok_call (of11_fn (KNu.take 65535).length (usR (KNu.take 65535))) (A1 rfl)) ?_
     refine RM rfl ?_
     refine RS (OpOk.rowTake KNu (ok_sliceHiK 1 Try.underlying22 infoU rfl rfl (by decide)) (k := 1000329) (by decide) rfl KN_fit (by rw [KN_len]; decide)) ?_
     refine RS (ok_call (of11_fn (KNu.take 1).length (usR (KNu.take 1))) (A1 rfl)) ?_
     refine RS (ok_callB (Merge_okB (KNu.take 65535) (KNu.take 1) (kt_fit _) (kt_fit _) (by rw [kt_len (by decide)]; decide) (by rw [kt_len (by decide)]; decide) (kt_chk (by decide)) (kt_chk (by decide)) (by rw [kt_len (by decide), kt_len (by decide)]; decide)) newD_mono (A2 rfl rfl)) ?_
     refine RM rfl ?_
     refine RS (ok_extractN (f := fun b => [aggV [.slice (some ⟨b, 0, none⟩) ((KNu.take 65535).length + (KNu.take 1).length) ((KNu.take 65535).length + (KNu.take 1).length)], .int .i64 0]) rfl (fun _ => rfl)) ?_
     refine RS (ok_extractC (f := fun b => [aggV [.slice (some ⟨b, 0, none⟩) ((KNu.take 65535).length + (KNu.take 1).length) ((KNu.take 65535).length + (KNu.take 1).length)], .int .i64 0]) rfl (fun _ => rfl)) ?_
     refine RS (ok_allocF [b3, b29] zero35 (Named.cons (s := 1000303) (by decide) rfl (Named.cons (s := 1000329) (by decide) rfl Named.nil))) ?_
     refine RN ?_
     intro S hS
     simp only [subs, List.map_cons, List.map_nil, List.cons_append, List.nil_append, List.mem_cons, List.not_mem_nil, or_false] at hS
     rcases hS with rfl | rfl
     ·refine ⟨1, Nat.le_of_ble_eq_true (by kernel_rfl), _, (KC 1 rfl (KC 3 rfl (KC 5 rfl (KC 6 rfl (KC 7 rfl (KC 8 rfl (KC 63 rfl (KC 64 rfl (KC 65 rfl (KC 66 rfl (KC 67 rfl (KC 68 rfl (KC 69 rfl (KC 70 rfl (KC 71 rfl (KC 72 rfl (KC 1000003 rfl (KC 1000006 rfl (KC 1000029 rfl (KC 1000303 rfl (KC 1000329 rfl KN))))))))))))))))))))), by kernel_rfl, _, rfl, _, eff_storeFM (n := 201) size35 (Nat.le_refl _) rfl rfl rfl (by decide) (Nat.le_refl _) (fun b hb => (LV 1 rfl (LV 3 rfl (LV 5 rfl (LV 6 rfl (LV 7 rfl (LeftS.cons (t := 63) rfl (Surv.newD (by decide)) (LV 64 rfl (LV 67 rfl (LV 72 rfl (LeftS.cons (t := 1000003) rfl (Surv.old hb) (LeftS.cons (t := 1000006) rfl (Surv.old hb) (LeftS.cons (t := 1000029) rfl (Surv.old hb) LN))))))))))))), ?_⟩
      refine AnyT.step 12 [] (by kernel_rfl) ?_
      refine NextT.pure (by kernel_rfl) rfl rfl rfl (ok_assign rfl) ?_ ?_
      ·refine AnyT.last (by kernel_rfl) ?_
       exact (SubL.cons (t := 1) rfl (Le.refl _) (SubL.cons (t := 1000029) rfl (Le.old _ _) (SubL.cons (t := 3) rfl (Le.refl _) (SubL.cons (t := 1000003) rfl (Le.old _ _) (SubL.cons (t := 5) rfl (Le.refl _) (SubL.cons (t := 7) rfl (Le.refl _) (SubL.cons (t := 8) rfl (Le.refl _) (SubL.cons (t := 9) rfl (Le.refl _) SubL.nil))))))))
      exact trivial
     ·refine ⟨2, Nat.le_of_ble_eq_true (by kernel_rfl), _, (KC 1 rfl (KC 3 rfl (KC 5 rfl (KC 6 rfl (KC 7 rfl (KC 8 rfl (KC 63 rfl (KC 64 rfl (KC 65 rfl (KC 66 rfl (KC 67 rfl (KC 68 rfl (KC 69 rfl (KC 70 rfl (KC 71 rfl (KC 1000003 rfl (KC 1000006 rfl (KC 1000029 rfl (KC 1000303 rfl (KC 1000329 rfl KN)))))))))))))))))))), by kernel_rfl, _, rfl, _, eff_storeFM (n := 201) size35 (Nat.le_refl _) rfl rfl rfl (by decide) (Nat.le_refl _) (fun b hb => (LV 1 rfl (LV 3 rfl (LV 5 rfl (LV 6 rfl (LV 7 rfl (LeftS.cons (t := 63) rfl (Surv.newD (by decide)) (LV 64 rfl (LV 67 rfl (LeftS.cons (t := 1000003) rfl (Surv.old hb) (LeftS.cons (t := 1000006) rfl (Surv.old hb) (LeftS.cons (t := 1000029) rfl (Surv.old hb) LN)))))))))))), ?_⟩
      refine AnyT.step 9 [] (by kernel_rfl) ?_
      refine NextT.pure (by kernel_rfl) rfl rfl rfl (ok_extractC (f := fun b => [aggV [.slice (some ⟨b, 0, none⟩) ((KNu.take 65535).length + (KNu.take 1).length) ((KNu.take 65535).length + (KNu.take 1).length)], .int .i64 0]) rfl (fun _ => rfl)) ?_ ?_
      ·refine AnyT.step 12 [] (by kernel_rfl) ?_
       refine NextT.pure (by kernel_rfl) rfl rfl rfl (ok_assign rfl) ?_ ?_
       ·refine AnyT.last (by kernel_rfl) ?_
        exact (SubL.cons (t := 1) rfl (Le.refl _) (SubL.cons (t := 1000029) rfl (Le.old _ _) (SubL.cons (t := 3) rfl (Le.refl _) (SubL.cons (t := 1000003) rfl (Le.old _ _) (SubL.cons (t := 5) rfl (Le.refl _) (SubL.cons (t := 7) rfl (Le.refl _) (SubL.cons (t := 8) rfl (Le.refl _) (SubL.cons (t := 9) rfl (Le.refl _) SubL.nil))))))))
       exact trivial
      exact trivial
    ·refine A.openFreshN (t := 8) (k := 1000008) (k' := 1000308) rfl fun b8 c8 hBr8 hCr8 hLt8 => ?_
     have hBb8 : w₀.heap.size ≤ b8 := by omega
     refine GS ?_
     refine TL ?_
     refine RS (OpOk.hdBlk (ok_loadA (s := 1000008) (by decide) Try.underlying35 rfl (size35.of (rfl)) rfl rfl) (k := 1000308) (by decide) rfl) ?_
     refine RS (ok_call (Repeats_fn KMu KM_fit (by rw [KM_len]; decide) KM_chk) (Args.cons rfl (Le.eq KM_led) Args.nil)) ?_; refine RZ (.tuple #[.int .i64 0, .int .i64 65535, .bool true]) (KM_rep) ?_
     refine RM rfl ?_
     refine RS (ok_extractV (xs := [_, _, _]) rfl rfl) ?_
     refine RS (ok_extractV (xs := [_, _, _]) rfl rfl) ?_
     refine RS (ok_extractV (xs := [_, _, _]) rfl rfl) ?_
     refine RA rfl ?_
     refine RA rfl ?_
     refine RA rfl ?_
     refine RN ?_
     refine GS ?_
     refine TL ?_
     refine RS (OpOk.hdTake KNu (ok_loadA (s := 1000003) (by decide) Try.underlying35 rfl (size35.of (rfl)) rfl rfl) (k := 1000029) (by decide) rfl KN_fit (by rw [KN_len]; decide)) ?_
     refine RS (ok_call (Repeats_fn (KNu.take 65536) (kt_fit _) (by rw [kt_len (by decide)]; decide) (kt_chk (by decide))) (A1 rfl)) ?_; refine RZ (.tuple #[.int .i64 0, .int .i64 0, .bool false]) (kt_repV (by decide)) ?_
     refine RM rfl ?_
     refine RS (ok_extractV (xs := [_, _, _]) rfl rfl) ?_
     refine RS (ok_extractV (xs := [_, _, _]) rfl rfl) ?_
     refine RS (ok_extractV (xs := [_, _, _]) rfl rfl) ?_
     refine RA rfl ?_
     refine RA rfl ?_
     refine RA rfl ?_
     refine RN ?_
     refine A.seq ?_
     refine GS ?_
     refine TL ?_
     refine RS (OpOk.hdTake KNu (ok_loadA (s := 1000003) (by decide) Try.underlying35 rfl (size35.of (rfl)) rfl rfl) (k := 1000029) (by decide) rfl KN_fit (by rw [KN_len]; decide)) ?_
     refine RS (ok_call (Check_fn (KNu.take 65536) (kt_fit _) (by rw [kt_len (by decide)]; decide)) (A1 rfl)) ?_; refine RZ (.int .i64 0) (congrArg (Value.int .i64) (kt_chk (by decide))) ?_
     refine RBS rfl rfl rfl (.bool false) (by rfl) ?_
     refine RM rfl ?_
     refine RQ (OpOk.rowBlk (ok_move rfl) (k := 1000029) (by decide) rfl) ?_
     refine RQ (ok_call (of11_fn 65537 (usR KNu)) (A1 rfl)) ?_
     refine RQ (ok_call (Check_fn KNu KN_fit (by rw [KN_len]; decide)) (Args.cons rfl (Le.eq (congrArg (fun n => hdD (rowD n (usR KNu)) []) KN_len.symm)) Args.nil)) ?_; refine RZ (.int .i64 3) (congrArg (Value.int .i64) KN_chk) ?_
     refine RQ (ok_bin rfl rfl rfl) ?_; refine RZ (.bool false) (by rfl) ?_
     refine RP rfl rfl ?_
     refine RM rfl ?_
     refine RQ (ok_move rfl) ?_
     refine RQ (ok_bin rfl rfl rfl) ?_; refine RZ (.bool false) (by rfl) ?_
     refine RP rfl rfl ?_
     refine RM rfl ?_
     refine RQ (ok_move rfl) ?_
     refine RQ (ok_bin rfl rfl rfl) ?_; refine RZ (.bool false) (by rfl) ?_
     refine RP rfl rfl ?_
     refine RM rfl ?_
     refine RQ (ok_move rfl) ?_
     refine RQ (ok_bin rfl rfl rfl) ?_; refine RZ (.bool false) (by rfl) ?_
     refine RP rfl rfl ?_
     refine RM rfl ?_
     refine RQ (ok_move rfl) ?_
     refine RQ (ok_bin rfl rfl rfl) ?_; refine RZ (.bool false) (by rfl) ?_
     refine RP rfl rfl ?_
     refine RM rfl ?_
     refine RQ (ok_move rfl) ?_
     refine RQ (ok_bin rfl rfl rfl) ?_; refine RZ (.bool false) (by rfl) ?_
     refine RP rfl rfl ?_
     refine RM rfl ?_
     refine RQ (ok_move rfl) ?_
     refine RQ (ok_not rfl) ?_; refine RZ (.bool false) (by rfl) ?_
     refine RP rfl rfl ?_
     refine RM rfl ?_
     refine RQ (ok_move rfl) ?_
     refine RP rfl rfl ?_
     refine RN ?_
     refine A.sub (KC 1 rfl (KC 120 rfl (KC 1000003 rfl (KC 1000008 rfl (KC 1000029 rfl (KC 1000308 rfl KN)))))) ?_
     refine A.no rfl ?_
     refine A.skip ?_
     refine EN ?_
     refine GS ?_
     refine TL ?_
     refine RM rfl ?_
     refine RS (OpOk.rowTake KNu (ok_sliceHiK 14364 Try.underlying22 infoU rfl rfl (by decide)) (k := 1000029) (by decide) rfl KN_fit (by rw [KN_len]; decide)) ?_
     refine RS (ok_call (of11_fn (KNu.take 14364).length (usR (KNu.take 14364))) (A1 rfl)) ?_
     refine RS (ok_call (Text_ok KTu KT_fit (by rw [KT_len]; decide) KT_chk (by rw [KT_len]; decide)) (Args.cons rfl (Le.eq KT_led) Args.nil)) ?_
     refine RM rfl ?_
     refine RS (ok_extractV (xs := [_, _]) rfl rfl) ?_
     refine RS (ok_extractV (xs := [_, _]) rfl rfl) ?_
     refine RA rfl ?_
     refine RA rfl ?_
     refine RN ?_
     refine GS ?_
     refine TN 1 ?_
     refine RM rfl ?_
     refine RN ?_
     refine ⟨_, _, eff_name (n := 201) (d := 130) (k := 1000130) rfl rfl (fun B' => ok_callB (Parse_text KTu KT_fit KT_ok (by rw [KT_len]; decide)) newD_mono (A1 rfl)) (by decide) (by decide), fun b130 hb130 => ?_⟩
     have hBb130 := hb130.1
     have hlt_b3_b130 : b3 < b130 := hb130.2 1000003 _ _ _ rfl
     have hlt_b8_b130 : b8 < b130 := hb130.2 1000008 _ _ _ rfl
     have hlt_b29_b130 : b29 < b130 := hb130.2 1000029 _ _ _ rfl
     have hlt_c8_b130 : c8 < b130 := hb130.2 1000308 _ _ _ rfl
     refine TN 6 ?_
     refine RM rfl ?_
     refine RS (ok_extractV (xs := [_, _, _]) rfl rfl) ?_
     refine RS (ok_extractV (xs := [_, _, _]) rfl rfl) ?_
     refine RS (ok_extractV (xs := [_, _, _]) rfl rfl) ?_
     refine RN ?_
     refine ⟨_, _, eff_alloc (n := 201) (d := 18) (k := 1000018) zero35 (by decide), fun b18 hb18 => ?_⟩
     have hBb18 := hb18.1
     have hlt_b3_b18 : b3 < b18 := hb18.2 1000003 _ _ _ rfl
     have hlt_b8_b18 : b8 < b18 := hb18.2 1000008 _ _ _ rfl
     refine TF 7 ?_
     refine RN ?_
     refine ⟨_, eff_storeA (n := 201) (s := 1000018) (size35.of (rfl)) rfl rfl (rfl) hBb18 rfl (rfl) (LV 1 rfl (LV 16 rfl (LV 17 rfl (LV 18 rfl (LV 132 rfl (LV 133 rfl (LB 1000003 rfl (LB 1000008 rfl (LT 1000029 rfl (LT 1000130 rfl (LT 1000308 rfl LN))))))))))), ?_⟩
     refine TL ?_
     refine RA rfl ?_
     refine RA rfl ?_
     refine RN ?_
     refine GS ?_
     refine TL ?_
     refine RM rfl ?_
     refine RS (OpOk.rowTake KNu (ok_sliceHiK 14365 Try.underlying22 infoU rfl rfl (by decide)) (k := 1000029) (by decide) rfl KN_fit (by rw [KN_len]; decide)) ?_
     refine RS (ok_call (of11_fn (KNu.take 14365).length (usR (KNu.take 14365))) (A1 rfl)) ?_
     refine RS (ok_call (Text_big (KNu.take 14365) (kt_fit _) (by rw [kt_len (by decide)]; decide) (kt_chk (by decide)) (by rw [kt_len (by decide)]; decide)) (A1 rfl)) ?_
     refine RM rfl ?_
     refine RS (ok_extractV (xs := [_, _]) rfl rfl) ?_
     refine RS (ok_extractV (xs := [_, _]) rfl rfl) ?_
     refine RA rfl ?_
     refine RA rfl ?_
     refine RN ?_
     refine A.sub (KC 1 rfl (KC 16 rfl (KC 17 rfl (KC 18 rfl (KC 19 rfl (KC 20 rfl (KC 22 rfl (KC 1000003 rfl (KC 1000008 rfl (KC 1000018 rfl (KC 1000029 rfl (KC 1000130 rfl (KC 1000308 rfl KN))))))))))))) ?_
     refine GS ?_
     refine TN 7 ?_
     refine RM rfl ?_
     refine RS (ok_addS (a := textL KTu) (b := [48, 48, 48, 48, 48]) rfl rfl (by rw [KT_text]; decide)) ?_
     refine RS (ok_call (Parse_big (textL KTu ++ [48, 48, 48, 48, 48]) (by rw [List.length_append, KT_text]; decide)) (A1 rfl)) ?_
     refine RM rfl ?_
     refine RS (ok_extractV (xs := [_, _, _]) rfl rfl) ?_
     refine RS (ok_extractV (xs := [_, _, _]) rfl rfl) ?_
     refine RS (ok_extractV (xs := [_, _, _]) rfl rfl) ?_
     refine RN ?_
     refine ⟨_, _, eff_alloc (n := 201) (d := 23) (k := 1000023) zero35 (by decide), fun b23 hb23 => ?_⟩
     have hBb23 := hb23.1
     have hlt_b3_b23 : b3 < b23 := hb23.2 1000003 _ _ _ rfl
     have hlt_b8_b23 : b8 < b23 := hb23.2 1000008 _ _ _ rfl
     have hlt_b18_b23 : b18 < b23 := hb23.2 1000018 _ _ _ rfl
     refine TF 8 ?_
     refine RN ?_
     refine ⟨_, eff_storeA (n := 201) (s := 1000023) (size35.of (rfl)) rfl rfl (rfl) hBb23 rfl (rfl) (LV 1 rfl (LV 16 rfl (LV 17 rfl (LV 18 rfl (LV 19 rfl (LV 20 rfl (LV 22 rfl (LV 146 rfl (LV 147 rfl (LB 1000003 rfl (LB 1000008 rfl (LB 1000018 rfl (LT 1000029 rfl (LT 1000130 rfl (LT 1000308 rfl LN))))))))))))))), ?_⟩
     refine TL ?_
     refine RA rfl ?_
     refine RA rfl ?_
     refine RN ?_
     refine GS ?_
     refine TN 7 ?_
     refine RM rfl ?_
     refine RS (ok_addS (a := textL KTu) (b := [48, 48, 48, 48]) rfl rfl (by rw [KT_text]; decide)) ?_
     refine RS (ok_call (Parse_bad (textL KTu ++ [48, 48, 48, 48]) (by rw [List.length_append, KT_text]; decide) (by rw [KT_four]; decide)) (A1 rfl)) ?_; refine RZ (.tuple #[aggV [.slice none 0 0], nI 14365, .int .i64 5]) (prs_val KT_four) ?_
     refine RM rfl ?_
     refine RS (ok_extractV (xs := [_, _, _]) rfl rfl) ?_
     refine RS (ok_extractV (xs := [_, _, _]) rfl rfl) ?_
     refine RS (ok_extractV (xs := [_, _, _]) rfl rfl) ?_
     refine RN ?_
     refine ⟨_, _, eff_alloc (n := 201) (d := 26) (k := 1000026) zero35 (by decide), fun b26 hb26 => ?_⟩
     have hBb26 := hb26.1
     have hlt_b3_b26 : b3 < b26 := hb26.2 1000003 _ _ _ rfl
     have hlt_b8_b26 : b8 < b26 := hb26.2 1000008 _ _ _ rfl
     have hlt_b18_b26 : b18 < b26 := hb26.2 1000018 _ _ _ rfl
     have hlt_b23_b26 : b23 < b26 := hb26.2 1000023 _ _ _ rfl
     refine TF 8 ?_
     refine RN ?_
     refine ⟨_, eff_storeA (n := 201) (s := 1000026) (size35.of (rfl)) rfl rfl (rfl) hBb26 rfl (rfl) (LV 1 rfl (LV 16 rfl (LV 17 rfl (LV 18 rfl (LV 19 rfl (LV 20 rfl (LV 22 rfl (LV 24 rfl (LV 25 rfl (LV 153 rfl (LV 154 rfl (LB 1000003 rfl (LB 1000008 rfl (LB 1000018 rfl (LB 1000023 rfl (LT 1000029 rfl (LT 1000130 rfl (LT 1000308 rfl LN)))))))))))))))))), ?_⟩
     refine TL ?_
     refine RA rfl ?_
     refine RA rfl ?_
     refine RN ?_
     refine GD ?_
     refine TL ?_
     refine RM rfl ?_
     refine RS (ok_lenT (l := textL KTu) Try.underlying9 rfl) ?_; refine RZ (.int .i64 1048572) (congrArg (fun n : Nat => Value.int .i64 (n : Int)) KT_text) ?_
     refine RBS rfl rfl rfl (.bool true) (by rfl) ?_
     refine RM rfl ?_
     refine RQ (ok_move rfl) ?_
     refine RQ (ok_bin rfl rfl rfl) ?_; refine RZ (.bool true) (by rfl) ?_
     refine RP rfl rfl ?_
     refine RM rfl ?_
     refine RQ (OpOk.hdBlkN (ok_loadA (s := 1000018) (by decide) Try.underlying35 rfl (size35.of (rfl)) rfl rfl) (k := 1000130) (by decide) rfl) ?_
     refine RQ (ok_move rfl) ?_
     refine RQ (OpOk.rowTake KNu (ok_sliceHiK 14364 Try.underlying22 infoU rfl rfl (by decide)) (k := 1000029) (by decide) rfl KN_fit (by rw [KN_len]; decide)) ?_
     refine RQ (ok_call (same11_fn KTu KT_fit (by rw [KT_len]; decide)) (Args.cons rfl (Le.refl _) (Args.cons rfl (Le.eq KT_row) Args.nil))) ?_
     refine RP rfl rfl ?_
     refine RM rfl ?_
     refine RQ (ok_move rfl) ?_
     refine RQ (ok_bin rfl rfl rfl) ?_; refine RZ (.bool true) (by rfl) ?_
     refine RP rfl rfl ?_
     refine RM rfl ?_
     refine RQ (ok_move rfl) ?_
     refine RQ (ok_bin rfl rfl rfl) ?_; refine RZ (.bool true) (by rfl) ?_
     refine RP rfl rfl ?_
     refine RM rfl ?_
     refine RQ (ok_move rfl) ?_
     refine RQ (ok_bin rfl rfl rfl) ?_; refine RZ (.bool true) (by rfl) ?_
     refine RP rfl rfl ?_
     refine RM rfl ?_
     refine RQ (ok_move rfl) ?_
     refine RQ (ok_bin rfl rfl rfl) ?_; refine RZ (.bool true) (by rfl) ?_
     refine RP rfl rfl ?_
     refine RM rfl ?_
     refine RQ (ok_move rfl) ?_
     refine RQ (ok_bin rfl rfl rfl) ?_; refine RZ (.bool true) (by rfl) ?_
     refine RP rfl rfl ?_
     refine RM rfl ?_
     refine RQ (ok_move rfl) ?_
     refine RQ (ok_bin rfl rfl rfl) ?_; refine RZ (.bool true) (by rfl) ?_
     refine RP rfl rfl ?_
     refine RM rfl ?_
     refine RQ (ok_move rfl) ?_
     refine RQ (ok_bin rfl rfl rfl) ?_; refine RZ (.bool true) (by rfl) ?_
     refine RP rfl rfl ?_
     refine RM rfl ?_
     refine RP rfl rfl ?_
     refine RM rfl ?_
     refine RQ (ok_call lives11_fn Args.nil) ?_
     refine RP rfl rfl ?_
     refine RA rfl ?_
     refine RN ?_
     refine A.sub (KC 0 rfl (KC 1000003 rfl (KC 1000008 rfl (KC 1000018 rfl (KC 1000023 rfl (KC 1000026 rfl (KC 1000029 rfl (KC 1000130 rfl (KC 1000308 rfl KN))))))))) ?_
     refine A.ret ?_
     exact End.ret1 rfl rfl (by first | exact Le.refl _ | exact Le.old _ _)
end Go.Proofs.Ythhmimnkfklhdaa
