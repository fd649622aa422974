/-
  OWN TEXTS of this seat, put together, part 6: C21h, C21i.
-/
import Derived.Test.YtggijkmlmklneaaM2
import Derived.Test.YtggijkmlmklneaaM5
namespace Go.Proofs.Ytggijkmlmklneaa
open Go Go.RowKit
set_option linter.unusedVariables false
set_option maxRecDepth 20000
set_option linter.unusedSimpArgs false

theorem nat_at {L : List Nat} {j i : Nat} (h : L[j]? = some i) : ((L.map (fun k : Nat => nI k)).drop (j * 1)).take 1 = [nI i] := by
 have hj : j < L.length := (List.getElem?_eq_some_iff.1 h).1
 rw [Nat.mul_one, List.drop_eq_getElem_cons (by rw [List.length_map]; exact hj)]
 rw [List.getElem?_eq_getElem hj] at h
 injection h with h
 simp [h]
set_option maxHeartbeats 16000000 in
theorem Order_law (k : UInt8) (q : List Z3) (zp zq : Z3)  : Fn Try.prog 4 [tlD [byteV k] (rowG false q.length (z3R q)), .v (aggV [byteV zp.1, byteV zp.2.1, byteV zp.2.2]), .v (aggV [byteV zq.1, byteV zq.2.1, byteV zq.2.2])] (.v (.bool true)) := by
 refine Fn.of Try.func4 rfl (by kernel_rfl) Try.ntmps4 (by simp) (fun w => [(0, old w.heap.size (tlD [byteV k] (rowG false q.length (z3R q)))), (1, .v (aggV [byteV zp.1, byteV zp.2.1, byteV zp.2.2])), (2, .v (aggV [byteV zq.1, byteV zq.2.1, byteV zq.2.2]))]) (fun w => (Start.old rfl (Start.v rfl (Start.v rfl Start.nil)))) fun w₀ => ?_
 refine A.nameTG (t := 0) (k := 1000201) rfl fun A₁ m hm => ?_
 obtain ⟨n, hn⟩ : ∃ n, n = nO k := ⟨_, rfl⟩
 obtain ⟨L, hL⟩ : ∃ L, L = opsO k q := ⟨_, rfl⟩
 have h1 : 1 ≤ n := hn ▸ (nO_le k).1
 have h2 : n ≤ 20 := hn ▸ (nO_le k).2
 have hl : L.length ≤ 30 := hL ▸ opsO_len k q
 have hz := zA_ok n
 obtain ⟨a, haq⟩ : ∃ a, a = runA (zA n) L := ⟨_, rfl⟩
 have ha : a.Ok n := haq ▸ run_ok hz
 obtain ⟨P, hP⟩ : ∃ P, P = opN n zp := ⟨_, rfl⟩
 obtain ⟨Q, hQ⟩ : ∃ Q, Q = opN n zq := ⟨_, rfl⟩
 have hs1 := step_ok P ha
 have ht1 := step_ok Q ha
 have hs2 := step_ok Q hs1
 have ht2 := step_ok P ht1
 refine GS ?_
 refine TN 0 ?_
 refine RN ?_
 refine ZB 1000003 rfl fun b3 ⟨hBb3, hb3⟩ => ?_
 refine TN 1 ?_
 refine RN ?_
 refine ZB 1000004 rfl fun b4 ⟨hBb4, hb4⟩ => ?_
 refine TN 2 ?_
 refine RN ?_
 refine ZB 1000005 rfl fun b5 ⟨hBb5, hb5⟩ => ?_
 have hlt_b4_b5 := hb5 1000004 b4 _ _ rfl
 refine TL ?_
 refine RVN 1 rfl ?_
 refine GS ?_
 refine TN 3 ?_
 refine RS (OpOk.tgO (k₁ := 1000201) (pre := [byteV k]) (ok_loadA (s := 1000003) (by decide) Try.underlying24 rfl (size24.of (rfl)) rfl rfl) rfl hm (by decide) rfl) ?_
 refine RS ((OpOk.le (d' := arrZ (zOwn 41 w₀.heap.size) false a) (ok_callB (ref_fn k q) (fun _ _ h => arr_mono (own_monoT h)) (Args.cons rfl (by first | exact Le.refl _ | exact Le.old _ _ | exact arr_any | exact arr_ex | exact arrD_any | exact op_any | exact (Le.old _ _).trans arrD_any | exact (Le.old _ _).trans arr_any) Args.nil)) (Le.eq (by rw [haq, hn, hL])))) ?_
 refine RS (ok_callB (array_fn a (by rw [ha.1]; omega) (by rw [ha.2]; omega) (by rw [ha.1]; omega) (by rw [ha.2]; omega)) (fun _ _ h => arr_mono (own_monoT h)) (Args.cons rfl (by first | exact Le.refl _ | exact Le.old _ _ | exact arr_any | exact arr_ex | exact arrD_any | exact op_any | exact (Le.old _ _).trans arrD_any | exact (Le.old _ _).trans arr_any) Args.nil)) ?_
 refine RN ?_
 refine ZN 1000007 zero30 fun b7 ⟨hBb7, hb7⟩ => ?_
 refine TF 4 ?_
 refine RN ?_
 refine ⟨_, eff_storeK (n := 172) (s := 1000007) size30 rfl rfl (Le.refl _) (Agg.arr) hBb7 rfl (rfl) (Surv.arr (by intro h; first | exact absurd h.1 (by decide) | exact absurd h.1.1 (by decide) | exact absurd h.2 (by omega) | exact absurd h.1.2 (by omega) | exact absurd h.1.1.2 (by omega))) (LT 1000003 rfl (LT 1000004 rfl (LT 1000005 rfl (LO 1000201 rfl (LW [4, 5, 7] rfl))))), ?_⟩
 refine TL ?_
 refine RN ?_
 refine GT ?_
 refine RS (ok_field field30_0 (by decide) rfl) ?_
 refine RS ((ok_loadA0 (s := 1000007) (by decide) Try.underlying28 rfl rfl rfl)) ?_
 refine RS (ok_lenRD Try.underlying28 rfl sli_rowD) ?_; refine RZ (nI (n)) (by rw [ha.1]) ?_
 refine RVN 1 rfl ?_
 refine A.regsF [⟨6, 9, 47, [.int .u8 0] ++ [.int .i64 0] ++ [.slice none 0 0], 8, 3, opZ (zDat 41 5 w₀.heap.size) P⟩, ⟨7, 10, 47, [.int .u8 0] ++ [.int .i64 0] ++ [.slice none 0 0], 9, 3, opZ (zDat 41 5 w₀.heap.size) Q⟩] (by kernel_rfl) (by kernel_rfl) (by kernel_rfl) (SurvF.cons (SurvF.cons (fun B' g hg => (show Surv B' 47 g _ from Surv.opz (fun h => absurd h.1 (by decide)))) (SurvF.cons (fun B' g hg => (show Surv B' 47 g _ from Surv.opz (fun h => absurd h.1 (by decide)))) (SurvF.nil rfl))) (SurvF.cons (SurvF.cons (fun B' g hg => (show Surv B' 47 g _ from Surv.opz (fun h => absurd h.1 (by decide)))) (SurvF.cons (fun B' g hg => (show Surv B' 47 g _ from Surv.opz (fun h => absurd h.1 (by decide)))) (SurvF.nil rfl))) (SurvF.nil rfl))) ?_
 refine KofsK.pure (_) rfl rfl FromF.all (ok_move rfl) (SurvF.cons (fun B' g hg => (show Surv B' 47 g _ from Surv.v _)) (SurvF.cons (fun B' g hg => (show Surv B' 47 g _ from Surv.v _)) (SurvF.nil rfl))) ?_
 refine KofsK.pure (_) rfl rfl FromF.all (ok_loadA (s := 1000004) (by decide) Try.underlying56 rfl (size56.of (rfl)) rfl rfl) (SurvF.cons (fun B' g hg => (show Surv B' 47 g _ from Surv.v _)) (SurvF.cons (fun B' g hg => (show Surv B' 47 g _ from Surv.v _)) (SurvF.nil rfl))) ?_
 refine KofsK.pure ((33, _) :: (34, _) :: _) rfl rfl (FromF.op 0 (by kernel_rfl) rfl rfl (FromF.op 1 (by kernel_rfl) rfl rfl FromF.all)) ((OpOk.le (d' := opZ (zDat 41 5 w₀.heap.size) P) (ok_callB (Op_fn n h1 (by omega) zp) (fun _ _ h => op_mono (zDat_mono h)) (A2 rfl rfl)) (Le.eq (by rw [hP])))) (SurvF.cons (fun B' g hg => (show Surv B' 47 g _ from Surv.opz (fun h => absurd h.1 (by decide)))) (SurvF.cons (fun B' g hg => (show Surv B' 47 g _ from Surv.opz (fun h => absurd h.1 (by decide)))) (SurvF.nil rfl))) ?_
 refine KofsK.pure (_) rfl rfl FromF.all (ok_move rfl) (SurvF.cons (fun B' g hg => (show Surv B' 47 g _ from Surv.v _)) (SurvF.cons (fun B' g hg => (show Surv B' 47 g _ from Surv.v _)) (SurvF.nil rfl))) ?_
 refine KofsK.pure (_) rfl rfl FromF.all (ok_loadA (s := 1000005) (by decide) Try.underlying56 rfl (size56.of (rfl)) rfl rfl) (SurvF.cons (fun B' g hg => (show Surv B' 47 g _ from Surv.v _)) (SurvF.cons (fun B' g hg => (show Surv B' 47 g _ from Surv.v _)) (SurvF.nil rfl))) ?_
 refine KofsK.pure ((36, _) :: (37, _) :: _) rfl rfl (FromF.op 3 (by kernel_rfl) rfl rfl (FromF.op 4 (by kernel_rfl) rfl rfl FromF.all)) ((OpOk.le (d' := opZ (zDat 41 5 w₀.heap.size) Q) (ok_callB (Op_fn n h1 (by omega) zq) (fun _ _ h => op_mono (zDat_mono h)) (A2 rfl rfl)) (Le.eq (by rw [hQ])))) (SurvF.cons (fun B' g hg => (show Surv B' 47 g _ from Surv.opz (fun h => absurd h.1 (by decide)))) (SurvF.cons (fun B' g hg => (show Surv B' 47 g _ from Surv.opz (fun h => absurd h.1 (by decide)))) (SurvF.nil rfl))) ?_
 refine KofsK.alloc 0 rfl rfl rfl rfl zero47 rfl ?_
 refine KofsK.alloc 1 rfl rfl rfl rfl zero47 rfl ?_
 refine KofsK.store 0 ((35, _) :: _) rfl rfl rfl rfl (by kernel_rfl) (FromF.op 2 (by kernel_rfl) rfl rfl FromF.all) rfl (Le.refl _) size47 rfl (Agg.opz) ?_
 refine KofsK.store 1 ((38, _) :: _) rfl rfl rfl rfl (by kernel_rfl) (FromF.op 5 (by kernel_rfl) rfl rfl FromF.all) rfl (Le.refl _) size47 rfl (Agg.opz) ?_
 refine KofsK.nil ⟨by kernel_rfl, _, FromFW.all, fun bs hbs hds => ?_⟩
 have hb9 := hbs 0 (by simp)
 have hb10 := hbs 1 (by simp)
 have hne_b9_b10 := hds 0 1 (by simp) (by simp) (by decide)
 dsimp only [varEnvF]
 generalize bs 0 = b9 at *
 generalize bs (0 + 1) = b10 at *
 have hBb9 := hb9.1
 have hlt_b3_b9 : b3 < b9 := hb9.2.1 1000003 _ _ _ rfl
 have hlt_b4_b9 : b4 < b9 := hb9.2.1 1000004 _ _ _ rfl
 have hlt_b5_b9 : b5 < b9 := hb9.2.1 1000005 _ _ _ rfl
 have hlt_b7_b9 : b7 < b9 := hb9.2.2 1000007 _ _ _ _ rfl
 have hBb10 := hb10.1
 have hlt_b3_b10 : b3 < b10 := hb10.2.1 1000003 _ _ _ rfl
 have hlt_b4_b10 : b4 < b10 := hb10.2.1 1000004 _ _ _ rfl
 have hlt_b5_b10 : b5 < b10 := hb10.2.1 1000005 _ _ _ rfl
 have hlt_b7_b10 : b7 < b10 := hb10.2.2 1000007 _ _ _ _ rfl
 refine A.sub (Sv [7, 8, 9, 10, 1000003, 1000004, 1000005, 1000007, 1000009, 1000010, 1000201] rfl) ?_
 refine GS ?_
 refine TN 7 ?_
 refine RS (ok_loadVK (s := 1000007) (by decide) Try.underlying30 rfl size30 rfl rfl) ?_
 refine RS (ok_loadVK (s := 1000009) (by decide) Try.underlying47 rfl size47 rfl rfl) ?_
 refine RS ((ok_callB (Do_ok a P (chk_ok ha h1 (by omega)) (by rw [ha.1]; omega) (by rw [ha.2]; omega) (ha.1.trans ha.2.symm)) (fun _ _ h => tup_le3 (arr_mono (own_monoT h)) (Le.refl _) (Le.refl _)) (Args.cons rfl (by first | exact Le.refl _ | exact Le.old _ _ | exact arr_any | exact arr_ex | exact arrD_any | exact op_any | exact (Le.old _ _).trans arrD_any | exact (Le.old _ _).trans arr_any) (Args.cons rfl (by first | exact Le.refl _ | exact Le.old _ _ | exact arr_any | exact arr_ex | exact arrD_any | exact op_any | exact (Le.old _ _).trans arrD_any | exact (Le.old _ _).trans arr_any) Args.nil)))) ?_
 refine RM rfl ?_
 refine RS (ok_extract rfl rfl) ?_
 refine RS (ok_extract rfl rfl) ?_
 refine RS (ok_extract rfl rfl) ?_
 refine RN ?_
 refine ⟨_, _, eff_allocV (n := 172) (d := 11) (k := 1000011) zero30 (by decide), fun b11 hb11 => ?_⟩
 have hBb11 := hb11.1
 have hlt_b7_b11 : b7 < b11 := hb11.2.2 1000007 _ _ _ _ rfl
 refine TN 8 ?_
 refine RN ?_
 refine ⟨_, _, eff_allocV (n := 172) (d := 12) (k := 1000012) zero49 (by decide), fun b12 hb12 => ?_⟩
 have hBb12 := hb12.1
 refine TF 9 ?_
 refine RN ?_
 refine ⟨_, eff_storeK (n := 172) (s := 1000011) size30 rfl rfl (Le.refl _) (Agg.arr) hBb11 rfl (rfl) (Surv.arr (by intro h; first | exact absurd h.1 (by decide) | exact absurd h.1.1 (by decide) | exact absurd h.2 (by omega) | exact absurd h.1.2 (by omega) | exact absurd h.1.1.2 (by omega))) (LT 1000003 rfl (LT 1000004 rfl (LT 1000005 rfl (LeftS.cons (t := 1000007) rfl (Surv.varK (by omega) (Surv.arr (by intro h; first | exact absurd h.1 (by decide) | exact absurd h.1.1 (by decide) | exact absurd h.2 (by omega) | exact absurd h.1.2 (by omega) | exact absurd h.1.1.2 (by omega)))) (LeftS.cons (t := 1000009) rfl (Surv.varKT (by decide) (Surv.opz (fun h => absurd h.1 (by decide)))) (LeftS.cons (t := 1000010) rfl (Surv.varKT (by decide) (Surv.opz (fun h => absurd h.1 (by decide)))) (LT 1000012 rfl (LO 1000201 rfl (LW [7, 8, 9, 10, 11, 12, 44, 45] rfl))))))))), ?_⟩
 refine TF 10 ?_
 refine RN ?_
 refine ⟨_, eff_storeA (n := 172) (s := 1000012) (size49.of (rs_len _)) rfl rfl (rs_one _) hBb12 rfl (by simp only [rs_len]) (LT 1000003 rfl (LT 1000004 rfl (LT 1000005 rfl (LeftS.cons (t := 1000007) rfl (Surv.varKT (by decide) (Surv.arr (by intro h; first | exact absurd h.1 (by decide) | exact absurd h.1.1 (by decide) | exact absurd h.2 (by omega) | exact absurd h.1.2 (by omega) | exact absurd h.1.1.2 (by omega)))) (LeftS.cons (t := 1000009) rfl (Surv.varKT (by decide) (Surv.opz (fun h => absurd h.1 (by decide)))) (LeftS.cons (t := 1000010) rfl (Surv.varKT (by decide) (Surv.opz (fun h => absurd h.1 (by decide)))) (LeftS.cons (t := 1000011) rfl (Surv.varKT (by decide) (Surv.arr (by intro h; first | exact absurd h.1 (by decide) | exact absurd h.1.1 (by decide) | exact absurd h.2 (by omega) | exact absurd h.1.2 (by omega) | exact absurd h.1.1.2 (by omega)))) (LO 1000201 rfl (LW [7, 8, 9, 10, 11, 12, 45] rfl))))))))), ?_⟩
 refine TL ?_
 refine RVN 1 rfl ?_
 refine GS ?_
 refine TN 7 ?_
 refine RS (ok_loadVK (s := 1000011) (by decide) Try.underlying30 rfl size30 rfl rfl) ?_
 refine RS (ok_loadVK (s := 1000010) (by decide) Try.underlying47 rfl size47 rfl rfl) ?_
 refine RS ((ok_callB (Do_ok (stepA a P).1 Q (chk_ok hs1 h1 (by omega)) (by rw [hs1.1]; omega) (by rw [hs1.2]; omega) (hs1.1.trans hs1.2.symm)) (fun _ _ h => tup_le3 (arr_mono (own_monoT h)) (Le.refl _) (Le.refl _)) (Args.cons rfl (by first | exact Le.refl _ | exact Le.old _ _ | exact arr_any | exact arr_ex | exact arrD_any | exact op_any | exact (Le.old _ _).trans arrD_any | exact (Le.old _ _).trans arr_any) (Args.cons rfl (by first | exact Le.refl _ | exact Le.old _ _ | exact arr_any | exact arr_ex | exact arrD_any | exact op_any | exact (Le.old _ _).trans arrD_any | exact (Le.old _ _).trans arr_any) Args.nil)))) ?_
 refine RM rfl ?_
 refine RS (ok_extract rfl rfl) ?_
 refine RS (ok_extract rfl rfl) ?_
 refine RS (ok_extract rfl rfl) ?_
 refine RN ?_
 refine ⟨_, _, eff_allocV (n := 172) (d := 14) (k := 1000014) zero49 (by decide), fun b14 hb14 => ?_⟩
 have hBb14 := hb14.1
 have hlt_b12_b14 : b12 < b14 := hb14.2.1 1000012 _ _ _ rfl
 refine TF 8 ?_
 refine RN ?_
 refine ⟨_, eff_storeKK (n := 172) (s := 1000011) size30 rfl rfl (Le.refl _) (Agg.arr) hBb11 rfl (Surv.arr (by intro h; first | exact absurd h.1 (by decide) | exact absurd h.1.1 (by decide) | exact absurd h.2 (by omega) | exact absurd h.1.2 (by omega) | exact absurd h.1.1.2 (by omega))) (LT 1000003 rfl (LT 1000004 rfl (LT 1000005 rfl (LeftS.cons (t := 1000007) rfl (Surv.varK (by omega) (Surv.arr (by intro h; first | exact absurd h.1 (by decide) | exact absurd h.1.1 (by decide) | exact absurd h.2 (by omega) | exact absurd h.1.2 (by omega) | exact absurd h.1.1.2 (by omega)))) (LeftS.cons (t := 1000009) rfl (Surv.varKT (by decide) (Surv.opz (fun h => absurd h.1 (by decide)))) (LeftS.cons (t := 1000010) rfl (Surv.varKT (by decide) (Surv.opz (fun h => absurd h.1 (by decide)))) (LT 1000012 rfl (LT 1000014 rfl (LO 1000201 rfl (LW [7, 8, 9, 10, 11, 12, 13, 14, 51, 52] rfl)))))))))), ?_⟩
 refine TF 9 ?_
 refine RN ?_
 refine ⟨_, eff_storeA (n := 172) (s := 1000014) (size49.of (rs_len _)) rfl rfl (rs_one _) hBb14 rfl (by simp only [rs_len]) (LT 1000003 rfl (LT 1000004 rfl (LT 1000005 rfl (LeftS.cons (t := 1000007) rfl (Surv.varKT (by decide) (Surv.arr (by intro h; first | exact absurd h.1 (by decide) | exact absurd h.1.1 (by decide) | exact absurd h.2 (by omega) | exact absurd h.1.2 (by omega) | exact absurd h.1.1.2 (by omega)))) (LeftS.cons (t := 1000009) rfl (Surv.varKT (by decide) (Surv.opz (fun h => absurd h.1 (by decide)))) (LeftS.cons (t := 1000010) rfl (Surv.varKT (by decide) (Surv.opz (fun h => absurd h.1 (by decide)))) (LeftS.cons (t := 1000011) rfl (Surv.varKT (by decide) (Surv.arr (by intro h; first | exact absurd h.1 (by decide) | exact absurd h.1.1 (by decide) | exact absurd h.2 (by omega) | exact absurd h.1.2 (by omega) | exact absurd h.1.1.2 (by omega)))) (LB 1000012 rfl (LO 1000201 rfl (LW [7, 8, 9, 10, 11, 12, 13, 14, 52] rfl)))))))))), ?_⟩
 refine TL ?_
 refine RVN 1 rfl ?_
 refine GS ?_
 refine TN 7 ?_
 refine RS (ok_loadVK (s := 1000007) (by decide) Try.underlying30 rfl size30 rfl rfl) ?_
 refine RS (ok_loadVK (s := 1000010) (by decide) Try.underlying47 rfl size47 rfl rfl) ?_
 refine RS ((ok_callB (Do_ok a Q (chk_ok ha h1 (by omega)) (by rw [ha.1]; omega) (by rw [ha.2]; omega) (ha.1.trans ha.2.symm)) (fun _ _ h => tup_le3 (arr_mono (own_monoT h)) (Le.refl _) (Le.refl _)) (Args.cons rfl (by first | exact Le.refl _ | exact Le.old _ _ | exact arr_any | exact arr_ex | exact arrD_any | exact op_any | exact (Le.old _ _).trans arrD_any | exact (Le.old _ _).trans arr_any) (Args.cons rfl (by first | exact Le.refl _ | exact Le.old _ _ | exact arr_any | exact arr_ex | exact arrD_any | exact op_any | exact (Le.old _ _).trans arrD_any | exact (Le.old _ _).trans arr_any) Args.nil)))) ?_
 refine RM rfl ?_
 refine RS (ok_extract rfl rfl) ?_
 refine RS (ok_extract rfl rfl) ?_
 refine RS (ok_extract rfl rfl) ?_
 refine RN ?_
 refine ⟨_, _, eff_allocV (n := 172) (d := 16) (k := 1000016) zero30 (by decide), fun b16 hb16 => ?_⟩
 have hBb16 := hb16.1
 have hlt_b7_b16 : b7 < b16 := hb16.2.2 1000007 _ _ _ _ rfl
 have hlt_b11_b16 : b11 < b16 := hb16.2.2 1000011 _ _ _ _ rfl
 refine TN 8 ?_
 refine RN ?_
 refine ⟨_, _, eff_allocV (n := 172) (d := 17) (k := 1000017) zero49 (by decide), fun b17 hb17 => ?_⟩
 have hBb17 := hb17.1
 have hlt_b12_b17 : b12 < b17 := hb17.2.1 1000012 _ _ _ rfl
 have hlt_b14_b17 : b14 < b17 := hb17.2.1 1000014 _ _ _ rfl
 refine TF 9 ?_
 refine RN ?_
 refine ⟨_, eff_storeK (n := 172) (s := 1000016) size30 rfl rfl (Le.refl _) (Agg.arr) hBb16 rfl (rfl) (Surv.arr (by intro h; first | exact absurd h.1 (by decide) | exact absurd h.1.1 (by decide) | exact absurd h.2 (by omega) | exact absurd h.1.2 (by omega) | exact absurd h.1.1.2 (by omega))) (LT 1000003 rfl (LT 1000004 rfl (LT 1000005 rfl (LeftS.cons (t := 1000007) rfl (Surv.varK (by omega) (Surv.arr (by intro h; first | exact absurd h.1 (by decide) | exact absurd h.1.1 (by decide) | exact absurd h.2 (by omega) | exact absurd h.1.2 (by omega) | exact absurd h.1.1.2 (by omega)))) (LeftS.cons (t := 1000009) rfl (Surv.varKT (by decide) (Surv.opz (fun h => absurd h.1 (by decide)))) (LeftS.cons (t := 1000010) rfl (Surv.varKT (by decide) (Surv.opz (fun h => absurd h.1 (by decide)))) (LeftS.cons (t := 1000011) rfl (Surv.varK (by omega) (Surv.arr (by intro h; first | exact absurd h.1 (by decide) | exact absurd h.1.1 (by decide) | exact absurd h.2 (by omega) | exact absurd h.1.2 (by omega) | exact absurd h.1.1.2 (by omega)))) (LT 1000012 rfl (LT 1000014 rfl (LT 1000017 rfl (LO 1000201 rfl (LW [7, 8, 9, 10, 11, 12, 13, 14, 15, 16, 17, 58, 59] rfl)))))))))))), ?_⟩
 refine TF 10 ?_
 refine RN ?_
 refine ⟨_, eff_storeA (n := 172) (s := 1000017) (size49.of (rs_len _)) rfl rfl (rs_one _) hBb17 rfl (by simp only [rs_len]) (LT 1000003 rfl (LT 1000004 rfl (LT 1000005 rfl (LeftS.cons (t := 1000007) rfl (Surv.varKT (by decide) (Surv.arr (by intro h; first | exact absurd h.1 (by decide) | exact absurd h.1.1 (by decide) | exact absurd h.2 (by omega) | exact absurd h.1.2 (by omega) | exact absurd h.1.1.2 (by omega)))) (LeftS.cons (t := 1000009) rfl (Surv.varKT (by decide) (Surv.opz (fun h => absurd h.1 (by decide)))) (LeftS.cons (t := 1000010) rfl (Surv.varKT (by decide) (Surv.opz (fun h => absurd h.1 (by decide)))) (LeftS.cons (t := 1000011) rfl (Surv.varKT (by decide) (Surv.arr (by intro h; first | exact absurd h.1 (by decide) | exact absurd h.1.1 (by decide) | exact absurd h.2 (by omega) | exact absurd h.1.2 (by omega) | exact absurd h.1.1.2 (by omega)))) (LB 1000012 rfl (LB 1000014 rfl (LeftS.cons (t := 1000016) rfl (Surv.varKT (by decide) (Surv.arr (by intro h; first | exact absurd h.1 (by decide) | exact absurd h.1.1 (by decide) | exact absurd h.2 (by omega) | exact absurd h.1.2 (by omega) | exact absurd h.1.1.2 (by omega)))) (LO 1000201 rfl (LW [7, 8, 9, 10, 11, 12, 13, 14, 15, 16, 17, 59] rfl)))))))))))), ?_⟩
 refine TL ?_
 refine RVN 1 rfl ?_
 refine A.sub (Sv [7, 8, 9, 10, 11, 12, 13, 14, 15, 16, 17, 18, 1000003, 1000004, 1000005, 1000007, 1000009, 1000010, 1000011, 1000012, 1000014, 1000016, 1000017, 1000201] rfl) ?_
 refine GS ?_
 refine TN 7 ?_
 refine RS (ok_loadVK (s := 1000016) (by decide) Try.underlying30 rfl size30 rfl rfl) ?_
 refine RS (ok_loadVK (s := 1000009) (by decide) Try.underlying47 rfl size47 rfl rfl) ?_
 refine RS ((ok_callB (Do_ok (stepA a Q).1 P (chk_ok ht1 h1 (by omega)) (by rw [ht1.1]; omega) (by rw [ht1.2]; omega) (ht1.1.trans ht1.2.symm)) (fun _ _ h => tup_le3 (arr_mono (own_monoT h)) (Le.refl _) (Le.refl _)) (Args.cons rfl (by first | exact Le.refl _ | exact Le.old _ _ | exact arr_any | exact arr_ex | exact arrD_any | exact op_any | exact (Le.old _ _).trans arrD_any | exact (Le.old _ _).trans arr_any) (Args.cons rfl (by first | exact Le.refl _ | exact Le.old _ _ | exact arr_any | exact arr_ex | exact arrD_any | exact op_any | exact (Le.old _ _).trans arrD_any | exact (Le.old _ _).trans arr_any) Args.nil)))) ?_
 refine RM rfl ?_
 refine RS (ok_extract rfl rfl) ?_
 refine RS (ok_extract rfl rfl) ?_
 refine RS (ok_extract rfl rfl) ?_
 refine RN ?_
 refine ⟨_, _, eff_allocV (n := 172) (d := 19) (k := 1000019) zero49 (by decide), fun b19 hb19 => ?_⟩
 have hBb19 := hb19.1
 have hlt_b12_b19 : b12 < b19 := hb19.2.1 1000012 _ _ _ rfl
 have hlt_b14_b19 : b14 < b19 := hb19.2.1 1000014 _ _ _ rfl
 have hlt_b17_b19 : b17 < b19 := hb19.2.1 1000017 _ _ _ rfl
 refine TF 8 ?_
 refine RN ?_
 refine ⟨_, eff_storeKK (n := 172) (s := 1000016) size30 rfl rfl (Le.refl _) (Agg.arr) hBb16 rfl (Surv.arr (by intro h; first | exact absurd h.1 (by decide) | exact absurd h.1.1 (by decide) | exact absurd h.2 (by omega) | exact absurd h.1.2 (by omega) | exact absurd h.1.1.2 (by omega))) (LT 1000003 rfl (LT 1000004 rfl (LT 1000005 rfl (LeftS.cons (t := 1000007) rfl (Surv.varK (by omega) (Surv.arr (by intro h; first | exact absurd h.1 (by decide) | exact absurd h.1.1 (by decide) | exact absurd h.2 (by omega) | exact absurd h.1.2 (by omega) | exact absurd h.1.1.2 (by omega)))) (LeftS.cons (t := 1000009) rfl (Surv.varKT (by decide) (Surv.opz (fun h => absurd h.1 (by decide)))) (LeftS.cons (t := 1000010) rfl (Surv.varKT (by decide) (Surv.opz (fun h => absurd h.1 (by decide)))) (LeftS.cons (t := 1000011) rfl (Surv.varK (by omega) (Surv.arr (by intro h; first | exact absurd h.1 (by decide) | exact absurd h.1.1 (by decide) | exact absurd h.2 (by omega) | exact absurd h.1.2 (by omega) | exact absurd h.1.1.2 (by omega)))) (LT 1000012 rfl (LT 1000014 rfl (LT 1000017 rfl (LT 1000019 rfl (LO 1000201 rfl (LW [7, 8, 9, 10, 11, 12, 13, 14, 15, 16, 17, 18, 19, 65, 66] rfl))))))))))))), ?_⟩
 refine TF 9 ?_
 refine RN ?_
 refine ⟨_, eff_storeA (n := 172) (s := 1000019) (size49.of (rs_len _)) rfl rfl (rs_one _) hBb19 rfl (by simp only [rs_len]) (LT 1000003 rfl (LT 1000004 rfl (LT 1000005 rfl (LeftS.cons (t := 1000007) rfl (Surv.varKT (by decide) (Surv.arr (by intro h; first | exact absurd h.1 (by decide) | exact absurd h.1.1 (by decide) | exact absurd h.2 (by omega) | exact absurd h.1.2 (by omega) | exact absurd h.1.1.2 (by omega)))) (LeftS.cons (t := 1000009) rfl (Surv.varKT (by decide) (Surv.opz (fun h => absurd h.1 (by decide)))) (LeftS.cons (t := 1000010) rfl (Surv.varKT (by decide) (Surv.opz (fun h => absurd h.1 (by decide)))) (LeftS.cons (t := 1000011) rfl (Surv.varKT (by decide) (Surv.arr (by intro h; first | exact absurd h.1 (by decide) | exact absurd h.1.1 (by decide) | exact absurd h.2 (by omega) | exact absurd h.1.2 (by omega) | exact absurd h.1.1.2 (by omega)))) (LB 1000012 rfl (LB 1000014 rfl (LeftS.cons (t := 1000016) rfl (Surv.varKT (by decide) (Surv.arr (by intro h; first | exact absurd h.1 (by decide) | exact absurd h.1.1 (by decide) | exact absurd h.2 (by omega) | exact absurd h.1.2 (by omega) | exact absurd h.1.1.2 (by omega)))) (LB 1000017 rfl (LO 1000201 rfl (LW [7, 8, 9, 10, 11, 12, 13, 14, 15, 16, 17, 18, 19, 66] rfl))))))))))))), ?_⟩
 refine TL ?_
 refine RVN 1 rfl ?_
 refine QS ?_
 refine GT ?_
 refine RV 3 rfl ?_
 refine RZ (.int .i64 0) (by rfl) ?_
 refine RV 2 rfl ?_
 refine RZ (.int .i64 0) (by rfl) ?_
 refine RV 2 rfl ?_
 refine RZ (.int .i64 0) (by rfl) ?_
 refine RB rfl rfl rfl ?_
 refine RF ?_
 refine RN ?_
 refine A.no rfl ?_
 refine QK ?_
 refine A.seqTo [(7, .v (ptr b7)), (8, .v (nI (n))), (9, .v (ptr b9)), (10, .v (ptr b10)), (11, .v (ptr b11)), (12, .v (ptr b12)), (14, .v (ptr b14)), (16, .v (ptr b16)), (17, .v (ptr b17)), (19, .v (ptr b19)), (1000007, varK b7 30 2 (arrZ (zOwn 41 w₀.heap.size) false a)), (1000009, varK b9 47 3 (opZ (zDat 41 5 w₀.heap.size) P)), (1000010, varK b10 47 3 (opZ (zDat 41 5 w₀.heap.size) Q)), (1000011, varK b11 30 2 (arrZ (zOwn 41 w₀.heap.size) true (stepA (stepA a P).1 Q).1)), (1000012, blk b12 49 (rsV (stepA a P).2)), (1000014, blk b14 49 (rsV (stepA (stepA a P).1 Q).2)), (1000016, varK b16 30 2 (arrZ (zOwn 41 w₀.heap.size) true (stepA (stepA a Q).1 P).1)), (1000017, blk b17 49 (rsV (stepA a Q).2)), (1000019, blk b19 49 (rsV (stepA (stepA a Q).1 P).2)), (21, .v (.bool (decide (P.k.toNat = 3 ∨ Q.k.toNat = 3))))] ?_ ?_
 ·rcases Decidable.em (P.k.toNat = 3) with hp3 | hp3
  ·refine GTE ?_
   refine RS (ok_field field47_0 (by decide) rfl) ?_
   refine RS ((ok_loadOp (s := 1000009) (by decide) Try.underlying44 rfl rfl rfl rfl)) ?_
   refine RB rfl rfl rfl ?_
   refine RZ (.bool true) (by first | (simp [hp3]; done) | (simp [hp3]; omega)) ?_
   refine RVN 6 rfl ?_
   refine End.sub (Sv [7, 8, 9, 10, 11, 12, 14, 16, 17, 19, 21, 1000003, 1000004, 1000005, 1000007, 1000009, 1000010, 1000011, 1000012, 1000014, 1000016, 1000017, 1000019, 1000201] rfl) ?_
   exact End.normal_then (End.toEnv (SubL.cons (t := 7) rfl (by first | exact Le.refl _ | exact Le.old _ _) (SubL.cons (t := 8) rfl (by first | exact Le.refl _ | exact Le.old _ _) (SubL.cons (t := 9) rfl (by first | exact Le.refl _ | exact Le.old _ _) (SubL.cons (t := 10) rfl (by first | exact Le.refl _ | exact Le.old _ _) (SubL.cons (t := 11) rfl (by first | exact Le.refl _ | exact Le.old _ _) (SubL.cons (t := 12) rfl (by first | exact Le.refl _ | exact Le.old _ _) (SubL.cons (t := 14) rfl (by first | exact Le.refl _ | exact Le.old _ _) (SubL.cons (t := 16) rfl (by first | exact Le.refl _ | exact Le.old _ _) (SubL.cons (t := 17) rfl (by first | exact Le.refl _ | exact Le.old _ _) (SubL.cons (t := 19) rfl (by first | exact Le.refl _ | exact Le.old _ _) (SubL.cons (t := 1000007) rfl (by first | exact Le.refl _ | exact Le.old _ _) (SubL.cons (t := 1000009) rfl (by first | exact Le.refl _ | exact Le.old _ _) (SubL.cons (t := 1000010) rfl (by first | exact Le.refl _ | exact Le.old _ _) (SubL.cons (t := 1000011) rfl (by first | exact Le.refl _ | exact Le.old _ _) (SubL.cons (t := 1000012) rfl (by first | exact Le.refl _ | exact Le.old _ _) (SubL.cons (t := 1000014) rfl (by first | exact Le.refl _ | exact Le.old _ _) (SubL.cons (t := 1000016) rfl (by first | exact Le.refl _ | exact Le.old _ _) (SubL.cons (t := 1000017) rfl (by first | exact Le.refl _ | exact Le.old _ _) (SubL.cons (t := 1000019) rfl (by first | exact Le.refl _ | exact Le.old _ _) (SubL.cons (t := 21) rfl (Le.v (congrArg Value.bool (by simp [hp3]))) SubL.nil)))))))))))))))))))))
  ·refine GTE ?_
   refine RS (ok_field field47_0 (by decide) rfl) ?_
   refine RS ((ok_loadOp (s := 1000009) (by decide) Try.underlying44 rfl rfl rfl rfl)) ?_
   refine RB rfl rfl rfl ?_
   refine RZ (.bool false) (by first | (simp [hp3]; done) | (simp [hp3]; omega)) ?_
   refine RM rfl ?_
   refine RQ (ok_field field47_0 (by decide) rfl) ?_
   refine RQ ((ok_loadOp (s := 1000010) (by decide) Try.underlying44 rfl rfl rfl rfl)) ?_
   refine RQ (ok_bin rfl rfl rfl) ?_
   refine RZ (.bool (decide (Q.k.toNat = 3))) (by by_cases h : Q.k.toNat = 3 <;> simp [h] <;> (try omega)) ?_
   refine RVN 2 rfl ?_
   refine End.sub (Sv [7, 8, 9, 10, 11, 12, 14, 16, 17, 19, 21, 1000003, 1000004, 1000005, 1000007, 1000009, 1000010, 1000011, 1000012, 1000014, 1000016, 1000017, 1000019, 1000201] rfl) ?_
   exact End.normal_then (End.toEnv (SubL.cons (t := 7) rfl (by first | exact Le.refl _ | exact Le.old _ _) (SubL.cons (t := 8) rfl (by first | exact Le.refl _ | exact Le.old _ _) (SubL.cons (t := 9) rfl (by first | exact Le.refl _ | exact Le.old _ _) (SubL.cons (t := 10) rfl (by first | exact Le.refl _ | exact Le.old _ _) (SubL.cons (t := 11) rfl (by first | exact Le.refl _ | exact Le.old _ _) (SubL.cons (t := 12) rfl (by first | exact Le.refl _ | exact Le.old _ _) (SubL.cons (t := 14) rfl (by first | exact Le.refl _ | exact Le.old _ _) (SubL.cons (t := 16) rfl (by first | exact Le.refl _ | exact Le.old _ _) (SubL.cons (t := 17) rfl (by first | exact Le.refl _ | exact Le.old _ _) (SubL.cons (t := 19) rfl (by first | exact Le.refl _ | exact Le.old _ _) (SubL.cons (t := 1000007) rfl (by first | exact Le.refl _ | exact Le.old _ _) (SubL.cons (t := 1000009) rfl (by first | exact Le.refl _ | exact Le.old _ _) (SubL.cons (t := 1000010) rfl (by first | exact Le.refl _ | exact Le.old _ _) (SubL.cons (t := 1000011) rfl (by first | exact Le.refl _ | exact Le.old _ _) (SubL.cons (t := 1000012) rfl (by first | exact Le.refl _ | exact Le.old _ _) (SubL.cons (t := 1000014) rfl (by first | exact Le.refl _ | exact Le.old _ _) (SubL.cons (t := 1000016) rfl (by first | exact Le.refl _ | exact Le.old _ _) (SubL.cons (t := 1000017) rfl (by first | exact Le.refl _ | exact Le.old _ _) (SubL.cons (t := 1000019) rfl (by first | exact Le.refl _ | exact Le.old _ _) (SubL.cons (t := 21) rfl (Le.v (congrArg Value.bool (by simp [hp3]))) SubL.nil)))))))))))))))))))))
 ·refine QS ?_
  refine A.seqTo [(7, .v (ptr b7)), (8, .v (nI (n))), (9, .v (ptr b9)), (10, .v (ptr b10)), (11, .v (ptr b11)), (1000007, varK b7 30 2 (arrZ (zOwn 41 w₀.heap.size) false a)), (1000009, varK b9 47 3 (opZ (zDat 41 5 w₀.heap.size) P)), (1000010, varK b10 47 3 (opZ (zDat 41 5 w₀.heap.size) Q)), (1000011, varK b11 30 2 (arrZ (zOwn 41 w₀.heap.size) true (stepA (stepA a P).1 Q).1)), (107, .v (.bool false))] ?_ ?_
  ·have hsw := fun (x : ¬ P.i = Q.i) (y : ¬ (P.k.toNat = 3 ∨ Q.k.toNat = 3)) => ord_swap ha (fun h => y (.inl h)) (fun h => y (.inr h)) x; rcases (show P.i = Q.i ∨ (¬ P.i = Q.i ∧ (P.k.toNat = 3 ∨ Q.k.toNat = 3)) ∨ (¬ P.i = Q.i ∧ ¬ (P.k.toNat = 3 ∨ Q.k.toNat = 3)) by omega) with hpi | ⟨hpi, hfl⟩ | ⟨hpi, hfl⟩
   ·refine GTE ?_
    refine RS (ok_field field47_1 (by decide) rfl) ?_
    refine RS ((ok_loadOp (s := 1000009) (by decide) Try.underlying3 rfl rfl rfl rfl)) ?_
    refine RS (ok_field field47_1 (by decide) rfl) ?_
    refine RS ((ok_loadOp (s := 1000010) (by decide) Try.underlying3 rfl rfl rfl rfl)) ?_
    refine RB rfl rfl rfl ?_
    refine RZ (.bool false) (by simp [hpi]) ?_
    refine RV 10 rfl ?_
    refine RunK.skippedU rfl rfl rfl rfl ?_
    refine RunK.skippedU rfl rfl rfl rfl ?_
    refine RunK.skippedU rfl rfl rfl rfl ?_
    refine RV 2 rfl ?_
    refine RunK.skippedU rfl rfl rfl rfl ?_
    refine RunK.skippedU rfl rfl rfl rfl ?_
    refine RunK.skippedU rfl rfl rfl rfl ?_
    refine RVN 2 rfl ?_
    refine End.sub (Sv [7, 8, 9, 10, 11, 107, 1000007, 1000009, 1000010, 1000011, 1000012, 1000014, 1000016, 1000017, 1000019] rfl) ?_
    exact End.normal_then (End.toEnv (SubL.cons (t := 7) rfl (by first | exact Le.refl _ | exact Le.old _ _) (SubL.cons (t := 8) rfl (by first | exact Le.refl _ | exact Le.old _ _) (SubL.cons (t := 9) rfl (by first | exact Le.refl _ | exact Le.old _ _) (SubL.cons (t := 10) rfl (by first | exact Le.refl _ | exact Le.old _ _) (SubL.cons (t := 11) rfl (by first | exact Le.refl _ | exact Le.old _ _) (SubL.cons (t := 1000007) rfl (by first | exact Le.refl _ | exact Le.old _ _) (SubL.cons (t := 1000009) rfl (by first | exact Le.refl _ | exact Le.old _ _) (SubL.cons (t := 1000010) rfl (by first | exact Le.refl _ | exact Le.old _ _) (SubL.cons (t := 1000011) rfl (by first | exact Le.refl _ | exact Le.old _ _) (SubL.cons (t := 107) rfl (by first | exact Le.refl _ | exact Le.old _ _) SubL.nil)))))))))))
   ·refine GTE ?_
    refine RS (ok_field field47_1 (by decide) rfl) ?_
    refine RS ((ok_loadOp (s := 1000009) (by decide) Try.underlying3 rfl rfl rfl rfl)) ?_
    refine RS (ok_field field47_1 (by decide) rfl) ?_
    refine RS ((ok_loadOp (s := 1000010) (by decide) Try.underlying3 rfl rfl rfl rfl)) ?_
    refine RB rfl rfl rfl ?_
    refine RZ (.bool true) (by simp [hpi]) ?_
    refine RV 3 rfl ?_
    refine RZ (.bool false) (by simp [hfl]) ?_
    refine RV 7 rfl ?_
    refine RunK.skippedU rfl rfl rfl rfl ?_
    refine RunK.skippedU rfl rfl rfl rfl ?_
    refine RunK.skippedU rfl rfl rfl rfl ?_
    refine RV 2 rfl ?_
    refine RunK.skippedU rfl rfl rfl rfl ?_
    refine RunK.skippedU rfl rfl rfl rfl ?_
    refine RunK.skippedU rfl rfl rfl rfl ?_
    refine RVN 2 rfl ?_
    refine End.sub (Sv [7, 8, 9, 10, 11, 107, 1000007, 1000009, 1000010, 1000011, 1000012, 1000014, 1000016, 1000017, 1000019] rfl) ?_
    exact End.normal_then (End.toEnv (SubL.cons (t := 7) rfl (by first | exact Le.refl _ | exact Le.old _ _) (SubL.cons (t := 8) rfl (by first | exact Le.refl _ | exact Le.old _ _) (SubL.cons (t := 9) rfl (by first | exact Le.refl _ | exact Le.old _ _) (SubL.cons (t := 10) rfl (by first | exact Le.refl _ | exact Le.old _ _) (SubL.cons (t := 11) rfl (by first | exact Le.refl _ | exact Le.old _ _) (SubL.cons (t := 1000007) rfl (by first | exact Le.refl _ | exact Le.old _ _) (SubL.cons (t := 1000009) rfl (by first | exact Le.refl _ | exact Le.old _ _) (SubL.cons (t := 1000010) rfl (by first | exact Le.refl _ | exact Le.old _ _) (SubL.cons (t := 1000011) rfl (by first | exact Le.refl _ | exact Le.old _ _) (SubL.cons (t := 107) rfl (by first | exact Le.refl _ | exact Le.old _ _) SubL.nil)))))))))))
   ·refine GTE ?_
    refine RS (ok_field field47_1 (by decide) rfl) ?_
    refine RS ((ok_loadOp (s := 1000009) (by decide) Try.underlying3 rfl rfl rfl rfl)) ?_
    refine RS (ok_field field47_1 (by decide) rfl) ?_
    refine RS ((ok_loadOp (s := 1000010) (by decide) Try.underlying3 rfl rfl rfl rfl)) ?_
    refine RB rfl rfl rfl ?_
    refine RZ (.bool true) (by simp [hpi]) ?_
    refine RV 3 rfl ?_
    refine RZ (.bool true) (by simp [hfl]) ?_
    refine RV 2 rfl ?_
    refine RQ (ok_loadVK (s := 1000011) (by decide) Try.underlying30 rfl size30 rfl rfl) ?_
    refine RQ (ok_loadVK (s := 1000016) (by decide) Try.underlying30 rfl size30 rfl rfl) ?_
    refine RQ (ok_call (Same_fn (stepA (stepA a P).1 Q).1 (stepA (stepA a Q).1 P).1 (by rw [hs2.1]; omega) (by rw [hs2.2]; omega)) (Args.cons rfl (by first | exact Le.refl _ | exact Le.old _ _ | exact arr_any | exact arr_ex | exact arrD_any | exact op_any | exact (Le.old _ _).trans arrD_any | exact (Le.old _ _).trans arr_any) (Args.cons rfl (by first | exact Le.refl _ | exact Le.old _ _ | exact arr_any | exact arr_ex | exact arrD_any | exact op_any | exact (Le.old _ _).trans arrD_any | exact (Le.old _ _).trans arr_any) Args.nil))) ?_; refine RZ (.bool true) (by rw [decide_eq_true (hsw hpi hfl).1]) ?_
    refine RV 2 rfl ?_
    refine RQ (ok_loadA (s := 1000012) (by decide) Try.underlying49 rfl (size49.of (rs_len _)) rfl rfl) ?_
    refine RQ (ok_loadA (s := 1000019) (by decide) Try.underlying49 rfl (size49.of (rs_len _)) rfl rfl) ?_
    refine RQ (ok_neqT (n := 4) true flat49 (by decide) (by kernel_rfl) (by kernel_rfl) rfl rfl (kinRs _) (kinRs _) (iff_of_true rfl (congrArg rsV (hsw hpi hfl).2.1))) ?_; refine RZ (.bool false) (by first | rfl | (simp; done) | (simp; omega) | (simp [*]; done) | (simp [*]; omega)) ?_
    refine RV 2 rfl ?_
    refine RQ (ok_loadA (s := 1000014) (by decide) Try.underlying49 rfl (size49.of (rs_len _)) rfl rfl) ?_
    refine RQ (ok_loadA (s := 1000017) (by decide) Try.underlying49 rfl (size49.of (rs_len _)) rfl rfl) ?_
    refine RQ (ok_neqT (n := 4) true flat49 (by decide) (by kernel_rfl) (by kernel_rfl) rfl rfl (kinRs _) (kinRs _) (iff_of_true rfl (congrArg rsV (hsw hpi hfl).2.2))) ?_; refine RZ (.bool false) (by first | rfl | (simp; done) | (simp; omega) | (simp [*]; done) | (simp [*]; omega)) ?_
    refine RVN 2 rfl ?_
    refine End.sub (Sv [7, 8, 9, 10, 11, 107, 1000007, 1000009, 1000010, 1000011, 1000012, 1000014, 1000016, 1000017, 1000019] rfl) ?_
    exact End.normal_then (End.toEnv (SubL.cons (t := 7) rfl (by first | exact Le.refl _ | exact Le.old _ _) (SubL.cons (t := 8) rfl (by first | exact Le.refl _ | exact Le.old _ _) (SubL.cons (t := 9) rfl (by first | exact Le.refl _ | exact Le.old _ _) (SubL.cons (t := 10) rfl (by first | exact Le.refl _ | exact Le.old _ _) (SubL.cons (t := 11) rfl (by first | exact Le.refl _ | exact Le.old _ _) (SubL.cons (t := 1000007) rfl (by first | exact Le.refl _ | exact Le.old _ _) (SubL.cons (t := 1000009) rfl (by first | exact Le.refl _ | exact Le.old _ _) (SubL.cons (t := 1000010) rfl (by first | exact Le.refl _ | exact Le.old _ _) (SubL.cons (t := 1000011) rfl (by first | exact Le.refl _ | exact Le.old _ _) (SubL.cons (t := 107) rfl (by first | exact Le.refl _ | exact Le.old _ _) SubL.nil)))))))))))
  ·refine A.no rfl ?_
   refine QK ?_
   refine A.seqTo [(11, .v (ptr b11)), (1000011, varK b11 30 2 (arrZ (zOwn 41 w₀.heap.size) true (stepA (stepA a P).1 Q).1))] ?_ ?_
   ·refine A.seqTo [(7, .v (ptr b7)), (8, .v (nI (n))), (9, .v (ptr b9)), (10, .v (ptr b10)), (11, .v (ptr b11)), (1000007, varK b7 30 2 (arrZ (zOwn 41 w₀.heap.size) false a)), (1000009, varK b9 47 3 (opZ (zDat 41 5 w₀.heap.size) P)), (1000010, varK b10 47 3 (opZ (zDat 41 5 w₀.heap.size) Q)), (1000011, varK b11 30 2 (arrZ (zOwn 41 w₀.heap.size) true (stepA (stepA a P).1 Q).1)), (134, .v (.bool (decide (P.k.toNat = 2 ∧ Q.k.toNat = 2 ∧ P.i = Q.i ∧ badA (n : Int) P = false ∧ badA (n : Int) Q = false))))] ?_ ?_
    ·rcases (show ¬ P.k.toNat = 2 ∨ (P.k.toNat = 2 ∧ ¬ Q.k.toNat = 2) ∨ (P.k.toNat = 2 ∧ Q.k.toNat = 2 ∧ ¬ P.i = Q.i) ∨ (P.k.toNat = 2 ∧ Q.k.toNat = 2 ∧ P.i = Q.i ∧ badA (n : Int) P = true) ∨ (P.k.toNat = 2 ∧ Q.k.toNat = 2 ∧ P.i = Q.i ∧ badA (n : Int) P = false ∧ badA (n : Int) Q = true) ∨ (P.k.toNat = 2 ∧ Q.k.toNat = 2 ∧ P.i = Q.i ∧ badA (n : Int) P = false ∧ badA (n : Int) Q = false) by cases badA (n : Int) P <;> cases badA (n : Int) Q <;> simp <;> omega) with hw1 | ⟨hw1, hw2⟩ | ⟨hw1, hw2, hw3⟩ | ⟨hw1, hw2, hw3, hw4⟩ | ⟨hw1, hw2, hw3, hw4, hw5⟩ | ⟨hw1, hw2, hw3, hw4, hw5⟩
     ·refine GTE ?_
      refine RS (ok_field field47_0 (by decide) rfl) ?_
      refine RS ((ok_loadOp (s := 1000009) (by decide) Try.underlying44 rfl rfl rfl rfl)) ?_
      refine RB rfl rfl rfl ?_
      refine RZ (.bool false) (by first | (simp; done) | (simp [*]; done) | (simp; omega)) ?_
      refine RVN 24 rfl ?_
      refine End.sub (Sv [7, 8, 9, 10, 11, 134, 1000007, 1000009, 1000010, 1000011] rfl) ?_
      exact End.normal_then (End.toEnv (SubL.cons (t := 7) rfl (by first | exact Le.refl _ | exact Le.old _ _) (SubL.cons (t := 8) rfl (by first | exact Le.refl _ | exact Le.old _ _) (SubL.cons (t := 9) rfl (by first | exact Le.refl _ | exact Le.old _ _) (SubL.cons (t := 10) rfl (by first | exact Le.refl _ | exact Le.old _ _) (SubL.cons (t := 11) rfl (by first | exact Le.refl _ | exact Le.old _ _) (SubL.cons (t := 1000007) rfl (by first | exact Le.refl _ | exact Le.old _ _) (SubL.cons (t := 1000009) rfl (by first | exact Le.refl _ | exact Le.old _ _) (SubL.cons (t := 1000010) rfl (by first | exact Le.refl _ | exact Le.old _ _) (SubL.cons (t := 1000011) rfl (by first | exact Le.refl _ | exact Le.old _ _) (SubL.cons (t := 134) rfl (Le.v (congrArg Value.bool (by simp [hw1]))) SubL.nil)))))))))))
     ·refine GTE ?_
      refine RS (ok_field field47_0 (by decide) rfl) ?_
      refine RS ((ok_loadOp (s := 1000009) (by decide) Try.underlying44 rfl rfl rfl rfl)) ?_
      refine RB rfl rfl rfl ?_
      refine RZ (.bool true) (by first | (simp; done) | (simp [*]; done) | (simp; omega)) ?_
      refine RM rfl ?_
      refine RQ (ok_field field47_0 (by decide) rfl) ?_
      refine RQ ((ok_loadOp (s := 1000010) (by decide) Try.underlying44 rfl rfl rfl rfl)) ?_
      refine RQ (ok_bin rfl rfl rfl) ?_
      refine RZ (.bool false) (by first | (simp; done) | (simp [*]; done) | (simp; omega)) ?_
      refine RVN 20 rfl ?_
      refine End.sub (Sv [7, 8, 9, 10, 11, 134, 1000007, 1000009, 1000010, 1000011] rfl) ?_
      exact End.normal_then (End.toEnv (SubL.cons (t := 7) rfl (by first | exact Le.refl _ | exact Le.old _ _) (SubL.cons (t := 8) rfl (by first | exact Le.refl _ | exact Le.old _ _) (SubL.cons (t := 9) rfl (by first | exact Le.refl _ | exact Le.old _ _) (SubL.cons (t := 10) rfl (by first | exact Le.refl _ | exact Le.old _ _) (SubL.cons (t := 11) rfl (by first | exact Le.refl _ | exact Le.old _ _) (SubL.cons (t := 1000007) rfl (by first | exact Le.refl _ | exact Le.old _ _) (SubL.cons (t := 1000009) rfl (by first | exact Le.refl _ | exact Le.old _ _) (SubL.cons (t := 1000010) rfl (by first | exact Le.refl _ | exact Le.old _ _) (SubL.cons (t := 1000011) rfl (by first | exact Le.refl _ | exact Le.old _ _) (SubL.cons (t := 134) rfl (Le.v (congrArg Value.bool (by simp [hw2]))) SubL.nil)))))))))))
     ·refine GTE ?_
      refine RS (ok_field field47_0 (by decide) rfl) ?_
      refine RS ((ok_loadOp (s := 1000009) (by decide) Try.underlying44 rfl rfl rfl rfl)) ?_
      refine RB rfl rfl rfl ?_
      refine RZ (.bool true) (by first | (simp; done) | (simp [*]; done) | (simp; omega)) ?_
      refine RM rfl ?_
      refine RQ (ok_field field47_0 (by decide) rfl) ?_
      refine RQ ((ok_loadOp (s := 1000010) (by decide) Try.underlying44 rfl rfl rfl rfl)) ?_
      refine RQ (ok_bin rfl rfl rfl) ?_
      refine RZ (.bool true) (by first | (simp; done) | (simp [*]; done) | (simp; omega)) ?_
      refine RV 2 rfl ?_
      refine RQ (ok_field field47_1 (by decide) rfl) ?_
      refine RQ ((ok_loadOp (s := 1000009) (by decide) Try.underlying3 rfl rfl rfl rfl)) ?_
      refine RQ (ok_field field47_1 (by decide) rfl) ?_
      refine RQ ((ok_loadOp (s := 1000010) (by decide) Try.underlying3 rfl rfl rfl rfl)) ?_
      refine RQ (ok_bin rfl rfl rfl) ?_
      refine RZ (.bool false) (by simp [hw3]) ?_
      refine RVN 13 rfl ?_
      refine End.sub (Sv [7, 8, 9, 10, 11, 134, 1000007, 1000009, 1000010, 1000011] rfl) ?_
      exact End.normal_then (End.toEnv (SubL.cons (t := 7) rfl (by first | exact Le.refl _ | exact Le.old _ _) (SubL.cons (t := 8) rfl (by first | exact Le.refl _ | exact Le.old _ _) (SubL.cons (t := 9) rfl (by first | exact Le.refl _ | exact Le.old _ _) (SubL.cons (t := 10) rfl (by first | exact Le.refl _ | exact Le.old _ _) (SubL.cons (t := 11) rfl (by first | exact Le.refl _ | exact Le.old _ _) (SubL.cons (t := 1000007) rfl (by first | exact Le.refl _ | exact Le.old _ _) (SubL.cons (t := 1000009) rfl (by first | exact Le.refl _ | exact Le.old _ _) (SubL.cons (t := 1000010) rfl (by first | exact Le.refl _ | exact Le.old _ _) (SubL.cons (t := 1000011) rfl (by first | exact Le.refl _ | exact Le.old _ _) (SubL.cons (t := 134) rfl (Le.v (congrArg Value.bool (by simp [hw3]))) SubL.nil)))))))))))
     ·refine GTE ?_
      refine RS (ok_field field47_0 (by decide) rfl) ?_
      refine RS ((ok_loadOp (s := 1000009) (by decide) Try.underlying44 rfl rfl rfl rfl)) ?_
      refine RB rfl rfl rfl ?_
      refine RZ (.bool true) (by first | (simp; done) | (simp [*]; done) | (simp; omega)) ?_
      refine RM rfl ?_
      refine RQ (ok_field field47_0 (by decide) rfl) ?_
      refine RQ ((ok_loadOp (s := 1000010) (by decide) Try.underlying44 rfl rfl rfl rfl)) ?_
      refine RQ (ok_bin rfl rfl rfl) ?_
      refine RZ (.bool true) (by first | (simp; done) | (simp [*]; done) | (simp; omega)) ?_
      refine RV 2 rfl ?_
      refine RQ (ok_field field47_1 (by decide) rfl) ?_
      refine RQ ((ok_loadOp (s := 1000009) (by decide) Try.underlying3 rfl rfl rfl rfl)) ?_
      refine RQ (ok_field field47_1 (by decide) rfl) ?_
      refine RQ ((ok_loadOp (s := 1000010) (by decide) Try.underlying3 rfl rfl rfl rfl)) ?_
      refine RQ (ok_bin rfl rfl rfl) ?_
      refine RZ (.bool true) (by simp [hw3]) ?_
      refine RV 3 rfl ?_
      refine RQ (ok_loadVK (s := 1000009) (by decide) Try.underlying47 rfl size47 rfl rfl) ?_
      refine RQ (ok_call (Bad_fn (n : Int) P) (Args.cons rfl (by first | exact Le.refl _ | exact Le.old _ _ | exact arr_any | exact arr_ex | exact arrD_any | exact op_any | exact (Le.old _ _).trans arrD_any | exact (Le.old _ _).trans arr_any) (Args.cons rfl (by first | exact Le.refl _ | exact Le.old _ _ | exact arr_any | exact arr_ex | exact arrD_any | exact op_any | exact (Le.old _ _).trans arrD_any | exact (Le.old _ _).trans arr_any) Args.nil))) ?_; refine RZ (.bool true) (by rw [hw4]) ?_
      refine RVN 8 rfl ?_
      refine End.sub (Sv [7, 8, 9, 10, 11, 134, 1000007, 1000009, 1000010, 1000011] rfl) ?_
      exact End.normal_then (End.toEnv (SubL.cons (t := 7) rfl (by first | exact Le.refl _ | exact Le.old _ _) (SubL.cons (t := 8) rfl (by first | exact Le.refl _ | exact Le.old _ _) (SubL.cons (t := 9) rfl (by first | exact Le.refl _ | exact Le.old _ _) (SubL.cons (t := 10) rfl (by first | exact Le.refl _ | exact Le.old _ _) (SubL.cons (t := 11) rfl (by first | exact Le.refl _ | exact Le.old _ _) (SubL.cons (t := 1000007) rfl (by first | exact Le.refl _ | exact Le.old _ _) (SubL.cons (t := 1000009) rfl (by first | exact Le.refl _ | exact Le.old _ _) (SubL.cons (t := 1000010) rfl (by first | exact Le.refl _ | exact Le.old _ _) (SubL.cons (t := 1000011) rfl (by first | exact Le.refl _ | exact Le.old _ _) (SubL.cons (t := 134) rfl (Le.v (congrArg Value.bool (by simp [hw4]))) SubL.nil)))))))))))
     ·refine GTE ?_
      refine RS (ok_field field47_0 (by decide) rfl) ?_
      refine RS ((ok_loadOp (s := 1000009) (by decide) Try.underlying44 rfl rfl rfl rfl)) ?_
      refine RB rfl rfl rfl ?_
      refine RZ (.bool true) (by first | (simp; done) | (simp [*]; done) | (simp; omega)) ?_
      refine RM rfl ?_
      refine RQ (ok_field field47_0 (by decide) rfl) ?_
      refine RQ ((ok_loadOp (s := 1000010) (by decide) Try.underlying44 rfl rfl rfl rfl)) ?_
      refine RQ (ok_bin rfl rfl rfl) ?_
      refine RZ (.bool true) (by first | (simp; done) | (simp [*]; done) | (simp; omega)) ?_
      refine RV 2 rfl ?_
      refine RQ (ok_field field47_1 (by decide) rfl) ?_
      refine RQ ((ok_loadOp (s := 1000009) (by decide) Try.underlying3 rfl rfl rfl rfl)) ?_
      refine RQ (ok_field field47_1 (by decide) rfl) ?_
      refine RQ ((ok_loadOp (s := 1000010) (by decide) Try.underlying3 rfl rfl rfl rfl)) ?_
      refine RQ (ok_bin rfl rfl rfl) ?_
      refine RZ (.bool true) (by simp [hw3]) ?_
      refine RV 3 rfl ?_
      refine RQ (ok_loadVK (s := 1000009) (by decide) Try.underlying47 rfl size47 rfl rfl) ?_
      refine RQ (ok_call (Bad_fn (n : Int) P) (Args.cons rfl (by first | exact Le.refl _ | exact Le.old _ _ | exact arr_any | exact arr_ex | exact arrD_any | exact op_any | exact (Le.old _ _).trans arrD_any | exact (Le.old _ _).trans arr_any) (Args.cons rfl (by first | exact Le.refl _ | exact Le.old _ _ | exact arr_any | exact arr_ex | exact arrD_any | exact op_any | exact (Le.old _ _).trans arrD_any | exact (Le.old _ _).trans arr_any) Args.nil))) ?_; refine RZ (.bool false) (by rw [hw4]) ?_
      refine RV 4 rfl ?_
      refine RQ (ok_loadVK (s := 1000010) (by decide) Try.underlying47 rfl size47 rfl rfl) ?_
      refine RQ (ok_call (Bad_fn (n : Int) Q) (Args.cons rfl (by first | exact Le.refl _ | exact Le.old _ _ | exact arr_any | exact arr_ex | exact arrD_any | exact op_any | exact (Le.old _ _).trans arrD_any | exact (Le.old _ _).trans arr_any) (Args.cons rfl (by first | exact Le.refl _ | exact Le.old _ _ | exact arr_any | exact arr_ex | exact arrD_any | exact op_any | exact (Le.old _ _).trans arrD_any | exact (Le.old _ _).trans arr_any) Args.nil))) ?_; refine RZ (.bool true) (by rw [hw5]) ?_
      refine RVN 2 rfl ?_
      refine End.sub (Sv [7, 8, 9, 10, 11, 134, 1000007, 1000009, 1000010, 1000011] rfl) ?_
      exact End.normal_then (End.toEnv (SubL.cons (t := 7) rfl (by first | exact Le.refl _ | exact Le.old _ _) (SubL.cons (t := 8) rfl (by first | exact Le.refl _ | exact Le.old _ _) (SubL.cons (t := 9) rfl (by first | exact Le.refl _ | exact Le.old _ _) (SubL.cons (t := 10) rfl (by first | exact Le.refl _ | exact Le.old _ _) (SubL.cons (t := 11) rfl (by first | exact Le.refl _ | exact Le.old _ _) (SubL.cons (t := 1000007) rfl (by first | exact Le.refl _ | exact Le.old _ _) (SubL.cons (t := 1000009) rfl (by first | exact Le.refl _ | exact Le.old _ _) (SubL.cons (t := 1000010) rfl (by first | exact Le.refl _ | exact Le.old _ _) (SubL.cons (t := 1000011) rfl (by first | exact Le.refl _ | exact Le.old _ _) (SubL.cons (t := 134) rfl (Le.v (congrArg Value.bool (by simp [hw5]))) SubL.nil)))))))))))
     ·refine GTE ?_
      refine RS (ok_field field47_0 (by decide) rfl) ?_
      refine RS ((ok_loadOp (s := 1000009) (by decide) Try.underlying44 rfl rfl rfl rfl)) ?_
      refine RB rfl rfl rfl ?_
      refine RZ (.bool true) (by first | (simp; done) | (simp [*]; done) | (simp; omega)) ?_
      refine RM rfl ?_
      refine RQ (ok_field field47_0 (by decide) rfl) ?_
      refine RQ ((ok_loadOp (s := 1000010) (by decide) Try.underlying44 rfl rfl rfl rfl)) ?_
      refine RQ (ok_bin rfl rfl rfl) ?_
      refine RZ (.bool true) (by first | (simp; done) | (simp [*]; done) | (simp; omega)) ?_
      refine RV 2 rfl ?_
      refine RQ (ok_field field47_1 (by decide) rfl) ?_
      refine RQ ((ok_loadOp (s := 1000009) (by decide) Try.underlying3 rfl rfl rfl rfl)) ?_
      refine RQ (ok_field field47_1 (by decide) rfl) ?_
      refine RQ ((ok_loadOp (s := 1000010) (by decide) Try.underlying3 rfl rfl rfl rfl)) ?_
      refine RQ (ok_bin rfl rfl rfl) ?_
      refine RZ (.bool true) (by simp [hw3]) ?_
      refine RV 3 rfl ?_
      refine RQ (ok_loadVK (s := 1000009) (by decide) Try.underlying47 rfl size47 rfl rfl) ?_
      refine RQ (ok_call (Bad_fn (n : Int) P) (Args.cons rfl (by first | exact Le.refl _ | exact Le.old _ _ | exact arr_any | exact arr_ex | exact arrD_any | exact op_any | exact (Le.old _ _).trans arrD_any | exact (Le.old _ _).trans arr_any) (Args.cons rfl (by first | exact Le.refl _ | exact Le.old _ _ | exact arr_any | exact arr_ex | exact arrD_any | exact op_any | exact (Le.old _ _).trans arrD_any | exact (Le.old _ _).trans arr_any) Args.nil))) ?_; refine RZ (.bool false) (by rw [hw4]) ?_
      refine RV 4 rfl ?_
      refine RQ (ok_loadVK (s := 1000010) (by decide) Try.underlying47 rfl size47 rfl rfl) ?_
      refine RQ (ok_call (Bad_fn (n : Int) Q) (Args.cons rfl (by first | exact Le.refl _ | exact Le.old _ _ | exact arr_any | exact arr_ex | exact arrD_any | exact op_any | exact (Le.old _ _).trans arrD_any | exact (Le.old _ _).trans arr_any) (Args.cons rfl (by first | exact Le.refl _ | exact Le.old _ _ | exact arr_any | exact arr_ex | exact arrD_any | exact op_any | exact (Le.old _ _).trans arrD_any | exact (Le.old _ _).trans arr_any) Args.nil))) ?_; refine RZ (.bool false) (by rw [hw5]) ?_
      refine RVN 2 rfl ?_
      refine End.sub (Sv [7, 8, 9, 10, 11, 134, 1000007, 1000009, 1000010, 1000011] rfl) ?_
      exact End.normal_then (End.toEnv (SubL.cons (t := 7) rfl (by first | exact Le.refl _ | exact Le.old _ _) (SubL.cons (t := 8) rfl (by first | exact Le.refl _ | exact Le.old _ _) (SubL.cons (t := 9) rfl (by first | exact Le.refl _ | exact Le.old _ _) (SubL.cons (t := 10) rfl (by first | exact Le.refl _ | exact Le.old _ _) (SubL.cons (t := 11) rfl (by first | exact Le.refl _ | exact Le.old _ _) (SubL.cons (t := 1000007) rfl (by first | exact Le.refl _ | exact Le.old _ _) (SubL.cons (t := 1000009) rfl (by first | exact Le.refl _ | exact Le.old _ _) (SubL.cons (t := 1000010) rfl (by first | exact Le.refl _ | exact Le.old _ _) (SubL.cons (t := 1000011) rfl (by first | exact Le.refl _ | exact Le.old _ _) (SubL.cons (t := 134) rfl (Le.v (congrArg Value.bool (by simp [hw1, hw2, hw3, hw4, hw5]))) SubL.nil)))))))))))
    ·refine A.cond rfl (fun hc134 => ?_) (fun hc134 => ?_)
     ·have hW := of_decide_eq_true hc134
      refine GS ?_
      refine TN 7 ?_
      refine RS (ok_loadVK (s := 1000007) (by decide) Try.underlying30 rfl size30 rfl rfl) ?_
      refine RS (ok_loadVK (s := 1000010) (by decide) Try.underlying47 rfl size47 rfl rfl) ?_
      refine RS ((ok_callB (Do_ok a Q (chk_ok ha h1 (by omega)) (by rw [ha.1]; omega) (by rw [ha.2]; omega) (ha.1.trans ha.2.symm)) (fun _ _ h => tup_le3 (arr_mono (own_monoT h)) (Le.refl _) (Le.refl _)) (Args.cons rfl (by first | exact Le.refl _ | exact Le.old _ _ | exact arr_any | exact arr_ex | exact arrD_any | exact op_any | exact (Le.old _ _).trans arrD_any | exact (Le.old _ _).trans arr_any) (Args.cons rfl (by first | exact Le.refl _ | exact Le.old _ _ | exact arr_any | exact arr_ex | exact arrD_any | exact op_any | exact (Le.old _ _).trans arrD_any | exact (Le.old _ _).trans arr_any) Args.nil)))) ?_
      refine RM rfl ?_
      refine RS (ok_extract rfl rfl) ?_
      refine RS (ok_extract rfl rfl) ?_
      refine RS (ok_extract rfl rfl) ?_
      refine RN ?_
      refine ⟨_, _, eff_allocV (n := 172) (d := 22) (k := 1000022) zero30 (by decide), fun b22 hb22 => ?_⟩
      have hBb22 := hb22.1
      have hlt_b7_b22 : b7 < b22 := hb22.2.2 1000007 _ _ _ _ rfl
      have hlt_b11_b22 : b11 < b22 := hb22.2.2 1000011 _ _ _ _ rfl
      refine TN 8 ?_
      refine RN ?_
      refine ⟨_, _, eff_allocV (n := 172) (d := 23) (k := 1000023) zero49 (by decide), fun b23 hb23 => ?_⟩
      have hBb23 := hb23.1
      refine TF 9 ?_
      refine RN ?_
      refine ⟨_, eff_storeK (n := 172) (s := 1000022) size30 rfl rfl (Le.refl _) (Agg.arr) hBb22 rfl (rfl) (Surv.arr (by intro h; first | exact absurd h.1 (by decide) | exact absurd h.1.1 (by decide) | exact absurd h.2 (by omega) | exact absurd h.1.2 (by omega) | exact absurd h.1.1.2 (by omega))) (LeftS.cons (t := 1000007) rfl (Surv.varK (by omega) (Surv.arr (by intro h; first | exact absurd h.1 (by decide) | exact absurd h.1.1 (by decide) | exact absurd h.2 (by omega) | exact absurd h.1.2 (by omega) | exact absurd h.1.1.2 (by omega)))) (LeftS.cons (t := 1000009) rfl (Surv.varKT (by decide) (Surv.opz (fun h => absurd h.1 (by decide)))) (LeftS.cons (t := 1000010) rfl (Surv.varKT (by decide) (Surv.opz (fun h => absurd h.1 (by decide)))) (LeftS.cons (t := 1000011) rfl (Surv.varK (by omega) (Surv.arr (by intro h; first | exact absurd h.1 (by decide) | exact absurd h.1.1 (by decide) | exact absurd h.2 (by omega) | exact absurd h.1.2 (by omega) | exact absurd h.1.1.2 (by omega)))) (LT 1000023 rfl (LW [11, 22, 23, 140, 141] rfl)))))), ?_⟩
      refine TF 10 ?_
      refine RN ?_
      refine ⟨_, eff_storeA (n := 172) (s := 1000023) (size49.of (rs_len _)) rfl rfl (rs_one _) hBb23 rfl (by simp only [rs_len]) (LeftS.cons (t := 1000007) rfl (Surv.varKT (by decide) (Surv.arr (by intro h; first | exact absurd h.1 (by decide) | exact absurd h.1.1 (by decide) | exact absurd h.2 (by omega) | exact absurd h.1.2 (by omega) | exact absurd h.1.1.2 (by omega)))) (LeftS.cons (t := 1000009) rfl (Surv.varKT (by decide) (Surv.opz (fun h => absurd h.1 (by decide)))) (LeftS.cons (t := 1000010) rfl (Surv.varKT (by decide) (Surv.opz (fun h => absurd h.1 (by decide)))) (LeftS.cons (t := 1000011) rfl (Surv.varKT (by decide) (Surv.arr (by intro h; first | exact absurd h.1 (by decide) | exact absurd h.1.1 (by decide) | exact absurd h.2 (by omega) | exact absurd h.1.2 (by omega) | exact absurd h.1.1.2 (by omega)))) (LeftS.cons (t := 1000022) rfl (Surv.varKT (by decide) (Surv.arr (by intro h; first | exact absurd h.1 (by decide) | exact absurd h.1.1 (by decide) | exact absurd h.2 (by omega) | exact absurd h.1.2 (by omega) | exact absurd h.1.1.2 (by omega)))) (LW [11, 22, 141] rfl)))))), ?_⟩
      refine TL ?_
      refine RVN 1 rfl ?_
      refine GT ?_
      refine RV 2 rfl ?_
      refine RF ?_
      refine RM rfl ?_
      refine RQ (ok_loadVK (s := 1000022) (by decide) Try.underlying30 rfl size30 rfl rfl) ?_
      refine RQ (ok_loadVK (s := 1000011) (by decide) Try.underlying30 rfl size30 rfl rfl) ?_
      refine RQ (ok_call (Same_fn (stepA a Q).1 (stepA (stepA a P).1 Q).1 (by rw [ht1.1]; omega) (by rw [ht1.2]; omega)) (Args.cons rfl (by first | exact Le.refl _ | exact Le.old _ _ | exact arr_any | exact arr_ex | exact arrD_any | exact op_any | exact (Le.old _ _).trans arrD_any | exact (Le.old _ _).trans arr_any) (Args.cons rfl (by first | exact Le.refl _ | exact Le.old _ _ | exact arr_any | exact arr_ex | exact arrD_any | exact op_any | exact (Le.old _ _).trans arrD_any | exact (Le.old _ _).trans arr_any) Args.nil))) ?_; refine RZ (.bool true) (by rw [decide_eq_true (ord_same ha hW.1 hW.2.1 hW.2.2.1 hW.2.2.2.1 hW.2.2.2.2)]) ?_
      refine RVN 2 rfl ?_
      refine A.no rfl ?_
      refine A.skip ?_
      exact End.normal_then (End.toEnv (SubL.cons (t := 11) rfl (by first | exact Le.refl _ | exact Le.old _ _) (SubL.cons (t := 1000011) rfl (by first | exact Le.refl _ | exact Le.old _ _) SubL.nil)))
     ·skip
      refine A.skip ?_
      exact End.normal_then (End.toEnv (SubL.cons (t := 11) rfl (by first | exact Le.refl _ | exact Le.old _ _) (SubL.cons (t := 1000011) rfl (by first | exact Le.refl _ | exact Le.old _ _) SubL.nil)))
   ·refine GS ?_
    refine TN 5 ?_
    refine RS (ok_loadVK (s := 1000011) (by decide) Try.underlying30 rfl size30 rfl rfl) ?_
    refine RS ((ok_callB (Flush_ok (stepA (stepA a P).1 Q).1 (chk_ok hs2 h1 (by omega)) (by rw [hs2.1]; omega) (by rw [hs2.2]; omega)) (fun _ _ h => tup_le2 (arr_mono (own_monoT h)) (Le.refl _)) (Args.cons rfl (by first | exact Le.refl _ | exact Le.old _ _ | exact arr_any | exact arr_ex | exact arrD_any | exact op_any | exact (Le.old _ _).trans arrD_any | exact (Le.old _ _).trans arr_any) Args.nil))) ?_
    refine RM rfl ?_
    refine RS (ok_extract rfl rfl) ?_
    refine RS (ok_extract rfl rfl) ?_
    refine RN ?_
    refine ⟨_, _, eff_allocV (n := 172) (d := 25) (k := 1000025) zero30 (by decide), fun b25 hb25 => ?_⟩
    have hBb25 := hb25.1
    have hlt_b11_b25 : b11 < b25 := hb25.2.2 1000011 _ _ _ _ rfl
    refine TF 6 ?_
    refine RN ?_
    refine ⟨_, eff_storeK (n := 172) (s := 1000025) size30 rfl rfl (Le.refl _) (Agg.arr) hBb25 rfl (rfl) (Surv.arr (by intro h; first | exact absurd h.1 (by decide) | exact absurd h.1.1 (by decide) | exact absurd h.2 (by omega) | exact absurd h.1.2 (by omega) | exact absurd h.1.1.2 (by omega))) (LeftS.cons (t := 1000011) rfl (Surv.varK (by omega) (Surv.arr (by intro h; first | exact absurd h.1 (by decide) | exact absurd h.1.1 (by decide) | exact absurd h.2 (by omega) | exact absurd h.1.2 (by omega) | exact absurd h.1.1.2 (by omega)))) (LW [25, 154] rfl)), ?_⟩
    refine TL ?_
    refine RVN 1 rfl ?_
    refine GS ?_
    refine TN 5 ?_
    refine RS (ok_loadVK (s := 1000025) (by decide) Try.underlying30 rfl size30 rfl rfl) ?_
    refine RS ((ok_callB (Crash_ok ⟨(stepA (stepA a P).1 Q).1.now, (stepA (stepA a P).1 Q).1.now⟩ (chk_ok (n := n) ⟨hs2.1, hs2.1⟩ h1 (by omega)) (by rw [hs2.1]; omega) (by rw [hs2.1]; omega)) (fun _ _ h => tup_le2 (arr_mono (own_monoT h)) (Le.refl _)) (Args.cons rfl (by first | exact Le.refl _ | exact Le.old _ _ | exact arr_any | exact arr_ex | exact arrD_any | exact op_any | exact (Le.old _ _).trans arrD_any | exact (Le.old _ _).trans arr_any) Args.nil))) ?_
    refine RM rfl ?_
    refine RS (ok_extract rfl rfl) ?_
    refine RS (ok_extract rfl rfl) ?_
    refine RN ?_
    refine ⟨_, _, eff_allocV (n := 172) (d := 26) (k := 1000026) zero30 (by decide), fun b26 hb26 => ?_⟩
    have hBb26 := hb26.1
    have hlt_b11_b26 : b11 < b26 := hb26.2.2 1000011 _ _ _ _ rfl
    have hlt_b25_b26 : b25 < b26 := hb26.2.2 1000025 _ _ _ _ rfl
    refine TF 6 ?_
    refine RN ?_
    refine ⟨_, eff_storeK (n := 172) (s := 1000026) size30 rfl rfl (Le.refl _) (Agg.arr) hBb26 rfl (rfl) (Surv.arr (by intro h; first | exact absurd h.1 (by decide) | exact absurd h.1.1 (by decide) | exact absurd h.2 (by omega) | exact absurd h.1.2 (by omega) | exact absurd h.1.1.2 (by omega))) (LeftS.cons (t := 1000011) rfl (Surv.varK (by omega) (Surv.arr (by intro h; first | exact absurd h.1 (by decide) | exact absurd h.1.1 (by decide) | exact absurd h.2 (by omega) | exact absurd h.1.2 (by omega) | exact absurd h.1.1.2 (by omega)))) (LeftS.cons (t := 1000025) rfl (Surv.varK (by omega) (Surv.arr (by intro h; first | exact absurd h.1 (by decide) | exact absurd h.1.1 (by decide) | exact absurd h.2 (by omega) | exact absurd h.1.2 (by omega) | exact absurd h.1.1.2 (by omega)))) (LW [13, 25, 26, 159] rfl))), ?_⟩
    refine TL ?_
    refine RVN 1 rfl ?_
    refine GT ?_
    refine RV 3 rfl ?_
    refine RZ (.int .i64 0) (by rfl) ?_
    refine RB rfl rfl rfl ?_
    refine RT ?_
    refine RM rfl ?_
    refine RQ (ok_loadVK (s := 1000026) (by decide) Try.underlying30 rfl size30 rfl rfl) ?_
    refine RQ (ok_loadVK (s := 1000025) (by decide) Try.underlying30 rfl size30 rfl rfl) ?_
    refine RQ (ok_call (Same_fn ⟨(stepA (stepA a P).1 Q).1.now, (stepA (stepA a P).1 Q).1.now⟩ ⟨(stepA (stepA a P).1 Q).1.now, (stepA (stepA a P).1 Q).1.now⟩ (by rw [hs2.1]; omega) (by rw [hs2.1]; omega)) (Args.cons rfl (by first | exact Le.refl _ | exact Le.old _ _ | exact arr_any | exact arr_ex | exact arrD_any | exact op_any | exact (Le.old _ _).trans arrD_any | exact (Le.old _ _).trans arr_any) (Args.cons rfl (by first | exact Le.refl _ | exact Le.old _ _ | exact arr_any | exact arr_ex | exact arrD_any | exact op_any | exact (Le.old _ _).trans arrD_any | exact (Le.old _ _).trans arr_any) Args.nil))) ?_; refine RZ (.bool true) (by simp) ?_
    refine RV 2 rfl ?_
    refine RQ (ok_call (lives21_fn) Args.nil) ?_
    refine RVN 2 rfl ?_
    refine A.sub (Sv [6, 1000011, 1000025, 1000026] rfl) ?_
    refine A.ret ?_
    exact ER rfl rfl
set_option maxHeartbeats 16000000 in
theorem Differ_law_n (k : UInt8) (q : List Z3) (k' : UInt8) (q' : List Z3) (hne : nO k ≠ nO k') : Fn Try.prog 6 [tlD [byteV k] (rowG false q.length (z3R q)), tlD [byteV k'] (rowG false q'.length (z3R q'))] (.v (.bool true)) := by
 refine Fn.of Try.func6 rfl (by kernel_rfl) Try.ntmps6 (by simp) (fun w => [(0, old w.heap.size (tlD [byteV k] (rowG false q.length (z3R q)))), (1, old w.heap.size (tlD [byteV k'] (rowG false q'.length (z3R q'))))]) (fun w => (Start.old rfl (Start.old rfl Start.nil))) fun w₀ => ?_
 refine A.nameTG (t := 0) (k := 1000201) rfl fun A₁ m hm => ?_
 obtain ⟨n, hn⟩ : ∃ n, n = nO k := ⟨_, rfl⟩
 obtain ⟨L, hL⟩ : ∃ L, L = opsO k q := ⟨_, rfl⟩
 have h1 : 1 ≤ n := hn ▸ (nO_le k).1
 have h2 : n ≤ 20 := hn ▸ (nO_le k).2
 have hl : L.length ≤ 30 := hL ▸ opsO_len k q
 have hz := zA_ok n
 refine A.nameTG (t := 1) (k := 1000204) rfl fun A₁' m' hm' => ?_
 obtain ⟨n', hn'⟩ : ∃ n, n = nO k' := ⟨_, rfl⟩
 obtain ⟨L', hL'⟩ : ∃ L, L = opsO k' q' := ⟨_, rfl⟩
 have h1' : 1 ≤ n' := hn' ▸ (nO_le k').1
 have h2' : n' ≤ 20 := hn' ▸ (nO_le k').2
 have hl' : L'.length ≤ 30 := hL' ▸ opsO_len k' q'
 have hz' := zA_ok n'
 obtain ⟨a, haq⟩ : ∃ a, a = runA (zA n) L := ⟨_, rfl⟩
 have ha : a.Ok n := haq ▸ run_ok hz
 obtain ⟨b, hbq⟩ : ∃ b, b = runA (zA n') L' := ⟨_, rfl⟩
 have hb : b.Ok n' := hbq ▸ run_ok hz'
 have hnn : n ≠ n' := by rw [hn, hn']; exact hne
 refine GS ?_
 refine TN 0 ?_
 refine RN ?_
 refine ZB 1000002 rfl fun b2 ⟨hBb2, hb2⟩ => ?_
 refine TN 1 ?_
 refine RN ?_
 refine ZB 1000003 rfl fun b3 ⟨hBb3, hb3⟩ => ?_
 have hlt_b2_b3 := hb3 1000002 b2 _ _ rfl
 refine TL ?_
 refine RVN 1 rfl ?_
 refine A.regsF [⟨4, 5, 35, [.slice none 0 0] ++ [.slice none 0 0], 6, 2, arrZ (zOwn 41 w₀.heap.size) false a⟩, ⟨5, 6, 35, [.slice none 0 0] ++ [.slice none 0 0], 7, 2, arrZ (zOwn 41 w₀.heap.size) false b⟩] (by kernel_rfl) (by kernel_rfl) (by kernel_rfl) (SurvF.cons (SurvF.cons (fun B' g hg => (show Surv B' 35 g _ from Surv.arr (by intro h; first | exact absurd h.1 (by decide) | exact absurd h.1.1 (by decide) | exact absurd h.2 (by omega) | exact absurd h.1.2 (by omega) | exact absurd h.1.1.2 (by omega)))) (SurvF.cons (fun B' g hg => (show Surv B' 35 g _ from Surv.arr (by intro h; first | exact absurd h.1 (by decide) | exact absurd h.1.1 (by decide) | exact absurd h.2 (by omega) | exact absurd h.1.2 (by omega) | exact absurd h.1.1.2 (by omega)))) (SurvF.nil rfl))) (SurvF.cons (SurvF.cons (fun B' g hg => (show Surv B' 35 g _ from Surv.arr (by intro h; first | exact absurd h.1 (by decide) | exact absurd h.1.1 (by decide) | exact absurd h.2 (by omega) | exact absurd h.1.2 (by omega) | exact absurd h.1.1.2 (by omega)))) (SurvF.cons (fun B' g hg => (show Surv B' 35 g _ from Surv.arr (by intro h; first | exact absurd h.1 (by decide) | exact absurd h.1.1 (by decide) | exact absurd h.2 (by omega) | exact absurd h.1.2 (by omega) | exact absurd h.1.1.2 (by omega)))) (SurvF.nil rfl))) (SurvF.nil rfl))) ?_
 refine KofsK.pure (_) rfl rfl FromF.all (OpOk.tgO (k₁ := 1000201) (pre := [byteV k]) (ok_loadA (s := 1000002) (by decide) Try.underlying24 rfl (size24.of (rfl)) rfl rfl) rfl hm (by decide) rfl) (SurvF.cons (fun B' g hg => (show Surv B' 35 g _ from Surv.old hg)) (SurvF.cons (fun B' g hg => (show Surv B' 35 g _ from Surv.old hg)) (SurvF.nil rfl))) ?_
 refine KofsK.pure ((14, _) :: _) rfl rfl (FromF.op 0 (by kernel_rfl) rfl rfl FromF.all) ((OpOk.le (d' := arrZ (zOwn 41 w₀.heap.size) false a) (ok_callB (ref_fn k q) (fun _ _ h => arr_mono (own_monoT h)) (Args.cons rfl (by first | exact Le.refl _ | exact Le.old _ _ | exact arr_any | exact arr_ex | exact arrD_any | exact op_any | exact (Le.old _ _).trans arrD_any | exact (Le.old _ _).trans arr_any) Args.nil)) (Le.eq (by rw [haq, hn, hL])))) (SurvF.cons (fun B' g hg => (show Surv B' 35 g _ from Surv.arr (by intro h; first | exact absurd h.1 (by decide) | exact absurd h.1.1 (by decide) | exact absurd h.2 (by omega) | exact absurd h.1.2 (by omega) | exact absurd h.1.1.2 (by omega)))) (SurvF.cons (fun B' g hg => (show Surv B' 35 g _ from Surv.arr (by intro h; first | exact absurd h.1 (by decide) | exact absurd h.1.1 (by decide) | exact absurd h.2 (by omega) | exact absurd h.1.2 (by omega) | exact absurd h.1.1.2 (by omega)))) (SurvF.nil rfl))) ?_
 refine KofsK.pure (_) rfl rfl FromF.all (OpOk.tgO (k₁ := 1000204) (pre := [byteV k']) (ok_loadA (s := 1000003) (by decide) Try.underlying24 rfl (size24.of (rfl)) rfl rfl) rfl hm' (by decide) rfl) (SurvF.cons (fun B' g hg => (show Surv B' 35 g _ from Surv.old hg)) (SurvF.cons (fun B' g hg => (show Surv B' 35 g _ from Surv.old hg)) (SurvF.nil rfl))) ?_
 refine KofsK.pure ((16, _) :: _) rfl rfl (FromF.op 2 (by kernel_rfl) rfl rfl FromF.all) ((OpOk.le (d' := arrZ (zOwn 41 w₀.heap.size) false b) (ok_callB (ref_fn k' q') (fun _ _ h => arr_mono (own_monoT h)) (Args.cons rfl (by first | exact Le.refl _ | exact Le.old _ _ | exact arr_any | exact arr_ex | exact arrD_any | exact op_any | exact (Le.old _ _).trans arrD_any | exact (Le.old _ _).trans arr_any) Args.nil)) (Le.eq (by rw [hbq, hn', hL'])))) (SurvF.cons (fun B' g hg => (show Surv B' 35 g _ from Surv.arr (by intro h; first | exact absurd h.1 (by decide) | exact absurd h.1.1 (by decide) | exact absurd h.2 (by omega) | exact absurd h.1.2 (by omega) | exact absurd h.1.1.2 (by omega)))) (SurvF.cons (fun B' g hg => (show Surv B' 35 g _ from Surv.arr (by intro h; first | exact absurd h.1 (by decide) | exact absurd h.1.1 (by decide) | exact absurd h.2 (by omega) | exact absurd h.1.2 (by omega) | exact absurd h.1.1.2 (by omega)))) (SurvF.nil rfl))) ?_
 refine KofsK.alloc 0 rfl rfl rfl rfl zero35 rfl ?_
 refine KofsK.alloc 1 rfl rfl rfl rfl zero35 rfl ?_
 refine KofsK.store 0 ((15, _) :: _) rfl rfl rfl rfl (by kernel_rfl) (FromF.op 1 (by kernel_rfl) rfl rfl FromF.all) rfl (Le.refl _) size35 rfl (Agg.arr) ?_
 refine KofsK.store 1 ((17, _) :: _) rfl rfl rfl rfl (by kernel_rfl) (FromF.op 3 (by kernel_rfl) rfl rfl FromF.all) rfl (Le.refl _) size35 rfl (Agg.arr) ?_
 refine KofsK.nil ⟨by kernel_rfl, _, FromFW.all, fun bs hbs hds => ?_⟩
 have hb5 := hbs 0 (by simp)
 have hb6 := hbs 1 (by simp)
 have hne_b5_b6 := hds 0 1 (by simp) (by simp) (by decide)
 dsimp only [varEnvF]
 generalize bs 0 = b5 at *
 generalize bs (0 + 1) = b6 at *
 have hBb5 := hb5.1
 have hlt_b2_b5 : b2 < b5 := hb5.2.1 1000002 _ _ _ rfl
 have hlt_b3_b5 : b3 < b5 := hb5.2.1 1000003 _ _ _ rfl
 have hBb6 := hb6.1
 have hlt_b2_b6 : b2 < b6 := hb6.2.1 1000002 _ _ _ rfl
 have hlt_b3_b6 : b3 < b6 := hb6.2.1 1000003 _ _ _ rfl
 refine A.sub (Sv [5, 6, 1000002, 1000003, 1000005, 1000006, 1000201, 1000204] rfl) ?_
 refine A.regsF [⟨4, 7, 30, [.slice none 0 0] ++ [.slice none 0 0], 6, 2, arrZ (zOwn 41 w₀.heap.size) false a⟩, ⟨5, 8, 30, [.slice none 0 0] ++ [.slice none 0 0], 7, 2, arrZ (zOwn 41 w₀.heap.size) false b⟩] (by kernel_rfl) (by kernel_rfl) (by kernel_rfl) (SurvF.cons (SurvF.cons (fun B' g hg => (show Surv B' 30 g _ from Surv.arr (by intro h; first | exact absurd h.1 (by decide) | exact absurd h.1.1 (by decide) | exact absurd h.2 (by omega) | exact absurd h.1.2 (by omega) | exact absurd h.1.1.2 (by omega)))) (SurvF.cons (fun B' g hg => (show Surv B' 30 g _ from Surv.arr (by intro h; first | exact absurd h.1 (by decide) | exact absurd h.1.1 (by decide) | exact absurd h.2 (by omega) | exact absurd h.1.2 (by omega) | exact absurd h.1.1.2 (by omega)))) (SurvF.nil rfl))) (SurvF.cons (SurvF.cons (fun B' g hg => (show Surv B' 30 g _ from Surv.arr (by intro h; first | exact absurd h.1 (by decide) | exact absurd h.1.1 (by decide) | exact absurd h.2 (by omega) | exact absurd h.1.2 (by omega) | exact absurd h.1.1.2 (by omega)))) (SurvF.cons (fun B' g hg => (show Surv B' 30 g _ from Surv.arr (by intro h; first | exact absurd h.1 (by decide) | exact absurd h.1.1 (by decide) | exact absurd h.2 (by omega) | exact absurd h.1.2 (by omega) | exact absurd h.1.1.2 (by omega)))) (SurvF.nil rfl))) (SurvF.nil rfl))) ?_
 refine KofsK.pure (_) rfl rfl FromF.all (ok_loadVK (s := 1000005) (by decide) Try.underlying35 rfl size35 rfl rfl) (SurvF.cons (fun B' g hg => (show Surv B' 30 g _ from Surv.arr (by intro h; first | exact absurd h.1 (by decide) | exact absurd h.1.1 (by decide) | exact absurd h.2 (by omega) | exact absurd h.1.2 (by omega) | exact absurd h.1.1.2 (by omega)))) (SurvF.cons (fun B' g hg => (show Surv B' 30 g _ from Surv.arr (by intro h; first | exact absurd h.1 (by decide) | exact absurd h.1.1 (by decide) | exact absurd h.2 (by omega) | exact absurd h.1.2 (by omega) | exact absurd h.1.1.2 (by omega)))) (SurvF.nil rfl))) ?_
 refine KofsK.pure ((18, _) :: _) rfl rfl (FromF.op 0 (by kernel_rfl) rfl rfl FromF.all) (ok_callB (array_fn a (by rw [ha.1]; omega) (by rw [ha.2]; omega) (by rw [ha.1]; omega) (by rw [ha.2]; omega)) (fun _ _ h => arr_mono (own_monoT h)) (Args.cons rfl (by first | exact Le.refl _ | exact Le.old _ _ | exact arr_any | exact arr_ex | exact arrD_any | exact op_any | exact (Le.old _ _).trans arrD_any | exact (Le.old _ _).trans arr_any) Args.nil)) (SurvF.cons (fun B' g hg => (show Surv B' 30 g _ from Surv.arr (by intro h; first | exact absurd h.1 (by decide) | exact absurd h.1.1 (by decide) | exact absurd h.2 (by omega) | exact absurd h.1.2 (by omega) | exact absurd h.1.1.2 (by omega)))) (SurvF.cons (fun B' g hg => (show Surv B' 30 g _ from Surv.arr (by intro h; first | exact absurd h.1 (by decide) | exact absurd h.1.1 (by decide) | exact absurd h.2 (by omega) | exact absurd h.1.2 (by omega) | exact absurd h.1.1.2 (by omega)))) (SurvF.nil rfl))) ?_
 refine KofsK.pure (_) rfl rfl FromF.all (ok_loadVK (s := 1000006) (by decide) Try.underlying35 rfl size35 rfl rfl) (SurvF.cons (fun B' g hg => (show Surv B' 30 g _ from Surv.arr (by intro h; first | exact absurd h.1 (by decide) | exact absurd h.1.1 (by decide) | exact absurd h.2 (by omega) | exact absurd h.1.2 (by omega) | exact absurd h.1.1.2 (by omega)))) (SurvF.cons (fun B' g hg => (show Surv B' 30 g _ from Surv.arr (by intro h; first | exact absurd h.1 (by decide) | exact absurd h.1.1 (by decide) | exact absurd h.2 (by omega) | exact absurd h.1.2 (by omega) | exact absurd h.1.1.2 (by omega)))) (SurvF.nil rfl))) ?_
 refine KofsK.pure ((20, _) :: _) rfl rfl (FromF.op 2 (by kernel_rfl) rfl rfl FromF.all) (ok_callB (array_fn b (by rw [hb.1]; omega) (by rw [hb.2]; omega) (by rw [hb.1]; omega) (by rw [hb.2]; omega)) (fun _ _ h => arr_mono (own_monoT h)) (Args.cons rfl (by first | exact Le.refl _ | exact Le.old _ _ | exact arr_any | exact arr_ex | exact arrD_any | exact op_any | exact (Le.old _ _).trans arrD_any | exact (Le.old _ _).trans arr_any) Args.nil)) (SurvF.cons (fun B' g hg => (show Surv B' 30 g _ from Surv.arr (by intro h; first | exact absurd h.1 (by decide) | exact absurd h.1.1 (by decide) | exact absurd h.2 (by omega) | exact absurd h.1.2 (by omega) | exact absurd h.1.1.2 (by omega)))) (SurvF.cons (fun B' g hg => (show Surv B' 30 g _ from Surv.arr (by intro h; first | exact absurd h.1 (by decide) | exact absurd h.1.1 (by decide) | exact absurd h.2 (by omega) | exact absurd h.1.2 (by omega) | exact absurd h.1.1.2 (by omega)))) (SurvF.nil rfl))) ?_
 refine KofsK.alloc 0 rfl rfl rfl rfl zero30 rfl ?_
 refine KofsK.alloc 1 rfl rfl rfl rfl zero30 rfl ?_
 refine KofsK.store 0 ((19, _) :: _) rfl rfl rfl rfl (by kernel_rfl) (FromF.op 1 (by kernel_rfl) rfl rfl FromF.all) rfl (Le.refl _) size30 rfl (Agg.arr) ?_
 refine KofsK.store 1 ((21, _) :: _) rfl rfl rfl rfl (by kernel_rfl) (FromF.op 3 (by kernel_rfl) rfl rfl FromF.all) rfl (Le.refl _) size30 rfl (Agg.arr) ?_
 refine KofsK.nil ⟨by kernel_rfl, _, FromFW.all, fun bs hbs hds => ?_⟩
 have hb7 := hbs 0 (by simp)
 have hb8 := hbs 1 (by simp)
 have hne_b7_b8 := hds 0 1 (by simp) (by simp) (by decide)
 dsimp only [varEnvF]
 generalize bs 0 = b7 at *
 generalize bs (0 + 1) = b8 at *
 have hBb7 := hb7.1
 have hlt_b2_b7 : b2 < b7 := hb7.2.1 1000002 _ _ _ rfl
 have hlt_b3_b7 : b3 < b7 := hb7.2.1 1000003 _ _ _ rfl
 have hlt_b5_b7 : b5 < b7 := hb7.2.2 1000005 _ _ _ _ rfl
 have hlt_b6_b7 : b6 < b7 := hb7.2.2 1000006 _ _ _ _ rfl
 have hBb8 := hb8.1
 have hlt_b2_b8 : b2 < b8 := hb8.2.1 1000002 _ _ _ rfl
 have hlt_b3_b8 : b3 < b8 := hb8.2.1 1000003 _ _ _ rfl
 have hlt_b5_b8 : b5 < b8 := hb8.2.2 1000005 _ _ _ _ rfl
 have hlt_b6_b8 : b6 < b8 := hb8.2.2 1000006 _ _ _ _ rfl
 refine A.sub (Sv [5, 6, 7, 8, 1000002, 1000003, 1000005, 1000006, 1000007, 1000008, 1000201, 1000204] rfl) ?_
 refine A.seqTo [(5, .v (ptr b5)), (6, .v (ptr b6)), (7, .v (ptr b7)), (8, .v (ptr b8)), (1000005, varK b5 35 2 (arrZ (zOwn 41 w₀.heap.size) false a)), (1000006, varK b6 35 2 (arrZ (zOwn 41 w₀.heap.size) false b)), (1000007, varK b7 30 2 (arrZ (zOwn 41 w₀.heap.size) false a)), (1000008, varK b8 30 2 (arrZ (zOwn 41 w₀.heap.size) false b)), (9, .v (.bool (decide (a = b))))] ?_ ?_
 ·rcases Decidable.em (a.now = b.now) with hab | hab
  ·refine GTE ?_
   refine RS (ok_field field35_0 (by decide) rfl) ?_
   refine RS ((ok_loadA0 (s := 1000005) (by decide) Try.underlying28 rfl rfl rfl)) ?_
   refine RS (ok_field field35_0 (by decide) rfl) ?_
   refine RS ((ok_loadA0 (s := 1000006) (by decide) Try.underlying28 rfl rfl rfl)) ?_
   refine RS (ok_call (rSame_fn a.now b.now (by rw [ha.1]; omega)) (Args.cons rfl (sli_rowG) (Args.cons rfl (sli_rowG) Args.nil))) ?_; refine RZ (.bool true) (by rw [decide_eq_true hab]) ?_
   refine RM rfl ?_
   refine RQ (ok_field field35_1 (by decide) rfl) ?_
   refine RQ ((ok_loadA1 (s := 1000005) (by decide) Try.underlying28 rfl rfl rfl)) ?_
   refine RQ (ok_field field35_1 (by decide) rfl) ?_
   refine RQ ((ok_loadA1 (s := 1000006) (by decide) Try.underlying28 rfl rfl rfl)) ?_
   refine RQ (ok_call (rSame_fn a.dur b.dur (by rw [ha.2]; omega)) (Args.cons rfl (sli_rowG) (Args.cons rfl (sli_rowG) Args.nil))) ?_
   refine RVN 2 rfl ?_
   exact End.normal_then (End.toEnv (SubL.cons (t := 5) rfl (by first | exact Le.refl _ | exact Le.old _ _) (SubL.cons (t := 6) rfl (by first | exact Le.refl _ | exact Le.old _ _) (SubL.cons (t := 7) rfl (by first | exact Le.refl _ | exact Le.old _ _) (SubL.cons (t := 8) rfl (by first | exact Le.refl _ | exact Le.old _ _) (SubL.cons (t := 1000005) rfl (by first | exact Le.refl _ | exact Le.old _ _) (SubL.cons (t := 1000006) rfl (by first | exact Le.refl _ | exact Le.old _ _) (SubL.cons (t := 1000007) rfl (by first | exact Le.refl _ | exact Le.old _ _) (SubL.cons (t := 1000008) rfl (by first | exact Le.refl _ | exact Le.old _ _) (SubL.cons (t := 9) rfl (Le.v (congrArg Value.bool (decide_eq_decide.2 ⟨fun h => ar_ext hab h, fun h => congrArg Ar.dur h⟩))) SubL.nil))))))))))
  ·refine GTE ?_
   refine RS (ok_field field35_0 (by decide) rfl) ?_
   refine RS ((ok_loadA0 (s := 1000005) (by decide) Try.underlying28 rfl rfl rfl)) ?_
   refine RS (ok_field field35_0 (by decide) rfl) ?_
   refine RS ((ok_loadA0 (s := 1000006) (by decide) Try.underlying28 rfl rfl rfl)) ?_
   refine RS (ok_call (rSame_fn a.now b.now (by rw [ha.1]; omega)) (Args.cons rfl (sli_rowG) (Args.cons rfl (sli_rowG) Args.nil))) ?_; refine RZ (.bool false) (by rw [decide_eq_false hab]) ?_
   refine RVN 8 rfl ?_
   exact End.normal_then (End.toEnv (SubL.cons (t := 5) rfl (by first | exact Le.refl _ | exact Le.old _ _) (SubL.cons (t := 6) rfl (by first | exact Le.refl _ | exact Le.old _ _) (SubL.cons (t := 7) rfl (by first | exact Le.refl _ | exact Le.old _ _) (SubL.cons (t := 8) rfl (by first | exact Le.refl _ | exact Le.old _ _) (SubL.cons (t := 1000005) rfl (by first | exact Le.refl _ | exact Le.old _ _) (SubL.cons (t := 1000006) rfl (by first | exact Le.refl _ | exact Le.old _ _) (SubL.cons (t := 1000007) rfl (by first | exact Le.refl _ | exact Le.old _ _) (SubL.cons (t := 1000008) rfl (by first | exact Le.refl _ | exact Le.old _ _) (SubL.cons (t := 9) rfl (Le.v (congrArg Value.bool ((decide_eq_false (fun h => hab (congrArg Ar.now h))).symm))) SubL.nil))))))))))
 ·refine GT ?_
  refine RS (ok_loadVK (s := 1000007) (by decide) Try.underlying30 rfl size30 rfl rfl) ?_
  refine RS (ok_loadVK (s := 1000008) (by decide) Try.underlying30 rfl size30 rfl rfl) ?_
  refine RS (ok_call (Differ_n a b (chk_ok ha h1 (by omega)) (chk_ok hb h1' (by omega)) (by rw [ha.1, hb.1]; exact hnn)) (Args.cons rfl (by first | exact Le.refl _ | exact Le.old _ _ | exact arr_any | exact arr_ex | exact arrD_any | exact op_any | exact (Le.old _ _).trans arrD_any | exact (Le.old _ _).trans arr_any) (Args.cons rfl (by first | exact Le.refl _ | exact Le.old _ _ | exact arr_any | exact arr_ex | exact arrD_any | exact op_any | exact (Le.old _ _).trans arrD_any | exact (Le.old _ _).trans arr_any) Args.nil))) ?_
  refine RVN 5 rfl ?_
  refine QS ?_
  refine GT ?_
  refine RS (ok_loadVK (s := 1000007) (by decide) Try.underlying30 rfl size30 rfl rfl) ?_
  refine RS (ok_loadVK (s := 1000008) (by decide) Try.underlying30 rfl size30 rfl rfl) ?_
  refine RS (ok_call (Same_fn a b (by rw [ha.1]; omega) (by rw [ha.2]; omega)) (Args.cons rfl (by first | exact Le.refl _ | exact Le.old _ _ | exact arr_any | exact arr_ex | exact arrD_any | exact op_any | exact (Le.old _ _).trans arrD_any | exact (Le.old _ _).trans arr_any) (Args.cons rfl (by first | exact Le.refl _ | exact Le.old _ _ | exact arr_any | exact arr_ex | exact arrD_any | exact op_any | exact (Le.old _ _).trans arrD_any | exact (Le.old _ _).trans arr_any) Args.nil))) ?_
  refine RM rfl ?_
  refine RS (ok_neBool Try.underlying4 rfl rfl) ?_; refine RZ (.bool false) (by simp) ?_
  refine RM rfl ?_
  refine RQ (ok_loadVK (s := 1000008) (by decide) Try.underlying30 rfl size30 rfl rfl) ?_
  refine RQ (ok_loadVK (s := 1000007) (by decide) Try.underlying30 rfl size30 rfl rfl) ?_
  refine RQ (ok_call (Same_fn b a (by rw [hb.1]; omega) (by rw [hb.2]; omega)) (Args.cons rfl (by first | exact Le.refl _ | exact Le.old _ _ | exact arr_any | exact arr_ex | exact arrD_any | exact op_any | exact (Le.old _ _).trans arrD_any | exact (Le.old _ _).trans arr_any) (Args.cons rfl (by first | exact Le.refl _ | exact Le.old _ _ | exact arr_any | exact arr_ex | exact arrD_any | exact op_any | exact (Le.old _ _).trans arrD_any | exact (Le.old _ _).trans arr_any) Args.nil))) ?_
  refine RQ (ok_move rfl) ?_
  refine RQ (ok_neBool Try.underlying4 rfl rfl) ?_; refine RZ (.bool false) (by rw [show decide (b = a) = decide (a = b) from decide_eq_decide.2 ⟨Eq.symm, Eq.symm⟩]; simp) ?_
  refine RV 2 rfl ?_
  refine RQ (ok_loadVK (s := 1000007) (by decide) Try.underlying30 rfl size30 rfl rfl) ?_
  refine RQ (ok_loadVK (s := 1000007) (by decide) Try.underlying30 rfl size30 rfl rfl) ?_
  refine RQ (ok_call (Same_fn a a (by rw [ha.1]; omega) (by rw [ha.2]; omega)) (Args.cons rfl (by first | exact Le.refl _ | exact Le.old _ _ | exact arr_any | exact arr_ex | exact arrD_any | exact op_any | exact (Le.old _ _).trans arrD_any | exact (Le.old _ _).trans arr_any) (Args.cons rfl (by first | exact Le.refl _ | exact Le.old _ _ | exact arr_any | exact arr_ex | exact arrD_any | exact op_any | exact (Le.old _ _).trans arrD_any | exact (Le.old _ _).trans arr_any) Args.nil))) ?_; refine RZ (.bool true) (by simp) ?_
  refine RV 2 rfl ?_
  refine RF ?_
  refine RN ?_
  refine A.sub (Sv [5, 6, 10, 11, 57, 1000005, 1000006, 1000007, 1000008] rfl) ?_
  refine A.no rfl ?_
  refine QK ?_
  refine QS ?_
  refine GT ?_
  refine RS (ok_field field35_0 (by decide) rfl) ?_
  refine RS ((ok_loadA0 (s := 1000005) (by decide) Try.underlying28 rfl rfl rfl)) ?_
  refine RS (ok_lenRD Try.underlying28 rfl sli_rowD) ?_; refine RZ (nI (n)) (by rw [ha.1]) ?_
  refine RS (ok_field field35_0 (by decide) rfl) ?_
  refine RS ((ok_loadA0 (s := 1000006) (by decide) Try.underlying28 rfl rfl rfl)) ?_
  refine RS (ok_lenRD Try.underlying28 rfl sli_rowD) ?_; refine RZ (nI (n')) (by rw [hb.1]) ?_
  refine RB rfl rfl rfl ?_
  refine RT ?_
  refine RN ?_
  refine A.yes rfl ?_
  refine GT ?_
  refine RV 2 rfl ?_
  refine RT ?_
  refine RV 2 rfl ?_
  refine RQ (ok_lenV Try.underlying63 rfl) ?_
  refine RQ (ok_bin rfl rfl rfl) ?_
  refine RT ?_
  refine RV 2 rfl ?_
  refine RQ (ok_call (lives21_fn) Args.nil) ?_
  refine RVN 2 rfl ?_
  refine A.ret ?_
  refine End.ret_then ?_
  exact ER rfl rfl
set_option maxHeartbeats 16000000 in
theorem Differ_law_y (k : UInt8) (q : List Z3) (k' : UInt8) (q' : List Z3) (hne : nO k = nO k') : Fn Try.prog 6 [tlD [byteV k] (rowG false q.length (z3R q)), tlD [byteV k'] (rowG false q'.length (z3R q'))] (.v (.bool true)) := by
 refine Fn.of Try.func6 rfl (by kernel_rfl) Try.ntmps6 (by simp) (fun w => [(0, old w.heap.size (tlD [byteV k] (rowG false q.length (z3R q)))), (1, old w.heap.size (tlD [byteV k'] (rowG false q'.length (z3R q'))))]) (fun w => (Start.old rfl (Start.old rfl Start.nil))) fun w₀ => ?_
 refine A.nameTG (t := 0) (k := 1000201) rfl fun A₁ m hm => ?_
 obtain ⟨n, hn⟩ : ∃ n, n = nO k := ⟨_, rfl⟩
 obtain ⟨L, hL⟩ : ∃ L, L = opsO k q := ⟨_, rfl⟩
 have h1 : 1 ≤ n := hn ▸ (nO_le k).1
 have h2 : n ≤ 20 := hn ▸ (nO_le k).2
 have hl : L.length ≤ 30 := hL ▸ opsO_len k q
 have hz := zA_ok n
 refine A.nameTG (t := 1) (k := 1000204) rfl fun A₁' m' hm' => ?_
 obtain ⟨n', hn'⟩ : ∃ n, n = nO k' := ⟨_, rfl⟩
 obtain ⟨L', hL'⟩ : ∃ L, L = opsO k' q' := ⟨_, rfl⟩
 have h1' : 1 ≤ n' := hn' ▸ (nO_le k').1
 have h2' : n' ≤ 20 := hn' ▸ (nO_le k').2
 have hl' : L'.length ≤ 30 := hL' ▸ opsO_len k' q'
 have hz' := zA_ok n'
 obtain ⟨a, haq⟩ : ∃ a, a = runA (zA n) L := ⟨_, rfl⟩
 have ha : a.Ok n := haq ▸ run_ok hz
 obtain ⟨b, hbq⟩ : ∃ b, b = runA (zA n') L' := ⟨_, rfl⟩
 have hb : b.Ok n' := hbq ▸ run_ok hz'
 have hnn : n = n' := by rw [hn, hn']; exact hne
 have hla := ha.1
 have hlb := hb.1
 refine GS ?_
 refine TN 0 ?_
 refine RN ?_
 refine ZB 1000002 rfl fun b2 ⟨hBb2, hb2⟩ => ?_
 refine TN 1 ?_
 refine RN ?_
 refine ZB 1000003 rfl fun b3 ⟨hBb3, hb3⟩ => ?_
 have hlt_b2_b3 := hb3 1000002 b2 _ _ rfl
 refine TL ?_
 refine RVN 1 rfl ?_
 refine A.regsF [⟨4, 5, 35, [.slice none 0 0] ++ [.slice none 0 0], 6, 2, arrZ (zOwn 41 w₀.heap.size) false a⟩, ⟨5, 6, 35, [.slice none 0 0] ++ [.slice none 0 0], 7, 2, arrZ (zOwn 41 w₀.heap.size) false b⟩] (by kernel_rfl) (by kernel_rfl) (by kernel_rfl) (SurvF.cons (SurvF.cons (fun B' g hg => (show Surv B' 35 g _ from Surv.arr (by intro h; first | exact absurd h.1 (by decide) | exact absurd h.1.1 (by decide) | exact absurd h.2 (by omega) | exact absurd h.1.2 (by omega) | exact absurd h.1.1.2 (by omega)))) (SurvF.cons (fun B' g hg => (show Surv B' 35 g _ from Surv.arr (by intro h; first | exact absurd h.1 (by decide) | exact absurd h.1.1 (by decide) | exact absurd h.2 (by omega) | exact absurd h.1.2 (by omega) | exact absurd h.1.1.2 (by omega)))) (SurvF.nil rfl))) (SurvF.cons (SurvF.cons (fun B' g hg => (show Surv B' 35 g _ from Surv.arr (by intro h; first | exact absurd h.1 (by decide) | exact absurd h.1.1 (by decide) | exact absurd h.2 (by omega) | exact absurd h.1.2 (by omega) | exact absurd h.1.1.2 (by omega)))) (SurvF.cons (fun B' g hg => (show Surv B' 35 g _ from Surv.arr (by intro h; first | exact absurd h.1 (by decide) | exact absurd h.1.1 (by decide) | exact absurd h.2 (by omega) | exact absurd h.1.2 (by omega) | exact absurd h.1.1.2 (by omega)))) (SurvF.nil rfl))) (SurvF.nil rfl))) ?_
 refine KofsK.pure (_) rfl rfl FromF.all (OpOk.tgO (k₁ := 1000201) (pre := [byteV k]) (ok_loadA (s := 1000002) (by decide) Try.underlying24 rfl (size24.of (rfl)) rfl rfl) rfl hm (by decide) rfl) (SurvF.cons (fun B' g hg => (show Surv B' 35 g _ from Surv.old hg)) (SurvF.cons (fun B' g hg => (show Surv B' 35 g _ from Surv.old hg)) (SurvF.nil rfl))) ?_
 refine KofsK.pure ((14, _) :: _) rfl rfl (FromF.op 0 (by kernel_rfl) rfl rfl FromF.all) ((OpOk.le (d' := arrZ (zOwn 41 w₀.heap.size) false a) (ok_callB (ref_fn k q) (fun _ _ h => arr_mono (own_monoT h)) (Args.cons rfl (by first | exact Le.refl _ | exact Le.old _ _ | exact arr_any | exact arr_ex | exact arrD_any | exact op_any | exact (Le.old _ _).trans arrD_any | exact (Le.old _ _).trans arr_any) Args.nil)) (Le.eq (by rw [haq, hn, hL])))) (SurvF.cons (fun B' g hg => (show Surv B' 35 g _ from Surv.arr (by intro h; first | exact absurd h.1 (by decide) | exact absurd h.1.1 (by decide) | exact absurd h.2 (by omega) | exact absurd h.1.2 (by omega) | exact absurd h.1.1.2 (by omega)))) (SurvF.cons (fun B' g hg => (show Surv B' 35 g _ from Surv.arr (by intro h; first | exact absurd h.1 (by decide) | exact absurd h.1.1 (by decide) | exact absurd h.2 (by omega) | exact absurd h.1.2 (by omega) | exact absurd h.1.1.2 (by omega)))) (SurvF.nil rfl))) ?_
 refine KofsK.pure (_) rfl rfl FromF.all (OpOk.tgO (k₁ := 1000204) (pre := [byteV k']) (ok_loadA (s := 1000003) (by decide) Try.underlying24 rfl (size24.of (rfl)) rfl rfl) rfl hm' (by decide) rfl) (SurvF.cons (fun B' g hg => (show Surv B' 35 g _ from Surv.old hg)) (SurvF.cons (fun B' g hg => (show Surv B' 35 g _ from Surv.old hg)) (SurvF.nil rfl))) ?_
 refine KofsK.pure ((16, _) :: _) rfl rfl (FromF.op 2 (by kernel_rfl) rfl rfl FromF.all) ((OpOk.le (d' := arrZ (zOwn 41 w₀.heap.size) false b) (ok_callB (ref_fn k' q') (fun _ _ h => arr_mono (own_monoT h)) (Args.cons rfl (by first | exact Le.refl _ | exact Le.old _ _ | exact arr_any | exact arr_ex | exact arrD_any | exact op_any | exact (Le.old _ _).trans arrD_any | exact (Le.old _ _).trans arr_any) Args.nil)) (Le.eq (by rw [hbq, hn', hL'])))) (SurvF.cons (fun B' g hg => (show Surv B' 35 g _ from Surv.arr (by intro h; first | exact absurd h.1 (by decide) | exact absurd h.1.1 (by decide) | exact absurd h.2 (by omega) | exact absurd h.1.2 (by omega) | exact absurd h.1.1.2 (by omega)))) (SurvF.cons (fun B' g hg => (show Surv B' 35 g _ from Surv.arr (by intro h; first | exact absurd h.1 (by decide) | exact absurd h.1.1 (by decide) | exact absurd h.2 (by omega) | exact absurd h.1.2 (by omega) | exact absurd h.1.1.2 (by omega)))) (SurvF.nil rfl))) ?_
 refine KofsK.alloc 0 rfl rfl rfl rfl zero35 rfl ?_
 refine KofsK.alloc 1 rfl rfl rfl rfl zero35 rfl ?_
 refine KofsK.store 0 ((15, _) :: _) rfl rfl rfl rfl (by kernel_rfl) (FromF.op 1 (by kernel_rfl) rfl rfl FromF.all) rfl (Le.refl _) size35 rfl (Agg.arr) ?_
 refine KofsK.store 1 ((17, _) :: _) rfl rfl rfl rfl (by kernel_rfl) (FromF.op 3 (by kernel_rfl) rfl rfl FromF.all) rfl (Le.refl _) size35 rfl (Agg.arr) ?_
 refine KofsK.nil ⟨by kernel_rfl, _, FromFW.all, fun bs hbs hds => ?_⟩
 have hb5 := hbs 0 (by simp)
 have hb6 := hbs 1 (by simp)
 have hne_b5_b6 := hds 0 1 (by simp) (by simp) (by decide)
 dsimp only [varEnvF]
 generalize bs 0 = b5 at *
 generalize bs (0 + 1) = b6 at *
 have hBb5 := hb5.1
 have hlt_b2_b5 : b2 < b5 := hb5.2.1 1000002 _ _ _ rfl
 have hlt_b3_b5 : b3 < b5 := hb5.2.1 1000003 _ _ _ rfl
 have hBb6 := hb6.1
 have hlt_b2_b6 : b2 < b6 := hb6.2.1 1000002 _ _ _ rfl
 have hlt_b3_b6 : b3 < b6 := hb6.2.1 1000003 _ _ _ rfl
 refine A.sub (Sv [5, 6, 1000002, 1000003, 1000005, 1000006, 1000201, 1000204] rfl) ?_
 refine A.regsF [⟨4, 7, 30, [.slice none 0 0] ++ [.slice none 0 0], 6, 2, arrZ (zOwn 41 w₀.heap.size) false a⟩, ⟨5, 8, 30, [.slice none 0 0] ++ [.slice none 0 0], 7, 2, arrZ (zOwn 41 w₀.heap.size) false b⟩] (by kernel_rfl) (by kernel_rfl) (by kernel_rfl) (SurvF.cons (SurvF.cons (fun B' g hg => (show Surv B' 30 g _ from Surv.arr (by intro h; first | exact absurd h.1 (by decide) | exact absurd h.1.1 (by decide) | exact absurd h.2 (by omega) | exact absurd h.1.2 (by omega) | exact absurd h.1.1.2 (by omega)))) (SurvF.cons (fun B' g hg => (show Surv B' 30 g _ from Surv.arr (by intro h; first | exact absurd h.1 (by decide) | exact absurd h.1.1 (by decide) | exact absurd h.2 (by omega) | exact absurd h.1.2 (by omega) | exact absurd h.1.1.2 (by omega)))) (SurvF.nil rfl))) (SurvF.cons (SurvF.cons (fun B' g hg => (show Surv B' 30 g _ from Surv.arr (by intro h; first | exact absurd h.1 (by decide) | exact absurd h.1.1 (by decide) | exact absurd h.2 (by omega) | exact absurd h.1.2 (by omega) | exact absurd h.1.1.2 (by omega)))) (SurvF.cons (fun B' g hg => (show Surv B' 30 g _ from Surv.arr (by intro h; first | exact absurd h.1 (by decide) | exact absurd h.1.1 (by decide) | exact absurd h.2 (by omega) | exact absurd h.1.2 (by omega) | exact absurd h.1.1.2 (by omega)))) (SurvF.nil rfl))) (SurvF.nil rfl))) ?_
 refine KofsK.pure (_) rfl rfl FromF.all (ok_loadVK (s := 1000005) (by decide) Try.underlying35 rfl size35 rfl rfl) (SurvF.cons (fun B' g hg => (show Surv B' 30 g _ from Surv.arr (by intro h; first | exact absurd h.1 (by decide) | exact absurd h.1.1 (by decide) | exact absurd h.2 (by omega) | exact absurd h.1.2 (by omega) | exact absurd h.1.1.2 (by omega)))) (SurvF.cons (fun B' g hg => (show Surv B' 30 g _ from Surv.arr (by intro h; first | exact absurd h.1 (by decide) | exact absurd h.1.1 (by decide) | exact absurd h.2 (by omega) | exact absurd h.1.2 (by omega) | exact absurd h.1.1.2 (by omega)))) (SurvF.nil rfl))) ?_
 refine KofsK.pure ((18, _) :: _) rfl rfl (FromF.op 0 (by kernel_rfl) rfl rfl FromF.all) (ok_callB (array_fn a (by rw [ha.1]; omega) (by rw [ha.2]; omega) (by rw [ha.1]; omega) (by rw [ha.2]; omega)) (fun _ _ h => arr_mono (own_monoT h)) (Args.cons rfl (by first | exact Le.refl _ | exact Le.old _ _ | exact arr_any | exact arr_ex | exact arrD_any | exact op_any | exact (Le.old _ _).trans arrD_any | exact (Le.old _ _).trans arr_any) Args.nil)) (SurvF.cons (fun B' g hg => (show Surv B' 30 g _ from Surv.arr (by intro h; first | exact absurd h.1 (by decide) | exact absurd h.1.1 (by decide) | exact absurd h.2 (by omega) | exact absurd h.1.2 (by omega) | exact absurd h.1.1.2 (by omega)))) (SurvF.cons (fun B' g hg => (show Surv B' 30 g _ from Surv.arr (by intro h; first | exact absurd h.1 (by decide) | exact absurd h.1.1 (by decide) | exact absurd h.2 (by omega) | exact absurd h.1.2 (by omega) | exact absurd h.1.1.2 (by omega)))) (SurvF.nil rfl))) ?_
 refine KofsK.pure (_) rfl rfl FromF.all (ok_loadVK (s := 1000006) (by decide) Try.underlying35 rfl size35 rfl rfl) (SurvF.cons (fun B' g hg => (show Surv B' 30 g _ from Surv.arr (by intro h; first | exact absurd h.1 (by decide) | exact absurd h.1.1 (by decide) | exact absurd h.2 (by omega) | exact absurd h.1.2 (by omega) | exact absurd h.1.1.2 (by omega)))) (SurvF.cons (fun B' g hg => (show Surv B' 30 g _ from Surv.arr (by intro h; first | exact absurd h.1 (by decide) | exact absurd h.1.1 (by decide) | exact absurd h.2 (by omega) | exact absurd h.1.2 (by omega) | exact absurd h.1.1.2 (by omega)))) (SurvF.nil rfl))) ?_
 refine KofsK.pure ((20, _) :: _) rfl rfl (FromF.op 2 (by kernel_rfl) rfl rfl FromF.all) (ok_callB (array_fn b (by rw [hb.1]; omega) (by rw [hb.2]; omega) (by rw [hb.1]; omega) (by rw [hb.2]; omega)) (fun _ _ h => arr_mono (own_monoT h)) (Args.cons rfl (by first | exact Le.refl _ | exact Le.old _ _ | exact arr_any | exact arr_ex | exact arrD_any | exact op_any | exact (Le.old _ _).trans arrD_any | exact (Le.old _ _).trans arr_any) Args.nil)) (SurvF.cons (fun B' g hg => (show Surv B' 30 g _ from Surv.arr (by intro h; first | exact absurd h.1 (by decide) | exact absurd h.1.1 (by decide) | exact absurd h.2 (by omega) | exact absurd h.1.2 (by omega) | exact absurd h.1.1.2 (by omega)))) (SurvF.cons (fun B' g hg => (show Surv B' 30 g _ from Surv.arr (by intro h; first | exact absurd h.1 (by decide) | exact absurd h.1.1 (by decide) | exact absurd h.2 (by omega) | exact absurd h.1.2 (by omega) | exact absurd h.1.1.2 (by omega)))) (SurvF.nil rfl))) ?_
 refine KofsK.alloc 0 rfl rfl rfl rfl zero30 rfl ?_
 refine KofsK.alloc 1 rfl rfl rfl rfl zero30 rfl ?_
 refine KofsK.store 0 ((19, _) :: _) rfl rfl rfl rfl (by kernel_rfl) (FromF.op 1 (by kernel_rfl) rfl rfl FromF.all) rfl (Le.refl _) size30 rfl (Agg.arr) ?_
 refine KofsK.store 1 ((21, _) :: _) rfl rfl rfl rfl (by kernel_rfl) (FromF.op 3 (by kernel_rfl) rfl rfl FromF.all) rfl (Le.refl _) size30 rfl (Agg.arr) ?_
 refine KofsK.nil ⟨by kernel_rfl, _, FromFW.all, fun bs hbs hds => ?_⟩
 have hb7 := hbs 0 (by simp)
 have hb8 := hbs 1 (by simp)
 have hne_b7_b8 := hds 0 1 (by simp) (by simp) (by decide)
 dsimp only [varEnvF]
 generalize bs 0 = b7 at *
 generalize bs (0 + 1) = b8 at *
 have hBb7 := hb7.1
 have hlt_b2_b7 : b2 < b7 := hb7.2.1 1000002 _ _ _ rfl
 have hlt_b3_b7 : b3 < b7 := hb7.2.1 1000003 _ _ _ rfl
 have hlt_b5_b7 : b5 < b7 := hb7.2.2 1000005 _ _ _ _ rfl
 have hlt_b6_b7 : b6 < b7 := hb7.2.2 1000006 _ _ _ _ rfl
 have hBb8 := hb8.1
 have hlt_b2_b8 : b2 < b8 := hb8.2.1 1000002 _ _ _ rfl
 have hlt_b3_b8 : b3 < b8 := hb8.2.1 1000003 _ _ _ rfl
 have hlt_b5_b8 : b5 < b8 := hb8.2.2 1000005 _ _ _ _ rfl
 have hlt_b6_b8 : b6 < b8 := hb8.2.2 1000006 _ _ _ _ rfl
 refine A.sub (Sv [5, 6, 7, 8, 1000002, 1000003, 1000005, 1000006, 1000007, 1000008, 1000201, 1000204] rfl) ?_
 refine A.seqTo [(5, .v (ptr b5)), (6, .v (ptr b6)), (7, .v (ptr b7)), (8, .v (ptr b8)), (1000005, varK b5 35 2 (arrZ (zOwn 41 w₀.heap.size) false a)), (1000006, varK b6 35 2 (arrZ (zOwn 41 w₀.heap.size) false b)), (1000007, varK b7 30 2 (arrZ (zOwn 41 w₀.heap.size) false a)), (1000008, varK b8 30 2 (arrZ (zOwn 41 w₀.heap.size) false b)), (9, .v (.bool (decide (a = b))))] ?_ ?_
 ·rcases Decidable.em (a.now = b.now) with hab | hab
  ·refine GTE ?_
   refine RS (ok_field field35_0 (by decide) rfl) ?_
   refine RS ((ok_loadA0 (s := 1000005) (by decide) Try.underlying28 rfl rfl rfl)) ?_
   refine RS (ok_field field35_0 (by decide) rfl) ?_
   refine RS ((ok_loadA0 (s := 1000006) (by decide) Try.underlying28 rfl rfl rfl)) ?_
   refine RS (ok_call (rSame_fn a.now b.now (by rw [ha.1]; omega)) (Args.cons rfl (sli_rowG) (Args.cons rfl (sli_rowG) Args.nil))) ?_; refine RZ (.bool true) (by rw [decide_eq_true hab]) ?_
   refine RM rfl ?_
   refine RQ (ok_field field35_1 (by decide) rfl) ?_
   refine RQ ((ok_loadA1 (s := 1000005) (by decide) Try.underlying28 rfl rfl rfl)) ?_
   refine RQ (ok_field field35_1 (by decide) rfl) ?_
   refine RQ ((ok_loadA1 (s := 1000006) (by decide) Try.underlying28 rfl rfl rfl)) ?_
   refine RQ (ok_call (rSame_fn a.dur b.dur (by rw [ha.2]; omega)) (Args.cons rfl (sli_rowG) (Args.cons rfl (sli_rowG) Args.nil))) ?_
   refine RVN 2 rfl ?_
   exact End.normal_then (End.toEnv (SubL.cons (t := 5) rfl (by first | exact Le.refl _ | exact Le.old _ _) (SubL.cons (t := 6) rfl (by first | exact Le.refl _ | exact Le.old _ _) (SubL.cons (t := 7) rfl (by first | exact Le.refl _ | exact Le.old _ _) (SubL.cons (t := 8) rfl (by first | exact Le.refl _ | exact Le.old _ _) (SubL.cons (t := 1000005) rfl (by first | exact Le.refl _ | exact Le.old _ _) (SubL.cons (t := 1000006) rfl (by first | exact Le.refl _ | exact Le.old _ _) (SubL.cons (t := 1000007) rfl (by first | exact Le.refl _ | exact Le.old _ _) (SubL.cons (t := 1000008) rfl (by first | exact Le.refl _ | exact Le.old _ _) (SubL.cons (t := 9) rfl (Le.v (congrArg Value.bool (decide_eq_decide.2 ⟨fun h => ar_ext hab h, fun h => congrArg Ar.dur h⟩))) SubL.nil))))))))))
  ·refine GTE ?_
   refine RS (ok_field field35_0 (by decide) rfl) ?_
   refine RS ((ok_loadA0 (s := 1000005) (by decide) Try.underlying28 rfl rfl rfl)) ?_
   refine RS (ok_field field35_0 (by decide) rfl) ?_
   refine RS ((ok_loadA0 (s := 1000006) (by decide) Try.underlying28 rfl rfl rfl)) ?_
   refine RS (ok_call (rSame_fn a.now b.now (by rw [ha.1]; omega)) (Args.cons rfl (sli_rowG) (Args.cons rfl (sli_rowG) Args.nil))) ?_; refine RZ (.bool false) (by rw [decide_eq_false hab]) ?_
   refine RVN 8 rfl ?_
   exact End.normal_then (End.toEnv (SubL.cons (t := 5) rfl (by first | exact Le.refl _ | exact Le.old _ _) (SubL.cons (t := 6) rfl (by first | exact Le.refl _ | exact Le.old _ _) (SubL.cons (t := 7) rfl (by first | exact Le.refl _ | exact Le.old _ _) (SubL.cons (t := 8) rfl (by first | exact Le.refl _ | exact Le.old _ _) (SubL.cons (t := 1000005) rfl (by first | exact Le.refl _ | exact Le.old _ _) (SubL.cons (t := 1000006) rfl (by first | exact Le.refl _ | exact Le.old _ _) (SubL.cons (t := 1000007) rfl (by first | exact Le.refl _ | exact Le.old _ _) (SubL.cons (t := 1000008) rfl (by first | exact Le.refl _ | exact Le.old _ _) (SubL.cons (t := 9) rfl (Le.v (congrArg Value.bool ((decide_eq_false (fun h => hab (congrArg Ar.now h))).symm))) SubL.nil))))))))))
 ·refine GT ?_
  refine RS (ok_loadVK (s := 1000007) (by decide) Try.underlying30 rfl size30 rfl rfl) ?_
  refine RS (ok_loadVK (s := 1000008) (by decide) Try.underlying30 rfl size30 rfl rfl) ?_
  refine RS (ok_call (Differ_ok a b (chk_ok ha h1 (by omega)) (chk_ok hb h1' (by omega)) (by rw [ha.1, hb.1]; exact hnn) (by rw [ha.1]; omega)) (Args.cons rfl (by first | exact Le.refl _ | exact Le.old _ _ | exact arr_any | exact arr_ex | exact arrD_any | exact op_any | exact (Le.old _ _).trans arrD_any | exact (Le.old _ _).trans arr_any) (Args.cons rfl (by first | exact Le.refl _ | exact Le.old _ _ | exact arr_any | exact arr_ex | exact arrD_any | exact op_any | exact (Le.old _ _).trans arrD_any | exact (Le.old _ _).trans arr_any) Args.nil))) ?_
  refine RM rfl ?_
  refine RS (ok_extract rfl rfl) ?_
  refine RS (ok_extract rfl rfl) ?_
  refine RVN 2 rfl ?_
  refine QS ?_
  refine GT ?_
  refine RS (ok_loadVK (s := 1000007) (by decide) Try.underlying30 rfl size30 rfl rfl) ?_
  refine RS (ok_loadVK (s := 1000008) (by decide) Try.underlying30 rfl size30 rfl rfl) ?_
  refine RS (ok_call (Same_fn a b (by rw [ha.1]; omega) (by rw [ha.2]; omega)) (Args.cons rfl (by first | exact Le.refl _ | exact Le.old _ _ | exact arr_any | exact arr_ex | exact arrD_any | exact op_any | exact (Le.old _ _).trans arrD_any | exact (Le.old _ _).trans arr_any) (Args.cons rfl (by first | exact Le.refl _ | exact Le.old _ _ | exact arr_any | exact arr_ex | exact arrD_any | exact op_any | exact (Le.old _ _).trans arrD_any | exact (Le.old _ _).trans arr_any) Args.nil))) ?_
  refine RM rfl ?_
  refine RS (ok_neBool Try.underlying4 rfl rfl) ?_; refine RZ (.bool false) (by simp) ?_
  refine RM rfl ?_
  refine RQ (ok_loadVK (s := 1000008) (by decide) Try.underlying30 rfl size30 rfl rfl) ?_
  refine RQ (ok_loadVK (s := 1000007) (by decide) Try.underlying30 rfl size30 rfl rfl) ?_
  refine RQ (ok_call (Same_fn b a (by rw [hb.1]; omega) (by rw [hb.2]; omega)) (Args.cons rfl (by first | exact Le.refl _ | exact Le.old _ _ | exact arr_any | exact arr_ex | exact arrD_any | exact op_any | exact (Le.old _ _).trans arrD_any | exact (Le.old _ _).trans arr_any) (Args.cons rfl (by first | exact Le.refl _ | exact Le.old _ _ | exact arr_any | exact arr_ex | exact arrD_any | exact op_any | exact (Le.old _ _).trans arrD_any | exact (Le.old _ _).trans arr_any) Args.nil))) ?_
  refine RQ (ok_move rfl) ?_
  refine RQ (ok_neBool Try.underlying4 rfl rfl) ?_; refine RZ (.bool false) (by rw [show decide (b = a) = decide (a = b) from decide_eq_decide.2 ⟨Eq.symm, Eq.symm⟩]; simp) ?_
  refine RV 2 rfl ?_
  refine RQ (ok_loadVK (s := 1000007) (by decide) Try.underlying30 rfl size30 rfl rfl) ?_
  refine RQ (ok_loadVK (s := 1000007) (by decide) Try.underlying30 rfl size30 rfl rfl) ?_
  refine RQ (ok_call (Same_fn a a (by rw [ha.1]; omega) (by rw [ha.2]; omega)) (Args.cons rfl (by first | exact Le.refl _ | exact Le.old _ _ | exact arr_any | exact arr_ex | exact arrD_any | exact op_any | exact (Le.old _ _).trans arrD_any | exact (Le.old _ _).trans arr_any) (Args.cons rfl (by first | exact Le.refl _ | exact Le.old _ _ | exact arr_any | exact arr_ex | exact arrD_any | exact op_any | exact (Le.old _ _).trans arrD_any | exact (Le.old _ _).trans arr_any) Args.nil))) ?_; refine RZ (.bool true) (by simp) ?_
  refine RV 2 rfl ?_
  refine RF ?_
  refine RN ?_
  refine A.sub (Sv [5, 6, 10, 11, 57, 1000005, 1000006, 1000007, 1000008] rfl) ?_
  refine A.no rfl ?_
  refine QK ?_
  refine QS ?_
  refine GT ?_
  refine RS (ok_field field35_0 (by decide) rfl) ?_
  refine RS ((ok_loadA0 (s := 1000005) (by decide) Try.underlying28 rfl rfl rfl)) ?_
  refine RS (ok_lenRD Try.underlying28 rfl sli_rowD) ?_; refine RZ (nI (n)) (by rw [ha.1]) ?_
  refine RS (ok_field field35_0 (by decide) rfl) ?_
  refine RS ((ok_loadA0 (s := 1000006) (by decide) Try.underlying28 rfl rfl rfl)) ?_
  refine RS (ok_lenRD Try.underlying28 rfl sli_rowD) ?_; refine RZ (nI (n')) (by rw [hb.1]) ?_
  refine RB rfl rfl rfl ?_
  refine RF ?_
  refine RN ?_
  refine A.no rfl ?_
  refine QK ?_
  refine GV rfl ?_
  refine QS ?_
  refine GV rfl ?_
  refine A.block ?_
  refine A.loop (ι := Nat) (fun i => i ≤ a.now.length) (fun i => [(5, .v (ptr b5)), (6, .v (ptr b6)), (10, rowG true (difP a.now b.now a.now.length).length ((difP a.now b.now a.now.length).map (fun k : Nat => nI k))), (11, .v (nI (0))), (12, .v (nI ((difP a.now b.now i).length))), (13, .v (nI (i))), (1000005, varK b5 35 2 (arrZ (zOwn 41 w₀.heap.size) false a)), (1000006, varK b6 35 2 (arrZ (zOwn 41 w₀.heap.size) false b))]) (fun i => a.now.length - i) 0 ?_ ?_ ?_
  ·exact Nat.zero_le _
  ·exact (KC 5 rfl (KC 6 rfl (KC 10 rfl (KC 11 rfl (KE 12 rfl (by rfl) (KE 13 rfl (by rfl) (KC 1000005 rfl (KC 1000006 rfl KN))))))))
  intro i hG
  refine QS ?_
  refine GT ?_
  refine RM rfl ?_
  refine RS (ok_field field35_0 (by decide) rfl) ?_
  refine RS ((ok_loadA0 (s := 1000005) (by decide) Try.underlying28 rfl rfl rfl)) ?_
  refine RS (ok_lenRD Try.underlying28 rfl sli_rowD) ?_
  refine RVN 1 rfl ?_
  refine A.cond rfl (fun hc79 => ?_) (fun hc79 => ?_)
  ·have hlt : i < a.now.length := by simp at hc79; omega
   refine QK ?_
   refine QSB ?_
   refine GTD ?_
   refine RS (ok_field field35_0 (by decide) rfl) ?_
   refine RS ((ok_loadA0 (s := 1000005) (by decide) Try.underlying28 rfl rfl rfl)) ?_
   refine RM rfl ?_
   refine RS ((ok_indexRD i Try.underlying28 infoB rfl sli_rowD rfl (by omega) (by rw [bks_len]; omega))) ?_
   refine RS (ok_loadElemT 32 Try.underlying41 rfl size41 (by rw [bks_at (by omega), bk_len]; exact Nat.le_refl _) rfl) ?_; refine RZ (aggV (bkV (bkAt a.now i))) (congrArg aggV (by rw [bks_at (by omega)]; exact List.take_of_length_le (Nat.le_of_eq (bk_len _)))) ?_
   refine RS (ok_field field35_0 (by decide) rfl) ?_
   refine RS ((ok_loadA0 (s := 1000006) (by decide) Try.underlying28 rfl rfl rfl)) ?_
   refine RM rfl ?_
   refine RS ((ok_indexRD i Try.underlying28 infoB rfl sli_rowD rfl (by omega) (by rw [bks_len]; omega))) ?_
   refine RS (ok_loadElemT 32 Try.underlying41 rfl size41 (by rw [bks_at (by omega), bk_len]; exact Nat.le_refl _) rfl) ?_; refine RZ (aggV (bkV (bkAt b.now i))) (congrArg aggV (by rw [bks_at (by omega)]; exact List.take_of_length_le (Nat.le_of_eq (bk_len _)))) ?_
   refine RS (ok_neqT (n := 4) (decide (bkAt a.now i = bkAt b.now i)) flat41 (by decide) (by kernel_rfl) (by kernel_rfl) rfl rfl (kinBk _) (kinBk _) (by rw [decide_eq_true_iff]; exact ⟨fun h => congrArg bkV h, bk_inj⟩)) ?_
   refine RN ?_
   refine A.cond rfl (fun hc92 => ?_) (fun hc92 => ?_)
   ·have hnq : bkAt a.now i ≠ bkAt b.now i := by simpa using hc92
    have hda := dif_at hlt hnq
    refine QS ?_
    refine GT ?_
    refine RV 2 rfl ?_
    refine RS (ok_lenRD Try.underlying63 rfl rowG_rowD) ?_
    refine RB rfl rfl rfl ?_
    refine RZ (.bool false) (by have := hda.1; simp; omega) ?_
    refine RV 3 rfl ?_
    refine RQ ((ok_indexRD (difP a.now b.now i).length Try.underlying63 infoI rfl rowG_rowD rfl hda.1 (by rw [List.length_map]; omega))) ?_
    refine RQ (ok_loadP1 (u := nI i) (us := []) Try.underlying3 rfl (by show some (elemP _) = _; rw [nat_at hda.2])) ?_
    refine RV 2 rfl ?_
    refine RZ (.bool false) (by simp) ?_
    refine RVN 1 rfl ?_
    refine A.sub (Sv [5, 6, 10, 11, 12, 13, 104, 1000005, 1000006] rfl) ?_
    refine A.no rfl ?_
    refine QK ?_
    refine GTE ?_
    refine RV 2 rfl ?_
    refine RZ (nI ((difP a.now b.now i).length + 1)) (wrap_eq (by omega) (by have := dif_le (x := a.now) (y := b.now) (i := i); omega)) ?_
    refine RVN 1 rfl ?_
    refine End.normal_block ?_
    refine EN ?_
    refine GTE ?_
    refine RV 2 rfl ?_
    refine RZ (nI (i + 1)) (wrap_eq (by omega) (by omega)) ?_
    refine RVN 1 rfl ?_
    refine End.normal_then ?_
    refine End.again (i + 1) ?_ ?_ ?_
    ·show _ ≤ _; omega
    ·show _ - _ < _ - _; omega
    ·exact (KC 5 rfl (KC 6 rfl (KC 10 rfl (KC 11 rfl (KE 12 rfl (by first | rw [dif_no heq] | (rw [dif_yes hnq]; simp)) (KC 13 rfl (KC 1000005 rfl (KC 1000006 rfl KN))))))))
   ·have heq : bkAt a.now i = bkAt b.now i := by simpa using hc92
    refine A.skip ?_
    refine End.normal_block ?_
    refine EN ?_
    refine GTE ?_
    refine RV 2 rfl ?_
    refine RZ (nI (i + 1)) (wrap_eq (by omega) (by omega)) ?_
    refine RVN 1 rfl ?_
    refine End.normal_then ?_
    refine End.again (i + 1) ?_ ?_ ?_
    ·show _ ≤ _; omega
    ·show _ - _ < _ - _; omega
    ·exact (KC 5 rfl (KC 6 rfl (KC 10 rfl (KC 11 rfl (KE 12 rfl (by first | rw [dif_no heq] | (rw [dif_yes hnq]; simp)) (KC 13 rfl (KC 1000005 rfl (KC 1000006 rfl KN))))))))
  ·have hge : i = a.now.length := by simp at hc79; omega
   refine A.exit ?_
   refine End.exit_then ?_
   refine End.exit_then ?_
   refine End.exit_here ?_
   refine EN ?_
   subst hge
   refine GT ?_
   refine RV 2 rfl ?_
   refine RT ?_
   refine RV 3 rfl ?_
   refine RQ (ok_lenRD Try.underlying63 rfl rowG_rowD) ?_
   refine RQ (ok_bin rfl rfl rfl) ?_
   refine RT ?_
   refine RV 3 rfl ?_
   refine RQ (ok_capG Try.underlying63 rfl (Le.refl _)) ?_
   refine RQ (ok_move rfl) ?_
   refine RQ (ok_lenRD Try.underlying63 rfl rowG_rowD) ?_
   refine RQ (ok_bin rfl rfl rfl) ?_
   refine RT ?_
   refine RV 2 rfl ?_
   refine RQ (ok_call (lives21_fn) Args.nil) ?_
   refine RVN 2 rfl ?_
   refine A.ret ?_
   exact ER rfl rfl
theorem Differ_law (k : UInt8) (q : List Z3) (k' : UInt8) (q' : List Z3) : Fn Try.prog 6 [tlD [byteV k] (rowG false q.length (z3R q)), tlD [byteV k'] (rowG false q'.length (z3R q'))] (.v (.bool true)) := by
 by_cases h : nO k = nO k'
 ·exact Differ_law_y k q k' q' h
 ·exact Differ_law_n k q k' q' h
end Go.Proofs.Ytggijkmlmklneaa
namespace Go.Proofs.Ytggijkmlmklneaa
open Go Go.RowKit
set_option linter.unusedVariables false
set_option maxRecDepth 20000
set_option linter.unusedSimpArgs false
theorem nil_arr {Z : TypeId → Nat → Prop} {ex : Bool} : Le (.v (aggV [.slice none 0 0, .slice none 0 0])) (arrZ Z ex (zA 0)) := fun B w x hx => ⟨_, _, hx, ⟨none, 0, rfl, Nat.le_refl _, fun _ => rfl, fun j u hu => by cases hu⟩, ⟨none, 0, rfl, Nat.le_refl _, fun _ => rfl, fun j u hu => by cases hu⟩⟩
def nw (m : Int) : Nat := if 1 ≤ m ∧ m ≤ 4096 then m.toNat else 0
def nE (m : Int) : Int := if 1 ≤ m ∧ m ≤ 4096 then 0 else 1
def kop (i : Nat) : OpA := ⟨2, (16 * (i % 256) : Nat), (plain (UInt8.ofNat i)).1⟩
def kops (n : Nat) : List OpA := (List.range n).map kop
theorem kops_len (n : Nat) : (kops n).length = n := by simp [kops]
theorem kops_succ (n : Nat) : kops n ++ [kop n] = kops (n + 1) := by unfold kops; rw [List.range_succ, List.map_append]; rfl
theorem kops_take {m n : Nat} (h : m ≤ n) : (kops n).take m = kops m := by unfold kops; rw [← List.map_take, List.take_range, Nat.min_eq_left h]
theorem run_app {a : Ar} {L L' : List OpA} : runA a (L ++ L') = runA (runA a L) L' := by unfold runA; rw [List.foldl_append]
theorem run_one {a : Ar} {o : OpA} : runA a [o] = (stepA a o).1 := rfl
theorem known_at : bkAt (runA (zA 4096) (kops 256)).now 4080 = plain 255 := by
 have hz := run_ok (L := kops 255) (zA_ok 4096)
 rw [show kops 256 = kops 255 ++ [kop 255] from (kops_succ 255).symm, run_app, run_one]
 generalize runA (zA 4096) (kops 255) = a at hz
 have hk : (kop 255).k.toNat = 2 := rfl
 have hi : (kop 255).i = 4080 := rfl
 have hd : (kop 255).d.length = 32 := (plain _).2
 rw [step_write (by rw [hz.1]; unfold badA; rw [hk, hi, hd]; decide) hk, hi]
 show bkAt (a.now.set 4080 (mkB (kop 255).d)) 4080 = _
 rw [bkAt_set (by rw [hz.1]; decide)]
 exact bk_inj (mkB_v hd)

theorem zCut_any {Z : TypeId → Nat → Prop} {hi : Nat} : ∀ e b, zCut Z hi e b → Z e b := zCut_le
theorem New_badB (m : Int) (h : ¬ (1 ≤ m ∧ m ≤ 4096)) : FnB Try.prog 9 [.v (.int .i64 (m))] (fun B => tup [arrZ (zOwn 41 B) true (zA 0), .v (nI (1))]) := by
 refine FnB.of Try.func9 rfl (by kernel_rfl) Try.ntmps9 (by simp) (fun w => [(0, .v (.int .i64 (m)))]) (fun w => (Start.v rfl Start.nil)) fun w₀ => ?_
 refine GS ?_
 refine TN 0 ?_
 refine RN ?_
 refine ZN 1000002 zero30 fun b2 ⟨hBb2, hb2⟩ => ?_
 refine TL ?_
 refine RVN 1 rfl ?_
 refine QS ?_
 refine GT ?_
 refine RM rfl ?_
 refine RS (ok_call (sCheck_bad m h) (A1 rfl)) ?_
 refine RVN 1 rfl ?_
 refine GT ?_
 refine RV 2 rfl ?_
 refine RT ?_
 refine RN ?_
 refine A.yes rfl ?_
 refine GS ?_
 refine TF 2 ?_
 refine RS (ok_lit [] ([.slice none 0 0] ++ [.slice none 0 0]) (fun _ _ => rfl) (by kernel_rfl)) ?_
 refine RVN 1 rfl ?_
 refine ⟨_, eff_storeK (n := 16) (s := 1000002) size30 rfl rfl ((nil_arr (Z := zOwn 41 w₀.heap.size) (ex := true))) (Agg.arr) hBb2 rfl (rfl) (Surv.arr (fun h => absurd h.1 (by decide))) (LW [2, 10] rfl), ?_⟩
 refine TL ?_
 refine RVN 1 rfl ?_
 refine A.ret ?_
 refine End.ret_then ?_
 exact End.varK2 (s := 1000002) rfl Try.underlying30 rfl size30 rfl rfl (Le.refl _) rfl (Le.refl _)
theorem New_any (m : Int) : FnB Try.prog 9 [.v (.int .i64 (m))] (fun B => tup [arrZ (zOwn 41 B) true (zA (nw m)), .v (.int .i64 (nE m))]) := by
 unfold nw nE
 by_cases h : 1 ≤ m ∧ m ≤ 4096
 ·obtain ⟨k, rfl⟩ : ∃ k : Nat, m = (k : Int) := ⟨m.toNat, by omega⟩
  rw [if_pos h, if_pos h]; exact New_ok k (by omega) (by omega)
 ·rw [if_neg h, if_neg h]; exact New_badB m h
theorem Fn.leD {P : Program} {f : FuncId} {ds : List D} {d d' : D} (h : Fn P f ds d) (hd : Le d d') : Fn P f ds d' := ⟨h.body, fun vs w h1 h2 => (h.calls vs w h1 h2).mono fun e w' ⟨v, h3, h4, h5⟩ => ⟨v, h3, h4, hd.of h5⟩⟩
theorem Differ_err (a b : Ar) (h : chkA a = 0) (h' : chkA b = 0) (h4 : a.now.length ≤ 4096) : Fn Try.prog 25 [arrD false a, arrD false b] (tup [anyD, .v (.int .i64 (if a.now.length = b.now.length then 0 else 1))]) := by
 by_cases hl : a.now.length = b.now.length
 ·rw [if_pos hl]; exact (Differ_ok a b h h' hl h4).leD (tup_le2 (fun _ _ _ _ => trivial) (Le.refl _))
 ·rw [if_neg hl]; exact (Differ_n a b h h' hl).leD (tup_v (fun _ _ _ _ => trivial) (Le.refl _))
set_option maxHeartbeats 16000000 in
theorem Err_big (a : Ar) (o : OpA) (m : Int) (hb : 20 < a.now.length ∨ 20 < a.dur.length ∨ 100 < o.d.length) : Fn Try.prog 5 [arrD false a, opG o, .v (.int .i64 (m))] (.v (.bool true)) := by
 refine Fn.of Try.func5 rfl (by kernel_rfl) Try.ntmps5 (by simp) (fun w => [(0, old w.heap.size (arrD false a)), (1, old w.heap.size (opG o)), (2, .v (.int .i64 (m)))]) (fun w => (Start.old rfl (Start.old rfl (Start.v rfl Start.nil)))) fun w₀ => ?_
 refine A.nameAr (t := 0) (k₁ := 1000201) (k₂ := 1000202) rfl fun A₃ q₃ A₂ q₂ hq₃ hq₂ he₁ he₂ => ?_
 refine A.nameOp (t := 1) (k := 1000303) rfl fun A₁ q hq => ?_
 refine GS ?_
 refine TN 0 ?_
 refine RN ?_
 refine ZB 1000003 rfl fun b3 ⟨hBb3, hb3⟩ => ?_
 refine TN 1 ?_
 refine RN ?_
 refine ZB 1000004 rfl fun b4 ⟨hBb4, hb4⟩ => ?_
 refine TL ?_
 refine RVN 1 rfl ?_
 refine QS ?_
 rcases (show 20 < a.now.length ∨ (¬ 20 < a.now.length ∧ 20 < a.dur.length) ∨ (¬ 20 < a.now.length ∧ ¬ 20 < a.dur.length ∧ 100 < o.d.length) by omega) with hx | ⟨hx, hy⟩ | ⟨hx, hy, hz⟩
 ·refine GT ?_
  refine RS (ok_field field30_0 (by decide) rfl) ?_
  refine RLV 1000003 Try.underlying28 rfl rfl rfl ?_
  refine RS (ok_lenV Try.underlying28 rfl) ?_
  refine RB rfl rfl rfl ?_
  refine RZ (.bool true) (by simp; omega) ?_
  refine RVN 12 rfl ?_
  refine A.yes rfl ?_
  refine GT ?_
  refine RS (ok_call (lives21_fn) Args.nil) ?_
  refine RVN 1 rfl ?_
  refine A.ret ?_
  refine End.ret_then ?_
  exact ER rfl rfl
 ·refine GT ?_
  refine RS (ok_field field30_0 (by decide) rfl) ?_
  refine RLV 1000003 Try.underlying28 rfl rfl rfl ?_
  refine RS (ok_lenV Try.underlying28 rfl) ?_
  refine RB rfl rfl rfl ?_
  refine RZ (.bool false) (by simp; omega) ?_
  refine RM rfl ?_
  refine RQ (ok_field field30_1 (by decide) rfl) ?_
  refine RQ (ok_loadV (s := 1000003) (by decide) Try.underlying28 rfl rfl rfl (rfl)) ?_
  refine RQ (ok_lenV Try.underlying28 rfl) ?_
  refine RQ (ok_bin rfl rfl rfl) ?_
  refine RZ (.bool true) (by simp; omega) ?_
  refine RVN 7 rfl ?_
  refine A.yes rfl ?_
  refine GT ?_
  refine RS (ok_call (lives21_fn) Args.nil) ?_
  refine RVN 1 rfl ?_
  refine A.ret ?_
  refine End.ret_then ?_
  exact ER rfl rfl
 ·refine GT ?_
  refine RS (ok_field field30_0 (by decide) rfl) ?_
  refine RLV 1000003 Try.underlying28 rfl rfl rfl ?_
  refine RS (ok_lenV Try.underlying28 rfl) ?_
  refine RB rfl rfl rfl ?_
  refine RZ (.bool false) (by simp; omega) ?_
  refine RM rfl ?_
  refine RQ (ok_field field30_1 (by decide) rfl) ?_
  refine RQ (ok_loadV (s := 1000003) (by decide) Try.underlying28 rfl rfl rfl (rfl)) ?_
  refine RQ (ok_lenV Try.underlying28 rfl) ?_
  refine RQ (ok_bin rfl rfl rfl) ?_
  refine RZ (.bool false) (by simp; omega) ?_
  refine RV 2 rfl ?_
  refine RQ (ok_field field47_2 (by decide) rfl) ?_
  refine RQ (ok_loadV (s := 1000004) (by decide) Try.underlying45 rfl rfl rfl (rfl)) ?_
  refine RQ (ok_lenV Try.underlying45 rfl) ?_
  refine RQ (ok_bin rfl rfl rfl) ?_
  refine RZ (.bool true) (by simp; omega) ?_
  refine RVN 1 rfl ?_
  refine A.yes rfl ?_
  refine GT ?_
  refine RS (ok_call (lives21_fn) Args.nil) ?_
  refine RVN 1 rfl ?_
  refine A.ret ?_
  refine End.ret_then ?_
  exact ER rfl rfl
set_option maxHeartbeats 16000000 in
theorem Err_v (a : Ar) (o : OpA) (m : Int) (s1 : a.now.length ≤ 20) (s2 : a.dur.length ≤ 20) (s3 : o.d.length ≤ 100) (hv : 1 ≤ a.now.length) (he : a.now.length = a.dur.length) (h : chkA a = 0) : Fn Try.prog 5 [arrD false a, opG o, .v (.int .i64 (m))] (.v (.bool true)) := by
 refine Fn.of Try.func5 rfl (by kernel_rfl) Try.ntmps5 (by simp) (fun w => [(0, old w.heap.size (arrD false a)), (1, old w.heap.size (opG o)), (2, .v (.int .i64 (m)))]) (fun w => (Start.old rfl (Start.old rfl (Start.v rfl Start.nil)))) fun w₀ => ?_
 refine A.nameAr (t := 0) (k₁ := 1000201) (k₂ := 1000202) rfl fun A₃ q₃ A₂ q₂ hq₃ hq₂ he₁ he₂ => ?_
 refine A.nameOp (t := 1) (k := 1000303) rfl fun A₁ q hq => ?_
 refine GS ?_
 refine TN 0 ?_
 refine RN ?_
 refine ZB 1000003 rfl fun b3 ⟨hBb3, hb3⟩ => ?_
 refine TN 1 ?_
 refine RN ?_
 refine ZB 1000004 rfl fun b4 ⟨hBb4, hb4⟩ => ?_
 refine TL ?_
 refine RVN 1 rfl ?_
 refine QS ?_
 refine GT ?_
 refine RS (ok_field field30_0 (by decide) rfl) ?_
 refine RLV 1000003 Try.underlying28 rfl rfl rfl ?_
 refine RS (ok_lenV Try.underlying28 rfl) ?_
 refine RB rfl rfl rfl ?_
 refine RF ?_
 refine RM rfl ?_
 refine RQ (ok_field field30_1 (by decide) rfl) ?_
 refine RQ (ok_loadV (s := 1000003) (by decide) Try.underlying28 rfl rfl rfl (rfl)) ?_
 refine RQ (ok_lenV Try.underlying28 rfl) ?_
 refine RQ (ok_bin rfl rfl rfl) ?_
 refine RF ?_
 refine RV 2 rfl ?_
 refine RQ (ok_field field47_2 (by decide) rfl) ?_
 refine RQ (ok_loadV (s := 1000004) (by decide) Try.underlying45 rfl rfl rfl (rfl)) ?_
 refine RQ (ok_lenV Try.underlying45 rfl) ?_
 refine RQ (ok_bin rfl rfl rfl) ?_
 refine RF ?_
 refine RVN 1 rfl ?_
 refine A.no rfl ?_
 refine QK ?_
 refine GS ?_
 refine TN 5 ?_
 refine RM rfl ?_
 refine RS ((ok_callB (New_any m) (fun _ _ h => tup_le2 (arr_mono (own_monoT h)) (Le.refl _)) (A1 rfl))) ?_
 refine RM rfl ?_
 refine RS (ok_extract rfl rfl) ?_
 refine RS (ok_extract rfl rfl) ?_
 refine RN ?_
 refine ZN 1000007 zero30 fun b7 ⟨hBb7, hb7⟩ => ?_
 have hlt_b3_b7 := hb7 1000003 b3 _ _ rfl
 refine TF 6 ?_
 refine RN ?_
 refine ⟨_, eff_storeK (n := 237) (s := 1000007) size30 rfl rfl (Le.refl _) (Agg.arr) hBb7 rfl (rfl) (Surv.arr (by intro h; first | exact absurd h.1 (by decide) | exact absurd h.1.1 (by decide) | exact absurd h.2 (by omega) | exact absurd h.1.2 (by omega) | exact absurd h.1.1.2 (by omega))) (LB 1000003 rfl (LT 1000004 rfl (LO 1000201 rfl (LO 1000202 rfl (LO 1000303 rfl (LW [2, 3, 4, 7, 50] rfl)))))), ?_⟩
 refine TL ?_
 refine RVN 1 rfl ?_
 refine A.sub (Sv [2, 3, 4, 7, 8, 1000003, 1000004, 1000007, 1000201, 1000202, 1000303] rfl) ?_
 refine QS ?_
 refine A.seqTo [(3, .v (ptr b3)), (4, .v (ptr b4)), (1000003, blk b3 30 [.slice A₃ a.now.length q₃, .slice A₂ a.dur.length q₂]), (1000004, blk b4 47 [byteV o.k, .int .i64 o.i, .slice A₁ o.d.length q]), (1000201, old w₀.heap.size (memR A₃ (bksV a.now))), (1000202, old w₀.heap.size (memR A₂ (bksV a.dur))), (1000303, old w₀.heap.size (memR A₁ (o.d.map byteV))), (86, .v (.bool false))] ?_ ?_
 ·rcases (show (1 ≤ m ∧ m ≤ 4096) ∨ (¬ 1 ≤ m) ∨ (1 ≤ m ∧ ¬ m ≤ 4096) by omega) with hm | hm | ⟨hm, hm'⟩
  ·refine A.reg (by kernel_rfl) (by kernel_rfl) (.inr (by kernel_rfl)) ?_
   refine TL ?_
   refine RV 2 rfl ?_
   refine RZ (.bool true) (by rw [show nE m = 0 from if_pos hm]; rfl) ?_
   refine RV 2 rfl ?_
   refine RZ (.bool true) (by simp; omega) ?_
   refine RV 3 rfl ?_
   refine RZ (.bool true) (by simp; omega) ?_
   refine RP rfl rfl ?_
   refine RS (ok_neBool Try.underlying4 rfl rfl) ?_; refine RZ (.bool false) (by rfl) ?_
   refine RV 3 rfl ?_
   refine RZ (.bool false) (by rw [show nE m = 0 from if_pos hm]; rfl) ?_
   refine RV 4 rfl ?_
   refine RunK.skippedU rfl rfl rfl rfl ?_
   refine RunK.skippedU rfl rfl rfl rfl ?_
   refine RunK.skippedU rfl rfl rfl rfl ?_
   refine RunK.skippedU rfl rfl rfl rfl ?_
   refine RunK.skippedU rfl rfl rfl rfl ?_
   refine RunK.skippedU rfl rfl rfl rfl ?_
   refine RunK.skippedU rfl rfl rfl rfl ?_
   refine RunK.skippedU rfl rfl rfl rfl ?_
   refine RV 5 rfl ?_
   refine RQ (OpOk.opO (k₁ := 1000303) (p := o) (ok_loadA (s := 1000004) (by decide) Try.underlying47 rfl (size47.of (rfl)) rfl rfl) hq (by decide) rfl) ?_
   refine RQ (ok_call (Bad_fn m o) (Args.cons rfl (by first | exact Le.refl _ | exact Le.old _ _ | exact arr_any | exact arr_ex | exact arrD_any | exact op_any | exact (Le.old _ _).trans arrD_any | exact (Le.old _ _).trans arr_any) (Args.cons rfl (by first | exact Le.refl _ | exact Le.old _ _ | exact arr_any | exact arr_ex | exact arrD_any | exact op_any | exact (Le.old _ _).trans arrD_any | exact (Le.old _ _).trans arr_any) Args.nil))) ?_
   refine RQ (ok_move rfl) ?_
   refine RQ (OpOk.opO (k₁ := 1000303) (p := o) (ok_loadA (s := 1000004) (by decide) Try.underlying47 rfl (size47.of (rfl)) rfl rfl) hq (by decide) rfl) ?_
   refine RQ (ok_call (rBad_fn m o) (Args.cons rfl (by first | exact Le.refl _ | exact Le.old _ _ | exact arr_any | exact arr_ex | exact arrD_any | exact op_any | exact (Le.old _ _).trans arrD_any | exact (Le.old _ _).trans arr_any) (Args.cons rfl (by first | exact Le.refl _ | exact Le.old _ _ | exact arr_any | exact arr_ex | exact arrD_any | exact op_any | exact (Le.old _ _).trans arrD_any | exact (Le.old _ _).trans arr_any) Args.nil))) ?_
   refine RQ (ok_neBool Try.underlying4 rfl rfl) ?_; refine RZ (.bool false) (by simp) ?_
   refine RVN 1 rfl ?_
   refine End.sub (Sv [3, 4, 86, 1000003, 1000004, 1000007, 1000201, 1000202, 1000303] rfl) ?_
   exact End.normal_then (End.toEnv (SubL.cons (t := 3) rfl (by first | exact Le.refl _ | exact Le.old _ _) (SubL.cons (t := 4) rfl (by first | exact Le.refl _ | exact Le.old _ _) (SubL.cons (t := 1000003) rfl (by first | exact Le.refl _ | exact Le.old _ _) (SubL.cons (t := 1000004) rfl (by first | exact Le.refl _ | exact Le.old _ _) (SubL.cons (t := 1000201) rfl (by first | exact Le.refl _ | exact Le.old _ _) (SubL.cons (t := 1000202) rfl (by first | exact Le.refl _ | exact Le.old _ _) (SubL.cons (t := 1000303) rfl (by first | exact Le.refl _ | exact Le.old _ _) (SubL.cons (t := 86) rfl (by first | exact Le.refl _ | exact Le.old _ _) SubL.nil)))))))))
  ·refine A.reg (by kernel_rfl) (by kernel_rfl) (.inr (by kernel_rfl)) ?_
   refine TL ?_
   refine RV 2 rfl ?_
   refine RZ (.bool false) (by rw [show nE m = 1 from if_neg (fun h => hm h.1)]; rfl) ?_
   refine RV 2 rfl ?_
   refine RZ (.bool false) (by simp; omega) ?_
   refine RV 4 rfl ?_
   refine RS (ok_neBool Try.underlying4 rfl rfl) ?_; refine RZ (.bool false) (by rfl) ?_
   refine RV 3 rfl ?_
   refine RZ (.bool true) (by rw [show nE m = 1 from if_neg (fun h => hm h.1)]; rfl) ?_
   refine RV 3 rfl ?_
   refine RZ (.bool false) (by rw [show nE m = 1 from if_neg (fun h => hm h.1)]; rfl) ?_
   refine RQ (ok_move rfl) ?_
   refine RQ (ok_field field30_0 (by decide) rfl) ?_
   refine RQ ((ok_loadA0 (s := 1000007) (by decide) Try.underlying28 rfl rfl rfl)) ?_
   refine RQ (ok_lenRD Try.underlying28 rfl sli_rowD) ?_; refine RZ (nI (0)) (by rw [show nw m = 0 from if_neg (fun h => hm h.1)]; rfl) ?_
   refine RQ (ok_field field30_1 (by decide) rfl) ?_
   refine RQ ((ok_loadA1 (s := 1000007) (by decide) Try.underlying28 rfl rfl rfl)) ?_
   refine RQ (ok_lenRD Try.underlying28 rfl sli_rowD) ?_; refine RZ (nI (0)) (by rw [show nw m = 0 from if_neg (fun h => hm h.1)]; rfl) ?_
   refine RQ (ok_bin rfl rfl rfl) ?_
   refine RZ (.int .i64 0) (by rfl) ?_
   refine RQ (ok_bin rfl rfl rfl) ?_
   refine RZ (.bool false) (by rfl) ?_
   refine RV 5 rfl ?_
   refine RQ (OpOk.opO (k₁ := 1000303) (p := o) (ok_loadA (s := 1000004) (by decide) Try.underlying47 rfl (size47.of (rfl)) rfl rfl) hq (by decide) rfl) ?_
   refine RQ (ok_call (Bad_fn m o) (Args.cons rfl (by first | exact Le.refl _ | exact Le.old _ _ | exact arr_any | exact arr_ex | exact arrD_any | exact op_any | exact (Le.old _ _).trans arrD_any | exact (Le.old _ _).trans arr_any) (Args.cons rfl (by first | exact Le.refl _ | exact Le.old _ _ | exact arr_any | exact arr_ex | exact arrD_any | exact op_any | exact (Le.old _ _).trans arrD_any | exact (Le.old _ _).trans arr_any) Args.nil))) ?_
   refine RQ (ok_move rfl) ?_
   refine RQ (OpOk.opO (k₁ := 1000303) (p := o) (ok_loadA (s := 1000004) (by decide) Try.underlying47 rfl (size47.of (rfl)) rfl rfl) hq (by decide) rfl) ?_
   refine RQ (ok_call (rBad_fn m o) (Args.cons rfl (by first | exact Le.refl _ | exact Le.old _ _ | exact arr_any | exact arr_ex | exact arrD_any | exact op_any | exact (Le.old _ _).trans arrD_any | exact (Le.old _ _).trans arr_any) (Args.cons rfl (by first | exact Le.refl _ | exact Le.old _ _ | exact arr_any | exact arr_ex | exact arrD_any | exact op_any | exact (Le.old _ _).trans arrD_any | exact (Le.old _ _).trans arr_any) Args.nil))) ?_
   refine RQ (ok_neBool Try.underlying4 rfl rfl) ?_; refine RZ (.bool false) (by simp) ?_
   refine RVN 1 rfl ?_
   refine End.sub (Sv [3, 4, 86, 1000003, 1000004, 1000007, 1000201, 1000202, 1000303] rfl) ?_
   exact End.normal_then (End.toEnv (SubL.cons (t := 3) rfl (by first | exact Le.refl _ | exact Le.old _ _) (SubL.cons (t := 4) rfl (by first | exact Le.refl _ | exact Le.old _ _) (SubL.cons (t := 1000003) rfl (by first | exact Le.refl _ | exact Le.old _ _) (SubL.cons (t := 1000004) rfl (by first | exact Le.refl _ | exact Le.old _ _) (SubL.cons (t := 1000201) rfl (by first | exact Le.refl _ | exact Le.old _ _) (SubL.cons (t := 1000202) rfl (by first | exact Le.refl _ | exact Le.old _ _) (SubL.cons (t := 1000303) rfl (by first | exact Le.refl _ | exact Le.old _ _) (SubL.cons (t := 86) rfl (by first | exact Le.refl _ | exact Le.old _ _) SubL.nil)))))))))
  ·refine A.reg (by kernel_rfl) (by kernel_rfl) (.inr (by kernel_rfl)) ?_
   refine TL ?_
   refine RV 2 rfl ?_
   refine RZ (.bool false) (by rw [show nE m = 1 from if_neg (fun h => hm' h.2)]; rfl) ?_
   refine RV 2 rfl ?_
   refine RZ (.bool true) (by simp; omega) ?_
   refine RV 3 rfl ?_
   refine RZ (.bool false) (by simp; omega) ?_
   refine RP rfl rfl ?_
   refine RS (ok_neBool Try.underlying4 rfl rfl) ?_; refine RZ (.bool false) (by rfl) ?_
   refine RV 3 rfl ?_
   refine RZ (.bool true) (by rw [show nE m = 1 from if_neg (fun h => hm' h.2)]; rfl) ?_
   refine RV 3 rfl ?_
   refine RZ (.bool false) (by rw [show nE m = 1 from if_neg (fun h => hm' h.2)]; rfl) ?_
   refine RQ (ok_move rfl) ?_
   refine RQ (ok_field field30_0 (by decide) rfl) ?_
   refine RQ ((ok_loadA0 (s := 1000007) (by decide) Try.underlying28 rfl rfl rfl)) ?_
   refine RQ (ok_lenRD Try.underlying28 rfl sli_rowD) ?_; refine RZ (nI (0)) (by rw [show nw m = 0 from if_neg (fun h => hm' h.2)]; rfl) ?_
   refine RQ (ok_field field30_1 (by decide) rfl) ?_
   refine RQ ((ok_loadA1 (s := 1000007) (by decide) Try.underlying28 rfl rfl rfl)) ?_
   refine RQ (ok_lenRD Try.underlying28 rfl sli_rowD) ?_; refine RZ (nI (0)) (by rw [show nw m = 0 from if_neg (fun h => hm' h.2)]; rfl) ?_
   refine RQ (ok_bin rfl rfl rfl) ?_
   refine RZ (.int .i64 0) (by rfl) ?_
   refine RQ (ok_bin rfl rfl rfl) ?_
   refine RZ (.bool false) (by rfl) ?_
   refine RV 5 rfl ?_
   refine RQ (OpOk.opO (k₁ := 1000303) (p := o) (ok_loadA (s := 1000004) (by decide) Try.underlying47 rfl (size47.of (rfl)) rfl rfl) hq (by decide) rfl) ?_
   refine RQ (ok_call (Bad_fn m o) (Args.cons rfl (by first | exact Le.refl _ | exact Le.old _ _ | exact arr_any | exact arr_ex | exact arrD_any | exact op_any | exact (Le.old _ _).trans arrD_any | exact (Le.old _ _).trans arr_any) (Args.cons rfl (by first | exact Le.refl _ | exact Le.old _ _ | exact arr_any | exact arr_ex | exact arrD_any | exact op_any | exact (Le.old _ _).trans arrD_any | exact (Le.old _ _).trans arr_any) Args.nil))) ?_
   refine RQ (ok_move rfl) ?_
   refine RQ (OpOk.opO (k₁ := 1000303) (p := o) (ok_loadA (s := 1000004) (by decide) Try.underlying47 rfl (size47.of (rfl)) rfl rfl) hq (by decide) rfl) ?_
   refine RQ (ok_call (rBad_fn m o) (Args.cons rfl (by first | exact Le.refl _ | exact Le.old _ _ | exact arr_any | exact arr_ex | exact arrD_any | exact op_any | exact (Le.old _ _).trans arrD_any | exact (Le.old _ _).trans arr_any) (Args.cons rfl (by first | exact Le.refl _ | exact Le.old _ _ | exact arr_any | exact arr_ex | exact arrD_any | exact op_any | exact (Le.old _ _).trans arrD_any | exact (Le.old _ _).trans arr_any) Args.nil))) ?_
   refine RQ (ok_neBool Try.underlying4 rfl rfl) ?_; refine RZ (.bool false) (by simp) ?_
   refine RVN 1 rfl ?_
   refine End.sub (Sv [3, 4, 86, 1000003, 1000004, 1000007, 1000201, 1000202, 1000303] rfl) ?_
   exact End.normal_then (End.toEnv (SubL.cons (t := 3) rfl (by first | exact Le.refl _ | exact Le.old _ _) (SubL.cons (t := 4) rfl (by first | exact Le.refl _ | exact Le.old _ _) (SubL.cons (t := 1000003) rfl (by first | exact Le.refl _ | exact Le.old _ _) (SubL.cons (t := 1000004) rfl (by first | exact Le.refl _ | exact Le.old _ _) (SubL.cons (t := 1000201) rfl (by first | exact Le.refl _ | exact Le.old _ _) (SubL.cons (t := 1000202) rfl (by first | exact Le.refl _ | exact Le.old _ _) (SubL.cons (t := 1000303) rfl (by first | exact Le.refl _ | exact Le.old _ _) (SubL.cons (t := 86) rfl (by first | exact Le.refl _ | exact Le.old _ _) SubL.nil)))))))))
 ·refine A.no rfl ?_
  refine QK ?_
  refine GV rfl ?_
  refine QS ?_
  refine GT ?_
  refine RS (ok_field field30_0 (by decide) rfl) ?_
  refine RLV 1000003 Try.underlying28 rfl rfl rfl ?_
  refine RS (ok_lenV Try.underlying28 rfl) ?_
  refine RB rfl rfl rfl ?_
  refine RZ (.bool false) (congrArg Value.bool (decide_eq_false (by omega))) ?_
  refine RM rfl ?_
  refine RQ (ok_field field30_0 (by decide) rfl) ?_
  refine RQ (ok_loadV (s := 1000003) (by decide) Try.underlying28 rfl rfl rfl (rfl)) ?_
  refine RQ (ok_lenV Try.underlying28 rfl) ?_
  refine RQ (ok_field field30_1 (by decide) rfl) ?_
  refine RQ (ok_loadV (s := 1000003) (by decide) Try.underlying28 rfl rfl rfl (rfl)) ?_
  refine RQ (ok_lenV Try.underlying28 rfl) ?_
  refine RQ (ok_bin rfl rfl rfl) ?_
  refine RF ?_
  refine RVN 1 rfl ?_
  refine A.no rfl ?_
  refine QK ?_
  refine A.regsF [⟨3, 10, 30, [.slice none 0 0] ++ [.slice none 0 0], 4, 2, arrZ (zOwn 41 w₀.heap.size) true (zA 1)⟩] (by kernel_rfl) (by kernel_rfl) (by kernel_rfl) (SurvF.cons (SurvF.cons (fun B' g hg => (show Surv B' 30 g _ from Surv.arr (by intro h; first | exact absurd h.1 (by decide) | exact absurd h.1.1 (by decide) | exact absurd h.2 (by omega) | exact absurd h.1.2 (by omega) | exact absurd h.1.1.2 (by omega)))) (SurvF.nil rfl)) (SurvF.nil rfl)) ?_
  refine KofsK.pure (_) rfl rfl FromF.all ((ok_makeB 1 Try.underlying28 infoB (by decide) rfl rfl rfl (by decide))) (SurvF.cons (fun B' g hg => (show Surv B' 30 g _ from Surv.newD (by decide))) (SurvF.nil rfl)) ?_
  refine KofsK.pure (_) rfl rfl FromF.all ((ok_makeB 1 Try.underlying28 infoB (by decide) rfl rfl rfl (by decide))) (SurvF.cons (fun B' g hg => (show Surv B' 30 g _ from Surv.newD (by decide))) (SurvF.nil rfl)) ?_
  refine KofsK.pure ((100, _) :: (101, _) :: _) rfl rfl (FromF.op 0 (by kernel_rfl) rfl rfl (FromF.op 1 (by kernel_rfl) rfl rfl FromF.all)) (ok_buildAr (Z := zOwn 41 w₀.heap.size) (ex := true) (a := zA 1) rfl buildD rfl newD_z rfl newD_z') (SurvF.cons (fun B' g hg => (show Surv B' 30 g _ from Surv.arr (by intro h; first | exact absurd h.1 (by decide) | exact absurd h.1.1 (by decide) | exact absurd h.2 (by omega) | exact absurd h.1.2 (by omega) | exact absurd h.1.1.2 (by omega)))) (SurvF.nil rfl)) ?_
  refine KofsK.alloc 0 rfl rfl rfl rfl zero30 rfl ?_
  refine KofsK.store 0 ((102, _) :: _) rfl rfl rfl rfl (by kernel_rfl) (FromF.op 2 (by kernel_rfl) rfl rfl FromF.all) rfl (Le.refl _) size30 rfl (Agg.arr) ?_
  refine KofsK.nil ⟨by kernel_rfl, _, FromFW.all, fun bs hbs hds => ?_⟩
  have hb10 := hbs 0 (by simp)
  dsimp only [varEnvF]
  generalize bs 0 = b10 at *
  have hBb10 := hb10.1
  have hlt_b3_b10 : b3 < b10 := hb10.2.1 1000003 _ _ _ rfl
  have hlt_b4_b10 : b4 < b10 := hb10.2.1 1000004 _ _ _ rfl
  refine A.sub (Sv [3, 4, 9, 10, 1000003, 1000004, 1000010, 1000201, 1000202, 1000303] rfl) ?_
  refine GS ?_
  refine TN 7 ?_
  refine RS (OpOk.arO (k₁ := 1000201) (k₂ := 1000202) (ok_loadA (s := 1000003) (by decide) Try.underlying30 rfl (size30.of (rfl)) rfl rfl) hq₃ hq₂ (by decide) (by decide) rfl rfl) ?_
  refine RS (OpOk.opO (k₁ := 1000303) (p := o) (ok_loadA (s := 1000004) (by decide) Try.underlying47 rfl (size47.of (rfl)) rfl rfl) hq (by decide) rfl) ?_
  refine RS ((ok_callB (Do_ok a o h (by omega) (by omega) he) (fun _ _ h => tup_le3 (arr_mono (own_monoT h)) (Le.refl _) (Le.refl _)) (Args.cons rfl (by first | exact Le.refl _ | exact Le.old _ _ | exact arr_any | exact arr_ex | exact arrD_any | exact op_any | exact (Le.old _ _).trans arrD_any | exact (Le.old _ _).trans arr_any) (Args.cons rfl (by first | exact Le.refl _ | exact Le.old _ _ | exact arr_any | exact arr_ex | exact arrD_any | exact op_any | exact (Le.old _ _).trans arrD_any | exact (Le.old _ _).trans arr_any) Args.nil)))) ?_
  refine RM rfl ?_
  refine RS (ok_extract rfl rfl) ?_
  refine RS (ok_extract rfl rfl) ?_
  refine RS (ok_extract rfl rfl) ?_
  refine RN ?_
  refine ⟨_, _, eff_allocV (n := 237) (d := 11) (k := 1000011) zero30 (by decide), fun b11 hb11 => ?_⟩
  have hBb11 := hb11.1
  have hlt_b3_b11 : b3 < b11 := hb11.2.1 1000003 _ _ _ rfl
  have hlt_b10_b11 : b10 < b11 := hb11.2.2 1000010 _ _ _ _ rfl
  refine TN 8 ?_
  refine RN ?_
  refine ⟨_, _, eff_allocV (n := 237) (d := 12) (k := 1000012) zero49 (by decide), fun b12 hb12 => ?_⟩
  have hBb12 := hb12.1
  refine TF 9 ?_
  refine RN ?_
  refine ⟨_, eff_storeK (n := 237) (s := 1000011) size30 rfl rfl (Le.refl _) (Agg.arr) hBb11 rfl (rfl) (Surv.arr (by intro h; first | exact absurd h.1 (by decide) | exact absurd h.1.1 (by decide) | exact absurd h.2 (by omega) | exact absurd h.1.2 (by omega) | exact absurd h.1.1.2 (by omega))) (LB 1000003 rfl (LT 1000004 rfl (LeftS.cons (t := 1000010) rfl (Surv.varK (by omega) (Surv.arr (by intro h; first | exact absurd h.1 (by decide) | exact absurd h.1.1 (by decide) | exact absurd h.2 (by omega) | exact absurd h.1.2 (by omega) | exact absurd h.1.1.2 (by omega)))) (LT 1000012 rfl (LO 1000201 rfl (LO 1000202 rfl (LO 1000303 rfl (LW [3, 4, 9, 10, 12, 108, 109] rfl)))))))), ?_⟩
  refine TF 10 ?_
  refine RN ?_
  refine ⟨_, eff_storeA (n := 237) (s := 1000012) (size49.of (rs_len _)) rfl rfl (rs_one _) hBb12 rfl (by simp only [rs_len]) (LT 1000003 rfl (LT 1000004 rfl (LeftS.cons (t := 1000010) rfl (Surv.varKT (by decide) (Surv.arr (by intro h; first | exact absurd h.1 (by decide) | exact absurd h.1.1 (by decide) | exact absurd h.2 (by omega) | exact absurd h.1.2 (by omega) | exact absurd h.1.1.2 (by omega)))) (LeftS.cons (t := 1000011) rfl (Surv.varKT (by decide) (Surv.arr (by intro h; first | exact absurd h.1 (by decide) | exact absurd h.1.1 (by decide) | exact absurd h.2 (by omega) | exact absurd h.1.2 (by omega) | exact absurd h.1.1.2 (by omega)))) (LO 1000201 rfl (LO 1000202 rfl (LO 1000303 rfl (LW [3, 4, 9, 10, 12, 109] rfl)))))))), ?_⟩
  refine TL ?_
  refine RVN 1 rfl ?_
  refine GS ?_
  refine TN 5 ?_
  refine RS (OpOk.arO (k₁ := 1000201) (k₂ := 1000202) (ok_loadA (s := 1000003) (by decide) Try.underlying30 rfl (size30.of (rfl)) rfl rfl) hq₃ hq₂ (by decide) (by decide) rfl rfl) ?_
  refine RS ((ok_callB (Flush_ok a h (by omega) (by omega)) (fun _ _ h => tup_le2 (arr_mono (own_monoT h)) (Le.refl _)) (Args.cons rfl (by first | exact Le.refl _ | exact Le.old _ _ | exact arr_any | exact arr_ex | exact arrD_any | exact op_any | exact (Le.old _ _).trans arrD_any | exact (Le.old _ _).trans arr_any) Args.nil))) ?_
  refine RM rfl ?_
  refine RS (ok_extract rfl rfl) ?_
  refine RS (ok_extract rfl rfl) ?_
  refine RN ?_
  refine ⟨_, _, eff_allocV (n := 237) (d := 14) (k := 1000014) zero30 (by decide), fun b14 hb14 => ?_⟩
  have hBb14 := hb14.1
  have hlt_b3_b14 : b3 < b14 := hb14.2.1 1000003 _ _ _ rfl
  have hlt_b10_b14 : b10 < b14 := hb14.2.2 1000010 _ _ _ _ rfl
  have hlt_b11_b14 : b11 < b14 := hb14.2.2 1000011 _ _ _ _ rfl
  refine TF 6 ?_
  refine RN ?_
  refine ⟨_, eff_storeK (n := 237) (s := 1000014) size30 rfl rfl (Le.refl _) (Agg.arr) hBb14 rfl (rfl) (Surv.arr (by intro h; first | exact absurd h.1 (by decide) | exact absurd h.1.1 (by decide) | exact absurd h.2 (by omega) | exact absurd h.1.2 (by omega) | exact absurd h.1.1.2 (by omega))) (LB 1000003 rfl (LT 1000004 rfl (LeftS.cons (t := 1000010) rfl (Surv.varK (by omega) (Surv.arr (by intro h; first | exact absurd h.1 (by decide) | exact absurd h.1.1 (by decide) | exact absurd h.2 (by omega) | exact absurd h.1.2 (by omega) | exact absurd h.1.1.2 (by omega)))) (LeftS.cons (t := 1000011) rfl (Surv.varK (by omega) (Surv.arr (by intro h; first | exact absurd h.1 (by decide) | exact absurd h.1.1 (by decide) | exact absurd h.2 (by omega) | exact absurd h.1.2 (by omega) | exact absurd h.1.1.2 (by omega)))) (LT 1000012 rfl (LO 1000201 rfl (LO 1000202 rfl (LO 1000303 rfl (LW [3, 4, 9, 10, 12, 13, 114] rfl))))))))), ?_⟩
  refine TL ?_
  refine RVN 1 rfl ?_
  refine GS ?_
  refine TN 5 ?_
  refine RS (OpOk.arO (k₁ := 1000201) (k₂ := 1000202) (ok_loadA (s := 1000003) (by decide) Try.underlying30 rfl (size30.of (rfl)) rfl rfl) hq₃ hq₂ (by decide) (by decide) rfl rfl) ?_
  refine RS ((ok_callB (Crash_ok a h (by omega) (by omega)) (fun _ _ h => tup_le2 (arr_mono (own_monoT h)) (Le.refl _)) (Args.cons rfl (by first | exact Le.refl _ | exact Le.old _ _ | exact arr_any | exact arr_ex | exact arrD_any | exact op_any | exact (Le.old _ _).trans arrD_any | exact (Le.old _ _).trans arr_any) Args.nil))) ?_
  refine RM rfl ?_
  refine RS (ok_extract rfl rfl) ?_
  refine RS (ok_extract rfl rfl) ?_
  refine RN ?_
  refine ⟨_, _, eff_allocV (n := 237) (d := 16) (k := 1000016) zero30 (by decide), fun b16 hb16 => ?_⟩
  have hBb16 := hb16.1
  have hlt_b3_b16 : b3 < b16 := hb16.2.1 1000003 _ _ _ rfl
  have hlt_b10_b16 : b10 < b16 := hb16.2.2 1000010 _ _ _ _ rfl
  have hlt_b11_b16 : b11 < b16 := hb16.2.2 1000011 _ _ _ _ rfl
  have hlt_b14_b16 : b14 < b16 := hb16.2.2 1000014 _ _ _ _ rfl
  refine TF 6 ?_
  refine RN ?_
  refine ⟨_, eff_storeK (n := 237) (s := 1000016) size30 rfl rfl (Le.refl _) (Agg.arr) hBb16 rfl (rfl) (Surv.arr (by intro h; first | exact absurd h.1 (by decide) | exact absurd h.1.1 (by decide) | exact absurd h.2 (by omega) | exact absurd h.1.2 (by omega) | exact absurd h.1.1.2 (by omega))) (LB 1000003 rfl (LT 1000004 rfl (LeftS.cons (t := 1000010) rfl (Surv.varK (by omega) (Surv.arr (by intro h; first | exact absurd h.1 (by decide) | exact absurd h.1.1 (by decide) | exact absurd h.2 (by omega) | exact absurd h.1.2 (by omega) | exact absurd h.1.1.2 (by omega)))) (LeftS.cons (t := 1000011) rfl (Surv.varK (by omega) (Surv.arr (by intro h; first | exact absurd h.1 (by decide) | exact absurd h.1.1 (by decide) | exact absurd h.2 (by omega) | exact absurd h.1.2 (by omega) | exact absurd h.1.1.2 (by omega)))) (LT 1000012 rfl (LeftS.cons (t := 1000014) rfl (Surv.varK (by omega) (Surv.arr (by intro h; first | exact absurd h.1 (by decide) | exact absurd h.1.1 (by decide) | exact absurd h.2 (by omega) | exact absurd h.1.2 (by omega) | exact absurd h.1.1.2 (by omega)))) (LO 1000201 rfl (LO 1000202 rfl (LO 1000303 rfl (LW [3, 4, 9, 10, 12, 13, 15, 119] rfl)))))))))), ?_⟩
  refine TL ?_
  refine RVN 1 rfl ?_
  refine A.sub (Sv [3, 4, 9, 10, 12, 13, 15, 17, 1000003, 1000004, 1000010, 1000011, 1000012, 1000014, 1000016, 1000201, 1000202, 1000303] rfl) ?_
  refine GS ?_
  refine TN 8 ?_
  refine RS (OpOk.arO (k₁ := 1000201) (k₂ := 1000202) (ok_loadA (s := 1000003) (by decide) Try.underlying30 rfl (size30.of (rfl)) rfl rfl) hq₃ hq₂ (by decide) (by decide) rfl rfl) ?_
  refine RS (OpOk.opO (k₁ := 1000303) (p := o) (ok_loadA (s := 1000004) (by decide) Try.underlying47 rfl (size47.of (rfl)) rfl rfl) hq (by decide) rfl) ?_
  refine RS (ok_build1D Try.underlying25 infoO rfl (by decide) (by decide) rfl (Le.old _ _) (Agg.tl rfl rfl)) ?_
  refine RS (ok_callB (Play_ok a [o] h (by omega) (by omega) he (by simp)) (fun _ _ h => tup_le3 (arr_mono (own_monoT h)) (sli_mono (own_monoT h)) (Le.refl _)) (Args.cons rfl (by first | exact Le.refl _ | exact Le.old _ _ | exact arr_any | exact arr_ex | exact arrD_any | exact op_any | exact (Le.old _ _).trans arrD_any | exact (Le.old _ _).trans arr_any) (Args.cons rfl (by first | exact Le.refl _ | exact Le.old _ _ | exact arr_any | exact arr_ex | exact arrD_any | exact op_any | exact (Le.old _ _).trans arrD_any | exact (Le.old _ _).trans arr_any) Args.nil))) ?_
  refine RM rfl ?_
  refine RS (ok_extract rfl rfl) ?_
  refine RS (ok_extract rfl rfl) ?_
  refine RS (ok_extract rfl rfl) ?_
  refine RN ?_
  refine ⟨_, _, eff_allocV (n := 237) (d := 18) (k := 1000018) zero30 (by decide), fun b18 hb18 => ?_⟩
  have hBb18 := hb18.1
  have hlt_b3_b18 : b3 < b18 := hb18.2.1 1000003 _ _ _ rfl
  have hlt_b10_b18 : b10 < b18 := hb18.2.2 1000010 _ _ _ _ rfl
  have hlt_b11_b18 : b11 < b18 := hb18.2.2 1000011 _ _ _ _ rfl
  have hlt_b14_b18 : b14 < b18 := hb18.2.2 1000014 _ _ _ _ rfl
  have hlt_b16_b18 : b16 < b18 := hb18.2.2 1000016 _ _ _ _ rfl
  refine TF 9 ?_
  refine RN ?_
  refine ⟨_, eff_storeK (n := 237) (s := 1000018) size30 rfl rfl (Le.refl _) (Agg.arr) hBb18 rfl (rfl) (Surv.arr (by intro h; first | exact absurd h.1 (by decide) | exact absurd h.1.1 (by decide) | exact absurd h.2 (by omega) | exact absurd h.1.2 (by omega) | exact absurd h.1.1.2 (by omega))) (LeftS.cons (t := 126) rfl (Surv.sli (by intro h; first | exact absurd h.1 (by decide) | exact absurd h.1.1 (by decide) | exact absurd h.1.1.1 (by decide) | exact absurd h.2 (by omega) | exact absurd h.1.2 (by omega))) (LB 1000003 rfl (LT 1000004 rfl (LeftS.cons (t := 1000010) rfl (Surv.varK (by omega) (Surv.arr (by intro h; first | exact absurd h.1 (by decide) | exact absurd h.1.1 (by decide) | exact absurd h.2 (by omega) | exact absurd h.1.2 (by omega) | exact absurd h.1.1.2 (by omega)))) (LeftS.cons (t := 1000011) rfl (Surv.varK (by omega) (Surv.arr (by intro h; first | exact absurd h.1 (by decide) | exact absurd h.1.1 (by decide) | exact absurd h.2 (by omega) | exact absurd h.1.2 (by omega) | exact absurd h.1.1.2 (by omega)))) (LT 1000012 rfl (LeftS.cons (t := 1000014) rfl (Surv.varK (by omega) (Surv.arr (by intro h; first | exact absurd h.1 (by decide) | exact absurd h.1.1 (by decide) | exact absurd h.2 (by omega) | exact absurd h.1.2 (by omega) | exact absurd h.1.1.2 (by omega)))) (LeftS.cons (t := 1000016) rfl (Surv.varK (by omega) (Surv.arr (by intro h; first | exact absurd h.1 (by decide) | exact absurd h.1.1 (by decide) | exact absurd h.2 (by omega) | exact absurd h.1.2 (by omega) | exact absurd h.1.1.2 (by omega)))) (LO 1000201 rfl (LO 1000202 rfl (LO 1000303 rfl (LW [3, 9, 10, 12, 13, 15, 17, 127] rfl)))))))))))), ?_⟩
  refine TL ?_
  refine RVN 2 rfl ?_
  refine GT ?_
  refine RS (OpOk.arO (k₁ := 1000201) (k₂ := 1000202) (ok_loadA (s := 1000003) (by decide) Try.underlying30 rfl (size30.of (rfl)) rfl rfl) hq₃ hq₂ (by decide) (by decide) rfl rfl) ?_
  refine RS (OpOk.arO (k₁ := 1000201) (k₂ := 1000202) (ok_loadA (s := 1000003) (by decide) Try.underlying30 rfl (size30.of (rfl)) rfl rfl) hq₃ hq₂ (by decide) (by decide) rfl rfl) ?_
  refine RS (ok_call (Differ_ok a a h h rfl (by omega)) (Args.cons rfl (by first | exact Le.refl _ | exact Le.old _ _ | exact arr_any | exact arr_ex | exact arrD_any | exact op_any | exact (Le.old _ _).trans arrD_any | exact (Le.old _ _).trans arr_any) (Args.cons rfl (by first | exact Le.refl _ | exact Le.old _ _ | exact arr_any | exact arr_ex | exact arrD_any | exact op_any | exact (Le.old _ _).trans arrD_any | exact (Le.old _ _).trans arr_any) Args.nil))) ?_
  refine RM rfl ?_
  refine RS (ok_extract rfl rfl) ?_
  refine RS (ok_extract rfl rfl) ?_
  refine RVN 2 rfl ?_
  refine GT ?_
  refine RS (ok_loadVK (s := 1000010) (by decide) Try.underlying30 rfl size30 rfl rfl) ?_
  refine RS (OpOk.arO (k₁ := 1000201) (k₂ := 1000202) (ok_loadA (s := 1000003) (by decide) Try.underlying30 rfl (size30.of (rfl)) rfl rfl) hq₃ hq₂ (by decide) (by decide) rfl rfl) ?_
  refine RS (ok_call (Differ_err (zA 1) a rfl h (by decide)) (Args.cons rfl (by first | exact Le.refl _ | exact Le.old _ _ | exact arr_any | exact arr_ex | exact arrD_any | exact op_any | exact (Le.old _ _).trans arrD_any | exact (Le.old _ _).trans arr_any) (Args.cons rfl (by first | exact Le.refl _ | exact Le.old _ _ | exact arr_any | exact arr_ex | exact arrD_any | exact op_any | exact (Le.old _ _).trans arrD_any | exact (Le.old _ _).trans arr_any) Args.nil))) ?_
  refine RM rfl ?_
  refine RS (ok_extract rfl rfl) ?_
  refine RS (ok_extract rfl rfl) ?_
  refine RVN 2 rfl ?_
  refine A.sub (Sv [3, 9, 12, 13, 15, 17, 19, 20, 22, 24, 1000003, 1000004, 1000010, 1000011, 1000012, 1000014, 1000016, 1000018, 1000201, 1000202, 1000303] rfl) ?_
  refine QS ?_
  refine A.seqTo [(1000003, blk b3 30 [.slice A₃ a.now.length q₃, .slice A₂ a.dur.length q₂]), (3, .v (ptr b3)), (9, .v (nI (0))), (12, .v (ptr b12)), (19, sliZ (zOwn 49 w₀.heap.size) true 1 (rssV (resA a [o]))), (1000012, blk b12 49 (rsV (stepA a o).2)), (189, .v (.bool false))] ?_ ?_
  ·rcases Decidable.em ((zA 1).now.length = a.now.length) with hx | hx
   ·refine GTE ?_
    refine RS (OpOk.arO (k₁ := 1000201) (k₂ := 1000202) (ok_loadA (s := 1000003) (by decide) Try.underlying30 rfl (size30.of (rfl)) rfl rfl) hq₃ hq₂ (by decide) (by decide) rfl rfl) ?_
    refine RS (ok_call (Check_fn a) (Args.cons rfl (by first | exact Le.refl _ | exact Le.old _ _ | exact arr_any | exact arr_ex | exact arrD_any | exact op_any | exact (Le.old _ _).trans arrD_any | exact (Le.old _ _).trans arr_any) Args.nil)) ?_; refine RZ (.int .i64 0) (by rw [h]) ?_
    refine RV 2 rfl ?_
    refine RF ?_
    refine RV 4 rfl ?_
    refine RF ?_
    refine RV 5 rfl ?_
    refine RF ?_
    refine RV 5 rfl ?_
    refine RF ?_
    refine RV 5 rfl ?_
    refine RF ?_
    refine RV 5 rfl ?_
    refine RF ?_
    refine RV 4 rfl ?_
    refine RZ (.bool true) (by rw [if_pos hx]; rfl) ?_
    refine RV 2 rfl ?_
    refine RT ?_
    refine RQ (ok_move rfl) ?_
    refine RQ (ok_field field30_0 (by decide) rfl) ?_
    refine RQ (ok_loadV (s := 1000003) (by decide) Try.underlying28 rfl rfl rfl (rfl)) ?_
    refine RQ (ok_lenV Try.underlying28 rfl) ?_
    refine RQ (ok_bin rfl rfl rfl) ?_
    refine RZ (.bool true) (by have hx' : 1 = a.now.length := hx; simp; omega) ?_
    refine RQ (ok_pick rfl rfl) ?_
    refine RQ (ok_neBool Try.underlying4 rfl rfl) ?_; refine RZ (.bool false) (by rfl) ?_
    refine RV 4 rfl ?_
    refine RZ (.bool false) (by rw [if_pos hx]; rfl) ?_
    refine RVN 5 rfl ?_
    refine End.sub (Sv [3, 9, 12, 19, 189, 1000003, 1000004, 1000010, 1000011, 1000012, 1000014, 1000016, 1000018, 1000201, 1000202, 1000303] rfl) ?_
    exact End.normal_then (End.toEnv (SubL.cons (t := 1000003) rfl (by first | exact Le.refl _ | exact Le.old _ _) (SubL.cons (t := 3) rfl (by first | exact Le.refl _ | exact Le.old _ _) (SubL.cons (t := 9) rfl (by first | exact Le.refl _ | exact Le.old _ _) (SubL.cons (t := 12) rfl (by first | exact Le.refl _ | exact Le.old _ _) (SubL.cons (t := 19) rfl (by first | exact Le.refl _ | exact Le.old _ _) (SubL.cons (t := 1000012) rfl (by first | exact Le.refl _ | exact Le.old _ _) (SubL.cons (t := 189) rfl (by first | exact Le.refl _ | exact Le.old _ _) SubL.nil))))))))
   ·refine GTE ?_
    refine RS (OpOk.arO (k₁ := 1000201) (k₂ := 1000202) (ok_loadA (s := 1000003) (by decide) Try.underlying30 rfl (size30.of (rfl)) rfl rfl) hq₃ hq₂ (by decide) (by decide) rfl rfl) ?_
    refine RS (ok_call (Check_fn a) (Args.cons rfl (by first | exact Le.refl _ | exact Le.old _ _ | exact arr_any | exact arr_ex | exact arrD_any | exact op_any | exact (Le.old _ _).trans arrD_any | exact (Le.old _ _).trans arr_any) Args.nil)) ?_; refine RZ (.int .i64 0) (by rw [h]) ?_
    refine RV 2 rfl ?_
    refine RF ?_
    refine RV 4 rfl ?_
    refine RF ?_
    refine RV 5 rfl ?_
    refine RF ?_
    refine RV 5 rfl ?_
    refine RF ?_
    refine RV 5 rfl ?_
    refine RF ?_
    refine RV 5 rfl ?_
    refine RF ?_
    refine RV 4 rfl ?_
    refine RZ (.bool false) (by rw [if_neg hx]; rfl) ?_
    refine RV 2 rfl ?_
    refine RT ?_
    refine RQ (ok_move rfl) ?_
    refine RQ (ok_field field30_0 (by decide) rfl) ?_
    refine RQ (ok_loadV (s := 1000003) (by decide) Try.underlying28 rfl rfl rfl (rfl)) ?_
    refine RQ (ok_lenV Try.underlying28 rfl) ?_
    refine RQ (ok_bin rfl rfl rfl) ?_
    refine RZ (.bool false) (by have hx' : ¬ 1 = a.now.length := hx; simp; omega) ?_
    refine RQ (ok_pick rfl rfl) ?_
    refine RQ (ok_neBool Try.underlying4 rfl rfl) ?_; refine RZ (.bool false) (by rfl) ?_
    refine RV 4 rfl ?_
    refine RZ (.bool true) (by rw [if_neg hx]; rfl) ?_
    refine RV 3 rfl ?_
    refine RZ (.bool false) (by rw [if_neg hx]; rfl) ?_
    refine RVN 2 rfl ?_
    refine End.sub (Sv [3, 9, 12, 19, 189, 1000003, 1000004, 1000010, 1000011, 1000012, 1000014, 1000016, 1000018, 1000201, 1000202, 1000303] rfl) ?_
    exact End.normal_then (End.toEnv (SubL.cons (t := 1000003) rfl (by first | exact Le.refl _ | exact Le.old _ _) (SubL.cons (t := 3) rfl (by first | exact Le.refl _ | exact Le.old _ _) (SubL.cons (t := 9) rfl (by first | exact Le.refl _ | exact Le.old _ _) (SubL.cons (t := 12) rfl (by first | exact Le.refl _ | exact Le.old _ _) (SubL.cons (t := 19) rfl (by first | exact Le.refl _ | exact Le.old _ _) (SubL.cons (t := 1000012) rfl (by first | exact Le.refl _ | exact Le.old _ _) (SubL.cons (t := 189) rfl (by first | exact Le.refl _ | exact Le.old _ _) SubL.nil))))))))
  ·refine A.no rfl ?_
   refine QK ?_
   refine QS ?_
   refine GT ?_
   refine RV 2 rfl ?_
   refine RT ?_
   refine RN ?_
   refine A.yes rfl ?_
   refine GTD ?_
   refine RM rfl ?_
   refine RS (ok_lenRD Try.underlying37 rfl sli_rowD) ?_
   refine RB rfl rfl rfl ?_
   refine RT ?_
   refine RV 2 rfl ?_
   refine RQ ((ok_indexRD 0 Try.underlying37 infoR rfl sli_rowD rfl (by simp) (by rw [rss_len, res_len]; simp))) ?_
   refine RQ (ok_loadElemT 33 Try.underlying49 rfl size49 (by rw [rss_at (by rw [res_len]; simp), rs_len]; exact Nat.le_refl _) rfl) ?_; refine RZ (aggV (rsV (stepA a o).2)) (congrArg aggV (by rw [rss_at (by rw [res_len]; simp)]; exact List.take_of_length_le (Nat.le_of_eq (rs_len _)))) ?_
   refine RQ (ok_loadA (s := 1000012) (by decide) Try.underlying49 rfl (size49.of (rs_len _)) rfl rfl) ?_
   refine RQ (ok_eqlT (n := 4) true flat49 (by decide) (by kernel_rfl) (by kernel_rfl) rfl rfl (kinRs _) (kinRs _) (iff_of_true rfl rfl)) ?_; refine RZ (.bool true) (by first | rfl | (simp; done) | (simp; omega) | (simp [*]; done) | (simp [*]; omega)) ?_
   refine RV 2 rfl ?_
   refine RQ (ok_call (lives21_fn) Args.nil) ?_
   refine RVN 2 rfl ?_
   refine A.ret ?_
   refine End.ret_then ?_
   exact ER rfl rfl
set_option maxHeartbeats 16000000 in
theorem Err_i (a : Ar) (o : OpA) (m : Int) (s1 : a.now.length ≤ 20) (s2 : a.dur.length ≤ 20) (s3 : o.d.length ≤ 100) (hi : a.now.length = 0 ∨ a.now.length ≠ a.dur.length) (h : chkA a = 1) : Fn Try.prog 5 [arrD false a, opG o, .v (.int .i64 (m))] (.v (.bool true)) := by
 refine Fn.of Try.func5 rfl (by kernel_rfl) Try.ntmps5 (by simp) (fun w => [(0, old w.heap.size (arrD false a)), (1, old w.heap.size (opG o)), (2, .v (.int .i64 (m)))]) (fun w => (Start.old rfl (Start.old rfl (Start.v rfl Start.nil)))) fun w₀ => ?_
 refine A.nameAr (t := 0) (k₁ := 1000201) (k₂ := 1000202) rfl fun A₃ q₃ A₂ q₂ hq₃ hq₂ he₁ he₂ => ?_
 refine A.nameOp (t := 1) (k := 1000303) rfl fun A₁ q hq => ?_
 refine GS ?_
 refine TN 0 ?_
 refine RN ?_
 refine ZB 1000003 rfl fun b3 ⟨hBb3, hb3⟩ => ?_
 refine TN 1 ?_
 refine RN ?_
 refine ZB 1000004 rfl fun b4 ⟨hBb4, hb4⟩ => ?_
 refine TL ?_
 refine RVN 1 rfl ?_
 refine QS ?_
 refine GT ?_
 refine RS (ok_field field30_0 (by decide) rfl) ?_
 refine RLV 1000003 Try.underlying28 rfl rfl rfl ?_
 refine RS (ok_lenV Try.underlying28 rfl) ?_
 refine RB rfl rfl rfl ?_
 refine RF ?_
 refine RM rfl ?_
 refine RQ (ok_field field30_1 (by decide) rfl) ?_
 refine RQ (ok_loadV (s := 1000003) (by decide) Try.underlying28 rfl rfl rfl (rfl)) ?_
 refine RQ (ok_lenV Try.underlying28 rfl) ?_
 refine RQ (ok_bin rfl rfl rfl) ?_
 refine RF ?_
 refine RV 2 rfl ?_
 refine RQ (ok_field field47_2 (by decide) rfl) ?_
 refine RQ (ok_loadV (s := 1000004) (by decide) Try.underlying45 rfl rfl rfl (rfl)) ?_
 refine RQ (ok_lenV Try.underlying45 rfl) ?_
 refine RQ (ok_bin rfl rfl rfl) ?_
 refine RF ?_
 refine RVN 1 rfl ?_
 refine A.no rfl ?_
 refine QK ?_
 refine GS ?_
 refine TN 5 ?_
 refine RM rfl ?_
 refine RS ((ok_callB (New_any m) (fun _ _ h => tup_le2 (arr_mono (own_monoT h)) (Le.refl _)) (A1 rfl))) ?_
 refine RM rfl ?_
 refine RS (ok_extract rfl rfl) ?_
 refine RS (ok_extract rfl rfl) ?_
 refine RN ?_
 refine ZN 1000007 zero30 fun b7 ⟨hBb7, hb7⟩ => ?_
 have hlt_b3_b7 := hb7 1000003 b3 _ _ rfl
 refine TF 6 ?_
 refine RN ?_
 refine ⟨_, eff_storeK (n := 237) (s := 1000007) size30 rfl rfl (Le.refl _) (Agg.arr) hBb7 rfl (rfl) (Surv.arr (by intro h; first | exact absurd h.1 (by decide) | exact absurd h.1.1 (by decide) | exact absurd h.2 (by omega) | exact absurd h.1.2 (by omega) | exact absurd h.1.1.2 (by omega))) (LB 1000003 rfl (LT 1000004 rfl (LO 1000201 rfl (LO 1000202 rfl (LO 1000303 rfl (LW [2, 3, 4, 7, 50] rfl)))))), ?_⟩
 refine TL ?_
 refine RVN 1 rfl ?_
 refine A.sub (Sv [2, 3, 4, 7, 8, 1000003, 1000004, 1000007, 1000201, 1000202, 1000303] rfl) ?_
 refine QS ?_
 refine A.seqTo [(3, .v (ptr b3)), (4, .v (ptr b4)), (1000003, blk b3 30 [.slice A₃ a.now.length q₃, .slice A₂ a.dur.length q₂]), (1000004, blk b4 47 [byteV o.k, .int .i64 o.i, .slice A₁ o.d.length q]), (1000201, old w₀.heap.size (memR A₃ (bksV a.now))), (1000202, old w₀.heap.size (memR A₂ (bksV a.dur))), (1000303, old w₀.heap.size (memR A₁ (o.d.map byteV))), (86, .v (.bool false))] ?_ ?_
 ·rcases (show (1 ≤ m ∧ m ≤ 4096) ∨ (¬ 1 ≤ m) ∨ (1 ≤ m ∧ ¬ m ≤ 4096) by omega) with hm | hm | ⟨hm, hm'⟩
  ·refine A.reg (by kernel_rfl) (by kernel_rfl) (.inr (by kernel_rfl)) ?_
   refine TL ?_
   refine RV 2 rfl ?_
   refine RZ (.bool true) (by rw [show nE m = 0 from if_pos hm]; rfl) ?_
   refine RV 2 rfl ?_
   refine RZ (.bool true) (by simp; omega) ?_
   refine RV 3 rfl ?_
   refine RZ (.bool true) (by simp; omega) ?_
   refine RP rfl rfl ?_
   refine RS (ok_neBool Try.underlying4 rfl rfl) ?_; refine RZ (.bool false) (by rfl) ?_
   refine RV 3 rfl ?_
   refine RZ (.bool false) (by rw [show nE m = 0 from if_pos hm]; rfl) ?_
   refine RV 4 rfl ?_
   refine RunK.skippedU rfl rfl rfl rfl ?_
   refine RunK.skippedU rfl rfl rfl rfl ?_
   refine RunK.skippedU rfl rfl rfl rfl ?_
   refine RunK.skippedU rfl rfl rfl rfl ?_
   refine RunK.skippedU rfl rfl rfl rfl ?_
   refine RunK.skippedU rfl rfl rfl rfl ?_
   refine RunK.skippedU rfl rfl rfl rfl ?_
   refine RunK.skippedU rfl rfl rfl rfl ?_
   refine RV 5 rfl ?_
   refine RQ (OpOk.opO (k₁ := 1000303) (p := o) (ok_loadA (s := 1000004) (by decide) Try.underlying47 rfl (size47.of (rfl)) rfl rfl) hq (by decide) rfl) ?_
   refine RQ (ok_call (Bad_fn m o) (Args.cons rfl (by first | exact Le.refl _ | exact Le.old _ _ | exact arr_any | exact arr_ex | exact arrD_any | exact op_any | exact (Le.old _ _).trans arrD_any | exact (Le.old _ _).trans arr_any) (Args.cons rfl (by first | exact Le.refl _ | exact Le.old _ _ | exact arr_any | exact arr_ex | exact arrD_any | exact op_any | exact (Le.old _ _).trans arrD_any | exact (Le.old _ _).trans arr_any) Args.nil))) ?_
   refine RQ (ok_move rfl) ?_
   refine RQ (OpOk.opO (k₁ := 1000303) (p := o) (ok_loadA (s := 1000004) (by decide) Try.underlying47 rfl (size47.of (rfl)) rfl rfl) hq (by decide) rfl) ?_
   refine RQ (ok_call (rBad_fn m o) (Args.cons rfl (by first | exact Le.refl _ | exact Le.old _ _ | exact arr_any | exact arr_ex | exact arrD_any | exact op_any | exact (Le.old _ _).trans arrD_any | exact (Le.old _ _).trans arr_any) (Args.cons rfl (by first | exact Le.refl _ | exact Le.old _ _ | exact arr_any | exact arr_ex | exact arrD_any | exact op_any | exact (Le.old _ _).trans arrD_any | exact (Le.old _ _).trans arr_any) Args.nil))) ?_
   refine RQ (ok_neBool Try.underlying4 rfl rfl) ?_; refine RZ (.bool false) (by simp) ?_
   refine RVN 1 rfl ?_
   refine End.sub (Sv [3, 4, 86, 1000003, 1000004, 1000007, 1000201, 1000202, 1000303] rfl) ?_
   exact End.normal_then (End.toEnv (SubL.cons (t := 3) rfl (by first | exact Le.refl _ | exact Le.old _ _) (SubL.cons (t := 4) rfl (by first | exact Le.refl _ | exact Le.old _ _) (SubL.cons (t := 1000003) rfl (by first | exact Le.refl _ | exact Le.old _ _) (SubL.cons (t := 1000004) rfl (by first | exact Le.refl _ | exact Le.old _ _) (SubL.cons (t := 1000201) rfl (by first | exact Le.refl _ | exact Le.old _ _) (SubL.cons (t := 1000202) rfl (by first | exact Le.refl _ | exact Le.old _ _) (SubL.cons (t := 1000303) rfl (by first | exact Le.refl _ | exact Le.old _ _) (SubL.cons (t := 86) rfl (by first | exact Le.refl _ | exact Le.old _ _) SubL.nil)))))))))
  ·refine A.reg (by kernel_rfl) (by kernel_rfl) (.inr (by kernel_rfl)) ?_
   refine TL ?_
   refine RV 2 rfl ?_
   refine RZ (.bool false) (by rw [show nE m = 1 from if_neg (fun h => hm h.1)]; rfl) ?_
   refine RV 2 rfl ?_
   refine RZ (.bool false) (by simp; omega) ?_
   refine RV 4 rfl ?_
   refine RS (ok_neBool Try.underlying4 rfl rfl) ?_; refine RZ (.bool false) (by rfl) ?_
   refine RV 3 rfl ?_
   refine RZ (.bool true) (by rw [show nE m = 1 from if_neg (fun h => hm h.1)]; rfl) ?_
   refine RV 3 rfl ?_
   refine RZ (.bool false) (by rw [show nE m = 1 from if_neg (fun h => hm h.1)]; rfl) ?_
   refine RQ (ok_move rfl) ?_
   refine RQ (ok_field field30_0 (by decide) rfl) ?_
   refine RQ ((ok_loadA0 (s := 1000007) (by decide) Try.underlying28 rfl rfl rfl)) ?_
   refine RQ (ok_lenRD Try.underlying28 rfl sli_rowD) ?_; refine RZ (nI (0)) (by rw [show nw m = 0 from if_neg (fun h => hm h.1)]; rfl) ?_
   refine RQ (ok_field field30_1 (by decide) rfl) ?_
   refine RQ ((ok_loadA1 (s := 1000007) (by decide) Try.underlying28 rfl rfl rfl)) ?_
   refine RQ (ok_lenRD Try.underlying28 rfl sli_rowD) ?_; refine RZ (nI (0)) (by rw [show nw m = 0 from if_neg (fun h => hm h.1)]; rfl) ?_
   refine RQ (ok_bin rfl rfl rfl) ?_
   refine RZ (.int .i64 0) (by rfl) ?_
   refine RQ (ok_bin rfl rfl rfl) ?_
   refine RZ (.bool false) (by rfl) ?_
   refine RV 5 rfl ?_
   refine RQ (OpOk.opO (k₁ := 1000303) (p := o) (ok_loadA (s := 1000004) (by decide) Try.underlying47 rfl (size47.of (rfl)) rfl rfl) hq (by decide) rfl) ?_
   refine RQ (ok_call (Bad_fn m o) (Args.cons rfl (by first | exact Le.refl _ | exact Le.old _ _ | exact arr_any | exact arr_ex | exact arrD_any | exact op_any | exact (Le.old _ _).trans arrD_any | exact (Le.old _ _).trans arr_any) (Args.cons rfl (by first | exact Le.refl _ | exact Le.old _ _ | exact arr_any | exact arr_ex | exact arrD_any | exact op_any | exact (Le.old _ _).trans arrD_any | exact (Le.old _ _).trans arr_any) Args.nil))) ?_
   refine RQ (ok_move rfl) ?_
   refine RQ (OpOk.opO (k₁ := 1000303) (p := o) (ok_loadA (s := 1000004) (by decide) Try.underlying47 rfl (size47.of (rfl)) rfl rfl) hq (by decide) rfl) ?_
   refine RQ (ok_call (rBad_fn m o) (Args.cons rfl (by first | exact Le.refl _ | exact Le.old _ _ | exact arr_any | exact arr_ex | exact arrD_any | exact op_any | exact (Le.old _ _).trans arrD_any | exact (Le.old _ _).trans arr_any) (Args.cons rfl (by first | exact Le.refl _ | exact Le.old _ _ | exact arr_any | exact arr_ex | exact arrD_any | exact op_any | exact (Le.old _ _).trans arrD_any | exact (Le.old _ _).trans arr_any) Args.nil))) ?_
   refine RQ (ok_neBool Try.underlying4 rfl rfl) ?_; refine RZ (.bool false) (by simp) ?_
   refine RVN 1 rfl ?_
   refine End.sub (Sv [3, 4, 86, 1000003, 1000004, 1000007, 1000201, 1000202, 1000303] rfl) ?_
   exact End.normal_then (End.toEnv (SubL.cons (t := 3) rfl (by first | exact Le.refl _ | exact Le.old _ _) (SubL.cons (t := 4) rfl (by first | exact Le.refl _ | exact Le.old _ _) (SubL.cons (t := 1000003) rfl (by first | exact Le.refl _ | exact Le.old _ _) (SubL.cons (t := 1000004) rfl (by first | exact Le.refl _ | exact Le.old _ _) (SubL.cons (t := 1000201) rfl (by first | exact Le.refl _ | exact Le.old _ _) (SubL.cons (t := 1000202) rfl (by first | exact Le.refl _ | exact Le.old _ _) (SubL.cons (t := 1000303) rfl (by first | exact Le.refl _ | exact Le.old _ _) (SubL.cons (t := 86) rfl (by first | exact Le.refl _ | exact Le.old _ _) SubL.nil)))))))))
  ·refine A.reg (by kernel_rfl) (by kernel_rfl) (.inr (by kernel_rfl)) ?_
   refine TL ?_
   refine RV 2 rfl ?_
   refine RZ (.bool false) (by rw [show nE m = 1 from if_neg (fun h => hm' h.2)]; rfl) ?_
   refine RV 2 rfl ?_
   refine RZ (.bool true) (by simp; omega) ?_
   refine RV 3 rfl ?_
   refine RZ (.bool false) (by simp; omega) ?_
   refine RP rfl rfl ?_
   refine RS (ok_neBool Try.underlying4 rfl rfl) ?_; refine RZ (.bool false) (by rfl) ?_
   refine RV 3 rfl ?_
   refine RZ (.bool true) (by rw [show nE m = 1 from if_neg (fun h => hm' h.2)]; rfl) ?_
   refine RV 3 rfl ?_
   refine RZ (.bool false) (by rw [show nE m = 1 from if_neg (fun h => hm' h.2)]; rfl) ?_
   refine RQ (ok_move rfl) ?_
   refine RQ (ok_field field30_0 (by decide) rfl) ?_
   refine RQ ((ok_loadA0 (s := 1000007) (by decide) Try.underlying28 rfl rfl rfl)) ?_
   refine RQ (ok_lenRD Try.underlying28 rfl sli_rowD) ?_; refine RZ (nI (0)) (by rw [show nw m = 0 from if_neg (fun h => hm' h.2)]; rfl) ?_
   refine RQ (ok_field field30_1 (by decide) rfl) ?_
   refine RQ ((ok_loadA1 (s := 1000007) (by decide) Try.underlying28 rfl rfl rfl)) ?_
   refine RQ (ok_lenRD Try.underlying28 rfl sli_rowD) ?_; refine RZ (nI (0)) (by rw [show nw m = 0 from if_neg (fun h => hm' h.2)]; rfl) ?_
   refine RQ (ok_bin rfl rfl rfl) ?_
   refine RZ (.int .i64 0) (by rfl) ?_
   refine RQ (ok_bin rfl rfl rfl) ?_
   refine RZ (.bool false) (by rfl) ?_
   refine RV 5 rfl ?_
   refine RQ (OpOk.opO (k₁ := 1000303) (p := o) (ok_loadA (s := 1000004) (by decide) Try.underlying47 rfl (size47.of (rfl)) rfl rfl) hq (by decide) rfl) ?_
   refine RQ (ok_call (Bad_fn m o) (Args.cons rfl (by first | exact Le.refl _ | exact Le.old _ _ | exact arr_any | exact arr_ex | exact arrD_any | exact op_any | exact (Le.old _ _).trans arrD_any | exact (Le.old _ _).trans arr_any) (Args.cons rfl (by first | exact Le.refl _ | exact Le.old _ _ | exact arr_any | exact arr_ex | exact arrD_any | exact op_any | exact (Le.old _ _).trans arrD_any | exact (Le.old _ _).trans arr_any) Args.nil))) ?_
   refine RQ (ok_move rfl) ?_
   refine RQ (OpOk.opO (k₁ := 1000303) (p := o) (ok_loadA (s := 1000004) (by decide) Try.underlying47 rfl (size47.of (rfl)) rfl rfl) hq (by decide) rfl) ?_
   refine RQ (ok_call (rBad_fn m o) (Args.cons rfl (by first | exact Le.refl _ | exact Le.old _ _ | exact arr_any | exact arr_ex | exact arrD_any | exact op_any | exact (Le.old _ _).trans arrD_any | exact (Le.old _ _).trans arr_any) (Args.cons rfl (by first | exact Le.refl _ | exact Le.old _ _ | exact arr_any | exact arr_ex | exact arrD_any | exact op_any | exact (Le.old _ _).trans arrD_any | exact (Le.old _ _).trans arr_any) Args.nil))) ?_
   refine RQ (ok_neBool Try.underlying4 rfl rfl) ?_; refine RZ (.bool false) (by simp) ?_
   refine RVN 1 rfl ?_
   refine End.sub (Sv [3, 4, 86, 1000003, 1000004, 1000007, 1000201, 1000202, 1000303] rfl) ?_
   exact End.normal_then (End.toEnv (SubL.cons (t := 3) rfl (by first | exact Le.refl _ | exact Le.old _ _) (SubL.cons (t := 4) rfl (by first | exact Le.refl _ | exact Le.old _ _) (SubL.cons (t := 1000003) rfl (by first | exact Le.refl _ | exact Le.old _ _) (SubL.cons (t := 1000004) rfl (by first | exact Le.refl _ | exact Le.old _ _) (SubL.cons (t := 1000201) rfl (by first | exact Le.refl _ | exact Le.old _ _) (SubL.cons (t := 1000202) rfl (by first | exact Le.refl _ | exact Le.old _ _) (SubL.cons (t := 1000303) rfl (by first | exact Le.refl _ | exact Le.old _ _) (SubL.cons (t := 86) rfl (by first | exact Le.refl _ | exact Le.old _ _) SubL.nil)))))))))
 ·refine A.no rfl ?_
  refine QK ?_
  refine GV rfl ?_
  refine QS ?_
  refine A.seqTo [(3, .v (ptr b3)), (4, .v (ptr b4)), (1000003, blk b3 30 [.slice A₃ a.now.length q₃, .slice A₂ a.dur.length q₂]), (1000004, blk b4 47 [byteV o.k, .int .i64 o.i, .slice A₁ o.d.length q]), (1000201, old w₀.heap.size (memR A₃ (bksV a.now))), (1000202, old w₀.heap.size (memR A₂ (bksV a.dur))), (1000303, old w₀.heap.size (memR A₁ (o.d.map byteV))), (9, .v (nI (0))), (99, .v (.bool true))] ?_ ?_
  ·rcases (show a.now.length = 0 ∨ (¬ a.now.length = 0 ∧ ¬ a.now.length = a.dur.length) by omega) with hj | ⟨hj, hj'⟩
   ·refine GTE ?_
    refine RS (ok_field field30_0 (by decide) rfl) ?_
    refine RLV 1000003 Try.underlying28 rfl rfl rfl ?_
    refine RS (ok_lenV Try.underlying28 rfl) ?_
    refine RB rfl rfl rfl ?_
    refine RZ (.bool true) (by simp [hj]) ?_
    refine RVN 9 rfl ?_
    exact End.normal_then (End.toEnv (SubL.cons (t := 3) rfl (by first | exact Le.refl _ | exact Le.old _ _) (SubL.cons (t := 4) rfl (by first | exact Le.refl _ | exact Le.old _ _) (SubL.cons (t := 1000003) rfl (by first | exact Le.refl _ | exact Le.old _ _) (SubL.cons (t := 1000004) rfl (by first | exact Le.refl _ | exact Le.old _ _) (SubL.cons (t := 1000201) rfl (by first | exact Le.refl _ | exact Le.old _ _) (SubL.cons (t := 1000202) rfl (by first | exact Le.refl _ | exact Le.old _ _) (SubL.cons (t := 1000303) rfl (by first | exact Le.refl _ | exact Le.old _ _) (SubL.cons (t := 9) rfl (by first | exact Le.refl _ | exact Le.old _ _) (SubL.cons (t := 99) rfl (by first | exact Le.refl _ | exact Le.old _ _) SubL.nil))))))))))
   ·refine GTE ?_
    refine RS (ok_field field30_0 (by decide) rfl) ?_
    refine RLV 1000003 Try.underlying28 rfl rfl rfl ?_
    refine RS (ok_lenV Try.underlying28 rfl) ?_
    refine RB rfl rfl rfl ?_
    refine RZ (.bool false) (by simp [hj]) ?_
    refine RM rfl ?_
    refine RQ (ok_field field30_0 (by decide) rfl) ?_
    refine RQ (ok_loadV (s := 1000003) (by decide) Try.underlying28 rfl rfl rfl (rfl)) ?_
    refine RQ (ok_lenV Try.underlying28 rfl) ?_
    refine RQ (ok_field field30_1 (by decide) rfl) ?_
    refine RQ (ok_loadV (s := 1000003) (by decide) Try.underlying28 rfl rfl rfl (rfl)) ?_
    refine RQ (ok_lenV Try.underlying28 rfl) ?_
    refine RQ (ok_bin rfl rfl rfl) ?_
    refine RZ (.bool true) (by have := hj'; simp; omega) ?_
    refine RVN 1 rfl ?_
    exact End.normal_then (End.toEnv (SubL.cons (t := 3) rfl (by first | exact Le.refl _ | exact Le.old _ _) (SubL.cons (t := 4) rfl (by first | exact Le.refl _ | exact Le.old _ _) (SubL.cons (t := 1000003) rfl (by first | exact Le.refl _ | exact Le.old _ _) (SubL.cons (t := 1000004) rfl (by first | exact Le.refl _ | exact Le.old _ _) (SubL.cons (t := 1000201) rfl (by first | exact Le.refl _ | exact Le.old _ _) (SubL.cons (t := 1000202) rfl (by first | exact Le.refl _ | exact Le.old _ _) (SubL.cons (t := 1000303) rfl (by first | exact Le.refl _ | exact Le.old _ _) (SubL.cons (t := 9) rfl (by first | exact Le.refl _ | exact Le.old _ _) (SubL.cons (t := 99) rfl (by first | exact Le.refl _ | exact Le.old _ _) SubL.nil))))))))))
  ·refine A.yes rfl ?_
   refine GVE rfl ?_
   refine EN ?_
   refine A.regsF [⟨3, 10, 30, [.slice none 0 0] ++ [.slice none 0 0], 4, 2, arrZ (zOwn 41 w₀.heap.size) true (zA 1)⟩] (by kernel_rfl) (by kernel_rfl) (by kernel_rfl) (SurvF.cons (SurvF.cons (fun B' g hg => (show Surv B' 30 g _ from Surv.arr (by intro h; first | exact absurd h.1 (by decide) | exact absurd h.1.1 (by decide) | exact absurd h.2 (by omega) | exact absurd h.1.2 (by omega) | exact absurd h.1.1.2 (by omega)))) (SurvF.nil rfl)) (SurvF.nil rfl)) ?_
   refine KofsK.pure (_) rfl rfl FromF.all ((ok_makeB 1 Try.underlying28 infoB (by decide) rfl rfl rfl (by decide))) (SurvF.cons (fun B' g hg => (show Surv B' 30 g _ from Surv.newD (by decide))) (SurvF.nil rfl)) ?_
   refine KofsK.pure (_) rfl rfl FromF.all ((ok_makeB 1 Try.underlying28 infoB (by decide) rfl rfl rfl (by decide))) (SurvF.cons (fun B' g hg => (show Surv B' 30 g _ from Surv.newD (by decide))) (SurvF.nil rfl)) ?_
   refine KofsK.pure ((100, _) :: (101, _) :: _) rfl rfl (FromF.op 0 (by kernel_rfl) rfl rfl (FromF.op 1 (by kernel_rfl) rfl rfl FromF.all)) (ok_buildAr (Z := zOwn 41 w₀.heap.size) (ex := true) (a := zA 1) rfl buildD rfl newD_z rfl newD_z') (SurvF.cons (fun B' g hg => (show Surv B' 30 g _ from Surv.arr (by intro h; first | exact absurd h.1 (by decide) | exact absurd h.1.1 (by decide) | exact absurd h.2 (by omega) | exact absurd h.1.2 (by omega) | exact absurd h.1.1.2 (by omega)))) (SurvF.nil rfl)) ?_
   refine KofsK.alloc 0 rfl rfl rfl rfl zero30 rfl ?_
   refine KofsK.store 0 ((102, _) :: _) rfl rfl rfl rfl (by kernel_rfl) (FromF.op 2 (by kernel_rfl) rfl rfl FromF.all) rfl (Le.refl _) size30 rfl (Agg.arr) ?_
   refine KofsK.nil ⟨by kernel_rfl, _, FromFW.all, fun bs hbs hds => ?_⟩
   have hb10 := hbs 0 (by simp)
   dsimp only [varEnvF]
   generalize bs 0 = b10 at *
   have hBb10 := hb10.1
   have hlt_b3_b10 : b3 < b10 := hb10.2.1 1000003 _ _ _ rfl
   have hlt_b4_b10 : b4 < b10 := hb10.2.1 1000004 _ _ _ rfl
   refine A.sub (Sv [3, 4, 9, 10, 1000003, 1000004, 1000010, 1000201, 1000202, 1000303] rfl) ?_
   refine GS ?_
   refine TN 7 ?_
   refine RS (OpOk.arO (k₁ := 1000201) (k₂ := 1000202) (ok_loadA (s := 1000003) (by decide) Try.underlying30 rfl (size30.of (rfl)) rfl rfl) hq₃ hq₂ (by decide) (by decide) rfl rfl) ?_
   refine RS (OpOk.opO (k₁ := 1000303) (p := o) (ok_loadA (s := 1000004) (by decide) Try.underlying47 rfl (size47.of (rfl)) rfl rfl) hq (by decide) rfl) ?_
   refine RS (ok_call (Do_arr a o h) (Args.cons rfl (by first | exact Le.refl _ | exact Le.old _ _ | exact arr_any | exact arr_ex | exact arrD_any | exact op_any | exact (Le.old _ _).trans arrD_any | exact (Le.old _ _).trans arr_any) (Args.cons rfl (by first | exact Le.refl _ | exact Le.old _ _ | exact arr_any | exact arr_ex | exact arrD_any | exact op_any | exact (Le.old _ _).trans arrD_any | exact (Le.old _ _).trans arr_any) Args.nil))) ?_
   refine RVN 4 rfl ?_
   refine ⟨_, _, eff_allocV (n := 237) (d := 11) (k := 1000011) zero30 (by decide), fun b11 hb11 => ?_⟩
   have hBb11 := hb11.1
   have hlt_b3_b11 : b3 < b11 := hb11.2.1 1000003 _ _ _ rfl
   have hlt_b10_b11 : b10 < b11 := hb11.2.2 1000010 _ _ _ _ rfl
   refine TN 8 ?_
   refine RN ?_
   refine ⟨_, _, eff_allocV (n := 237) (d := 12) (k := 1000012) zero49 (by decide), fun b12 hb12 => ?_⟩
   have hBb12 := hb12.1
   refine TF 9 ?_
   refine RN ?_
   refine ZA 1000011 (size30.of rfl) hBb11 rfl rfl rfl (LB 1000003 rfl (LT 1000004 rfl (LeftS.cons (t := 1000010) rfl (Surv.varK (by omega) (Surv.arr (by intro h; first | exact absurd h.1 (by decide) | exact absurd h.1.1 (by decide) | exact absurd h.2 (by omega) | exact absurd h.1.2 (by omega) | exact absurd h.1.1.2 (by omega)))) (LT 1000012 rfl (LO 1000201 rfl (LO 1000202 rfl (LO 1000303 rfl (LW [3, 4, 9, 10, 12, 108, 109] rfl)))))))) ?_
   refine TF 10 ?_
   refine RN ?_
   refine ⟨_, eff_storeA (n := 237) (s := 1000012) (size49.of (rs_len _)) rfl rfl (rs_one _) hBb12 rfl (by simp only [rs_len]) (LT 1000003 rfl (LT 1000004 rfl (LeftS.cons (t := 1000010) rfl (Surv.varKT (by decide) (Surv.arr (by intro h; first | exact absurd h.1 (by decide) | exact absurd h.1.1 (by decide) | exact absurd h.2 (by omega) | exact absurd h.1.2 (by omega) | exact absurd h.1.1.2 (by omega)))) (LT 1000011 rfl (LO 1000201 rfl (LO 1000202 rfl (LO 1000303 rfl (LW [3, 4, 9, 10, 12, 109] rfl)))))))), ?_⟩
   refine TL ?_
   refine RVN 1 rfl ?_
   refine GS ?_
   refine TN 5 ?_
   refine RS (OpOk.arO (k₁ := 1000201) (k₂ := 1000202) (ok_loadA (s := 1000003) (by decide) Try.underlying30 rfl (size30.of (rfl)) rfl rfl) hq₃ hq₂ (by decide) (by decide) rfl rfl) ?_
   refine RS (ok_call (Flush_arr a h) (Args.cons rfl (by first | exact Le.refl _ | exact Le.old _ _ | exact arr_any | exact arr_ex | exact arrD_any | exact op_any | exact (Le.old _ _).trans arrD_any | exact (Le.old _ _).trans arr_any) Args.nil)) ?_
   refine RVN 3 rfl ?_
   refine ⟨_, _, eff_allocV (n := 237) (d := 14) (k := 1000014) zero30 (by decide), fun b14 hb14 => ?_⟩
   have hBb14 := hb14.1
   have hlt_b3_b14 : b3 < b14 := hb14.2.1 1000003 _ _ _ rfl
   have hlt_b10_b14 : b10 < b14 := hb14.2.2 1000010 _ _ _ _ rfl
   have hlt_b11_b14 : b11 < b14 := hb14.2.1 1000011 _ _ _ rfl
   refine TF 6 ?_
   refine RN ?_
   refine ZA 1000014 (size30.of rfl) hBb14 rfl rfl rfl (LB 1000003 rfl (LT 1000004 rfl (LeftS.cons (t := 1000010) rfl (Surv.varK (by omega) (Surv.arr (by intro h; first | exact absurd h.1 (by decide) | exact absurd h.1.1 (by decide) | exact absurd h.2 (by omega) | exact absurd h.1.2 (by omega) | exact absurd h.1.1.2 (by omega)))) (LB 1000011 rfl (LT 1000012 rfl (LO 1000201 rfl (LO 1000202 rfl (LO 1000303 rfl (LW [3, 4, 9, 10, 12, 13, 114] rfl))))))))) ?_
   refine TL ?_
   refine RVN 1 rfl ?_
   refine GS ?_
   refine TN 5 ?_
   refine RS (OpOk.arO (k₁ := 1000201) (k₂ := 1000202) (ok_loadA (s := 1000003) (by decide) Try.underlying30 rfl (size30.of (rfl)) rfl rfl) hq₃ hq₂ (by decide) (by decide) rfl rfl) ?_
   refine RS (ok_call (Crash_arr a h) (Args.cons rfl (by first | exact Le.refl _ | exact Le.old _ _ | exact arr_any | exact arr_ex | exact arrD_any | exact op_any | exact (Le.old _ _).trans arrD_any | exact (Le.old _ _).trans arr_any) Args.nil)) ?_
   refine RVN 3 rfl ?_
   refine ⟨_, _, eff_allocV (n := 237) (d := 16) (k := 1000016) zero30 (by decide), fun b16 hb16 => ?_⟩
   have hBb16 := hb16.1
   have hlt_b3_b16 : b3 < b16 := hb16.2.1 1000003 _ _ _ rfl
   have hlt_b10_b16 : b10 < b16 := hb16.2.2 1000010 _ _ _ _ rfl
   have hlt_b11_b16 : b11 < b16 := hb16.2.1 1000011 _ _ _ rfl
   have hlt_b14_b16 : b14 < b16 := hb16.2.1 1000014 _ _ _ rfl
   refine TF 6 ?_
   refine RN ?_
   refine ZA 1000016 (size30.of rfl) hBb16 rfl rfl rfl (LB 1000003 rfl (LT 1000004 rfl (LeftS.cons (t := 1000010) rfl (Surv.varK (by omega) (Surv.arr (by intro h; first | exact absurd h.1 (by decide) | exact absurd h.1.1 (by decide) | exact absurd h.2 (by omega) | exact absurd h.1.2 (by omega) | exact absurd h.1.1.2 (by omega)))) (LB 1000011 rfl (LT 1000012 rfl (LB 1000014 rfl (LO 1000201 rfl (LO 1000202 rfl (LO 1000303 rfl (LW [3, 4, 9, 10, 12, 13, 15, 119] rfl)))))))))) ?_
   refine TL ?_
   refine RVN 1 rfl ?_
   refine A.sub (Sv [3, 4, 9, 10, 12, 13, 15, 17, 1000003, 1000004, 1000010, 1000011, 1000012, 1000014, 1000016, 1000201, 1000202, 1000303] rfl) ?_
   refine GS ?_
   refine TN 8 ?_
   refine RS (OpOk.arO (k₁ := 1000201) (k₂ := 1000202) (ok_loadA (s := 1000003) (by decide) Try.underlying30 rfl (size30.of (rfl)) rfl rfl) hq₃ hq₂ (by decide) (by decide) rfl rfl) ?_
   refine RS (OpOk.opO (k₁ := 1000303) (p := o) (ok_loadA (s := 1000004) (by decide) Try.underlying47 rfl (size47.of (rfl)) rfl rfl) hq (by decide) rfl) ?_
   refine RS (ok_build1D Try.underlying25 infoO rfl (by decide) (by decide) rfl (Le.old _ _) (Agg.tl rfl rfl)) ?_
   refine RS (ok_call (Play_arr a [o] h) (Args.cons rfl (by first | exact Le.refl _ | exact Le.old _ _ | exact arr_any | exact arr_ex | exact arrD_any | exact op_any | exact (Le.old _ _).trans arrD_any | exact (Le.old _ _).trans arr_any) (Args.cons rfl (by first | exact Le.refl _ | exact Le.old _ _ | exact arr_any | exact arr_ex | exact arrD_any | exact op_any | exact (Le.old _ _).trans arrD_any | exact (Le.old _ _).trans arr_any) Args.nil))) ?_
   refine RM rfl ?_
   refine RS (ok_extract rfl rfl) ?_
   refine RS (ok_extract rfl rfl) ?_
   refine RS (ok_extract rfl rfl) ?_
   refine RN ?_
   refine ⟨_, _, eff_allocV (n := 237) (d := 18) (k := 1000018) zero30 (by decide), fun b18 hb18 => ?_⟩
   have hBb18 := hb18.1
   have hlt_b3_b18 : b3 < b18 := hb18.2.1 1000003 _ _ _ rfl
   have hlt_b10_b18 : b10 < b18 := hb18.2.2 1000010 _ _ _ _ rfl
   have hlt_b11_b18 : b11 < b18 := hb18.2.1 1000011 _ _ _ rfl
   have hlt_b14_b18 : b14 < b18 := hb18.2.1 1000014 _ _ _ rfl
   have hlt_b16_b18 : b16 < b18 := hb18.2.1 1000016 _ _ _ rfl
   refine TF 9 ?_
   refine RN ?_
   refine ZA 1000018 (size30.of rfl) hBb18 rfl rfl rfl (LB 1000003 rfl (LT 1000004 rfl (LeftS.cons (t := 1000010) rfl (Surv.varK (by omega) (Surv.arr (by intro h; first | exact absurd h.1 (by decide) | exact absurd h.1.1 (by decide) | exact absurd h.2 (by omega) | exact absurd h.1.2 (by omega) | exact absurd h.1.1.2 (by omega)))) (LB 1000011 rfl (LT 1000012 rfl (LB 1000014 rfl (LB 1000016 rfl (LO 1000201 rfl (LO 1000202 rfl (LO 1000303 rfl (LW [3, 9, 10, 12, 13, 15, 17, 126, 127] rfl))))))))))) ?_
   refine TL ?_
   refine RVN 2 rfl ?_
   refine GT ?_
   refine RS (OpOk.arO (k₁ := 1000201) (k₂ := 1000202) (ok_loadA (s := 1000003) (by decide) Try.underlying30 rfl (size30.of (rfl)) rfl rfl) hq₃ hq₂ (by decide) (by decide) rfl rfl) ?_
   refine RS (OpOk.arO (k₁ := 1000201) (k₂ := 1000202) (ok_loadA (s := 1000003) (by decide) Try.underlying30 rfl (size30.of (rfl)) rfl rfl) hq₃ hq₂ (by decide) (by decide) rfl rfl) ?_
   refine RS (ok_call (Differ_a a a h) (Args.cons rfl (by first | exact Le.refl _ | exact Le.old _ _ | exact arr_any | exact arr_ex | exact arrD_any | exact op_any | exact (Le.old _ _).trans arrD_any | exact (Le.old _ _).trans arr_any) (Args.cons rfl (by first | exact Le.refl _ | exact Le.old _ _ | exact arr_any | exact arr_ex | exact arrD_any | exact op_any | exact (Le.old _ _).trans arrD_any | exact (Le.old _ _).trans arr_any) Args.nil))) ?_
   refine RVN 5 rfl ?_
   refine GT ?_
   refine RS (ok_loadVK (s := 1000010) (by decide) Try.underlying30 rfl size30 rfl rfl) ?_
   refine RS (OpOk.arO (k₁ := 1000201) (k₂ := 1000202) (ok_loadA (s := 1000003) (by decide) Try.underlying30 rfl (size30.of (rfl)) rfl rfl) hq₃ hq₂ (by decide) (by decide) rfl rfl) ?_
   refine RS (ok_call (Differ_b (zA 1) a rfl h) (Args.cons rfl (by first | exact Le.refl _ | exact Le.old _ _ | exact arr_any | exact arr_ex | exact arrD_any | exact op_any | exact (Le.old _ _).trans arrD_any | exact (Le.old _ _).trans arr_any) (Args.cons rfl (by first | exact Le.refl _ | exact Le.old _ _ | exact arr_any | exact arr_ex | exact arrD_any | exact op_any | exact (Le.old _ _).trans arrD_any | exact (Le.old _ _).trans arr_any) Args.nil))) ?_
   refine RVN 5 rfl ?_
   refine A.sub (Sv [3, 9, 12, 13, 15, 17, 19, 20, 22, 24, 1000003, 1000004, 1000010, 1000011, 1000012, 1000014, 1000016, 1000018, 1000201, 1000202, 1000303] rfl) ?_
   refine QS ?_
   refine GT ?_
   refine RS (OpOk.arO (k₁ := 1000201) (k₂ := 1000202) (ok_loadA (s := 1000003) (by decide) Try.underlying30 rfl (size30.of (rfl)) rfl rfl) hq₃ hq₂ (by decide) (by decide) rfl rfl) ?_
   refine RS (ok_call (Check_fn a) (Args.cons rfl (by first | exact Le.refl _ | exact Le.old _ _ | exact arr_any | exact arr_ex | exact arrD_any | exact op_any | exact (Le.old _ _).trans arrD_any | exact (Le.old _ _).trans arr_any) Args.nil)) ?_; refine RZ (.int .i64 1) (by rw [h]) ?_
   refine RV 2 rfl ?_
   refine RF ?_
   refine RV 4 rfl ?_
   refine RF ?_
   refine RV 5 rfl ?_
   refine RF ?_
   refine RV 5 rfl ?_
   refine RF ?_
   refine RV 5 rfl ?_
   refine RF ?_
   refine RV 5 rfl ?_
   refine RF ?_
   refine RV 4 rfl ?_
   refine RF ?_
   refine RV 2 rfl ?_
   refine RF ?_
   refine RV 6 rfl ?_
   refine RQ (ok_neBool Try.underlying4 rfl rfl) ?_; refine RZ (.bool false) (by rfl) ?_
   refine RV 4 rfl ?_
   refine RT ?_
   refine RV 3 rfl ?_
   refine RF ?_
   refine RVN 2 rfl ?_
   refine A.sub (Sv [3, 9, 12, 19, 189, 1000003, 1000004, 1000010, 1000011, 1000012, 1000014, 1000016, 1000018, 1000201, 1000202, 1000303] rfl) ?_
   refine A.no rfl ?_
   refine QK ?_
   refine QS ?_
   refine GT ?_
   refine RV 2 rfl ?_
   refine RF ?_
   refine RN ?_
   refine A.no rfl ?_
   refine QK ?_
   refine GS ?_
   refine TN 5 ?_
   refine RS (OpOk.arO (k₁ := 1000201) (k₂ := 1000202) (ok_loadA (s := 1000003) (by decide) Try.underlying30 rfl (size30.of (rfl)) rfl rfl) hq₃ hq₂ (by decide) (by decide) rfl rfl) ?_
   refine RS (ok_call (Read_arr a 0 h) (Args.cons rfl (by first | exact Le.refl _ | exact Le.old _ _ | exact arr_any | exact arr_ex | exact arrD_any | exact op_any | exact (Le.old _ _).trans arrD_any | exact (Le.old _ _).trans arr_any) (Args.cons rfl (by first | exact Le.refl _ | exact Le.old _ _ | exact arr_any | exact arr_ex | exact arrD_any | exact op_any | exact (Le.old _ _).trans arrD_any | exact (Le.old _ _).trans arr_any) Args.nil))) ?_
   refine RVN 3 rfl ?_
   refine ZN 1000025 zero41 fun b25 ⟨hBb25, hb25⟩ => ?_
   refine TF 6 ?_
   refine RN ?_
   refine ⟨_, eff_storeA (n := 237) (s := 1000025) (size41.of (bk_len _)) rfl rfl (bk_one _) hBb25 rfl (by simp only [bk_len]) (LT 1000003 rfl (LT 1000004 rfl (LT 1000011 rfl (LT 1000012 rfl (LT 1000014 rfl (LT 1000016 rfl (LT 1000018 rfl (LO 1000201 rfl (LO 1000202 rfl (LO 1000303 rfl (LW [3, 9, 12, 19, 209] rfl))))))))))), ?_⟩
   refine TL ?_
   refine RVN 1 rfl ?_
   refine GS ?_
   refine TN 6 ?_
   refine RS (OpOk.arO (k₁ := 1000201) (k₂ := 1000202) (ok_loadA (s := 1000003) (by decide) Try.underlying30 rfl (size30.of (rfl)) rfl rfl) hq₃ hq₂ (by decide) (by decide) rfl rfl) ?_
   refine RS (ok_litP [] Try.underlying41 info5 zero41 (by decide) trivial rfl) ?_; refine RZ (aggV (bkV zB)) (by rfl) ?_
   refine RS (ok_call (Write_arr a 0 zB h) (Args.cons rfl (by first | exact Le.refl _ | exact Le.old _ _ | exact arr_any | exact arr_ex | exact arrD_any | exact op_any | exact (Le.old _ _).trans arrD_any | exact (Le.old _ _).trans arr_any) (Args.cons rfl (by first | exact Le.refl _ | exact Le.old _ _ | exact arr_any | exact arr_ex | exact arrD_any | exact op_any | exact (Le.old _ _).trans arrD_any | exact (Le.old _ _).trans arr_any) (Args.cons rfl (by first | exact Le.refl _ | exact Le.old _ _ | exact arr_any | exact arr_ex | exact arrD_any | exact op_any | exact (Le.old _ _).trans arrD_any | exact (Le.old _ _).trans arr_any) Args.nil)))) ?_
   refine RVN 3 rfl ?_
   refine ZN 1000027 zero30 fun b27 ⟨hBb27, hb27⟩ => ?_
   have hlt_b3_b27 := hb27 1000003 b3 _ _ rfl
   have hlt_b11_b27 := hb27 1000011 b11 _ _ rfl
   have hlt_b14_b27 := hb27 1000014 b14 _ _ rfl
   have hlt_b16_b27 := hb27 1000016 b16 _ _ rfl
   have hlt_b18_b27 := hb27 1000018 b18 _ _ rfl
   refine TF 7 ?_
   refine RN ?_
   refine ZA 1000027 (size30.of rfl) hBb27 rfl rfl rfl (LB 1000003 rfl (LT 1000004 rfl (LB 1000011 rfl (LT 1000012 rfl (LB 1000014 rfl (LB 1000016 rfl (LB 1000018 rfl (LT 1000025 rfl (LO 1000201 rfl (LO 1000202 rfl (LO 1000303 rfl (LW [9, 12, 19, 26, 215] rfl)))))))))))) ?_
   refine TL ?_
   refine RVN 1 rfl ?_
   refine GT ?_
   refine RV 3 rfl ?_
   refine RT ?_
   refine RV 4 rfl ?_
   refine RT ?_
   refine RV 3 rfl ?_
   refine RQ (ok_lenV Try.underlying37 rfl) ?_
   refine RQ (ok_bin rfl rfl rfl) ?_
   refine RT ?_
   refine RV 2 rfl ?_
   refine RQ (ok_loadA (s := 1000012) (by decide) Try.underlying49 rfl (size49.of (rs_len _)) rfl rfl) ?_
   refine RQ (ok_lit [] (rsV zR) (fun _ _ => rfl) (by kernel_rfl)) ?_
   refine RQ (ok_eqlT (n := 4) true flat49 (by decide) (by kernel_rfl) (by kernel_rfl) rfl rfl (kinRs _) (kinRs _) (iff_of_true rfl rfl)) ?_; refine RZ (.bool true) (by first | rfl | (simp; done) | (simp; omega) | (simp [*]; done) | (simp [*]; omega)) ?_
   refine RV 2 rfl ?_
   refine RQ (ok_call (lives21_fn) Args.nil) ?_
   refine RVN 2 rfl ?_
   refine A.sub (Sv [6, 1000003, 1000004, 1000011, 1000012, 1000014, 1000016, 1000018, 1000025, 1000027, 1000201, 1000202, 1000303] rfl) ?_
   refine A.ret ?_
   exact ER rfl rfl
theorem Err_law (a : Ar) (o : OpA) (m : Int) : Fn Try.prog 5 [arrD false a, opG o, .v (.int .i64 (m))] (.v (.bool true)) := by
 by_cases hb : 20 < a.now.length ∨ 20 < a.dur.length ∨ 100 < o.d.length
 ·exact Err_big a o m hb
 by_cases hv : 1 ≤ a.now.length ∧ a.now.length = a.dur.length
 ·exact Err_v a o m (by omega) (by omega) (by omega) hv.1 hv.2 (if_pos ⟨hv.2, hv.1, by omega⟩)
 ·exact Err_i a o m (by omega) (by omega) (by omega) (by omega) (if_neg (by omega))
set_option maxHeartbeats 16000000 in
theorem Known_law  : Fn Try.prog 7 [] (.v (.bool true)) := by
 refine FV Try.func7 rfl Try.ntmps7 rfl fun w₀ => ?_
 refine GV rfl ?_
 refine GS ?_
 refine TN 4 ?_
 refine RS ((ok_callB (New_ok 4096 (by decide) (by decide)) (fun _ _ h => tup_le2 (arr_mono (own_monoT h)) (Le.refl _)) (A1 rfl))) ?_
 refine RM rfl ?_
 refine RS (ok_extract rfl rfl) ?_
 refine RS (ok_extract rfl rfl) ?_
 refine RN ?_
 refine ZN 1000001 zero30 fun b1 ⟨hBb1, hb1⟩ => ?_
 refine TF 5 ?_
 refine RN ?_
 refine ⟨_, eff_storeK (n := 86) (s := 1000001) size30 rfl rfl (Le.refl _) (Agg.arr) hBb1 rfl (rfl) (Surv.arr (by intro h; first | exact absurd h.1 (by decide) | exact absurd h.1.1 (by decide) | exact absurd h.2 (by omega) | exact absurd h.1.2 (by omega) | exact absurd h.1.1.2 (by omega))) (LW [1, 19] rfl), ?_⟩
 refine TL ?_
 refine RVN 1 rfl ?_
 refine GV rfl ?_
 refine QS ?_
 refine GV rfl ?_
 refine A.block ?_
 refine A.subL (SubL.cons (t := 1) rfl (Le.refl _) (SubL.cons (t := 2) rfl (Le.refl _) (SubL.cons (t := 3) rfl (ownK_nil (base := w₀.heap.size) (m := 3) (e := 47)) (SubL.cons (t := 4) rfl (Le.refl _) (SubL.cons (t := 1000001) rfl (Le.refl _) SubL.nil))))) ?_
 refine A.loop (ι := Nat) (fun i => i ≤ 257) (fun i => [(1, .v (ptr b1)), (2, .v (nI (0))), (3, ownK w₀.heap.size 47 3 ((kops i).map (opZ (zOwn 41 w₀.heap.size)))), (4, .v (nI (i))), (1000001, varK b1 30 2 (arrZ (zOwn 41 w₀.heap.size) true (zA 4096)))]) (fun i => 257 - i) 0 ?_ ?_ ?_
 ·exact Nat.zero_le _
 ·exact (KC 1 rfl (KC 2 rfl (KE 3 rfl (by rfl) (KE 4 rfl (by rfl) (KC 1000001 rfl KN)))))
 intro i hG
 refine QS ?_
 refine GV rfl ?_
 refine A.cond rfl (fun hc21 => ?_) (fun hc21 => ?_)
 ·have hlt : i < 257 := by simp at hc21; omega
  refine QK ?_
  refine QSB ?_
  refine GS ?_
  refine RunTK.newG 3 (by decide) rfl (.inl rfl) ?_
  refine RM rfl ?_
  refine RS (ok_conv Try.underlying3 Try.underlying5 rfl) ?_; refine RZ (byteV (UInt8.ofNat i)) (by rw [wrap_u8_nat]; rfl) ?_
  refine RS (ok_call (Plain_fn (UInt8.ofNat i)) (A1 rfl)) ?_
  refine RN ?_
  refine ⟨_, _, _, eff_allocF (n := 86) (d := 5) (k := 1000005) [(1000001, (varK b1 30 2 (arrZ (zOwn 41 w₀.heap.size) true (zA 4096))), fun b => varK b1 30 2 (arrZ (zCut (zOwn 41 w₀.heap.size) b) true (zA 4096))), (3, (ownK w₀.heap.size 47 3 ((kops i).map (opZ (zOwn 41 w₀.heap.size)))), fun b => ownK w₀.heap.size 47 3 ((kops i).map (opZ (zCut (zOwn 41 w₀.heap.size) b))))] zero41 (by decide) (fun p hp => by simp only [List.mem_cons, List.not_mem_nil, or_false] at hp; rcases hp with rfl | rfl <;> exact ⟨rfl, by dsimp only; decide, fun w x h => by first | exact varK_arr_cut h | exact sli_cut h | exact ops_cut h | exact ownK_cut h | exact arr_cut h⟩), fun b5 hb5 => ?_⟩
  have hBb5 := hb5.1
  refine TF 4 ?_
  refine RN ?_
  refine ⟨_, eff_storeA (n := 86) (s := 1000005) (size41.of (bk_len _)) rfl rfl (bk_one _) hBb5 rfl (by simp only [bk_len]) (LeftS.cons (t := 3) rfl (Surv.ownO (by decide) (by intro h; first | exact absurd h.1 (by decide) | exact absurd h.1.1 (by decide) | exact absurd h.1.1.1 (by decide) | exact absurd h.2 (by omega) | exact absurd h.1.2 (by omega))) (LeftS.cons (t := 1000001) rfl (Surv.varKT (by decide) (Surv.arr (by intro h; first | exact absurd h.1 (by decide) | exact absurd h.1.1 (by decide) | exact absurd h.2 (by omega) | exact absurd h.1.2 (by omega) | exact absurd h.1.1.2 (by omega)))) (LW [1, 2, 4, 5] rfl))), ?_⟩
  refine TL ?_
  refine RN ?_
  refine GE ?_
  refine TF 7 ?_
  refine RV 2 rfl ?_
  refine RS (ok_rem rfl rfl (by decide)) ?_; refine RZ (nI (i % 256)) (by rw [tmod_lit _ (by decide)]; rfl) ?_
  refine RB rfl rfl rfl ?_
  refine RZ (nI (16 * (i % 256))) (wrap_eq (by omega) (by omega)) ?_
  refine RS ((OpOk.asV' (ok_sliceX (l := 0) (h := 32) (m := 32) Try.underlying41 info5 rfl (.inr ⟨rfl, rfl⟩) (.inr ⟨rfl, rfl, rfl⟩) (.inr ⟨rfl, rfl⟩) (by decide) (by decide) (by decide) (.inr rfl)) (show (.slice (some ⟨b5, 0, none⟩) 32 32 : Value) = .slice (some ⟨b5, 0, none⟩) (plain (UInt8.ofNat i)).1.length 32 from by rw [(plain (UInt8.ofNat i)).2]))) ?_
  refine RS (OpOk.opB (Z := zOwn 41 w₀.heap.size) (p := kop i) (k := 1000005) (q := 32) (ok_litS [(0, byteV 2), (1, nI (16 * (i % 256))), (2, .slice (some ⟨b5, 0, none⟩) (plain (UInt8.ofNat i)).1.length 32)] [byteV 2, nI (16 * (i % 256)), .slice (some ⟨b5, 0, none⟩) (plain (UInt8.ofNat i)).1.length 32] ⟨rfl, rfl, rfl, rfl, rfl, rfl, trivial⟩ (buildO3 _ _ _ _ _)) (by show (plain (UInt8.ofNat i)).1.length ≤ 32; rw [(plain (UInt8.ofNat i)).2]; decide) (by decide) rfl ⟨rfl, hBb5⟩ (fun j u h => h)) ?_
  refine RS (ok_build1D Try.underlying25 infoO rfl (by decide) (by decide) rfl (Le.refl _) Agg.opz) ?_
  refine RN ?_
  refine ⟨_, eff_appendK Try.underlying25 infoO (by decide) rfl (by decide) rfl (ownK_le (by simp) (map_le fun o => op_mono zCut_any)) rfl (Le.refl _) Agg.opz (fun g d hd => by obtain ⟨o, _, rfl⟩ := List.mem_map.1 hd; exact Surv.opz (fun h => absurd h.1 (by decide))) (fun g => Surv.opz (fun h => absurd h.1 (by decide))) (by rw [List.length_map, kops_len]; omega) (by decide) (fun g hg => (LeftS.cons (t := 1000001) rfl (Surv.varKT (by decide) (Surv.arr (by intro h; first | exact absurd h.1 (by decide) | exact absurd h.1.1 (by decide) | exact absurd h.2 (by omega) | exact absurd h.1.2 (by omega) | exact absurd h.1.1.2 (by omega)))) (LT 1000005 rfl (LW [1, 2, 4] rfl)))), ?_⟩
  refine TL ?_
  refine RVN 1 rfl ?_
  refine End.normal_block ?_
  refine EN ?_
  refine A.subL (SubL.cons (t := 1) rfl (Le.refl _) (SubL.cons (t := 2) rfl (Le.refl _) (SubL.cons (t := 4) rfl (Le.refl _) (SubL.cons (t := 3) rfl (Le.refl _) (SubL.cons (t := 1000001) rfl (varK_le (arr_mono zCut_le)) SubL.nil))))) ?_
  refine GTE ?_
  refine RV 2 rfl ?_
  refine RZ (nI (i + 1)) (wrap_eq (by omega) (by omega)) ?_
  refine RVN 1 rfl ?_
  refine End.normal_then ?_
  refine End.again (i + 1) ?_ ?_ ?_
  ·show _ ≤ _; omega
  ·show _ - _ < _ - _; omega
  ·exact (KC 1 rfl (KC 2 rfl (KE 3 rfl (by rw [← kops_succ i, List.map_append]; rfl) (KC 4 rfl (KC 1000001 rfl KN)))))
 ·have hge : i = 257 := by simp at hc21; omega
  refine A.exit ?_
  refine End.exit_then ?_
  refine End.exit_then ?_
  refine End.exit_here ?_
  refine EN ?_
  subst hge
  refine A.regsF [⟨8, 6, 30, [.slice none 0 0] ++ [.slice none 0 0], 9, 2, arrZ (zOwn 41 w₀.heap.size) true (runA (zA 4096) (kops 256))⟩] (by kernel_rfl) (by kernel_rfl) (by kernel_rfl) (SurvF.cons (SurvF.cons (fun B' g hg => (show Surv B' 30 g _ from Surv.arr (by intro h; first | exact absurd h.1 (by decide) | exact absurd h.1.1 (by decide) | exact absurd h.2 (by omega) | exact absurd h.1.2 (by omega) | exact absurd h.1.1.2 (by omega)))) (SurvF.nil rfl)) (SurvF.nil rfl)) ?_
  refine KofsK.pure (_) rfl rfl FromF.all (ok_loadVK (s := 1000001) (by decide) Try.underlying30 rfl size30 rfl rfl) (SurvF.cons (fun B' g hg => (show Surv B' 30 g _ from Surv.arr (by intro h; first | exact absurd h.1 (by decide) | exact absurd h.1.1 (by decide) | exact absurd h.2 (by omega) | exact absurd h.1.2 (by omega) | exact absurd h.1.1.2 (by omega)))) (SurvF.nil rfl)) ?_
  refine KofsK.pure (_) rfl rfl FromF.all (ok_move rfl) (SurvF.cons (fun B' g hg => (show Surv B' 30 g _ from Surv.ownO (by decide) (by intro h; first | exact absurd h.1 (by decide) | exact absurd h.1.1 (by decide) | exact absurd h.1.1.1 (by decide) | exact absurd h.2 (by omega) | exact absurd h.1.2 (by omega)))) (SurvF.nil rfl)) ?_
  refine KofsK.pure ((37, _) :: _) rfl rfl (FromF.op 1 (by kernel_rfl) rfl rfl FromF.all) (ok_sliceLK 256 Try.underlying25 infoO rfl ownK_lstE rfl (by rw [List.length_map, kops_len]; decide)) (SurvF.cons (fun B' g hg => (show Surv B' 30 g _ from Surv.lstE (by decide) (fun d hd => by obtain ⟨o, _, rfl⟩ := List.mem_map.1 (List.mem_of_mem_take hd); exact Surv.opz (fun h => absurd h.1 (by decide))))) (SurvF.nil rfl)) ?_
  refine KofsK.pure ((36, _) :: (38, _) :: _) rfl rfl (FromF.op 0 (by kernel_rfl) rfl rfl (FromF.op 2 (by kernel_rfl) rfl rfl FromF.all)) (ok_callB (Play_ok (zA 4096) (kops 256) (chk_ok (zA_ok 4096) (by decide) (by decide)) (by rw [(zA_ok 4096).1]; decide) (by rw [(zA_ok 4096).2]; decide) ((zA_ok 4096).1.trans (zA_ok 4096).2.symm) (by rw [kops_len]; decide)) (fun _ _ h => tup_le3 (arr_mono (own_monoT h)) (sli_mono (own_monoT h)) (Le.refl _)) (Args.cons rfl (by first | exact Le.refl _ | exact Le.old _ _ | exact arr_any | exact arr_ex | exact arrD_any | exact op_any | exact (Le.old _ _).trans arrD_any | exact (Le.old _ _).trans arr_any) (Args.cons rfl ((Le.eq (by rw [← List.map_take, kops_take (by decide)])).trans ops_any) Args.nil))) (SurvF.cons (fun B' g hg => (show Surv B' 30 g _ from Surv.tup3 (Surv.arr (by intro h; first | exact absurd h.1 (by decide) | exact absurd h.1.1 (by decide) | exact absurd h.2 (by omega) | exact absurd h.1.2 (by omega) | exact absurd h.1.1.2 (by omega))) (Surv.sli (by intro h; first | exact absurd h.1 (by decide) | exact absurd h.1.1 (by decide) | exact absurd h.1.1.1 (by decide) | exact absurd h.2 (by omega) | exact absurd h.1.2 (by omega))) (Surv.v _))) (SurvF.nil rfl)) ?_
  refine KofsK.pure ((39, _) :: _) rfl rfl (FromF.op 3 (by kernel_rfl) rfl rfl FromF.all) (ok_move rfl) (SurvF.cons (fun B' g hg => (show Surv B' 30 g _ from Surv.tup3 (Surv.arr (by intro h; first | exact absurd h.1 (by decide) | exact absurd h.1.1 (by decide) | exact absurd h.2 (by omega) | exact absurd h.1.2 (by omega) | exact absurd h.1.1.2 (by omega))) (Surv.sli (by intro h; first | exact absurd h.1 (by decide) | exact absurd h.1.1 (by decide) | exact absurd h.1.1.1 (by decide) | exact absurd h.2 (by omega) | exact absurd h.1.2 (by omega))) (Surv.v _))) (SurvF.nil rfl)) ?_
  refine KofsK.pure ((35, _) :: _) rfl rfl (FromF.op 4 (by kernel_rfl) rfl rfl FromF.all) (ok_extract rfl rfl) (SurvF.cons (fun B' g hg => (show Surv B' 30 g _ from Surv.arr (by intro h; first | exact absurd h.1 (by decide) | exact absurd h.1.1 (by decide) | exact absurd h.2 (by omega) | exact absurd h.1.2 (by omega) | exact absurd h.1.1.2 (by omega)))) (SurvF.nil rfl)) ?_
  refine KofsK.pure ((35, _) :: _) rfl rfl (FromF.op 4 (by kernel_rfl) rfl rfl FromF.all) (ok_extract rfl rfl) (SurvF.cons (fun B' g hg => (show Surv B' 30 g _ from Surv.sli (by intro h; first | exact absurd h.1 (by decide) | exact absurd h.1.1 (by decide) | exact absurd h.1.1.1 (by decide) | exact absurd h.2 (by omega) | exact absurd h.1.2 (by omega)))) (SurvF.nil rfl)) ?_
  refine KofsK.pure ((35, _) :: _) rfl rfl (FromF.op 4 (by kernel_rfl) rfl rfl FromF.all) (ok_extract rfl rfl) (SurvF.cons (fun B' g hg => (show Surv B' 30 g _ from Surv.v _)) (SurvF.nil rfl)) ?_
  refine KofsK.alloc 0 rfl rfl rfl rfl zero30 rfl ?_
  refine KofsK.store 0 ((40, _) :: _) rfl rfl rfl rfl (by kernel_rfl) (FromF.op 5 (by kernel_rfl) rfl rfl FromF.all) rfl (Le.refl _) size30 rfl (Agg.arr) ?_
  refine KofsK.pure ((41, _) :: _) rfl rfl (FromF.op 6 (by kernel_rfl) rfl rfl FromF.all) (ok_assign rfl) (SurvF.cons (fun B' g hg => (show Surv B' 30 g _ from Surv.sli (by intro h; first | exact absurd h.1 (by decide) | exact absurd h.1.1 (by decide) | exact absurd h.1.1.1 (by decide) | exact absurd h.2 (by omega) | exact absurd h.1.2 (by omega)))) (SurvF.nil rfl)) ?_
  refine KofsK.pure ((42, _) :: _) rfl rfl (FromF.op 7 (by kernel_rfl) rfl rfl FromF.all) (ok_assign rfl) (SurvF.cons (fun B' g hg => (show Surv B' 30 g _ from Surv.v _)) (SurvF.nil rfl)) ?_
  refine KofsK.nil ⟨by kernel_rfl, _, (FromFW.op (t := 7) 10 rfl rfl (FromFW.op (t := 8) 11 rfl rfl FromFW.all)), fun bs hbs hds => ?_⟩
  have hb6 := hbs 0 (by simp)
  dsimp only [varEnvF]
  generalize bs 0 = b6 at *
  have hBb6 := hb6.1
  have hlt_b1_b6 : b1 < b6 := hb6.2.2 1000001 _ _ _ _ rfl
  refine A.sub (Sv [1, 2, 3, 6, 7, 8, 1000001, 1000006] rfl) ?_
  refine GS ?_
  refine TN 7 ?_
  refine RS (ok_loadVK (s := 1000001) (by decide) Try.underlying30 rfl size30 rfl rfl) ?_
  refine RM rfl ?_
  refine RS (ok_call (Play_long (zA 4096) (kops 257) (chk_ok (zA_ok 4096) (by decide) (by decide)) (by rw [kops_len]; decide)) (Args.cons rfl (by first | exact Le.refl _ | exact Le.old _ _ | exact arr_any | exact arr_ex | exact arrD_any | exact op_any | exact (Le.old _ _).trans arrD_any | exact (Le.old _ _).trans arr_any) (Args.cons rfl (ownK_lstE.trans ops_any) Args.nil))) ?_
  refine RM rfl ?_
  refine RS (ok_extract rfl rfl) ?_
  refine RS (ok_extract rfl rfl) ?_
  refine RS (ok_extract rfl rfl) ?_
  refine RN ?_
  refine ⟨_, _, eff_allocV (n := 86) (d := 9) (k := 1000009) zero30 (by decide), fun b9 hb9 => ?_⟩
  have hBb9 := hb9.1
  have hlt_b1_b9 : b1 < b9 := hb9.2.2 1000001 _ _ _ _ rfl
  have hlt_b6_b9 : b6 < b9 := hb9.2.2 1000006 _ _ _ _ rfl
  refine TF 8 ?_
  refine RN ?_
  refine ZA 1000009 (size30.of rfl) hBb9 rfl rfl rfl (LeftS.cons (t := 7) rfl (Surv.sli (by intro h; first | exact absurd h.1 (by decide) | exact absurd h.1.1 (by decide) | exact absurd h.1.1.1 (by decide) | exact absurd h.2 (by omega) | exact absurd h.1.2 (by omega))) (LeftS.cons (t := 1000001) rfl (Surv.varK (by omega) (Surv.arr (by intro h; first | exact absurd h.1 (by decide) | exact absurd h.1.1 (by decide) | exact absurd h.2 (by omega) | exact absurd h.1.2 (by omega) | exact absurd h.1.1.2 (by omega)))) (LeftS.cons (t := 1000006) rfl (Surv.varK (by omega) (Surv.arr (by intro h; first | exact absurd h.1 (by decide) | exact absurd h.1.1 (by decide) | exact absurd h.2 (by omega) | exact absurd h.1.2 (by omega) | exact absurd h.1.1.2 (by omega)))) (LW [2, 6, 8, 48, 49] rfl)))) ?_
  refine TL ?_
  refine RVN 2 rfl ?_
  refine GS ?_
  refine RunTK.newG 5 (by decide) rfl (.inl rfl) ?_
  refine RS (ok_loadVK (s := 1000006) (by decide) Try.underlying30 rfl size30 rfl rfl) ?_
  refine RS (ok_call (Read_ok (runA (zA 4096) (kops 256)) 4080 (chk_ok (run_ok (L := kops 256) (zA_ok 4096)) (by decide) (by decide)) (by rw [(run_ok (L := kops 256) (zA_ok 4096)).1]; decide)) (Args.cons rfl (by first | exact Le.refl _ | exact Le.old _ _ | exact arr_any | exact arr_ex | exact arrD_any | exact op_any | exact (Le.old _ _).trans arrD_any | exact (Le.old _ _).trans arr_any) (Args.cons rfl (by first | exact Le.refl _ | exact Le.old _ _ | exact arr_any | exact arr_ex | exact arrD_any | exact op_any | exact (Le.old _ _).trans arrD_any | exact (Le.old _ _).trans arr_any) Args.nil))) ?_
  refine RV 2 rfl ?_
  refine RZ (aggV (bkV (plain 255))) (by rw [known_at]) ?_
  refine RVN 1 rfl ?_
  refine ⟨_, _, _, eff_allocF (n := 86) (d := 12) (k := 1000012) [(1000006, (varK b6 30 2 (arrZ (zOwn 41 w₀.heap.size) true (runA (zA 4096) (kops 256)))), fun b => varK b6 30 2 (arrZ (zCut (zOwn 41 w₀.heap.size) b) true (runA (zA 4096) (kops 256))))] zero41 (by decide) (fun p hp => by simp only [List.mem_cons, List.not_mem_nil, or_false] at hp; rcases hp with rfl <;> exact ⟨rfl, by dsimp only; decide, fun w x h => by first | exact varK_arr_cut h | exact sli_cut h | exact ops_cut h | exact ownK_cut h | exact arr_cut h⟩), fun b12 hb12 => ?_⟩
  have hBb12 := hb12.1
  refine TF 6 ?_
  refine RN ?_
  refine ⟨_, eff_storeA (n := 86) (s := 1000012) (size41.of (bk_len _)) rfl rfl (bk_one _) hBb12 rfl (by simp only [bk_len]) (LeftS.cons (t := 7) rfl (Surv.sli (by intro h; first | exact absurd h.1 (by decide) | exact absurd h.1.1 (by decide) | exact absurd h.1.1.1 (by decide) | exact absurd h.2 (by omega) | exact absurd h.1.2 (by omega))) (LeftS.cons (t := 1000006) rfl (Surv.varKT (by decide) (Surv.arr (by intro h; first | exact absurd h.1 (by decide) | exact absurd h.1.1 (by decide) | exact absurd h.2 (by omega) | exact absurd h.1.2 (by omega) | exact absurd h.1.1.2 (by omega)))) (LW [2, 8, 11, 12, 54] rfl))), ?_⟩
  refine TL ?_
  refine RVN 1 rfl ?_
  refine GS ?_
  refine TN 4 ?_
  refine RS (ok_call (New_bad 4097 (by decide)) (A1 rfl)) ?_
  refine RVN 3 rfl ?_
  refine ⟨_, _, eff_allocV (n := 86) (d := 14) (k := 1000014) zero30 (by decide), fun b14 hb14 => ?_⟩
  have hBb14 := hb14.1
  have hlt_b6_b14 : b6 < b14 := hb14.2.2 1000006 _ _ _ _ rfl
  refine TF 5 ?_
  refine RN ?_
  refine ZA 1000014 (size30.of rfl) hBb14 rfl rfl rfl (LeftS.cons (t := 7) rfl (Surv.sli (by intro h; first | exact absurd h.1 (by decide) | exact absurd h.1.1 (by decide) | exact absurd h.1.1.1 (by decide) | exact absurd h.2 (by omega) | exact absurd h.1.2 (by omega))) (LeftS.cons (t := 1000006) rfl (Surv.varK (by omega) (Surv.arr (by intro h; first | exact absurd h.1 (by decide) | exact absurd h.1.1 (by decide) | exact absurd h.2 (by omega) | exact absurd h.1.2 (by omega) | exact absurd h.1.1.2 (by omega)))) (LT 1000012 rfl (LW [2, 8, 11, 12, 13, 58] rfl)))) ?_
  refine TL ?_
  refine RVN 1 rfl ?_
  refine A.sub (Sv [2, 7, 8, 11, 12, 13, 15, 1000006, 1000012, 1000014] rfl) ?_
  refine GTD ?_
  refine RV 3 rfl ?_
  refine RZ (.int .i64 0) (by rfl) ?_
  refine RV 2 rfl ?_
  refine RZ (.int .i64 0) (by rfl) ?_
  refine RB rfl rfl rfl ?_
  refine RT ?_
  refine RV 3 rfl ?_
  refine RT ?_
  refine RV 4 rfl ?_
  refine RT ?_
  refine RV 3 rfl ?_
  refine RQ (ok_lenRD Try.underlying37 rfl sli_rowD) ?_; refine RZ (nI (256)) (by rw [kops_len]) ?_
  refine RQ (ok_bin rfl rfl rfl) ?_
  refine RT ?_
  refine RV 2 rfl ?_
  refine RQ (ok_loadA (s := 1000012) (by decide) Try.underlying41 rfl (size41.of (bk_len _)) rfl rfl) ?_
  refine RQ (ok_call (Plain_fn 255) (A1 rfl)) ?_
  refine RQ (ok_eqlT (n := 4) true flat41 (by decide) (by kernel_rfl) (by kernel_rfl) rfl rfl (kinBk _) (kinBk _) (iff_of_true rfl rfl)) ?_; refine RZ (.bool true) (by first | rfl | (simp; done) | (simp; omega) | (simp [*]; done) | (simp [*]; omega)) ?_
  refine RV 2 rfl ?_
  refine RQ (ok_call (lives21_fn) Args.nil) ?_
  refine RVN 2 rfl ?_
  refine A.sub (Sv [0, 1000006, 1000012, 1000014] rfl) ?_
  refine A.ret ?_
  exact ER rfl rfl
end Go.Proofs.Ytggijkmlmklneaa
