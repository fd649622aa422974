/-
  OWN TEXTS of this seat, put together, part 7: C16x, C16y, C16z, SrtD, C16zk.
-/
import Derived.Test.YtmkpekmhhbcifaaGreatDoorQk0
import Derived.Test.YtmkpekmhhbcifaaGreatDoorQk2
import Derived.Test.YtmkpekmhhbcifaaGreatDoorQk6
namespace Go.Proofs.YtmkpekmhhbcifaaGreatDoor
set_option linter.unusedVariables false
set_option linter.unusedSimpArgs false
set_option maxRecDepth 20000
open Go Go.RowKit
set_option maxHeartbeats 8000000 in
theorem SwR_fnW (g q : Nat) (ys : List Value) (a b n : Nat) (W : List NodT) (hW : FitT W) (hsm : W.length ≤ 1000000) (ha : a + n ≤ W.length) (hb : b + n ≤ W.length)  : FnW Tryz.prog 161 [] 57 g (nodsV W ++ ys) (nodsV (swR a b n W) ++ ys) ([.slice (some ⟨g, 0, none⟩) W.length q, nI a, nI b, nI n, .func (.func 122) #[] #[]].map D.v) := by
 refine FnW.of (n := 38) (kb := 1000801) (kw := 1000802) Tryz.func161 rfl (by kernel_rfl) Tryz.ntmps161 (by simp) (by decide) (fun p hp => by cases hp) (by decide) (by decide) [(0, .v (.slice (some ⟨g, 0, none⟩) W.length q)), (1, .v (nI a)), (2, .v (nI b)), (3, .v (nI n)), (4, .v (.func (.func 122) #[] #[]))]
  (fun p hp => by simp only [List.mem_cons, List.not_mem_nil, or_false] at hp; rcases hp with rfl | rfl | rfl | rfl | rfl <;> exact ⟨_, rfl, rfl⟩) fun w₀ w₁ hw hM => ?_
 have hBg : w₀.heap.size ≤ g := Nat.le_of_eq hw
 refine GV rfl (A.block ?_);refine A.loop (ι := Nat) (fun i => i ≤ n) (fun i => [(0, .v (.slice (some ⟨g, 0, none⟩) W.length q)), (1, .v (nI (a))), (2, .v (nI (b))), (3, .v (nI (n))), (10, .v (nI (i))), (1000801, blk g 57 (nodsV (swR a b i W) ++ ys)), (1000802, wroteD 57 g w₁)]) (fun i => n - i) 0 ?_ ?_ ?_
 ·exact Nat.zero_le _
 ·exact (KC 0 rfl (KC 1 rfl (KC 2 rfl (KC 3 rfl (KE 10 rfl (by rfl) (KE 1000801 rfl (by rfl) (KC 1000802 rfl KN)))))))
 intro i hi'
 refine QS (GV rfl ?_);refine A.cond rfl (fun hc13 => ?_) (fun hc13 => ?_)
 ·have hi : i < n := by simp at hc13; omega
  have hfi : FitT (swR a b i W) := swR_fit hW
  have hl : (swR a b i W).length = W.length := swR_len a b i W
  have hal : a + i < (swR a b i W).length := by omega
  have hbl : b + i < (swR a b i W).length := by omega
  refine QK (QSB ?_);refine A.regL0 21 [4, 5, 6, 7] (by kernel_rfl) (by kernel_rfl) (by kernel_rfl) (by kernel_rfl) [(0, .v (.slice (some ⟨g, 0, none⟩) W.length q)), (1, .v (nI (a))), (2, .v (nI (b))), (3, .v (nI (n))), (10, .v (nI (i))), (1000801, blk g 57 (nodsV (swT (swR a b i W) (a + i) (b + i)) ++ ys)), (1000802, wroteD 57 g w₁)] ?_ ?_
  ·refine RV 4 rfl ?_;refine RZ (nI (a + i)) (wrap_eq (by omega) (by omega)) ?_;refine RV 4 rfl ?_;refine RZ (nI (b + i)) (wrap_eq (by omega) (by omega)) ?_;refine RV 4 rfl ?_;refine RZ (nI (b + i)) (wrap_eq (by omega) (by omega)) ?_;refine RS (ok_indexS ((b + i)) U30 infoN rfl rfl rfl (by omega)) ?_;refine RS (ok_loadP (s := 1000801) (by decide) U57 rfl size57 rfl rfl (nodsY_len hfi ys hbl) (nodsY_at hfi ys hbl)) ?_;refine RV 4 rfl ?_;refine RZ (nI (a + i)) (wrap_eq (by omega) (by omega)) ?_;refine RS (ok_indexS ((a + i)) U30 infoN rfl rfl rfl (by omega)) ?_;refine RS (ok_loadP (s := 1000801) (by decide) U57 rfl size57 rfl rfl (nodsY_len hfi ys hal) (nodsY_at hfi ys hal)) ?_;refine RS (ok_indexS ((a + i)) U30 infoN rfl rfl rfl (by omega)) ?_;refine RN ?_
   intro S hS
   simp only [subs, List.map_cons, List.map_nil, List.cons_append, List.nil_append, List.mem_cons, List.not_mem_nil, or_false] at hS
   rcases hS with rfl | rfl | rfl | rfl | rfl | rfl | rfl | rfl | rfl | rfl | rfl | rfl | rfl | rfl | rfl | rfl
   ·refine ⟨2, Nat.le_of_ble_eq_true (by kernel_rfl), _, (Sv [0, 1, 2, 3, 10, 13, 16, 17, 18, 19, 20, 21, 22, 23, 24, 25, 26, 27, 28, 29, 30, 31, 32, 33, 34, 35, 36, 1000801, 1000802] rfl), by kernel_rfl, _, rfl, _, eff_storeP (n := 38) (s := 1000801) (size57.of ((hfi.at _).len)) rfl rfl (NodT.one _) hBg rfl (by first | exact nf1 hfi (hfi.at _) (by omega) | exact nf2 hfi (hfi.at _) (hfi.at _) (by omega) (by omega)) (LV 0 rfl (LV 1 rfl (LV 2 rfl (LV 3 rfl (LV 10 rfl (LV 13 rfl (LV 16 rfl (LV 17 rfl (LV 18 rfl (LV 19 rfl (LV 20 rfl (LV 21 rfl (LV 22 rfl (LV 23 rfl (LV 24 rfl (LV 25 rfl (LV 26 rfl (LV 27 rfl (LV 28 rfl (LV 29 rfl (LV 30 rfl (LV 31 rfl (LV 32 rfl (LV 33 rfl (LV 34 rfl (LV 35 rfl (LV 36 rfl (LeftS.cons (t := 1000802) rfl (Surv.wrote) LN)))))))))))))))))))))))))))), ?_⟩
    refine AnyT.step 22 [] (by kernel_rfl) ?_;refine NextT.pure (by kernel_rfl) rfl rfl rfl (ok_indexS ((b + i)) U30 infoN rfl rfl rfl (by omega)) ?_ ?_
    ·refine AnyT.step 23 [] (by kernel_rfl) ?_;refine NextT.eff rfl (eff_storeP (n := 38) (s := 1000801) (size57.of ((hfi.at _).len)) rfl rfl (NodT.one _) hBg rfl (by first | exact nf1 hfi (hfi.at _) (by omega) | exact nf2 hfi (hfi.at _) (hfi.at _) (by omega) (by omega)) (LV 0 rfl (LV 1 rfl (LV 2 rfl (LV 3 rfl (LV 10 rfl (LV 13 rfl (LV 16 rfl (LV 17 rfl (LV 18 rfl (LV 19 rfl (LV 20 rfl (LV 21 rfl (LV 22 rfl (LV 23 rfl (LV 24 rfl (LV 25 rfl (LV 26 rfl (LV 27 rfl (LV 28 rfl (LV 29 rfl (LV 30 rfl (LV 31 rfl (LV 32 rfl (LV 33 rfl (LV 34 rfl (LV 35 rfl (LV 36 rfl (LV 37 rfl (LeftS.cons (t := 1000802) rfl (Surv.wrote) LN)))))))))))))))))))))))))))))) ?_ ?_
     ·refine AnyT.last (by kernel_rfl) ?_;exact (QC 0 rfl (QC 1 rfl (QC 2 rfl (QC 3 rfl (QC 10 rfl (QX 1000801 rfl (Le.eq (congrArg (blk g 57) (nods_sw hfi hal hbl ys _ rfl))) (QC 1000802 rfl SubL.nil)))))))
     exact trivial
    exact trivial
   ·refine ⟨3, Nat.le_of_ble_eq_true (by kernel_rfl), _, (Sv [0, 1, 2, 3, 10, 13, 16, 17, 18, 19, 20, 21, 22, 24, 25, 26, 27, 28, 29, 30, 31, 32, 33, 34, 35, 36, 1000801, 1000802] rfl), by kernel_rfl, _, rfl, _, eff_storeP (n := 38) (s := 1000801) (size57.of ((hfi.at _).len)) rfl rfl (NodT.one _) hBg rfl (by first | exact nf1 hfi (hfi.at _) (by omega) | exact nf2 hfi (hfi.at _) (hfi.at _) (by omega) (by omega)) (LV 0 rfl (LV 1 rfl (LV 2 rfl (LV 3 rfl (LV 10 rfl (LV 13 rfl (LV 16 rfl (LV 17 rfl (LV 18 rfl (LV 19 rfl (LV 20 rfl (LV 21 rfl (LV 22 rfl (LV 24 rfl (LV 25 rfl (LV 26 rfl (LV 27 rfl (LV 28 rfl (LV 29 rfl (LV 30 rfl (LV 31 rfl (LV 32 rfl (LV 33 rfl (LV 34 rfl (LV 35 rfl (LV 36 rfl (LeftS.cons (t := 1000802) rfl (Surv.wrote) LN))))))))))))))))))))))))))), ?_⟩
    refine AnyT.step 7 [] (by kernel_rfl) ?_;refine NextT.pure (by kernel_rfl) rfl rfl rfl (OpOk.asV (nI (b + i)) (wrap_eq (by omega) (by omega)) (ok_bin rfl rfl rfl)) ?_ ?_
    ·refine AnyT.step 22 [] (by kernel_rfl) ?_;refine NextT.pure (by kernel_rfl) rfl rfl rfl (ok_indexS ((b + i)) U30 infoN rfl rfl rfl (by omega)) ?_ ?_
     ·refine AnyT.step 23 [] (by kernel_rfl) ?_;refine NextT.eff rfl (eff_storeP (n := 38) (s := 1000801) (size57.of ((hfi.at _).len)) rfl rfl (NodT.one _) hBg rfl (by first | exact nf1 hfi (hfi.at _) (by omega) | exact nf2 hfi (hfi.at _) (hfi.at _) (by omega) (by omega)) (LV 0 rfl (LV 1 rfl (LV 2 rfl (LV 3 rfl (LV 10 rfl (LV 13 rfl (LV 16 rfl (LV 17 rfl (LV 18 rfl (LV 19 rfl (LV 20 rfl (LV 21 rfl (LV 22 rfl (LV 23 rfl (LV 24 rfl (LV 25 rfl (LV 26 rfl (LV 27 rfl (LV 28 rfl (LV 29 rfl (LV 30 rfl (LV 31 rfl (LV 32 rfl (LV 33 rfl (LV 34 rfl (LV 35 rfl (LV 36 rfl (LV 37 rfl (LeftS.cons (t := 1000802) rfl (Surv.wrote) LN)))))))))))))))))))))))))))))) ?_ ?_
      ·refine AnyT.last (by kernel_rfl) ?_;exact (QC 0 rfl (QC 1 rfl (QC 2 rfl (QC 3 rfl (QC 10 rfl (QX 1000801 rfl (Le.eq (congrArg (blk g 57) (nods_sw hfi hal hbl ys _ rfl))) (QC 1000802 rfl SubL.nil)))))))
      exact trivial
     exact trivial
    exact trivial
   ·refine ⟨3, Nat.le_of_ble_eq_true (by kernel_rfl), _, (Sv [0, 1, 2, 3, 10, 13, 16, 17, 18, 19, 20, 21, 23, 24, 25, 26, 27, 28, 29, 30, 31, 32, 33, 34, 35, 36, 1000801, 1000802] rfl), by kernel_rfl, _, rfl, _, eff_storeP (n := 38) (s := 1000801) (size57.of ((hfi.at _).len)) rfl rfl (NodT.one _) hBg rfl (by first | exact nf1 hfi (hfi.at _) (by omega) | exact nf2 hfi (hfi.at _) (hfi.at _) (by omega) (by omega)) (LV 0 rfl (LV 1 rfl (LV 2 rfl (LV 3 rfl (LV 10 rfl (LV 13 rfl (LV 16 rfl (LV 17 rfl (LV 18 rfl (LV 19 rfl (LV 20 rfl (LV 21 rfl (LV 23 rfl (LV 24 rfl (LV 25 rfl (LV 26 rfl (LV 27 rfl (LV 28 rfl (LV 29 rfl (LV 30 rfl (LV 31 rfl (LV 32 rfl (LV 33 rfl (LV 34 rfl (LV 35 rfl (LV 36 rfl (LeftS.cons (t := 1000802) rfl (Surv.wrote) LN))))))))))))))))))))))))))), ?_⟩
    refine AnyT.step 6 [] (by kernel_rfl) ?_;refine NextT.pure (by kernel_rfl) rfl rfl rfl (ok_move rfl) ?_ ?_
    ·refine AnyT.step 22 [] (by kernel_rfl) ?_;refine NextT.pure (by kernel_rfl) rfl rfl rfl (ok_indexS ((b + i)) U30 infoN rfl rfl rfl (by omega)) ?_ ?_
     ·refine AnyT.step 23 [] (by kernel_rfl) ?_;refine NextT.eff rfl (eff_storeP (n := 38) (s := 1000801) (size57.of ((hfi.at _).len)) rfl rfl (NodT.one _) hBg rfl (by first | exact nf1 hfi (hfi.at _) (by omega) | exact nf2 hfi (hfi.at _) (hfi.at _) (by omega) (by omega)) (LV 0 rfl (LV 1 rfl (LV 2 rfl (LV 3 rfl (LV 10 rfl (LV 13 rfl (LV 16 rfl (LV 17 rfl (LV 18 rfl (LV 19 rfl (LV 20 rfl (LV 21 rfl (LV 22 rfl (LV 23 rfl (LV 24 rfl (LV 25 rfl (LV 26 rfl (LV 27 rfl (LV 28 rfl (LV 29 rfl (LV 30 rfl (LV 31 rfl (LV 32 rfl (LV 33 rfl (LV 34 rfl (LV 35 rfl (LV 36 rfl (LV 37 rfl (LeftS.cons (t := 1000802) rfl (Surv.wrote) LN)))))))))))))))))))))))))))))) ?_ ?_
      ·refine AnyT.last (by kernel_rfl) ?_;exact (QC 0 rfl (QC 1 rfl (QC 2 rfl (QC 3 rfl (QC 10 rfl (QX 1000801 rfl (Le.eq (congrArg (blk g 57) (nods_sw hfi hal hbl ys _ rfl))) (QC 1000802 rfl SubL.nil)))))))
      exact trivial
     exact trivial
    exact trivial
   ·refine ⟨4, Nat.le_of_ble_eq_true (by kernel_rfl), _, (Sv [0, 1, 2, 3, 10, 13, 16, 17, 18, 19, 20, 21, 24, 25, 26, 27, 28, 29, 30, 31, 32, 33, 34, 35, 36, 1000801, 1000802] rfl), by kernel_rfl, _, rfl, _, eff_storeP (n := 38) (s := 1000801) (size57.of ((hfi.at _).len)) rfl rfl (NodT.one _) hBg rfl (by first | exact nf1 hfi (hfi.at _) (by omega) | exact nf2 hfi (hfi.at _) (hfi.at _) (by omega) (by omega)) (LV 0 rfl (LV 1 rfl (LV 2 rfl (LV 3 rfl (LV 10 rfl (LV 13 rfl (LV 16 rfl (LV 17 rfl (LV 18 rfl (LV 19 rfl (LV 20 rfl (LV 21 rfl (LV 24 rfl (LV 25 rfl (LV 26 rfl (LV 27 rfl (LV 28 rfl (LV 29 rfl (LV 30 rfl (LV 31 rfl (LV 32 rfl (LV 33 rfl (LV 34 rfl (LV 35 rfl (LV 36 rfl (LeftS.cons (t := 1000802) rfl (Surv.wrote) LN)))))))))))))))))))))))))), ?_⟩
    refine AnyT.step 6 [] (by kernel_rfl) ?_;refine NextT.pure (by kernel_rfl) rfl rfl rfl (ok_move rfl) ?_ ?_
    ·refine AnyT.step 7 [] (by kernel_rfl) ?_;refine NextT.pure (by kernel_rfl) rfl rfl rfl (OpOk.asV (nI (b + i)) (wrap_eq (by omega) (by omega)) (ok_bin rfl rfl rfl)) ?_ ?_
     ·refine AnyT.step 22 [] (by kernel_rfl) ?_;refine NextT.pure (by kernel_rfl) rfl rfl rfl (ok_indexS ((b + i)) U30 infoN rfl rfl rfl (by omega)) ?_ ?_
      ·refine AnyT.step 23 [] (by kernel_rfl) ?_;refine NextT.eff rfl (eff_storeP (n := 38) (s := 1000801) (size57.of ((hfi.at _).len)) rfl rfl (NodT.one _) hBg rfl (by first | exact nf1 hfi (hfi.at _) (by omega) | exact nf2 hfi (hfi.at _) (hfi.at _) (by omega) (by omega)) (LV 0 rfl (LV 1 rfl (LV 2 rfl (LV 3 rfl (LV 10 rfl (LV 13 rfl (LV 16 rfl (LV 17 rfl (LV 18 rfl (LV 19 rfl (LV 20 rfl (LV 21 rfl (LV 22 rfl (LV 23 rfl (LV 24 rfl (LV 25 rfl (LV 26 rfl (LV 27 rfl (LV 28 rfl (LV 29 rfl (LV 30 rfl (LV 31 rfl (LV 32 rfl (LV 33 rfl (LV 34 rfl (LV 35 rfl (LV 36 rfl (LV 37 rfl (LeftS.cons (t := 1000802) rfl (Surv.wrote) LN)))))))))))))))))))))))))))))) ?_ ?_
       ·refine AnyT.last (by kernel_rfl) ?_;exact (QC 0 rfl (QC 1 rfl (QC 2 rfl (QC 3 rfl (QC 10 rfl (QX 1000801 rfl (Le.eq (congrArg (blk g 57) (nods_sw hfi hal hbl ys _ rfl))) (QC 1000802 rfl SubL.nil)))))))
       exact trivial
      exact trivial
     exact trivial
    exact trivial
   ·refine ⟨3, Nat.le_of_ble_eq_true (by kernel_rfl), _, (Sv [0, 1, 2, 3, 10, 13, 16, 17, 18, 19, 20, 22, 23, 24, 25, 26, 27, 28, 29, 30, 31, 32, 33, 34, 35, 36, 1000801, 1000802] rfl), by kernel_rfl, _, rfl, _, eff_storeP (n := 38) (s := 1000801) (size57.of ((hfi.at _).len)) rfl rfl (NodT.one _) hBg rfl (by first | exact nf1 hfi (hfi.at _) (by omega) | exact nf2 hfi (hfi.at _) (hfi.at _) (by omega) (by omega)) (LV 0 rfl (LV 1 rfl (LV 2 rfl (LV 3 rfl (LV 10 rfl (LV 13 rfl (LV 16 rfl (LV 17 rfl (LV 18 rfl (LV 19 rfl (LV 20 rfl (LV 22 rfl (LV 23 rfl (LV 24 rfl (LV 25 rfl (LV 26 rfl (LV 27 rfl (LV 28 rfl (LV 29 rfl (LV 30 rfl (LV 31 rfl (LV 32 rfl (LV 33 rfl (LV 34 rfl (LV 35 rfl (LV 36 rfl (LeftS.cons (t := 1000802) rfl (Surv.wrote) LN))))))))))))))))))))))))))), ?_⟩
    refine AnyT.step 5 [] (by kernel_rfl) ?_;refine NextT.pure (by kernel_rfl) rfl rfl rfl (ok_move rfl) ?_ ?_
    ·refine AnyT.step 22 [] (by kernel_rfl) ?_;refine NextT.pure (by kernel_rfl) rfl rfl rfl (ok_indexS ((b + i)) U30 infoN rfl rfl rfl (by omega)) ?_ ?_
     ·refine AnyT.step 23 [] (by kernel_rfl) ?_;refine NextT.eff rfl (eff_storeP (n := 38) (s := 1000801) (size57.of ((hfi.at _).len)) rfl rfl (NodT.one _) hBg rfl (by first | exact nf1 hfi (hfi.at _) (by omega) | exact nf2 hfi (hfi.at _) (hfi.at _) (by omega) (by omega)) (LV 0 rfl (LV 1 rfl (LV 2 rfl (LV 3 rfl (LV 10 rfl (LV 13 rfl (LV 16 rfl (LV 17 rfl (LV 18 rfl (LV 19 rfl (LV 20 rfl (LV 21 rfl (LV 22 rfl (LV 23 rfl (LV 24 rfl (LV 25 rfl (LV 26 rfl (LV 27 rfl (LV 28 rfl (LV 29 rfl (LV 30 rfl (LV 31 rfl (LV 32 rfl (LV 33 rfl (LV 34 rfl (LV 35 rfl (LV 36 rfl (LV 37 rfl (LeftS.cons (t := 1000802) rfl (Surv.wrote) LN)))))))))))))))))))))))))))))) ?_ ?_
      ·refine AnyT.last (by kernel_rfl) ?_;exact (QC 0 rfl (QC 1 rfl (QC 2 rfl (QC 3 rfl (QC 10 rfl (QX 1000801 rfl (Le.eq (congrArg (blk g 57) (nods_sw hfi hal hbl ys _ rfl))) (QC 1000802 rfl SubL.nil)))))))
      exact trivial
     exact trivial
    exact trivial
   ·refine ⟨4, Nat.le_of_ble_eq_true (by kernel_rfl), _, (Sv [0, 1, 2, 3, 10, 13, 16, 17, 18, 19, 20, 22, 24, 25, 26, 27, 28, 29, 30, 31, 32, 33, 34, 35, 36, 1000801, 1000802] rfl), by kernel_rfl, _, rfl, _, eff_storeP (n := 38) (s := 1000801) (size57.of ((hfi.at _).len)) rfl rfl (NodT.one _) hBg rfl (by first | exact nf1 hfi (hfi.at _) (by omega) | exact nf2 hfi (hfi.at _) (hfi.at _) (by omega) (by omega)) (LV 0 rfl (LV 1 rfl (LV 2 rfl (LV 3 rfl (LV 10 rfl (LV 13 rfl (LV 16 rfl (LV 17 rfl (LV 18 rfl (LV 19 rfl (LV 20 rfl (LV 22 rfl (LV 24 rfl (LV 25 rfl (LV 26 rfl (LV 27 rfl (LV 28 rfl (LV 29 rfl (LV 30 rfl (LV 31 rfl (LV 32 rfl (LV 33 rfl (LV 34 rfl (LV 35 rfl (LV 36 rfl (LeftS.cons (t := 1000802) rfl (Surv.wrote) LN)))))))))))))))))))))))))), ?_⟩
    refine AnyT.step 5 [] (by kernel_rfl) ?_;refine NextT.pure (by kernel_rfl) rfl rfl rfl (ok_move rfl) ?_ ?_
    ·refine AnyT.step 7 [] (by kernel_rfl) ?_;refine NextT.pure (by kernel_rfl) rfl rfl rfl (OpOk.asV (nI (b + i)) (wrap_eq (by omega) (by omega)) (ok_bin rfl rfl rfl)) ?_ ?_
     ·refine AnyT.step 22 [] (by kernel_rfl) ?_;refine NextT.pure (by kernel_rfl) rfl rfl rfl (ok_indexS ((b + i)) U30 infoN rfl rfl rfl (by omega)) ?_ ?_
      ·refine AnyT.step 23 [] (by kernel_rfl) ?_;refine NextT.eff rfl (eff_storeP (n := 38) (s := 1000801) (size57.of ((hfi.at _).len)) rfl rfl (NodT.one _) hBg rfl (by first | exact nf1 hfi (hfi.at _) (by omega) | exact nf2 hfi (hfi.at _) (hfi.at _) (by omega) (by omega)) (LV 0 rfl (LV 1 rfl (LV 2 rfl (LV 3 rfl (LV 10 rfl (LV 13 rfl (LV 16 rfl (LV 17 rfl (LV 18 rfl (LV 19 rfl (LV 20 rfl (LV 21 rfl (LV 22 rfl (LV 23 rfl (LV 24 rfl (LV 25 rfl (LV 26 rfl (LV 27 rfl (LV 28 rfl (LV 29 rfl (LV 30 rfl (LV 31 rfl (LV 32 rfl (LV 33 rfl (LV 34 rfl (LV 35 rfl (LV 36 rfl (LV 37 rfl (LeftS.cons (t := 1000802) rfl (Surv.wrote) LN)))))))))))))))))))))))))))))) ?_ ?_
       ·refine AnyT.last (by kernel_rfl) ?_;exact (QC 0 rfl (QC 1 rfl (QC 2 rfl (QC 3 rfl (QC 10 rfl (QX 1000801 rfl (Le.eq (congrArg (blk g 57) (nods_sw hfi hal hbl ys _ rfl))) (QC 1000802 rfl SubL.nil)))))))
       exact trivial
      exact trivial
     exact trivial
    exact trivial
   ·refine ⟨4, Nat.le_of_ble_eq_true (by kernel_rfl), _, (Sv [0, 1, 2, 3, 10, 13, 16, 17, 18, 19, 20, 23, 24, 25, 26, 27, 28, 29, 30, 31, 32, 33, 34, 35, 36, 1000801, 1000802] rfl), by kernel_rfl, _, rfl, _, eff_storeP (n := 38) (s := 1000801) (size57.of ((hfi.at _).len)) rfl rfl (NodT.one _) hBg rfl (by first | exact nf1 hfi (hfi.at _) (by omega) | exact nf2 hfi (hfi.at _) (hfi.at _) (by omega) (by omega)) (LV 0 rfl (LV 1 rfl (LV 2 rfl (LV 3 rfl (LV 10 rfl (LV 13 rfl (LV 16 rfl (LV 17 rfl (LV 18 rfl (LV 19 rfl (LV 20 rfl (LV 23 rfl (LV 24 rfl (LV 25 rfl (LV 26 rfl (LV 27 rfl (LV 28 rfl (LV 29 rfl (LV 30 rfl (LV 31 rfl (LV 32 rfl (LV 33 rfl (LV 34 rfl (LV 35 rfl (LV 36 rfl (LeftS.cons (t := 1000802) rfl (Surv.wrote) LN)))))))))))))))))))))))))), ?_⟩
    refine AnyT.step 5 [6] (by kernel_rfl) ?_;refine NextT.pure (by kernel_rfl) rfl rfl rfl (ok_move rfl) ?_ ?_
    ·refine AnyT.step 6 [] (by kernel_rfl) ?_;refine NextT.pure (by kernel_rfl) rfl rfl rfl (ok_move rfl) ?_ ?_
     ·refine AnyT.step 22 [] (by kernel_rfl) ?_;refine NextT.pure (by kernel_rfl) rfl rfl rfl (ok_indexS ((b + i)) U30 infoN rfl rfl rfl (by omega)) ?_ ?_
      ·refine AnyT.step 23 [] (by kernel_rfl) ?_;refine NextT.eff rfl (eff_storeP (n := 38) (s := 1000801) (size57.of ((hfi.at _).len)) rfl rfl (NodT.one _) hBg rfl (by first | exact nf1 hfi (hfi.at _) (by omega) | exact nf2 hfi (hfi.at _) (hfi.at _) (by omega) (by omega)) (LV 0 rfl (LV 1 rfl (LV 2 rfl (LV 3 rfl (LV 10 rfl (LV 13 rfl (LV 16 rfl (LV 17 rfl (LV 18 rfl (LV 19 rfl (LV 20 rfl (LV 21 rfl (LV 22 rfl (LV 23 rfl (LV 24 rfl (LV 25 rfl (LV 26 rfl (LV 27 rfl (LV 28 rfl (LV 29 rfl (LV 30 rfl (LV 31 rfl (LV 32 rfl (LV 33 rfl (LV 34 rfl (LV 35 rfl (LV 36 rfl (LV 37 rfl (LeftS.cons (t := 1000802) rfl (Surv.wrote) LN)))))))))))))))))))))))))))))) ?_ ?_
       ·refine AnyT.last (by kernel_rfl) ?_;exact (QC 0 rfl (QC 1 rfl (QC 2 rfl (QC 3 rfl (QC 10 rfl (QX 1000801 rfl (Le.eq (congrArg (blk g 57) (nods_sw hfi hal hbl ys _ rfl))) (QC 1000802 rfl SubL.nil)))))))
       exact trivial
      exact trivial
     exact trivial
    refine NextT.pure (by kernel_rfl) rfl rfl rfl (ok_move rfl) ?_ ?_
    ·refine AnyT.step 5 [] (by kernel_rfl) ?_;refine NextT.pure (by kernel_rfl) rfl rfl rfl (ok_move rfl) ?_ ?_
     ·refine AnyT.step 22 [] (by kernel_rfl) ?_;refine NextT.pure (by kernel_rfl) rfl rfl rfl (ok_indexS ((b + i)) U30 infoN rfl rfl rfl (by omega)) ?_ ?_
      ·refine AnyT.step 23 [] (by kernel_rfl) ?_;refine NextT.eff rfl (eff_storeP (n := 38) (s := 1000801) (size57.of ((hfi.at _).len)) rfl rfl (NodT.one _) hBg rfl (by first | exact nf1 hfi (hfi.at _) (by omega) | exact nf2 hfi (hfi.at _) (hfi.at _) (by omega) (by omega)) (LV 0 rfl (LV 1 rfl (LV 2 rfl (LV 3 rfl (LV 10 rfl (LV 13 rfl (LV 16 rfl (LV 17 rfl (LV 18 rfl (LV 19 rfl (LV 20 rfl (LV 21 rfl (LV 22 rfl (LV 23 rfl (LV 24 rfl (LV 25 rfl (LV 26 rfl (LV 27 rfl (LV 28 rfl (LV 29 rfl (LV 30 rfl (LV 31 rfl (LV 32 rfl (LV 33 rfl (LV 34 rfl (LV 35 rfl (LV 36 rfl (LV 37 rfl (LeftS.cons (t := 1000802) rfl (Surv.wrote) LN)))))))))))))))))))))))))))))) ?_ ?_
       ·refine AnyT.last (by kernel_rfl) ?_;exact (QC 0 rfl (QC 1 rfl (QC 2 rfl (QC 3 rfl (QC 10 rfl (QX 1000801 rfl (Le.eq (congrArg (blk g 57) (nods_sw hfi hal hbl ys _ rfl))) (QC 1000802 rfl SubL.nil)))))))
       exact trivial
      exact trivial
     exact trivial
    exact trivial
   ·refine ⟨5, Nat.le_of_ble_eq_true (by kernel_rfl), _, (Sv [0, 1, 2, 3, 10, 13, 16, 17, 18, 19, 20, 24, 25, 26, 27, 28, 29, 30, 31, 32, 33, 34, 35, 36, 1000801, 1000802] rfl), by kernel_rfl, _, rfl, _, eff_storeP (n := 38) (s := 1000801) (size57.of ((hfi.at _).len)) rfl rfl (NodT.one _) hBg rfl (by first | exact nf1 hfi (hfi.at _) (by omega) | exact nf2 hfi (hfi.at _) (hfi.at _) (by omega) (by omega)) (LV 0 rfl (LV 1 rfl (LV 2 rfl (LV 3 rfl (LV 10 rfl (LV 13 rfl (LV 16 rfl (LV 17 rfl (LV 18 rfl (LV 19 rfl (LV 20 rfl (LV 24 rfl (LV 25 rfl (LV 26 rfl (LV 27 rfl (LV 28 rfl (LV 29 rfl (LV 30 rfl (LV 31 rfl (LV 32 rfl (LV 33 rfl (LV 34 rfl (LV 35 rfl (LV 36 rfl (LeftS.cons (t := 1000802) rfl (Surv.wrote) LN))))))))))))))))))))))))), ?_⟩
    refine AnyT.step 5 [6] (by kernel_rfl) ?_;refine NextT.pure (by kernel_rfl) rfl rfl rfl (ok_move rfl) ?_ ?_
    ·refine AnyT.step 6 [] (by kernel_rfl) ?_;refine NextT.pure (by kernel_rfl) rfl rfl rfl (ok_move rfl) ?_ ?_
     ·refine AnyT.step 7 [] (by kernel_rfl) ?_;refine NextT.pure (by kernel_rfl) rfl rfl rfl (OpOk.asV (nI (b + i)) (wrap_eq (by omega) (by omega)) (ok_bin rfl rfl rfl)) ?_ ?_
      ·refine AnyT.step 22 [] (by kernel_rfl) ?_;refine NextT.pure (by kernel_rfl) rfl rfl rfl (ok_indexS ((b + i)) U30 infoN rfl rfl rfl (by omega)) ?_ ?_
       ·refine AnyT.step 23 [] (by kernel_rfl) ?_;refine NextT.eff rfl (eff_storeP (n := 38) (s := 1000801) (size57.of ((hfi.at _).len)) rfl rfl (NodT.one _) hBg rfl (by first | exact nf1 hfi (hfi.at _) (by omega) | exact nf2 hfi (hfi.at _) (hfi.at _) (by omega) (by omega)) (LV 0 rfl (LV 1 rfl (LV 2 rfl (LV 3 rfl (LV 10 rfl (LV 13 rfl (LV 16 rfl (LV 17 rfl (LV 18 rfl (LV 19 rfl (LV 20 rfl (LV 21 rfl (LV 22 rfl (LV 23 rfl (LV 24 rfl (LV 25 rfl (LV 26 rfl (LV 27 rfl (LV 28 rfl (LV 29 rfl (LV 30 rfl (LV 31 rfl (LV 32 rfl (LV 33 rfl (LV 34 rfl (LV 35 rfl (LV 36 rfl (LV 37 rfl (LeftS.cons (t := 1000802) rfl (Surv.wrote) LN)))))))))))))))))))))))))))))) ?_ ?_
        ·refine AnyT.last (by kernel_rfl) ?_;exact (QC 0 rfl (QC 1 rfl (QC 2 rfl (QC 3 rfl (QC 10 rfl (QX 1000801 rfl (Le.eq (congrArg (blk g 57) (nods_sw hfi hal hbl ys _ rfl))) (QC 1000802 rfl SubL.nil)))))))
        exact trivial
       exact trivial
      exact trivial
     exact trivial
    refine NextT.pure (by kernel_rfl) rfl rfl rfl (ok_move rfl) ?_ ?_
    ·refine AnyT.step 5 [] (by kernel_rfl) ?_;refine NextT.pure (by kernel_rfl) rfl rfl rfl (ok_move rfl) ?_ ?_
     ·refine AnyT.step 7 [] (by kernel_rfl) ?_;refine NextT.pure (by kernel_rfl) rfl rfl rfl (OpOk.asV (nI (b + i)) (wrap_eq (by omega) (by omega)) (ok_bin rfl rfl rfl)) ?_ ?_
      ·refine AnyT.step 22 [] (by kernel_rfl) ?_;refine NextT.pure (by kernel_rfl) rfl rfl rfl (ok_indexS ((b + i)) U30 infoN rfl rfl rfl (by omega)) ?_ ?_
       ·refine AnyT.step 23 [] (by kernel_rfl) ?_;refine NextT.eff rfl (eff_storeP (n := 38) (s := 1000801) (size57.of ((hfi.at _).len)) rfl rfl (NodT.one _) hBg rfl (by first | exact nf1 hfi (hfi.at _) (by omega) | exact nf2 hfi (hfi.at _) (hfi.at _) (by omega) (by omega)) (LV 0 rfl (LV 1 rfl (LV 2 rfl (LV 3 rfl (LV 10 rfl (LV 13 rfl (LV 16 rfl (LV 17 rfl (LV 18 rfl (LV 19 rfl (LV 20 rfl (LV 21 rfl (LV 22 rfl (LV 23 rfl (LV 24 rfl (LV 25 rfl (LV 26 rfl (LV 27 rfl (LV 28 rfl (LV 29 rfl (LV 30 rfl (LV 31 rfl (LV 32 rfl (LV 33 rfl (LV 34 rfl (LV 35 rfl (LV 36 rfl (LV 37 rfl (LeftS.cons (t := 1000802) rfl (Surv.wrote) LN)))))))))))))))))))))))))))))) ?_ ?_
        ·refine AnyT.last (by kernel_rfl) ?_;exact (QC 0 rfl (QC 1 rfl (QC 2 rfl (QC 3 rfl (QC 10 rfl (QX 1000801 rfl (Le.eq (congrArg (blk g 57) (nods_sw hfi hal hbl ys _ rfl))) (QC 1000802 rfl SubL.nil)))))))
        exact trivial
       exact trivial
      exact trivial
     exact trivial
    exact trivial
   ·refine ⟨3, Nat.le_of_ble_eq_true (by kernel_rfl), _, (Sv [0, 1, 2, 3, 10, 13, 16, 17, 18, 19, 21, 22, 23, 24, 25, 26, 27, 28, 29, 30, 31, 32, 33, 34, 35, 36, 1000801, 1000802] rfl), by kernel_rfl, _, rfl, _, eff_storeP (n := 38) (s := 1000801) (size57.of ((hfi.at _).len)) rfl rfl (NodT.one _) hBg rfl (by first | exact nf1 hfi (hfi.at _) (by omega) | exact nf2 hfi (hfi.at _) (hfi.at _) (by omega) (by omega)) (LV 0 rfl (LV 1 rfl (LV 2 rfl (LV 3 rfl (LV 10 rfl (LV 13 rfl (LV 16 rfl (LV 17 rfl (LV 18 rfl (LV 19 rfl (LV 21 rfl (LV 22 rfl (LV 23 rfl (LV 24 rfl (LV 25 rfl (LV 26 rfl (LV 27 rfl (LV 28 rfl (LV 29 rfl (LV 30 rfl (LV 31 rfl (LV 32 rfl (LV 33 rfl (LV 34 rfl (LV 35 rfl (LV 36 rfl (LeftS.cons (t := 1000802) rfl (Surv.wrote) LN))))))))))))))))))))))))))), ?_⟩
    refine AnyT.step 4 [] (by kernel_rfl) ?_;refine NextT.pure (by kernel_rfl) rfl rfl rfl (ok_move rfl) ?_ ?_
    ·refine AnyT.step 22 [] (by kernel_rfl) ?_;refine NextT.pure (by kernel_rfl) rfl rfl rfl (ok_indexS ((b + i)) U30 infoN rfl rfl rfl (by omega)) ?_ ?_
     ·refine AnyT.step 23 [] (by kernel_rfl) ?_;refine NextT.eff rfl (eff_storeP (n := 38) (s := 1000801) (size57.of ((hfi.at _).len)) rfl rfl (NodT.one _) hBg rfl (by first | exact nf1 hfi (hfi.at _) (by omega) | exact nf2 hfi (hfi.at _) (hfi.at _) (by omega) (by omega)) (LV 0 rfl (LV 1 rfl (LV 2 rfl (LV 3 rfl (LV 10 rfl (LV 13 rfl (LV 16 rfl (LV 17 rfl (LV 18 rfl (LV 19 rfl (LV 20 rfl (LV 21 rfl (LV 22 rfl (LV 23 rfl (LV 24 rfl (LV 25 rfl (LV 26 rfl (LV 27 rfl (LV 28 rfl (LV 29 rfl (LV 30 rfl (LV 31 rfl (LV 32 rfl (LV 33 rfl (LV 34 rfl (LV 35 rfl (LV 36 rfl (LV 37 rfl (LeftS.cons (t := 1000802) rfl (Surv.wrote) LN)))))))))))))))))))))))))))))) ?_ ?_
      ·refine AnyT.last (by kernel_rfl) ?_;exact (QC 0 rfl (QC 1 rfl (QC 2 rfl (QC 3 rfl (QC 10 rfl (QX 1000801 rfl (Le.eq (congrArg (blk g 57) (nods_sw hfi hal hbl ys _ rfl))) (QC 1000802 rfl SubL.nil)))))))
      exact trivial
     exact trivial
    exact trivial
   ·refine ⟨4, Nat.le_of_ble_eq_true (by kernel_rfl), _, (Sv [0, 1, 2, 3, 10, 13, 16, 17, 18, 19, 21, 22, 24, 25, 26, 27, 28, 29, 30, 31, 32, 33, 34, 35, 36, 1000801, 1000802] rfl), by kernel_rfl, _, rfl, _, eff_storeP (n := 38) (s := 1000801) (size57.of ((hfi.at _).len)) rfl rfl (NodT.one _) hBg rfl (by first | exact nf1 hfi (hfi.at _) (by omega) | exact nf2 hfi (hfi.at _) (hfi.at _) (by omega) (by omega)) (LV 0 rfl (LV 1 rfl (LV 2 rfl (LV 3 rfl (LV 10 rfl (LV 13 rfl (LV 16 rfl (LV 17 rfl (LV 18 rfl (LV 19 rfl (LV 21 rfl (LV 22 rfl (LV 24 rfl (LV 25 rfl (LV 26 rfl (LV 27 rfl (LV 28 rfl (LV 29 rfl (LV 30 rfl (LV 31 rfl (LV 32 rfl (LV 33 rfl (LV 34 rfl (LV 35 rfl (LV 36 rfl (LeftS.cons (t := 1000802) rfl (Surv.wrote) LN)))))))))))))))))))))))))), ?_⟩
    refine AnyT.step 4 [7] (by kernel_rfl) ?_;refine NextT.pure (by kernel_rfl) rfl rfl rfl (ok_move rfl) ?_ ?_
    ·refine AnyT.step 7 [] (by kernel_rfl) ?_;refine NextT.pure (by kernel_rfl) rfl rfl rfl (OpOk.asV (nI (b + i)) (wrap_eq (by omega) (by omega)) (ok_bin rfl rfl rfl)) ?_ ?_
     ·refine AnyT.step 22 [] (by kernel_rfl) ?_;refine NextT.pure (by kernel_rfl) rfl rfl rfl (ok_indexS ((b + i)) U30 infoN rfl rfl rfl (by omega)) ?_ ?_
      ·refine AnyT.step 23 [] (by kernel_rfl) ?_;refine NextT.eff rfl (eff_storeP (n := 38) (s := 1000801) (size57.of ((hfi.at _).len)) rfl rfl (NodT.one _) hBg rfl (by first | exact nf1 hfi (hfi.at _) (by omega) | exact nf2 hfi (hfi.at _) (hfi.at _) (by omega) (by omega)) (LV 0 rfl (LV 1 rfl (LV 2 rfl (LV 3 rfl (LV 10 rfl (LV 13 rfl (LV 16 rfl (LV 17 rfl (LV 18 rfl (LV 19 rfl (LV 20 rfl (LV 21 rfl (LV 22 rfl (LV 23 rfl (LV 24 rfl (LV 25 rfl (LV 26 rfl (LV 27 rfl (LV 28 rfl (LV 29 rfl (LV 30 rfl (LV 31 rfl (LV 32 rfl (LV 33 rfl (LV 34 rfl (LV 35 rfl (LV 36 rfl (LV 37 rfl (LeftS.cons (t := 1000802) rfl (Surv.wrote) LN)))))))))))))))))))))))))))))) ?_ ?_
       ·refine AnyT.last (by kernel_rfl) ?_;exact (QC 0 rfl (QC 1 rfl (QC 2 rfl (QC 3 rfl (QC 10 rfl (QX 1000801 rfl (Le.eq (congrArg (blk g 57) (nods_sw hfi hal hbl ys _ rfl))) (QC 1000802 rfl SubL.nil)))))))
       exact trivial
      exact trivial
     exact trivial
    refine NextT.pure (by kernel_rfl) rfl rfl rfl (OpOk.asV (nI (b + i)) (wrap_eq (by omega) (by omega)) (ok_bin rfl rfl rfl)) ?_ ?_
    ·refine AnyT.step 4 [] (by kernel_rfl) ?_;refine NextT.pure (by kernel_rfl) rfl rfl rfl (ok_move rfl) ?_ ?_
     ·refine AnyT.step 22 [] (by kernel_rfl) ?_;refine NextT.pure (by kernel_rfl) rfl rfl rfl (ok_indexS ((b + i)) U30 infoN rfl rfl rfl (by omega)) ?_ ?_
      ·refine AnyT.step 23 [] (by kernel_rfl) ?_;refine NextT.eff rfl (eff_storeP (n := 38) (s := 1000801) (size57.of ((hfi.at _).len)) rfl rfl (NodT.one _) hBg rfl (by first | exact nf1 hfi (hfi.at _) (by omega) | exact nf2 hfi (hfi.at _) (hfi.at _) (by omega) (by omega)) (LV 0 rfl (LV 1 rfl (LV 2 rfl (LV 3 rfl (LV 10 rfl (LV 13 rfl (LV 16 rfl (LV 17 rfl (LV 18 rfl (LV 19 rfl (LV 20 rfl (LV 21 rfl (LV 22 rfl (LV 23 rfl (LV 24 rfl (LV 25 rfl (LV 26 rfl (LV 27 rfl (LV 28 rfl (LV 29 rfl (LV 30 rfl (LV 31 rfl (LV 32 rfl (LV 33 rfl (LV 34 rfl (LV 35 rfl (LV 36 rfl (LV 37 rfl (LeftS.cons (t := 1000802) rfl (Surv.wrote) LN)))))))))))))))))))))))))))))) ?_ ?_
       ·refine AnyT.last (by kernel_rfl) ?_;exact (QC 0 rfl (QC 1 rfl (QC 2 rfl (QC 3 rfl (QC 10 rfl (QX 1000801 rfl (Le.eq (congrArg (blk g 57) (nods_sw hfi hal hbl ys _ rfl))) (QC 1000802 rfl SubL.nil)))))))
       exact trivial
      exact trivial
     exact trivial
    exact trivial
   ·refine ⟨4, Nat.le_of_ble_eq_true (by kernel_rfl), _, (Sv [0, 1, 2, 3, 10, 13, 16, 17, 18, 19, 21, 23, 24, 25, 26, 27, 28, 29, 30, 31, 32, 33, 34, 35, 36, 1000801, 1000802] rfl), by kernel_rfl, _, rfl, _, eff_storeP (n := 38) (s := 1000801) (size57.of ((hfi.at _).len)) rfl rfl (NodT.one _) hBg rfl (by first | exact nf1 hfi (hfi.at _) (by omega) | exact nf2 hfi (hfi.at _) (hfi.at _) (by omega) (by omega)) (LV 0 rfl (LV 1 rfl (LV 2 rfl (LV 3 rfl (LV 10 rfl (LV 13 rfl (LV 16 rfl (LV 17 rfl (LV 18 rfl (LV 19 rfl (LV 21 rfl (LV 23 rfl (LV 24 rfl (LV 25 rfl (LV 26 rfl (LV 27 rfl (LV 28 rfl (LV 29 rfl (LV 30 rfl (LV 31 rfl (LV 32 rfl (LV 33 rfl (LV 34 rfl (LV 35 rfl (LV 36 rfl (LeftS.cons (t := 1000802) rfl (Surv.wrote) LN)))))))))))))))))))))))))), ?_⟩
    refine AnyT.step 4 [6] (by kernel_rfl) ?_;refine NextT.pure (by kernel_rfl) rfl rfl rfl (ok_move rfl) ?_ ?_
    ·refine AnyT.step 6 [] (by kernel_rfl) ?_;refine NextT.pure (by kernel_rfl) rfl rfl rfl (ok_move rfl) ?_ ?_
     ·refine AnyT.step 22 [] (by kernel_rfl) ?_;refine NextT.pure (by kernel_rfl) rfl rfl rfl (ok_indexS ((b + i)) U30 infoN rfl rfl rfl (by omega)) ?_ ?_
      ·refine AnyT.step 23 [] (by kernel_rfl) ?_;refine NextT.eff rfl (eff_storeP (n := 38) (s := 1000801) (size57.of ((hfi.at _).len)) rfl rfl (NodT.one _) hBg rfl (by first | exact nf1 hfi (hfi.at _) (by omega) | exact nf2 hfi (hfi.at _) (hfi.at _) (by omega) (by omega)) (LV 0 rfl (LV 1 rfl (LV 2 rfl (LV 3 rfl (LV 10 rfl (LV 13 rfl (LV 16 rfl (LV 17 rfl (LV 18 rfl (LV 19 rfl (LV 20 rfl (LV 21 rfl (LV 22 rfl (LV 23 rfl (LV 24 rfl (LV 25 rfl (LV 26 rfl (LV 27 rfl (LV 28 rfl (LV 29 rfl (LV 30 rfl (LV 31 rfl (LV 32 rfl (LV 33 rfl (LV 34 rfl (LV 35 rfl (LV 36 rfl (LV 37 rfl (LeftS.cons (t := 1000802) rfl (Surv.wrote) LN)))))))))))))))))))))))))))))) ?_ ?_
       ·refine AnyT.last (by kernel_rfl) ?_;exact (QC 0 rfl (QC 1 rfl (QC 2 rfl (QC 3 rfl (QC 10 rfl (QX 1000801 rfl (Le.eq (congrArg (blk g 57) (nods_sw hfi hal hbl ys _ rfl))) (QC 1000802 rfl SubL.nil)))))))
       exact trivial
      exact trivial
     exact trivial
    refine NextT.pure (by kernel_rfl) rfl rfl rfl (ok_move rfl) ?_ ?_
    ·refine AnyT.step 4 [] (by kernel_rfl) ?_;refine NextT.pure (by kernel_rfl) rfl rfl rfl (ok_move rfl) ?_ ?_
     ·refine AnyT.step 22 [] (by kernel_rfl) ?_;refine NextT.pure (by kernel_rfl) rfl rfl rfl (ok_indexS ((b + i)) U30 infoN rfl rfl rfl (by omega)) ?_ ?_
      ·refine AnyT.step 23 [] (by kernel_rfl) ?_;refine NextT.eff rfl (eff_storeP (n := 38) (s := 1000801) (size57.of ((hfi.at _).len)) rfl rfl (NodT.one _) hBg rfl (by first | exact nf1 hfi (hfi.at _) (by omega) | exact nf2 hfi (hfi.at _) (hfi.at _) (by omega) (by omega)) (LV 0 rfl (LV 1 rfl (LV 2 rfl (LV 3 rfl (LV 10 rfl (LV 13 rfl (LV 16 rfl (LV 17 rfl (LV 18 rfl (LV 19 rfl (LV 20 rfl (LV 21 rfl (LV 22 rfl (LV 23 rfl (LV 24 rfl (LV 25 rfl (LV 26 rfl (LV 27 rfl (LV 28 rfl (LV 29 rfl (LV 30 rfl (LV 31 rfl (LV 32 rfl (LV 33 rfl (LV 34 rfl (LV 35 rfl (LV 36 rfl (LV 37 rfl (LeftS.cons (t := 1000802) rfl (Surv.wrote) LN)))))))))))))))))))))))))))))) ?_ ?_
       ·refine AnyT.last (by kernel_rfl) ?_;exact (QC 0 rfl (QC 1 rfl (QC 2 rfl (QC 3 rfl (QC 10 rfl (QX 1000801 rfl (Le.eq (congrArg (blk g 57) (nods_sw hfi hal hbl ys _ rfl))) (QC 1000802 rfl SubL.nil)))))))
       exact trivial
      exact trivial
     exact trivial
    exact trivial
   ·refine ⟨5, Nat.le_of_ble_eq_true (by kernel_rfl), _, (Sv [0, 1, 2, 3, 10, 13, 16, 17, 18, 19, 21, 24, 25, 26, 27, 28, 29, 30, 31, 32, 33, 34, 35, 36, 1000801, 1000802] rfl), by kernel_rfl, _, rfl, _, eff_storeP (n := 38) (s := 1000801) (size57.of ((hfi.at _).len)) rfl rfl (NodT.one _) hBg rfl (by first | exact nf1 hfi (hfi.at _) (by omega) | exact nf2 hfi (hfi.at _) (hfi.at _) (by omega) (by omega)) (LV 0 rfl (LV 1 rfl (LV 2 rfl (LV 3 rfl (LV 10 rfl (LV 13 rfl (LV 16 rfl (LV 17 rfl (LV 18 rfl (LV 19 rfl (LV 21 rfl (LV 24 rfl (LV 25 rfl (LV 26 rfl (LV 27 rfl (LV 28 rfl (LV 29 rfl (LV 30 rfl (LV 31 rfl (LV 32 rfl (LV 33 rfl (LV 34 rfl (LV 35 rfl (LV 36 rfl (LeftS.cons (t := 1000802) rfl (Surv.wrote) LN))))))))))))))))))))))))), ?_⟩
    refine AnyT.step 4 [6] (by kernel_rfl) ?_;refine NextT.pure (by kernel_rfl) rfl rfl rfl (ok_move rfl) ?_ ?_
    ·refine AnyT.step 6 [] (by kernel_rfl) ?_;refine NextT.pure (by kernel_rfl) rfl rfl rfl (ok_move rfl) ?_ ?_
     ·refine AnyT.step 7 [] (by kernel_rfl) ?_;refine NextT.pure (by kernel_rfl) rfl rfl rfl (OpOk.asV (nI (b + i)) (wrap_eq (by omega) (by omega)) (ok_bin rfl rfl rfl)) ?_ ?_
      ·refine AnyT.step 22 [] (by kernel_rfl) ?_;refine NextT.pure (by kernel_rfl) rfl rfl rfl (ok_indexS ((b + i)) U30 infoN rfl rfl rfl (by omega)) ?_ ?_
       ·refine AnyT.step 23 [] (by kernel_rfl) ?_;refine NextT.eff rfl (eff_storeP (n := 38) (s := 1000801) (size57.of ((hfi.at _).len)) rfl rfl (NodT.one _) hBg rfl (by first | exact nf1 hfi (hfi.at _) (by omega) | exact nf2 hfi (hfi.at _) (hfi.at _) (by omega) (by omega)) (LV 0 rfl (LV 1 rfl (LV 2 rfl (LV 3 rfl (LV 10 rfl (LV 13 rfl (LV 16 rfl (LV 17 rfl (LV 18 rfl (LV 19 rfl (LV 20 rfl (LV 21 rfl (LV 22 rfl (LV 23 rfl (LV 24 rfl (LV 25 rfl (LV 26 rfl (LV 27 rfl (LV 28 rfl (LV 29 rfl (LV 30 rfl (LV 31 rfl (LV 32 rfl (LV 33 rfl (LV 34 rfl (LV 35 rfl (LV 36 rfl (LV 37 rfl (LeftS.cons (t := 1000802) rfl (Surv.wrote) LN)))))))))))))))))))))))))))))) ?_ ?_
        ·refine AnyT.last (by kernel_rfl) ?_;exact (QC 0 rfl (QC 1 rfl (QC 2 rfl (QC 3 rfl (QC 10 rfl (QX 1000801 rfl (Le.eq (congrArg (blk g 57) (nods_sw hfi hal hbl ys _ rfl))) (QC 1000802 rfl SubL.nil)))))))
        exact trivial
       exact trivial
      exact trivial
     exact trivial
    refine NextT.pure (by kernel_rfl) rfl rfl rfl (ok_move rfl) ?_ ?_
    ·refine AnyT.step 4 [7] (by kernel_rfl) ?_;refine NextT.pure (by kernel_rfl) rfl rfl rfl (ok_move rfl) ?_ ?_
     ·refine AnyT.step 7 [] (by kernel_rfl) ?_;refine NextT.pure (by kernel_rfl) rfl rfl rfl (OpOk.asV (nI (b + i)) (wrap_eq (by omega) (by omega)) (ok_bin rfl rfl rfl)) ?_ ?_
      ·refine AnyT.step 22 [] (by kernel_rfl) ?_;refine NextT.pure (by kernel_rfl) rfl rfl rfl (ok_indexS ((b + i)) U30 infoN rfl rfl rfl (by omega)) ?_ ?_
       ·refine AnyT.step 23 [] (by kernel_rfl) ?_;refine NextT.eff rfl (eff_storeP (n := 38) (s := 1000801) (size57.of ((hfi.at _).len)) rfl rfl (NodT.one _) hBg rfl (by first | exact nf1 hfi (hfi.at _) (by omega) | exact nf2 hfi (hfi.at _) (hfi.at _) (by omega) (by omega)) (LV 0 rfl (LV 1 rfl (LV 2 rfl (LV 3 rfl (LV 10 rfl (LV 13 rfl (LV 16 rfl (LV 17 rfl (LV 18 rfl (LV 19 rfl (LV 20 rfl (LV 21 rfl (LV 22 rfl (LV 23 rfl (LV 24 rfl (LV 25 rfl (LV 26 rfl (LV 27 rfl (LV 28 rfl (LV 29 rfl (LV 30 rfl (LV 31 rfl (LV 32 rfl (LV 33 rfl (LV 34 rfl (LV 35 rfl (LV 36 rfl (LV 37 rfl (LeftS.cons (t := 1000802) rfl (Surv.wrote) LN)))))))))))))))))))))))))))))) ?_ ?_
        ·refine AnyT.last (by kernel_rfl) ?_;exact (QC 0 rfl (QC 1 rfl (QC 2 rfl (QC 3 rfl (QC 10 rfl (QX 1000801 rfl (Le.eq (congrArg (blk g 57) (nods_sw hfi hal hbl ys _ rfl))) (QC 1000802 rfl SubL.nil)))))))
        exact trivial
       exact trivial
      exact trivial
     refine NextT.pure (by kernel_rfl) rfl rfl rfl (OpOk.asV (nI (b + i)) (wrap_eq (by omega) (by omega)) (ok_bin rfl rfl rfl)) ?_ ?_
     ·refine AnyT.step 4 [] (by kernel_rfl) ?_;refine NextT.pure (by kernel_rfl) rfl rfl rfl (ok_move rfl) ?_ ?_
      ·refine AnyT.step 22 [] (by kernel_rfl) ?_;refine NextT.pure (by kernel_rfl) rfl rfl rfl (ok_indexS ((b + i)) U30 infoN rfl rfl rfl (by omega)) ?_ ?_
       ·refine AnyT.step 23 [] (by kernel_rfl) ?_;refine NextT.eff rfl (eff_storeP (n := 38) (s := 1000801) (size57.of ((hfi.at _).len)) rfl rfl (NodT.one _) hBg rfl (by first | exact nf1 hfi (hfi.at _) (by omega) | exact nf2 hfi (hfi.at _) (hfi.at _) (by omega) (by omega)) (LV 0 rfl (LV 1 rfl (LV 2 rfl (LV 3 rfl (LV 10 rfl (LV 13 rfl (LV 16 rfl (LV 17 rfl (LV 18 rfl (LV 19 rfl (LV 20 rfl (LV 21 rfl (LV 22 rfl (LV 23 rfl (LV 24 rfl (LV 25 rfl (LV 26 rfl (LV 27 rfl (LV 28 rfl (LV 29 rfl (LV 30 rfl (LV 31 rfl (LV 32 rfl (LV 33 rfl (LV 34 rfl (LV 35 rfl (LV 36 rfl (LV 37 rfl (LeftS.cons (t := 1000802) rfl (Surv.wrote) LN)))))))))))))))))))))))))))))) ?_ ?_
        ·refine AnyT.last (by kernel_rfl) ?_;exact (QC 0 rfl (QC 1 rfl (QC 2 rfl (QC 3 rfl (QC 10 rfl (QX 1000801 rfl (Le.eq (congrArg (blk g 57) (nods_sw hfi hal hbl ys _ rfl))) (QC 1000802 rfl SubL.nil)))))))
        exact trivial
       exact trivial
      exact trivial
     exact trivial
    exact trivial
   ·refine ⟨4, Nat.le_of_ble_eq_true (by kernel_rfl), _, (Sv [0, 1, 2, 3, 10, 13, 16, 17, 18, 19, 22, 23, 24, 25, 26, 27, 28, 29, 30, 31, 32, 33, 34, 35, 36, 1000801, 1000802] rfl), by kernel_rfl, _, rfl, _, eff_storeP (n := 38) (s := 1000801) (size57.of ((hfi.at _).len)) rfl rfl (NodT.one _) hBg rfl (by first | exact nf1 hfi (hfi.at _) (by omega) | exact nf2 hfi (hfi.at _) (hfi.at _) (by omega) (by omega)) (LV 0 rfl (LV 1 rfl (LV 2 rfl (LV 3 rfl (LV 10 rfl (LV 13 rfl (LV 16 rfl (LV 17 rfl (LV 18 rfl (LV 19 rfl (LV 22 rfl (LV 23 rfl (LV 24 rfl (LV 25 rfl (LV 26 rfl (LV 27 rfl (LV 28 rfl (LV 29 rfl (LV 30 rfl (LV 31 rfl (LV 32 rfl (LV 33 rfl (LV 34 rfl (LV 35 rfl (LV 36 rfl (LeftS.cons (t := 1000802) rfl (Surv.wrote) LN)))))))))))))))))))))))))), ?_⟩
    refine AnyT.step 4 [5] (by kernel_rfl) ?_;refine NextT.pure (by kernel_rfl) rfl rfl rfl (ok_move rfl) ?_ ?_
    ·refine AnyT.step 5 [] (by kernel_rfl) ?_;refine NextT.pure (by kernel_rfl) rfl rfl rfl (ok_move rfl) ?_ ?_
     ·refine AnyT.step 22 [] (by kernel_rfl) ?_;refine NextT.pure (by kernel_rfl) rfl rfl rfl (ok_indexS ((b + i)) U30 infoN rfl rfl rfl (by omega)) ?_ ?_
      ·refine AnyT.step 23 [] (by kernel_rfl) ?_;refine NextT.eff rfl (eff_storeP (n := 38) (s := 1000801) (size57.of ((hfi.at _).len)) rfl rfl (NodT.one _) hBg rfl (by first | exact nf1 hfi (hfi.at _) (by omega) | exact nf2 hfi (hfi.at _) (hfi.at _) (by omega) (by omega)) (LV 0 rfl (LV 1 rfl (LV 2 rfl (LV 3 rfl (LV 10 rfl (LV 13 rfl (LV 16 rfl (LV 17 rfl (LV 18 rfl (LV 19 rfl (LV 20 rfl (LV 21 rfl (LV 22 rfl (LV 23 rfl (LV 24 rfl (LV 25 rfl (LV 26 rfl (LV 27 rfl (LV 28 rfl (LV 29 rfl (LV 30 rfl (LV 31 rfl (LV 32 rfl (LV 33 rfl (LV 34 rfl (LV 35 rfl (LV 36 rfl (LV 37 rfl (LeftS.cons (t := 1000802) rfl (Surv.wrote) LN)))))))))))))))))))))))))))))) ?_ ?_
       ·refine AnyT.last (by kernel_rfl) ?_;exact (QC 0 rfl (QC 1 rfl (QC 2 rfl (QC 3 rfl (QC 10 rfl (QX 1000801 rfl (Le.eq (congrArg (blk g 57) (nods_sw hfi hal hbl ys _ rfl))) (QC 1000802 rfl SubL.nil)))))))
       exact trivial
      exact trivial
     exact trivial
    refine NextT.pure (by kernel_rfl) rfl rfl rfl (ok_move rfl) ?_ ?_
    ·refine AnyT.step 4 [] (by kernel_rfl) ?_;refine NextT.pure (by kernel_rfl) rfl rfl rfl (ok_move rfl) ?_ ?_
     ·refine AnyT.step 22 [] (by kernel_rfl) ?_;refine NextT.pure (by kernel_rfl) rfl rfl rfl (ok_indexS ((b + i)) U30 infoN rfl rfl rfl (by omega)) ?_ ?_
      ·refine AnyT.step 23 [] (by kernel_rfl) ?_;refine NextT.eff rfl (eff_storeP (n := 38) (s := 1000801) (size57.of ((hfi.at _).len)) rfl rfl (NodT.one _) hBg rfl (by first | exact nf1 hfi (hfi.at _) (by omega) | exact nf2 hfi (hfi.at _) (hfi.at _) (by omega) (by omega)) (LV 0 rfl (LV 1 rfl (LV 2 rfl (LV 3 rfl (LV 10 rfl (LV 13 rfl (LV 16 rfl (LV 17 rfl (LV 18 rfl (LV 19 rfl (LV 20 rfl (LV 21 rfl (LV 22 rfl (LV 23 rfl (LV 24 rfl (LV 25 rfl (LV 26 rfl (LV 27 rfl (LV 28 rfl (LV 29 rfl (LV 30 rfl (LV 31 rfl (LV 32 rfl (LV 33 rfl (LV 34 rfl (LV 35 rfl (LV 36 rfl (LV 37 rfl (LeftS.cons (t := 1000802) rfl (Surv.wrote) LN)))))))))))))))))))))))))))))) ?_ ?_
       ·refine AnyT.last (by kernel_rfl) ?_;exact (QC 0 rfl (QC 1 rfl (QC 2 rfl (QC 3 rfl (QC 10 rfl (QX 1000801 rfl (Le.eq (congrArg (blk g 57) (nods_sw hfi hal hbl ys _ rfl))) (QC 1000802 rfl SubL.nil)))))))
       exact trivial
      exact trivial
     exact trivial
    exact trivial
   ·refine ⟨5, Nat.le_of_ble_eq_true (by kernel_rfl), _, (Sv [0, 1, 2, 3, 10, 13, 16, 17, 18, 19, 22, 24, 25, 26, 27, 28, 29, 30, 31, 32, 33, 34, 35, 36, 1000801, 1000802] rfl), by kernel_rfl, _, rfl, _, eff_storeP (n := 38) (s := 1000801) (size57.of ((hfi.at _).len)) rfl rfl (NodT.one _) hBg rfl (by first | exact nf1 hfi (hfi.at _) (by omega) | exact nf2 hfi (hfi.at _) (hfi.at _) (by omega) (by omega)) (LV 0 rfl (LV 1 rfl (LV 2 rfl (LV 3 rfl (LV 10 rfl (LV 13 rfl (LV 16 rfl (LV 17 rfl (LV 18 rfl (LV 19 rfl (LV 22 rfl (LV 24 rfl (LV 25 rfl (LV 26 rfl (LV 27 rfl (LV 28 rfl (LV 29 rfl (LV 30 rfl (LV 31 rfl (LV 32 rfl (LV 33 rfl (LV 34 rfl (LV 35 rfl (LV 36 rfl (LeftS.cons (t := 1000802) rfl (Surv.wrote) LN))))))))))))))))))))))))), ?_⟩
    refine AnyT.step 4 [5] (by kernel_rfl) ?_;refine NextT.pure (by kernel_rfl) rfl rfl rfl (ok_move rfl) ?_ ?_
    ·refine AnyT.step 5 [] (by kernel_rfl) ?_;refine NextT.pure (by kernel_rfl) rfl rfl rfl (ok_move rfl) ?_ ?_
     ·refine AnyT.step 7 [] (by kernel_rfl) ?_;refine NextT.pure (by kernel_rfl) rfl rfl rfl (OpOk.asV (nI (b + i)) (wrap_eq (by omega) (by omega)) (ok_bin rfl rfl rfl)) ?_ ?_
      ·refine AnyT.step 22 [] (by kernel_rfl) ?_;refine NextT.pure (by kernel_rfl) rfl rfl rfl (ok_indexS ((b + i)) U30 infoN rfl rfl rfl (by omega)) ?_ ?_
       ·refine AnyT.step 23 [] (by kernel_rfl) ?_;refine NextT.eff rfl (eff_storeP (n := 38) (s := 1000801) (size57.of ((hfi.at _).len)) rfl rfl (NodT.one _) hBg rfl (by first | exact nf1 hfi (hfi.at _) (by omega) | exact nf2 hfi (hfi.at _) (hfi.at _) (by omega) (by omega)) (LV 0 rfl (LV 1 rfl (LV 2 rfl (LV 3 rfl (LV 10 rfl (LV 13 rfl (LV 16 rfl (LV 17 rfl (LV 18 rfl (LV 19 rfl (LV 20 rfl (LV 21 rfl (LV 22 rfl (LV 23 rfl (LV 24 rfl (LV 25 rfl (LV 26 rfl (LV 27 rfl (LV 28 rfl (LV 29 rfl (LV 30 rfl (LV 31 rfl (LV 32 rfl (LV 33 rfl (LV 34 rfl (LV 35 rfl (LV 36 rfl (LV 37 rfl (LeftS.cons (t := 1000802) rfl (Surv.wrote) LN)))))))))))))))))))))))))))))) ?_ ?_
        ·refine AnyT.last (by kernel_rfl) ?_;exact (QC 0 rfl (QC 1 rfl (QC 2 rfl (QC 3 rfl (QC 10 rfl (QX 1000801 rfl (Le.eq (congrArg (blk g 57) (nods_sw hfi hal hbl ys _ rfl))) (QC 1000802 rfl SubL.nil)))))))
        exact trivial
       exact trivial
      exact trivial
     exact trivial
    refine NextT.pure (by kernel_rfl) rfl rfl rfl (ok_move rfl) ?_ ?_
    ·refine AnyT.step 4 [7] (by kernel_rfl) ?_;refine NextT.pure (by kernel_rfl) rfl rfl rfl (ok_move rfl) ?_ ?_
     ·refine AnyT.step 7 [] (by kernel_rfl) ?_;refine NextT.pure (by kernel_rfl) rfl rfl rfl (OpOk.asV (nI (b + i)) (wrap_eq (by omega) (by omega)) (ok_bin rfl rfl rfl)) ?_ ?_
      ·refine AnyT.step 22 [] (by kernel_rfl) ?_;refine NextT.pure (by kernel_rfl) rfl rfl rfl (ok_indexS ((b + i)) U30 infoN rfl rfl rfl (by omega)) ?_ ?_
       ·refine AnyT.step 23 [] (by kernel_rfl) ?_;refine NextT.eff rfl (eff_storeP (n := 38) (s := 1000801) (size57.of ((hfi.at _).len)) rfl rfl (NodT.one _) hBg rfl (by first | exact nf1 hfi (hfi.at _) (by omega) | exact nf2 hfi (hfi.at _) (hfi.at _) (by omega) (by omega)) (LV 0 rfl (LV 1 rfl (LV 2 rfl (LV 3 rfl (LV 10 rfl (LV 13 rfl (LV 16 rfl (LV 17 rfl (LV 18 rfl (LV 19 rfl (LV 20 rfl (LV 21 rfl (LV 22 rfl (LV 23 rfl (LV 24 rfl (LV 25 rfl (LV 26 rfl (LV 27 rfl (LV 28 rfl (LV 29 rfl (LV 30 rfl (LV 31 rfl (LV 32 rfl (LV 33 rfl (LV 34 rfl (LV 35 rfl (LV 36 rfl (LV 37 rfl (LeftS.cons (t := 1000802) rfl (Surv.wrote) LN)))))))))))))))))))))))))))))) ?_ ?_
        ·refine AnyT.last (by kernel_rfl) ?_;exact (QC 0 rfl (QC 1 rfl (QC 2 rfl (QC 3 rfl (QC 10 rfl (QX 1000801 rfl (Le.eq (congrArg (blk g 57) (nods_sw hfi hal hbl ys _ rfl))) (QC 1000802 rfl SubL.nil)))))))
        exact trivial
       exact trivial
      exact trivial
     refine NextT.pure (by kernel_rfl) rfl rfl rfl (OpOk.asV (nI (b + i)) (wrap_eq (by omega) (by omega)) (ok_bin rfl rfl rfl)) ?_ ?_
     ·refine AnyT.step 4 [] (by kernel_rfl) ?_;refine NextT.pure (by kernel_rfl) rfl rfl rfl (ok_move rfl) ?_ ?_
      ·refine AnyT.step 22 [] (by kernel_rfl) ?_;refine NextT.pure (by kernel_rfl) rfl rfl rfl (ok_indexS ((b + i)) U30 infoN rfl rfl rfl (by omega)) ?_ ?_
       ·refine AnyT.step 23 [] (by kernel_rfl) ?_;refine NextT.eff rfl (eff_storeP (n := 38) (s := 1000801) (size57.of ((hfi.at _).len)) rfl rfl (NodT.one _) hBg rfl (by first | exact nf1 hfi (hfi.at _) (by omega) | exact nf2 hfi (hfi.at _) (hfi.at _) (by omega) (by omega)) (LV 0 rfl (LV 1 rfl (LV 2 rfl (LV 3 rfl (LV 10 rfl (LV 13 rfl (LV 16 rfl (LV 17 rfl (LV 18 rfl (LV 19 rfl (LV 20 rfl (LV 21 rfl (LV 22 rfl (LV 23 rfl (LV 24 rfl (LV 25 rfl (LV 26 rfl (LV 27 rfl (LV 28 rfl (LV 29 rfl (LV 30 rfl (LV 31 rfl (LV 32 rfl (LV 33 rfl (LV 34 rfl (LV 35 rfl (LV 36 rfl (LV 37 rfl (LeftS.cons (t := 1000802) rfl (Surv.wrote) LN)))))))))))))))))))))))))))))) ?_ ?_
        ·refine AnyT.last (by kernel_rfl) ?_;exact (QC 0 rfl (QC 1 rfl (QC 2 rfl (QC 3 rfl (QC 10 rfl (QX 1000801 rfl (Le.eq (congrArg (blk g 57) (nods_sw hfi hal hbl ys _ rfl))) (QC 1000802 rfl SubL.nil)))))))
        exact trivial
       exact trivial
      exact trivial
     exact trivial
    exact trivial
   ·refine ⟨5, Nat.le_of_ble_eq_true (by kernel_rfl), _, (Sv [0, 1, 2, 3, 10, 13, 16, 17, 18, 19, 23, 24, 25, 26, 27, 28, 29, 30, 31, 32, 33, 34, 35, 36, 1000801, 1000802] rfl), by kernel_rfl, _, rfl, _, eff_storeP (n := 38) (s := 1000801) (size57.of ((hfi.at _).len)) rfl rfl (NodT.one _) hBg rfl (by first | exact nf1 hfi (hfi.at _) (by omega) | exact nf2 hfi (hfi.at _) (hfi.at _) (by omega) (by omega)) (LV 0 rfl (LV 1 rfl (LV 2 rfl (LV 3 rfl (LV 10 rfl (LV 13 rfl (LV 16 rfl (LV 17 rfl (LV 18 rfl (LV 19 rfl (LV 23 rfl (LV 24 rfl (LV 25 rfl (LV 26 rfl (LV 27 rfl (LV 28 rfl (LV 29 rfl (LV 30 rfl (LV 31 rfl (LV 32 rfl (LV 33 rfl (LV 34 rfl (LV 35 rfl (LV 36 rfl (LeftS.cons (t := 1000802) rfl (Surv.wrote) LN))))))))))))))))))))))))), ?_⟩
    refine AnyT.step 4 [5, 6] (by kernel_rfl) ?_;refine NextT.pure (by kernel_rfl) rfl rfl rfl (ok_move rfl) ?_ ?_
    ·refine AnyT.step 5 [6] (by kernel_rfl) ?_;refine NextT.pure (by kernel_rfl) rfl rfl rfl (ok_move rfl) ?_ ?_
     ·refine AnyT.step 6 [] (by kernel_rfl) ?_;refine NextT.pure (by kernel_rfl) rfl rfl rfl (ok_move rfl) ?_ ?_
      ·refine AnyT.step 22 [] (by kernel_rfl) ?_;refine NextT.pure (by kernel_rfl) rfl rfl rfl (ok_indexS ((b + i)) U30 infoN rfl rfl rfl (by omega)) ?_ ?_
       ·refine AnyT.step 23 [] (by kernel_rfl) ?_;refine NextT.eff rfl (eff_storeP (n := 38) (s := 1000801) (size57.of ((hfi.at _).len)) rfl rfl (NodT.one _) hBg rfl (by first | exact nf1 hfi (hfi.at _) (by omega) | exact nf2 hfi (hfi.at _) (hfi.at _) (by omega) (by omega)) (LV 0 rfl (LV 1 rfl (LV 2 rfl (LV 3 rfl (LV 10 rfl (LV 13 rfl (LV 16 rfl (LV 17 rfl (LV 18 rfl (LV 19 rfl (LV 20 rfl (LV 21 rfl (LV 22 rfl (LV 23 rfl (LV 24 rfl (LV 25 rfl (LV 26 rfl (LV 27 rfl (LV 28 rfl (LV 29 rfl (LV 30 rfl (LV 31 rfl (LV 32 rfl (LV 33 rfl (LV 34 rfl (LV 35 rfl (LV 36 rfl (LV 37 rfl (LeftS.cons (t := 1000802) rfl (Surv.wrote) LN)))))))))))))))))))))))))))))) ?_ ?_
        ·refine AnyT.last (by kernel_rfl) ?_;exact (QC 0 rfl (QC 1 rfl (QC 2 rfl (QC 3 rfl (QC 10 rfl (QX 1000801 rfl (Le.eq (congrArg (blk g 57) (nods_sw hfi hal hbl ys _ rfl))) (QC 1000802 rfl SubL.nil)))))))
        exact trivial
       exact trivial
      exact trivial
     refine NextT.pure (by kernel_rfl) rfl rfl rfl (ok_move rfl) ?_ ?_
     ·refine AnyT.step 5 [] (by kernel_rfl) ?_;refine NextT.pure (by kernel_rfl) rfl rfl rfl (ok_move rfl) ?_ ?_
      ·refine AnyT.step 22 [] (by kernel_rfl) ?_;refine NextT.pure (by kernel_rfl) rfl rfl rfl (ok_indexS ((b + i)) U30 infoN rfl rfl rfl (by omega)) ?_ ?_
       ·refine AnyT.step 23 [] (by kernel_rfl) ?_;refine NextT.eff rfl (eff_storeP (n := 38) (s := 1000801) (size57.of ((hfi.at _).len)) rfl rfl (NodT.one _) hBg rfl (by first | exact nf1 hfi (hfi.at _) (by omega) | exact nf2 hfi (hfi.at _) (hfi.at _) (by omega) (by omega)) (LV 0 rfl (LV 1 rfl (LV 2 rfl (LV 3 rfl (LV 10 rfl (LV 13 rfl (LV 16 rfl (LV 17 rfl (LV 18 rfl (LV 19 rfl (LV 20 rfl (LV 21 rfl (LV 22 rfl (LV 23 rfl (LV 24 rfl (LV 25 rfl (LV 26 rfl (LV 27 rfl (LV 28 rfl (LV 29 rfl (LV 30 rfl (LV 31 rfl (LV 32 rfl (LV 33 rfl (LV 34 rfl (LV 35 rfl (LV 36 rfl (LV 37 rfl (LeftS.cons (t := 1000802) rfl (Surv.wrote) LN)))))))))))))))))))))))))))))) ?_ ?_
        ·refine AnyT.last (by kernel_rfl) ?_;exact (QC 0 rfl (QC 1 rfl (QC 2 rfl (QC 3 rfl (QC 10 rfl (QX 1000801 rfl (Le.eq (congrArg (blk g 57) (nods_sw hfi hal hbl ys _ rfl))) (QC 1000802 rfl SubL.nil)))))))
        exact trivial
       exact trivial
      exact trivial
     exact trivial
    refine NextT.pure (by kernel_rfl) rfl rfl rfl (ok_move rfl) ?_ ?_
    ·refine AnyT.step 4 [6] (by kernel_rfl) ?_;refine NextT.pure (by kernel_rfl) rfl rfl rfl (ok_move rfl) ?_ ?_
     ·refine AnyT.step 6 [] (by kernel_rfl) ?_;refine NextT.pure (by kernel_rfl) rfl rfl rfl (ok_move rfl) ?_ ?_
      ·refine AnyT.step 22 [] (by kernel_rfl) ?_;refine NextT.pure (by kernel_rfl) rfl rfl rfl (ok_indexS ((b + i)) U30 infoN rfl rfl rfl (by omega)) ?_ ?_
       ·refine AnyT.step 23 [] (by kernel_rfl) ?_;refine NextT.eff rfl (eff_storeP (n := 38) (s := 1000801) (size57.of ((hfi.at _).len)) rfl rfl (NodT.one _) hBg rfl (by first | exact nf1 hfi (hfi.at _) (by omega) | exact nf2 hfi (hfi.at _) (hfi.at _) (by omega) (by omega)) (LV 0 rfl (LV 1 rfl (LV 2 rfl (LV 3 rfl (LV 10 rfl (LV 13 rfl (LV 16 rfl (LV 17 rfl (LV 18 rfl (LV 19 rfl (LV 20 rfl (LV 21 rfl (LV 22 rfl (LV 23 rfl (LV 24 rfl (LV 25 rfl (LV 26 rfl (LV 27 rfl (LV 28 rfl (LV 29 rfl (LV 30 rfl (LV 31 rfl (LV 32 rfl (LV 33 rfl (LV 34 rfl (LV 35 rfl (LV 36 rfl (LV 37 rfl (LeftS.cons (t := 1000802) rfl (Surv.wrote) LN)))))))))))))))))))))))))))))) ?_ ?_
        ·refine AnyT.last (by kernel_rfl) ?_;exact (QC 0 rfl (QC 1 rfl (QC 2 rfl (QC 3 rfl (QC 10 rfl (QX 1000801 rfl (Le.eq (congrArg (blk g 57) (nods_sw hfi hal hbl ys _ rfl))) (QC 1000802 rfl SubL.nil)))))))
        exact trivial
       exact trivial
      exact trivial
     refine NextT.pure (by kernel_rfl) rfl rfl rfl (ok_move rfl) ?_ ?_
     ·refine AnyT.step 4 [] (by kernel_rfl) ?_;refine NextT.pure (by kernel_rfl) rfl rfl rfl (ok_move rfl) ?_ ?_
      ·refine AnyT.step 22 [] (by kernel_rfl) ?_;refine NextT.pure (by kernel_rfl) rfl rfl rfl (ok_indexS ((b + i)) U30 infoN rfl rfl rfl (by omega)) ?_ ?_
       ·refine AnyT.step 23 [] (by kernel_rfl) ?_;refine NextT.eff rfl (eff_storeP (n := 38) (s := 1000801) (size57.of ((hfi.at _).len)) rfl rfl (NodT.one _) hBg rfl (by first | exact nf1 hfi (hfi.at _) (by omega) | exact nf2 hfi (hfi.at _) (hfi.at _) (by omega) (by omega)) (LV 0 rfl (LV 1 rfl (LV 2 rfl (LV 3 rfl (LV 10 rfl (LV 13 rfl (LV 16 rfl (LV 17 rfl (LV 18 rfl (LV 19 rfl (LV 20 rfl (LV 21 rfl (LV 22 rfl (LV 23 rfl (LV 24 rfl (LV 25 rfl (LV 26 rfl (LV 27 rfl (LV 28 rfl (LV 29 rfl (LV 30 rfl (LV 31 rfl (LV 32 rfl (LV 33 rfl (LV 34 rfl (LV 35 rfl (LV 36 rfl (LV 37 rfl (LeftS.cons (t := 1000802) rfl (Surv.wrote) LN)))))))))))))))))))))))))))))) ?_ ?_
        ·refine AnyT.last (by kernel_rfl) ?_;exact (QC 0 rfl (QC 1 rfl (QC 2 rfl (QC 3 rfl (QC 10 rfl (QX 1000801 rfl (Le.eq (congrArg (blk g 57) (nods_sw hfi hal hbl ys _ rfl))) (QC 1000802 rfl SubL.nil)))))))
        exact trivial
       exact trivial
      exact trivial
     exact trivial
    refine NextT.pure (by kernel_rfl) rfl rfl rfl (ok_move rfl) ?_ ?_
    ·refine AnyT.step 4 [5] (by kernel_rfl) ?_;refine NextT.pure (by kernel_rfl) rfl rfl rfl (ok_move rfl) ?_ ?_
     ·refine AnyT.step 5 [] (by kernel_rfl) ?_;refine NextT.pure (by kernel_rfl) rfl rfl rfl (ok_move rfl) ?_ ?_
      ·refine AnyT.step 22 [] (by kernel_rfl) ?_;refine NextT.pure (by kernel_rfl) rfl rfl rfl (ok_indexS ((b + i)) U30 infoN rfl rfl rfl (by omega)) ?_ ?_
       ·refine AnyT.step 23 [] (by kernel_rfl) ?_;refine NextT.eff rfl (eff_storeP (n := 38) (s := 1000801) (size57.of ((hfi.at _).len)) rfl rfl (NodT.one _) hBg rfl (by first | exact nf1 hfi (hfi.at _) (by omega) | exact nf2 hfi (hfi.at _) (hfi.at _) (by omega) (by omega)) (LV 0 rfl (LV 1 rfl (LV 2 rfl (LV 3 rfl (LV 10 rfl (LV 13 rfl (LV 16 rfl (LV 17 rfl (LV 18 rfl (LV 19 rfl (LV 20 rfl (LV 21 rfl (LV 22 rfl (LV 23 rfl (LV 24 rfl (LV 25 rfl (LV 26 rfl (LV 27 rfl (LV 28 rfl (LV 29 rfl (LV 30 rfl (LV 31 rfl (LV 32 rfl (LV 33 rfl (LV 34 rfl (LV 35 rfl (LV 36 rfl (LV 37 rfl (LeftS.cons (t := 1000802) rfl (Surv.wrote) LN)))))))))))))))))))))))))))))) ?_ ?_
        ·refine AnyT.last (by kernel_rfl) ?_;exact (QC 0 rfl (QC 1 rfl (QC 2 rfl (QC 3 rfl (QC 10 rfl (QX 1000801 rfl (Le.eq (congrArg (blk g 57) (nods_sw hfi hal hbl ys _ rfl))) (QC 1000802 rfl SubL.nil)))))))
        exact trivial
       exact trivial
      exact trivial
     refine NextT.pure (by kernel_rfl) rfl rfl rfl (ok_move rfl) ?_ ?_
     ·refine AnyT.step 4 [] (by kernel_rfl) ?_;refine NextT.pure (by kernel_rfl) rfl rfl rfl (ok_move rfl) ?_ ?_
      ·refine AnyT.step 22 [] (by kernel_rfl) ?_;refine NextT.pure (by kernel_rfl) rfl rfl rfl (ok_indexS ((b + i)) U30 infoN rfl rfl rfl (by omega)) ?_ ?_
       ·refine AnyT.step 23 [] (by kernel_rfl) ?_;refine NextT.eff rfl (eff_storeP (n := 38) (s := 1000801) (size57.of ((hfi.at _).len)) rfl rfl (NodT.one _) hBg rfl (by first | exact nf1 hfi (hfi.at _) (by omega) | exact nf2 hfi (hfi.at _) (hfi.at _) (by omega) (by omega)) (LV 0 rfl (LV 1 rfl (LV 2 rfl (LV 3 rfl (LV 10 rfl (LV 13 rfl (LV 16 rfl (LV 17 rfl (LV 18 rfl (LV 19 rfl (LV 20 rfl (LV 21 rfl (LV 22 rfl (LV 23 rfl (LV 24 rfl (LV 25 rfl (LV 26 rfl (LV 27 rfl (LV 28 rfl (LV 29 rfl (LV 30 rfl (LV 31 rfl (LV 32 rfl (LV 33 rfl (LV 34 rfl (LV 35 rfl (LV 36 rfl (LV 37 rfl (LeftS.cons (t := 1000802) rfl (Surv.wrote) LN)))))))))))))))))))))))))))))) ?_ ?_
        ·refine AnyT.last (by kernel_rfl) ?_;exact (QC 0 rfl (QC 1 rfl (QC 2 rfl (QC 3 rfl (QC 10 rfl (QX 1000801 rfl (Le.eq (congrArg (blk g 57) (nods_sw hfi hal hbl ys _ rfl))) (QC 1000802 rfl SubL.nil)))))))
        exact trivial
       exact trivial
      exact trivial
     exact trivial
    exact trivial
   ·refine ⟨6, Nat.le_of_ble_eq_true (by kernel_rfl), _, (Sv [0, 1, 2, 3, 10, 13, 16, 17, 18, 19, 24, 25, 26, 27, 28, 29, 30, 31, 32, 33, 34, 35, 36, 1000801, 1000802] rfl), by kernel_rfl, _, rfl, _, eff_storeP (n := 38) (s := 1000801) (size57.of ((hfi.at _).len)) rfl rfl (NodT.one _) hBg rfl (by first | exact nf1 hfi (hfi.at _) (by omega) | exact nf2 hfi (hfi.at _) (hfi.at _) (by omega) (by omega)) (LV 0 rfl (LV 1 rfl (LV 2 rfl (LV 3 rfl (LV 10 rfl (LV 13 rfl (LV 16 rfl (LV 17 rfl (LV 18 rfl (LV 19 rfl (LV 24 rfl (LV 25 rfl (LV 26 rfl (LV 27 rfl (LV 28 rfl (LV 29 rfl (LV 30 rfl (LV 31 rfl (LV 32 rfl (LV 33 rfl (LV 34 rfl (LV 35 rfl (LV 36 rfl (LeftS.cons (t := 1000802) rfl (Surv.wrote) LN)))))))))))))))))))))))), ?_⟩
    refine AnyT.step 4 [5, 6] (by kernel_rfl) ?_;refine NextT.pure (by kernel_rfl) rfl rfl rfl (ok_move rfl) ?_ ?_
    ·refine AnyT.step 5 [6] (by kernel_rfl) ?_;refine NextT.pure (by kernel_rfl) rfl rfl rfl (ok_move rfl) ?_ ?_
     ·refine AnyT.step 6 [] (by kernel_rfl) ?_;refine NextT.pure (by kernel_rfl) rfl rfl rfl (ok_move rfl) ?_ ?_
      ·refine AnyT.step 7 [] (by kernel_rfl) ?_;refine NextT.pure (by kernel_rfl) rfl rfl rfl (OpOk.asV (nI (b + i)) (wrap_eq (by omega) (by omega)) (ok_bin rfl rfl rfl)) ?_ ?_
       ·refine AnyT.step 22 [] (by kernel_rfl) ?_;refine NextT.pure (by kernel_rfl) rfl rfl rfl (ok_indexS ((b + i)) U30 infoN rfl rfl rfl (by omega)) ?_ ?_
        ·refine AnyT.step 23 [] (by kernel_rfl) ?_;refine NextT.eff rfl (eff_storeP (n := 38) (s := 1000801) (size57.of ((hfi.at _).len)) rfl rfl (NodT.one _) hBg rfl (by first | exact nf1 hfi (hfi.at _) (by omega) | exact nf2 hfi (hfi.at _) (hfi.at _) (by omega) (by omega)) (LV 0 rfl (LV 1 rfl (LV 2 rfl (LV 3 rfl (LV 10 rfl (LV 13 rfl (LV 16 rfl (LV 17 rfl (LV 18 rfl (LV 19 rfl (LV 20 rfl (LV 21 rfl (LV 22 rfl (LV 23 rfl (LV 24 rfl (LV 25 rfl (LV 26 rfl (LV 27 rfl (LV 28 rfl (LV 29 rfl (LV 30 rfl (LV 31 rfl (LV 32 rfl (LV 33 rfl (LV 34 rfl (LV 35 rfl (LV 36 rfl (LV 37 rfl (LeftS.cons (t := 1000802) rfl (Surv.wrote) LN)))))))))))))))))))))))))))))) ?_ ?_
         ·refine AnyT.last (by kernel_rfl) ?_;exact (QC 0 rfl (QC 1 rfl (QC 2 rfl (QC 3 rfl (QC 10 rfl (QX 1000801 rfl (Le.eq (congrArg (blk g 57) (nods_sw hfi hal hbl ys _ rfl))) (QC 1000802 rfl SubL.nil)))))))
         exact trivial
        exact trivial
       exact trivial
      exact trivial
     refine NextT.pure (by kernel_rfl) rfl rfl rfl (ok_move rfl) ?_ ?_
     ·refine AnyT.step 5 [] (by kernel_rfl) ?_;refine NextT.pure (by kernel_rfl) rfl rfl rfl (ok_move rfl) ?_ ?_
      ·refine AnyT.step 7 [] (by kernel_rfl) ?_;refine NextT.pure (by kernel_rfl) rfl rfl rfl (OpOk.asV (nI (b + i)) (wrap_eq (by omega) (by omega)) (ok_bin rfl rfl rfl)) ?_ ?_
       ·refine AnyT.step 22 [] (by kernel_rfl) ?_;refine NextT.pure (by kernel_rfl) rfl rfl rfl (ok_indexS ((b + i)) U30 infoN rfl rfl rfl (by omega)) ?_ ?_
        ·refine AnyT.step 23 [] (by kernel_rfl) ?_;refine NextT.eff rfl (eff_storeP (n := 38) (s := 1000801) (size57.of ((hfi.at _).len)) rfl rfl (NodT.one _) hBg rfl (by first | exact nf1 hfi (hfi.at _) (by omega) | exact nf2 hfi (hfi.at _) (hfi.at _) (by omega) (by omega)) (LV 0 rfl (LV 1 rfl (LV 2 rfl (LV 3 rfl (LV 10 rfl (LV 13 rfl (LV 16 rfl (LV 17 rfl (LV 18 rfl (LV 19 rfl (LV 20 rfl (LV 21 rfl (LV 22 rfl (LV 23 rfl (LV 24 rfl (LV 25 rfl (LV 26 rfl (LV 27 rfl (LV 28 rfl (LV 29 rfl (LV 30 rfl (LV 31 rfl (LV 32 rfl (LV 33 rfl (LV 34 rfl (LV 35 rfl (LV 36 rfl (LV 37 rfl (LeftS.cons (t := 1000802) rfl (Surv.wrote) LN)))))))))))))))))))))))))))))) ?_ ?_
         ·refine AnyT.last (by kernel_rfl) ?_;exact (QC 0 rfl (QC 1 rfl (QC 2 rfl (QC 3 rfl (QC 10 rfl (QX 1000801 rfl (Le.eq (congrArg (blk g 57) (nods_sw hfi hal hbl ys _ rfl))) (QC 1000802 rfl SubL.nil)))))))
         exact trivial
        exact trivial
       exact trivial
      exact trivial
     exact trivial
    refine NextT.pure (by kernel_rfl) rfl rfl rfl (ok_move rfl) ?_ ?_
    ·refine AnyT.step 4 [6] (by kernel_rfl) ?_;refine NextT.pure (by kernel_rfl) rfl rfl rfl (ok_move rfl) ?_ ?_
     ·refine AnyT.step 6 [] (by kernel_rfl) ?_;refine NextT.pure (by kernel_rfl) rfl rfl rfl (ok_move rfl) ?_ ?_
      ·refine AnyT.step 7 [] (by kernel_rfl) ?_;refine NextT.pure (by kernel_rfl) rfl rfl rfl (OpOk.asV (nI (b + i)) (wrap_eq (by omega) (by omega)) (ok_bin rfl rfl rfl)) ?_ ?_
       ·refine AnyT.step 22 [] (by kernel_rfl) ?_;refine NextT.pure (by kernel_rfl) rfl rfl rfl (ok_indexS ((b + i)) U30 infoN rfl rfl rfl (by omega)) ?_ ?_
        ·refine AnyT.step 23 [] (by kernel_rfl) ?_;refine NextT.eff rfl (eff_storeP (n := 38) (s := 1000801) (size57.of ((hfi.at _).len)) rfl rfl (NodT.one _) hBg rfl (by first | exact nf1 hfi (hfi.at _) (by omega) | exact nf2 hfi (hfi.at _) (hfi.at _) (by omega) (by omega)) (LV 0 rfl (LV 1 rfl (LV 2 rfl (LV 3 rfl (LV 10 rfl (LV 13 rfl (LV 16 rfl (LV 17 rfl (LV 18 rfl (LV 19 rfl (LV 20 rfl (LV 21 rfl (LV 22 rfl (LV 23 rfl (LV 24 rfl (LV 25 rfl (LV 26 rfl (LV 27 rfl (LV 28 rfl (LV 29 rfl (LV 30 rfl (LV 31 rfl (LV 32 rfl (LV 33 rfl (LV 34 rfl (LV 35 rfl (LV 36 rfl (LV 37 rfl (LeftS.cons (t := 1000802) rfl (Surv.wrote) LN)))))))))))))))))))))))))))))) ?_ ?_
         ·refine AnyT.last (by kernel_rfl) ?_;exact (QC 0 rfl (QC 1 rfl (QC 2 rfl (QC 3 rfl (QC 10 rfl (QX 1000801 rfl (Le.eq (congrArg (blk g 57) (nods_sw hfi hal hbl ys _ rfl))) (QC 1000802 rfl SubL.nil)))))))
         exact trivial
        exact trivial
       exact trivial
      exact trivial
     refine NextT.pure (by kernel_rfl) rfl rfl rfl (ok_move rfl) ?_ ?_
     ·refine AnyT.step 4 [7] (by kernel_rfl) ?_;refine NextT.pure (by kernel_rfl) rfl rfl rfl (ok_move rfl) ?_ ?_
      ·refine AnyT.step 7 [] (by kernel_rfl) ?_;refine NextT.pure (by kernel_rfl) rfl rfl rfl (OpOk.asV (nI (b + i)) (wrap_eq (by omega) (by omega)) (ok_bin rfl rfl rfl)) ?_ ?_
       ·refine AnyT.step 22 [] (by kernel_rfl) ?_;refine NextT.pure (by kernel_rfl) rfl rfl rfl (ok_indexS ((b + i)) U30 infoN rfl rfl rfl (by omega)) ?_ ?_
        ·refine AnyT.step 23 [] (by kernel_rfl) ?_;refine NextT.eff rfl (eff_storeP (n := 38) (s := 1000801) (size57.of ((hfi.at _).len)) rfl rfl (NodT.one _) hBg rfl (by first | exact nf1 hfi (hfi.at _) (by omega) | exact nf2 hfi (hfi.at _) (hfi.at _) (by omega) (by omega)) (LV 0 rfl (LV 1 rfl (LV 2 rfl (LV 3 rfl (LV 10 rfl (LV 13 rfl (LV 16 rfl (LV 17 rfl (LV 18 rfl (LV 19 rfl (LV 20 rfl (LV 21 rfl (LV 22 rfl (LV 23 rfl (LV 24 rfl (LV 25 rfl (LV 26 rfl (LV 27 rfl (LV 28 rfl (LV 29 rfl (LV 30 rfl (LV 31 rfl (LV 32 rfl (LV 33 rfl (LV 34 rfl (LV 35 rfl (LV 36 rfl (LV 37 rfl (LeftS.cons (t := 1000802) rfl (Surv.wrote) LN)))))))))))))))))))))))))))))) ?_ ?_
         ·refine AnyT.last (by kernel_rfl) ?_;exact (QC 0 rfl (QC 1 rfl (QC 2 rfl (QC 3 rfl (QC 10 rfl (QX 1000801 rfl (Le.eq (congrArg (blk g 57) (nods_sw hfi hal hbl ys _ rfl))) (QC 1000802 rfl SubL.nil)))))))
         exact trivial
        exact trivial
       exact trivial
      refine NextT.pure (by kernel_rfl) rfl rfl rfl (OpOk.asV (nI (b + i)) (wrap_eq (by omega) (by omega)) (ok_bin rfl rfl rfl)) ?_ ?_
      ·refine AnyT.step 4 [] (by kernel_rfl) ?_;refine NextT.pure (by kernel_rfl) rfl rfl rfl (ok_move rfl) ?_ ?_
       ·refine AnyT.step 22 [] (by kernel_rfl) ?_;refine NextT.pure (by kernel_rfl) rfl rfl rfl (ok_indexS ((b + i)) U30 infoN rfl rfl rfl (by omega)) ?_ ?_
        ·refine AnyT.step 23 [] (by kernel_rfl) ?_;refine NextT.eff rfl (eff_storeP (n := 38) (s := 1000801) (size57.of ((hfi.at _).len)) rfl rfl (NodT.one _) hBg rfl (by first | exact nf1 hfi (hfi.at _) (by omega) | exact nf2 hfi (hfi.at _) (hfi.at _) (by omega) (by omega)) (LV 0 rfl (LV 1 rfl (LV 2 rfl (LV 3 rfl (LV 10 rfl (LV 13 rfl (LV 16 rfl (LV 17 rfl (LV 18 rfl (LV 19 rfl (LV 20 rfl (LV 21 rfl (LV 22 rfl (LV 23 rfl (LV 24 rfl (LV 25 rfl (LV 26 rfl (LV 27 rfl (LV 28 rfl (LV 29 rfl (LV 30 rfl (LV 31 rfl (LV 32 rfl (LV 33 rfl (LV 34 rfl (LV 35 rfl (LV 36 rfl (LV 37 rfl (LeftS.cons (t := 1000802) rfl (Surv.wrote) LN)))))))))))))))))))))))))))))) ?_ ?_
         ·refine AnyT.last (by kernel_rfl) ?_;exact (QC 0 rfl (QC 1 rfl (QC 2 rfl (QC 3 rfl (QC 10 rfl (QX 1000801 rfl (Le.eq (congrArg (blk g 57) (nods_sw hfi hal hbl ys _ rfl))) (QC 1000802 rfl SubL.nil)))))))
         exact trivial
        exact trivial
       exact trivial
      exact trivial
     exact trivial
    refine NextT.pure (by kernel_rfl) rfl rfl rfl (ok_move rfl) ?_ ?_
    ·refine AnyT.step 4 [5] (by kernel_rfl) ?_;refine NextT.pure (by kernel_rfl) rfl rfl rfl (ok_move rfl) ?_ ?_
     ·refine AnyT.step 5 [] (by kernel_rfl) ?_;refine NextT.pure (by kernel_rfl) rfl rfl rfl (ok_move rfl) ?_ ?_
      ·refine AnyT.step 7 [] (by kernel_rfl) ?_;refine NextT.pure (by kernel_rfl) rfl rfl rfl (OpOk.asV (nI (b + i)) (wrap_eq (by omega) (by omega)) (ok_bin rfl rfl rfl)) ?_ ?_
       ·refine AnyT.step 22 [] (by kernel_rfl) ?_;refine NextT.pure (by kernel_rfl) rfl rfl rfl (ok_indexS ((b + i)) U30 infoN rfl rfl rfl (by omega)) ?_ ?_
        ·refine AnyT.step 23 [] (by kernel_rfl) ?_;refine NextT.eff rfl (eff_storeP (n := 38) (s := 1000801) (size57.of ((hfi.at _).len)) rfl rfl (NodT.one _) hBg rfl (by first | exact nf1 hfi (hfi.at _) (by omega) | exact nf2 hfi (hfi.at _) (hfi.at _) (by omega) (by omega)) (LV 0 rfl (LV 1 rfl (LV 2 rfl (LV 3 rfl (LV 10 rfl (LV 13 rfl (LV 16 rfl (LV 17 rfl (LV 18 rfl (LV 19 rfl (LV 20 rfl (LV 21 rfl (LV 22 rfl (LV 23 rfl (LV 24 rfl (LV 25 rfl (LV 26 rfl (LV 27 rfl (LV 28 rfl (LV 29 rfl (LV 30 rfl (LV 31 rfl (LV 32 rfl (LV 33 rfl (LV 34 rfl (LV 35 rfl (LV 36 rfl (LV 37 rfl (LeftS.cons (t := 1000802) rfl (Surv.wrote) LN)))))))))))))))))))))))))))))) ?_ ?_
         ·refine AnyT.last (by kernel_rfl) ?_;exact (QC 0 rfl (QC 1 rfl (QC 2 rfl (QC 3 rfl (QC 10 rfl (QX 1000801 rfl (Le.eq (congrArg (blk g 57) (nods_sw hfi hal hbl ys _ rfl))) (QC 1000802 rfl SubL.nil)))))))
         exact trivial
        exact trivial
       exact trivial
      exact trivial
     refine NextT.pure (by kernel_rfl) rfl rfl rfl (ok_move rfl) ?_ ?_
     ·refine AnyT.step 4 [7] (by kernel_rfl) ?_;refine NextT.pure (by kernel_rfl) rfl rfl rfl (ok_move rfl) ?_ ?_
      ·refine AnyT.step 7 [] (by kernel_rfl) ?_;refine NextT.pure (by kernel_rfl) rfl rfl rfl (OpOk.asV (nI (b + i)) (wrap_eq (by omega) (by omega)) (ok_bin rfl rfl rfl)) ?_ ?_
       ·refine AnyT.step 22 [] (by kernel_rfl) ?_;refine NextT.pure (by kernel_rfl) rfl rfl rfl (ok_indexS ((b + i)) U30 infoN rfl rfl rfl (by omega)) ?_ ?_
        ·refine AnyT.step 23 [] (by kernel_rfl) ?_;refine NextT.eff rfl (eff_storeP (n := 38) (s := 1000801) (size57.of ((hfi.at _).len)) rfl rfl (NodT.one _) hBg rfl (by first | exact nf1 hfi (hfi.at _) (by omega) | exact nf2 hfi (hfi.at _) (hfi.at _) (by omega) (by omega)) (LV 0 rfl (LV 1 rfl (LV 2 rfl (LV 3 rfl (LV 10 rfl (LV 13 rfl (LV 16 rfl (LV 17 rfl (LV 18 rfl (LV 19 rfl (LV 20 rfl (LV 21 rfl (LV 22 rfl (LV 23 rfl (LV 24 rfl (LV 25 rfl (LV 26 rfl (LV 27 rfl (LV 28 rfl (LV 29 rfl (LV 30 rfl (LV 31 rfl (LV 32 rfl (LV 33 rfl (LV 34 rfl (LV 35 rfl (LV 36 rfl (LV 37 rfl (LeftS.cons (t := 1000802) rfl (Surv.wrote) LN)))))))))))))))))))))))))))))) ?_ ?_
         ·refine AnyT.last (by kernel_rfl) ?_;exact (QC 0 rfl (QC 1 rfl (QC 2 rfl (QC 3 rfl (QC 10 rfl (QX 1000801 rfl (Le.eq (congrArg (blk g 57) (nods_sw hfi hal hbl ys _ rfl))) (QC 1000802 rfl SubL.nil)))))))
         exact trivial
        exact trivial
       exact trivial
      refine NextT.pure (by kernel_rfl) rfl rfl rfl (OpOk.asV (nI (b + i)) (wrap_eq (by omega) (by omega)) (ok_bin rfl rfl rfl)) ?_ ?_
      ·refine AnyT.step 4 [] (by kernel_rfl) ?_;refine NextT.pure (by kernel_rfl) rfl rfl rfl (ok_move rfl) ?_ ?_
       ·refine AnyT.step 22 [] (by kernel_rfl) ?_;refine NextT.pure (by kernel_rfl) rfl rfl rfl (ok_indexS ((b + i)) U30 infoN rfl rfl rfl (by omega)) ?_ ?_
        ·refine AnyT.step 23 [] (by kernel_rfl) ?_;refine NextT.eff rfl (eff_storeP (n := 38) (s := 1000801) (size57.of ((hfi.at _).len)) rfl rfl (NodT.one _) hBg rfl (by first | exact nf1 hfi (hfi.at _) (by omega) | exact nf2 hfi (hfi.at _) (hfi.at _) (by omega) (by omega)) (LV 0 rfl (LV 1 rfl (LV 2 rfl (LV 3 rfl (LV 10 rfl (LV 13 rfl (LV 16 rfl (LV 17 rfl (LV 18 rfl (LV 19 rfl (LV 20 rfl (LV 21 rfl (LV 22 rfl (LV 23 rfl (LV 24 rfl (LV 25 rfl (LV 26 rfl (LV 27 rfl (LV 28 rfl (LV 29 rfl (LV 30 rfl (LV 31 rfl (LV 32 rfl (LV 33 rfl (LV 34 rfl (LV 35 rfl (LV 36 rfl (LV 37 rfl (LeftS.cons (t := 1000802) rfl (Surv.wrote) LN)))))))))))))))))))))))))))))) ?_ ?_
         ·refine AnyT.last (by kernel_rfl) ?_;exact (QC 0 rfl (QC 1 rfl (QC 2 rfl (QC 3 rfl (QC 10 rfl (QX 1000801 rfl (Le.eq (congrArg (blk g 57) (nods_sw hfi hal hbl ys _ rfl))) (QC 1000802 rfl SubL.nil)))))))
         exact trivial
        exact trivial
       exact trivial
      exact trivial
     exact trivial
    exact trivial
  ·refine End.normal_block (EN (GTE (RV 2 rfl ?_)));refine RZ (nI (i + 1)) (wrap_eq (by omega) (by omega)) ?_;refine RVN 1 rfl ?_;refine End.normal_then ?_;refine End.again (i + 1) ?_ ?_ ?_
   ·show _ ≤ _; omega
   ·show _ - _ < _ - _; omega
   ·exact (Sv [0, 1, 2, 3, 10, 1000801, 1000802] rfl)
 ·have hi2 : i = n := by simp at hc13; omega
  refine A.exit (End.exit_then (End.exit_then (End.exit_here ?_)));exact End.wrote (kb := 1000801) (kw := 1000802) rfl rfl (by rw [hi2]) rfl
theorem SwR_len (g q : Nat) (ys : List Value) (a b n k : Nat) (W : List NodT) (hW : FitT W) (hk : W.length = k) (hsm : k ≤ 1000000) (ha : a + n ≤ k) (hb : b + n ≤ k) : FnW Tryz.prog 161 [] 57 g (nodsV W ++ ys) (nodsV (swR a b n W) ++ ys) ([.slice (some ⟨g, 0, none⟩) k q, nI a, nI b, nI n, .func (.func 122) #[] #[]].map D.v) := by
 subst hk; exact SwR_fnW g q ys a b n W hW hsm ha hb
set_option maxHeartbeats 8000000 in
theorem Rot_fnW (g q : Nat) (ys : List Value) (a m b : Nat) (W : List NodT) (hW : FitT W) (hsm : W.length ≤ 1000000) (ham : a < m) (hmb : m < b) (hb : b ≤ W.length)  : FnW Tryz.prog 158 [] 57 g (nodsV W ++ ys) (nodsV (rotF a m b W) ++ ys) ([.slice (some ⟨g, 0, none⟩) W.length q, nI a, nI m, nI b, .func (.func 122) #[] #[]].map D.v) := by
 refine FnW.of (n := 58) (kb := 1000801) (kw := 1000802) Tryz.func158 rfl (by kernel_rfl) Tryz.ntmps158 (by simp) (by decide) (fun p hp => by cases hp) (by decide) (by decide) [(0, .v (.slice (some ⟨g, 0, none⟩) W.length q)), (1, .v (nI a)), (2, .v (nI m)), (3, .v (nI b)), (4, .v (.func (.func 122) #[] #[]))]
  (fun p hp => by simp only [List.mem_cons, List.not_mem_nil, or_false] at hp; rcases hp with rfl | rfl | rfl | rfl | rfl <;> exact ⟨_, rfl, rfl⟩) fun w₀ w₁ hw hM => ?_
 have hBg : w₀.heap.size ≤ g := Nat.le_of_eq hw
 refine GT (RV 3 rfl ?_);refine RZ (nI (m - a)) (wrap_eq (by omega) (by omega)) ?_;refine RVN 1 rfl ?_;refine GT (RV 3 rfl ?_);refine RZ (nI (b - m)) (wrap_eq (by omega) (by omega)) ?_;refine RVN 1 rfl ?_;refine QSB ?_;refine A.loop (ι := Nat × Nat × Nat × List NodT) (fun p => 0 < p.2.1 ∧ 0 < p.2.2.1 ∧ p.2.1 ≤ m ∧ m + p.2.2.1 ≤ W.length ∧ p.2.1 + p.2.2.1 ≤ p.1 ∧ FitT p.2.2.2 ∧ p.2.2.2.length = W.length ∧ rotL m (b - a) (m - a) (b - m) W = rotL m p.1 p.2.1 p.2.2.1 p.2.2.2) (fun p => [(0, .v (.slice (some ⟨g, 0, none⟩) W.length q)), (2, .v (nI (m))), (4, .v (.func (.func 122) #[] #[])), (10, .v (nI (p.2.1))), (11, .v (nI (p.2.2.1))), (1000801, blk g 57 (nodsV p.2.2.2 ++ ys)), (1000802, wroteD 57 g w₁)]) (fun p => p.1) (b - a, m - a, b - m, W) ?_ ?_ ?_
 ·exact ⟨by show 0 < m - a; omega, by show 0 < b - m; omega, by show m - a ≤ m; omega, by show m + (b - m) ≤ W.length; omega, by show m - a + (b - m) ≤ b - a; omega, hW, rfl, rfl⟩
 ·exact (KC 0 rfl (KC 2 rfl (KC 4 rfl (KC 10 rfl (KC 11 rfl (KE 1000801 rfl (by rfl) (KC 1000802 rfl KN)))))))
 intro p hG
 refine QS (GV rfl ?_);refine A.cond rfl (fun hc20 => ?_) (fun hc20 => ?_)
 ·have hij : p.2.1 ≠ p.2.2.1 := by have h := hc20; simp at h; omega
  refine QK (A.block (GV rfl ?_));refine A.cond rfl (fun hc23 => ?_) (fun hc23 => ?_)
  ·have hgt : p.2.2.1 < p.2.1 := by have h := of_decide_eq_true hc23; omega
   refine GS (TF 7 (RV 4 rfl ?_));refine RZ (nI (m - p.2.1)) (wrap_eq (by omega) (by omega)) ?_;refine RVN 3 rfl ?_;refine ⟨_, eff_callW (n := 58) (s := 1000801) (SwR_len g q ys (m - p.2.1) m p.2.2.1 W.length p.2.2.2 hG.2.2.2.2.2.1 hG.2.2.2.2.2.2.1 (by omega) (by omega) (by omega)) (fun p hp => by cases hp) (Args.cons rfl LA (Args.cons rfl LA (Args.cons rfl LA (Args.cons rfl LA (Args.cons rfl LA Args.nil))))) hBg rfl (by decide) (LeftS.cons (t := 1000802) rfl (Surv.wrote) (LW [0, 2, 4, 10, 11] rfl)), ?_⟩
   refine TL (RN (GTE (RV 3 rfl ?_)));refine RZ (nI (p.2.1 - p.2.2.1)) (wrap_eq (by omega) (by omega)) ?_;refine RVN 1 rfl ?_;refine End.normal_block (End.normal_then ?_);refine End.again (if p.2.2.1 < p.2.1 then ((p.1 - 1, p.2.1 - p.2.2.1, p.2.2.1, swR (m - p.2.1) m p.2.2.1 p.2.2.2) : Nat × Nat × Nat × List NodT) else (p.1 - 1, p.2.1, p.2.2.1 - p.2.1, swR (m - p.2.1) (m + p.2.2.1 - p.2.1) p.2.1 p.2.2.2)) ?_ ?_ ?_
   ·first | (rw [if_pos hgt]; exact ⟨by show 0 < p.2.1 - p.2.2.1; omega, hG.2.1, by show p.2.1 - p.2.2.1 ≤ m; omega, hG.2.2.2.1, by show p.2.1 - p.2.2.1 + p.2.2.1 ≤ p.1 - 1; omega, swR_fit hG.2.2.2.2.2.1, by show (swR _ _ _ _).length = _; rw [swR_len]; exact hG.2.2.2.2.2.2.1, hG.2.2.2.2.2.2.2.trans (rotL_gt (by omega) hgt)⟩) | (rw [if_neg (by omega)]; exact ⟨hG.1, by show 0 < p.2.2.1 - p.2.1; omega, hG.2.2.1, by show m + (p.2.2.1 - p.2.1) ≤ W.length; omega, by show p.2.1 + (p.2.2.1 - p.2.1) ≤ p.1 - 1; omega, swR_fit hG.2.2.2.2.2.1, by show (swR _ _ _ _).length = _; rw [swR_len]; exact hG.2.2.2.2.2.2.1, hG.2.2.2.2.2.2.2.trans (rotL_lt (by omega) hlt)⟩)
   ·first | (rw [if_pos hgt]; show p.1 - 1 < p.1; omega) | (rw [if_neg (by omega)]; show p.1 - 1 < p.1; omega)
   ·exact (KC 0 rfl (KC 2 rfl (KC 4 rfl (KE 10 rfl (by first | (rw [if_pos hgt]; done) | (rw [if_neg (by omega)]; done)) (KE 11 rfl (by first | (rw [if_pos hgt]; done) | (rw [if_neg (by omega)]; done)) (KE 1000801 rfl (by first | (rw [if_pos hgt]; done) | (rw [if_neg (by omega)]; done)) (KC 1000802 rfl KN)))))))
  ·have hlt : p.2.1 < p.2.2.1 := by have h := of_decide_eq_false hc23; omega
   refine GS (TF 11 (RV 4 rfl ?_));refine RZ (nI (m - p.2.1)) (wrap_eq (by omega) (by omega)) ?_;refine RV 3 rfl ?_;refine RZ (nI (m + p.2.2.1)) (wrap_eq (by omega) (by omega)) ?_;refine RV 2 rfl ?_;refine RZ (nI (m + p.2.2.1 - p.2.1)) (wrap_eq (by omega) (by omega)) ?_;refine RVN 2 rfl ?_;refine ⟨_, eff_callW (n := 58) (s := 1000801) (SwR_len g q ys (m - p.2.1) (m + p.2.2.1 - p.2.1) p.2.1 W.length p.2.2.2 hG.2.2.2.2.2.1 hG.2.2.2.2.2.2.1 (by omega) (by omega) (by omega)) (fun p hp => by cases hp) (Args.cons rfl LA (Args.cons rfl LA (Args.cons rfl LA (Args.cons rfl LA (Args.cons rfl LA Args.nil))))) hBg rfl (by decide) (LeftS.cons (t := 1000802) rfl (Surv.wrote) (LW [0, 2, 4, 10, 11] rfl)), ?_⟩
   refine TL (RN (GTE (RV 3 rfl ?_)));refine RZ (nI (p.2.2.1 - p.2.1)) (wrap_eq (by omega) (by omega)) ?_;refine RVN 1 rfl ?_;refine End.normal_block (End.normal_then ?_);refine End.again (if p.2.2.1 < p.2.1 then ((p.1 - 1, p.2.1 - p.2.2.1, p.2.2.1, swR (m - p.2.1) m p.2.2.1 p.2.2.2) : Nat × Nat × Nat × List NodT) else (p.1 - 1, p.2.1, p.2.2.1 - p.2.1, swR (m - p.2.1) (m + p.2.2.1 - p.2.1) p.2.1 p.2.2.2)) ?_ ?_ ?_
   ·first | (rw [if_pos hgt]; exact ⟨by show 0 < p.2.1 - p.2.2.1; omega, hG.2.1, by show p.2.1 - p.2.2.1 ≤ m; omega, hG.2.2.2.1, by show p.2.1 - p.2.2.1 + p.2.2.1 ≤ p.1 - 1; omega, swR_fit hG.2.2.2.2.2.1, by show (swR _ _ _ _).length = _; rw [swR_len]; exact hG.2.2.2.2.2.2.1, hG.2.2.2.2.2.2.2.trans (rotL_gt (by omega) hgt)⟩) | (rw [if_neg (by omega)]; exact ⟨hG.1, by show 0 < p.2.2.1 - p.2.1; omega, hG.2.2.1, by show m + (p.2.2.1 - p.2.1) ≤ W.length; omega, by show p.2.1 + (p.2.2.1 - p.2.1) ≤ p.1 - 1; omega, swR_fit hG.2.2.2.2.2.1, by show (swR _ _ _ _).length = _; rw [swR_len]; exact hG.2.2.2.2.2.2.1, hG.2.2.2.2.2.2.2.trans (rotL_lt (by omega) hlt)⟩)
   ·first | (rw [if_pos hgt]; show p.1 - 1 < p.1; omega) | (rw [if_neg (by omega)]; show p.1 - 1 < p.1; omega)
   ·exact (KC 0 rfl (KC 2 rfl (KC 4 rfl (KE 10 rfl (by first | (rw [if_pos hgt]; done) | (rw [if_neg (by omega)]; done)) (KE 11 rfl (by first | (rw [if_pos hgt]; done) | (rw [if_neg (by omega)]; done)) (KE 1000801 rfl (by first | (rw [if_pos hgt]; done) | (rw [if_neg (by omega)]; done)) (KC 1000802 rfl KN)))))))
 ·have hij : p.2.2.1 = p.2.1 := by have h := hc20; simp at h; omega
  refine A.exit (End.exit_then (End.exit_then (End.exit_here (EN (GE (TF 7 (RV 4 rfl ?_)))))));refine RZ (nI (m - p.2.1)) (wrap_eq (by omega) (by omega)) ?_;refine RVN 3 rfl ?_;refine ⟨_, eff_callW (n := 58) (s := 1000801) (SwR_len g q ys (m - p.2.1) m p.2.1 W.length p.2.2.2 hG.2.2.2.2.2.1 hG.2.2.2.2.2.2.1 (by omega) (by omega) (by omega)) (fun p hp => by cases hp) (Args.cons rfl LA (Args.cons rfl LA (Args.cons rfl LA (Args.cons rfl LA (Args.cons rfl LA Args.nil))))) hBg rfl (by decide) (LeftS.cons (t := 1000802) rfl (Surv.wrote) LN), ?_⟩
  refine TL (RN ?_);exact End.wrote (kb := 1000801) (kw := 1000802) rfl rfl (by unfold rotF; rw [hG.2.2.2.2.2.2.2, hij, rotL_eq]) rfl
section
def MergesT (k : Nat) : Prop := ∀ (g q : Nat) (ys : List Value) (a m b : Nat) (W : List NodT), FitT W → W.length = k → k ≤ 1000000 → a < m → m < b → b ≤ k → FnW Tryz.prog 153 [] 57 g (nodsV W ++ ys) (nodsV (smF (b - a) a m b W) ++ ys) ([.slice (some ⟨g, 0, none⟩) k q, nI a, nI m, nI b, .func (.func 122) #[] #[]].map D.v)
theorem Ins_len (g q : Nat) (ys : List Value) (a b k : Nat) (W : List NodT) (hW : FitT W) (hk : W.length = k) (hab : a ≤ b) (hb : b ≤ k) (hsm : k ≤ 1000000) : FnW Tryz.prog 152 [] 57 g (nodsV W ++ ys) (nodsV (insO a (b - a - 1) W) ++ ys) ([.slice (some ⟨g, 0, none⟩) k q, nI a, nI b, .func (.func 122) #[] #[]].map D.v) := by
 subst hk; exact Ins_fnW g q ys a b W hW hab hb hsm
set_option maxHeartbeats 8000000 in
theorem Stable_fnW (g q : Nat) (ys : List Value) (W : List NodT) (hW : FitT W) (hsm : W.length ≤ 1000000) (SM : 20 < W.length → MergesT W.length)  : FnW Tryz.prog 139 [] 57 g (nodsV W ++ ys) (nodsV (sfF W.length W) ++ ys) ([.slice (some ⟨g, 0, none⟩) W.length q, nI W.length, .func (.func 122) #[] #[]].map D.v) := by
 refine FnW.of (n := 63) (kb := 1000801) (kw := 1000802) Tryz.func139 rfl (by kernel_rfl) Tryz.ntmps139 (by simp) (by decide) (fun p hp => by cases hp) (by decide) (by decide) [(0, .v (.slice (some ⟨g, 0, none⟩) W.length q)), (1, .v (nI W.length)), (2, .v (.func (.func 122) #[] #[]))]
  (fun p hp => by simp only [List.mem_cons, List.not_mem_nil, or_false] at hp; rcases hp with rfl | rfl | rfl <;> exact ⟨_, rfl, rfl⟩) fun w₀ w₁ hw hM => ?_
 have hBg : w₀.heap.size ≤ g := Nat.le_of_eq hw
 refine GV rfl (GV rfl (QSB ?_));refine A.loop (ι := Nat × Nat × List NodT) (fun p => p.2.1 ≤ W.length ∧ W.length ≤ p.2.1 + p.1 ∧ FitT p.2.2 ∧ p.2.2.length = W.length ∧ sfI W.length W.length 0 W = sfI W.length p.1 p.2.1 p.2.2) (fun p => [(0, .v (.slice (some ⟨g, 0, none⟩) W.length q)), (1, .v (nI (W.length))), (2, .v (.func (.func 122) #[] #[])), (6, .v (nI (20))), (7, .v (nI (p.2.1))), (8, .v (nI (p.2.1 + 20))), (1000801, blk g 57 (nodsV p.2.2 ++ ys)), (1000802, wroteD 57 g w₁)]) (fun p => p.1) (W.length, 0, W) ?_ ?_ ?_
 ·exact ⟨Nat.zero_le _, by show W.length ≤ 0 + W.length; omega, hW, rfl, rfl⟩
 ·exact (KC 0 rfl (KC 1 rfl (KC 2 rfl (KE 6 rfl (by rfl) (KE 7 rfl (by rfl) (KE 8 rfl (by rfl) (KE 1000801 rfl (by rfl) (KC 1000802 rfl KN))))))))
 intro p hG
 refine QS (GV rfl ?_);refine A.cond rfl (fun hc13 => ?_) (fun hc13 => ?_)
 ·have hp : p.2.1 + 20 ≤ W.length := by simp at hc13; omega
  refine QK (A.block (GS (TF 4 (RVN 4 rfl ?_))));refine ⟨_, eff_callW (n := 63) (s := 1000801) (Ins_len g q ys p.2.1 (p.2.1 + 20) W.length p.2.2 hG.2.2.1 hG.2.2.2.1 (by omega) (by omega) hsm) (fun p hp => by cases hp) (Args.cons rfl LA (Args.cons rfl LA (Args.cons rfl LA (Args.cons rfl LA Args.nil)))) hBg rfl (by decide) (LeftS.cons (t := 1000802) rfl (Surv.wrote) (LW [0, 1, 2, 6, 8] rfl)), ?_⟩
  refine TL (RN (GV rfl (GTE (RV 3 rfl ?_))));refine RZ (nI (p.2.1 + 20 + 20)) (wrap_eq (by omega) (by omega)) ?_;refine RVN 1 rfl ?_;refine End.normal_block (End.normal_then ?_);refine End.again (p.1 - 1, p.2.1 + 20, insO p.2.1 (p.2.1 + 20 - p.2.1 - 1) p.2.2) ?_ ?_ ?_
  ·exact ⟨by show p.2.1 + 20 ≤ W.length; omega, by show W.length ≤ p.2.1 + 20 + (p.1 - 1); omega, insO_fit hG.2.2.1, by show (insO _ _ _).length = _; rw [insO_len]; exact hG.2.2.2.1, hG.2.2.2.2.trans (sfI_go hG.2.1 hp)⟩
  ·show p.1 - 1 < p.1; omega
  ·exact (KC 0 rfl (KC 1 rfl (KC 2 rfl (KC 6 rfl (KE 7 rfl (by rfl) (KE 8 rfl (by rfl) (KE 1000801 rfl (by rfl) (KC 1000802 rfl KN))))))))
 ·have hp : ¬ p.2.1 + 20 ≤ W.length := by simp at hc13; omega
  have hA : insO p.2.1 (W.length - p.2.1 - 1) p.2.2 = sfA W.length W := by unfold sfA; rw [hG.2.2.2.2, sfI_end hp]
  refine A.exit (End.exit_then (End.exit_then (End.exit_here (EN (GS (TF 4 (RVN 4 rfl ?_)))))));refine ⟨_, eff_callW (n := 63) (s := 1000801) (Ins_len g q ys p.2.1 W.length W.length p.2.2 hG.2.2.1 hG.2.2.2.1 (by omega) (by omega) hsm) (fun p hp => by cases hp) (Args.cons rfl LA (Args.cons rfl LA (Args.cons rfl LA (Args.cons rfl LA Args.nil)))) hBg rfl (by decide) (LeftS.cons (t := 1000802) rfl (Surv.wrote) (LW [0, 1, 2, 6] rfl)), ?_⟩
  refine TL (RN (A.block ?_));refine A.loop (ι := Nat × Nat × List NodT) (fun z => 20 ≤ z.2.1 ∧ W.length ≤ z.2.1 + z.1 ∧ FitT z.2.2 ∧ z.2.2.length = W.length ∧ sfF W.length W = sfO W.length z.1 z.2.1 z.2.2) (fun z => [(0, .v (.slice (some ⟨g, 0, none⟩) W.length q)), (1, .v (nI (W.length))), (2, .v (.func (.func 122) #[] #[])), (6, .v (nI (z.2.1))), (1000801, blk g 57 (nodsV z.2.2 ++ ys)), (1000802, wroteD 57 g w₁)]) (fun z => z.1) (W.length, 20, sfA W.length W) ?_ ?_ ?_
  ·exact ⟨Nat.le_refl _, by show W.length ≤ 20 + W.length; omega, sfA_fit hW, sfA_len _ _, rfl⟩
  ·exact (KC 0 rfl (KC 1 rfl (KC 2 rfl (KE 6 rfl (by rfl) (KE 1000801 rfl (by rw [hA]) (KC 1000802 rfl KN))))))
  intro z hG
  refine QS (GV rfl ?_);refine A.cond rfl (fun hc30 => ?_) (fun hc30 => ?_)
  ·have hz : z.2.1 < W.length := by simp at hc30; omega
   refine QK (A.block (GT (RV 2 rfl ?_)));refine RZ (nI (2 * z.2.1)) (wrap_eq (by omega) (by omega)) ?_;refine RVN 2 rfl ?_;refine QSB ?_;refine A.loop (ι := Nat × Nat × List NodT) (fun x => x.2.1 ≤ W.length ∧ W.length ≤ x.2.1 + x.1 ∧ FitT x.2.2 ∧ x.2.2.length = W.length ∧ sfM W.length z.2.1 W.length 0 z.2.2 = sfM W.length z.2.1 x.1 x.2.1 x.2.2) (fun x => [(0, .v (.slice (some ⟨g, 0, none⟩) W.length q)), (1, .v (nI (W.length))), (2, .v (.func (.func 122) #[] #[])), (6, .v (nI (z.2.1))), (7, .v (nI (x.2.1))), (8, .v (nI (x.2.1 + 2 * z.2.1))), (1000801, blk g 57 (nodsV x.2.2 ++ ys)), (1000802, wroteD 57 g w₁)]) (fun x => x.1) (W.length, 0, z.2.2) ?_ ?_ ?_
   ·exact ⟨Nat.zero_le _, by show W.length ≤ 0 + W.length; omega, hG.2.2.1, hG.2.2.2.1, rfl⟩
   ·exact (KC 0 rfl (KC 1 rfl (KC 2 rfl (KC 6 rfl (KE 7 rfl (by rfl) (KE 8 rfl (congrArg (fun k : Nat => D.v (nI k)) (by show 2 * z.2.1 = 0 + 2 * z.2.1; omega)) (KE 1000801 rfl (by rfl) (KC 1000802 rfl KN))))))))
   intro x hx
   refine QS (GV rfl ?_);refine A.cond rfl (fun hc35 => ?_) (fun hc35 => ?_)
   ·have hx1 : x.2.1 + 2 * z.2.1 ≤ W.length := by simp at hc35; omega
    refine QK (A.block (GS (TF 7 (RV 5 rfl ?_))));refine RZ (nI (x.2.1 + z.2.1)) (wrap_eq (by omega) (by omega)) ?_;refine RVN 2 rfl ?_;refine ⟨_, eff_callW (n := 63) (s := 1000801) (SM (by omega) g q ys x.2.1 (x.2.1 + z.2.1) (x.2.1 + 2 * z.2.1) x.2.2 hx.2.2.1 hx.2.2.2.1 hsm (by omega) (by omega) (by omega)) (fun p hp => by cases hp) (Args.cons rfl LA (Args.cons rfl LA (Args.cons rfl LA (Args.cons rfl LA (Args.cons rfl LA Args.nil))))) hBg rfl (by decide) (LeftS.cons (t := 1000802) rfl (Surv.wrote) (LW [0, 1, 2, 6, 8] rfl)), ?_⟩
    refine TL (RN (GV rfl (GTE (RV 3 rfl ?_))));refine RZ (nI (2 * z.2.1)) (wrap_eq (by omega) (by omega)) ?_;refine RB rfl rfl rfl ?_;refine RZ (nI (x.2.1 + 2 * z.2.1 + 2 * z.2.1)) (wrap_eq (by omega) (by omega)) ?_;refine RVN 1 rfl ?_;refine End.normal_block (End.normal_then ?_);refine End.again (x.1 - 1, x.2.1 + 2 * z.2.1, smF (x.2.1 + 2 * z.2.1 - x.2.1) x.2.1 (x.2.1 + z.2.1) (x.2.1 + 2 * z.2.1) x.2.2) ?_ ?_ ?_
    ·exact ⟨by show x.2.1 + 2 * z.2.1 ≤ W.length; omega, by show W.length ≤ x.2.1 + 2 * z.2.1 + (x.1 - 1); omega, smF_fit hx.2.2.1, by show (smF _ _ _ _ _).length = _; rw [smF_len]; exact hx.2.2.2.1, hx.2.2.2.2.trans (sfM_go (by omega) hx.2.1 hx1)⟩
    ·show x.1 - 1 < x.1; omega
    ·exact (KC 0 rfl (KC 1 rfl (KC 2 rfl (KC 6 rfl (KE 7 rfl (by rfl) (KE 8 rfl (by rfl) (KE 1000801 rfl (by rfl) (KC 1000802 rfl KN))))))))
   ·have hx1 : ¬ x.2.1 + 2 * z.2.1 ≤ W.length := by simp at hc35; omega
    have hM2 : sfM W.length z.2.1 W.length 0 z.2.2 = (x.2.1, x.2.2) := by rw [hx.2.2.2.2, sfM_end hx1]
    refine A.exit (End.exit_then (End.exit_then (End.exit_here (EN (QS (GT (RV 3 rfl ?_)))))));refine RZ (nI (x.2.1 + z.2.1)) (wrap_eq (by omega) (by omega)) ?_;refine RVN 1 rfl ?_;refine GV rfl ?_;refine A.cond rfl (fun hc54 => ?_) (fun hc54 => ?_)
    ·have hr : x.2.1 + z.2.1 < W.length := by simp at hc54; omega
     have hE : sfE W.length z.2.1 (sfM W.length z.2.1 W.length 0 z.2.2) = smF (W.length - x.2.1) x.2.1 (x.2.1 + z.2.1) W.length x.2.2 := by rw [hM2]; unfold sfE; rw [if_pos hr]
     refine GE (TF 5 (RVN 5 rfl ?_));refine ⟨_, eff_callW (n := 63) (s := 1000801) (SM (by omega) g q ys x.2.1 (x.2.1 + z.2.1) W.length x.2.2 hx.2.2.1 hx.2.2.2.1 hsm (by omega) (by omega) (by omega)) (fun p hp => by cases hp) (Args.cons rfl LA (Args.cons rfl LA (Args.cons rfl LA (Args.cons rfl LA (Args.cons rfl LA Args.nil))))) hBg rfl (by decide) (LeftS.cons (t := 1000802) rfl (Surv.wrote) (LW [0, 1, 2, 6] rfl)), ?_⟩
     refine TL (RN (EN (GTE (RV 2 rfl ?_))));refine RZ (nI (z.2.1 * 2)) (wrap_eq (by omega) (by omega)) ?_;refine RVN 1 rfl ?_;refine End.normal_block (End.normal_then ?_);refine End.again (z.1 - 1, z.2.1 * 2, sfE W.length z.2.1 (sfM W.length z.2.1 W.length 0 z.2.2)) ?_ ?_ ?_
     ·exact ⟨by show 20 ≤ z.2.1 * 2; omega, by show W.length ≤ z.2.1 * 2 + (z.1 - 1); omega, sfE_fit (sfM_fit hG.2.2.1), by show (sfE _ _ _).length = _; rw [sfE_len, sfM_len]; exact hG.2.2.2.1, hG.2.2.2.2.trans (sfO_go hG.2.1 hz)⟩
     ·show z.1 - 1 < z.1; omega
     ·exact (KC 0 rfl (KC 1 rfl (KC 2 rfl (KE 6 rfl (by rfl) (KE 1000801 rfl (by show blk g _ _ = blk g _ (nodsV (sfE _ _ _) ++ ys); rw [hE]) (KC 1000802 rfl KN))))))
    ·have hr : ¬ x.2.1 + z.2.1 < W.length := by simp at hc54; omega
     have hE : sfE W.length z.2.1 (sfM W.length z.2.1 W.length 0 z.2.2) = x.2.2 := by rw [hM2]; unfold sfE; rw [if_neg hr]
     refine QK (GTE (RV 2 rfl ?_));refine RZ (nI (z.2.1 * 2)) (wrap_eq (by omega) (by omega)) ?_;refine RVN 1 rfl ?_;refine End.normal_block (End.normal_then ?_);refine End.again (z.1 - 1, z.2.1 * 2, sfE W.length z.2.1 (sfM W.length z.2.1 W.length 0 z.2.2)) ?_ ?_ ?_
     ·exact ⟨by show 20 ≤ z.2.1 * 2; omega, by show W.length ≤ z.2.1 * 2 + (z.1 - 1); omega, sfE_fit (sfM_fit hG.2.2.1), by show (sfE _ _ _).length = _; rw [sfE_len, sfM_len]; exact hG.2.2.2.1, hG.2.2.2.2.trans (sfO_go hG.2.1 hz)⟩
     ·show z.1 - 1 < z.1; omega
     ·exact (KC 0 rfl (KC 1 rfl (KC 2 rfl (KE 6 rfl (by rfl) (KE 1000801 rfl (by show blk g _ _ = blk g _ (nodsV (sfE _ _ _) ++ ys); rw [hE]) (KC 1000802 rfl KN))))))
  ·have hz : ¬ z.2.1 < W.length := by simp at hc30; omega
   refine A.exit (End.exit_then (End.exit_then (End.exit_here ?_)));exact End.wrote (kb := 1000801) (kw := 1000802) rfl rfl (by rw [hG.2.2.2.2, sfO_end hz]) rfl
theorem Sort_fnW (g q : Nat) (ys : List Value) (W : List NodT) (hW : FitT W) (hsm : W.length ≤ 1000000) (SM : 20 < W.length → MergesT W.length)  : FnW Tryz.prog 121 [] 57 g (nodsV W ++ ys) (nodsV (sfF W.length W) ++ ys) ([.slice (some ⟨g, 0, none⟩) W.length q, .func (.func 122) #[] #[]].map D.v) := by
 refine FnW.of (n := 9) (kb := 1000801) (kw := 1000802) Tryz.func121 rfl (by kernel_rfl) Tryz.ntmps121 (by simp) (by decide) (fun p hp => by cases hp) (by decide) (by decide) [(0, .v (.slice (some ⟨g, 0, none⟩) W.length q)), (1, .v (.func (.func 122) #[] #[]))]
  (fun p hp => by simp only [List.mem_cons, List.not_mem_nil, or_false] at hp; rcases hp with rfl | rfl <;> exact ⟨_, rfl, rfl⟩) fun w₀ w₁ hw hM => ?_
 have hBg : w₀.heap.size ≤ g := Nat.le_of_eq hw
 refine GE (TF 4 (RV 2 rfl ?_));refine RS (ok_lenV U30 rfl) ?_;refine RVN 1 rfl ?_;refine ⟨_, eff_callW (n := 9) (s := 1000801) (Stable_fnW g q ys W hW hsm SM) (fun p hp => by cases hp) (Args.cons rfl LA (Args.cons rfl LA (Args.cons rfl LA Args.nil))) hBg rfl (by decide) (LeftS.cons (t := 1000802) rfl (Surv.wrote) LN), ?_⟩
 refine TL (RN ?_);exact End.wrote (kb := 1000801) (kw := 1000802) rfl rfl (rfl) rfl
theorem CloneN_fnB (ad : Addr) (T : List NodT) (hT : FitT T) (c : Nat) (hsm : T.length ≤ 1000000)  : FnMB Tryz.prog 120 (trO (some ad) T) [.v (.slice (some ad) T.length c)] (fun B => ownP B 57 274 T.length (nodsV T)) := by
 refine FnMB.ofO Tryz.func120 rfl (by kernel_rfl) Tryz.ntmps120 (by simp) (by decide) (fun w => [(0, .v (.slice (some ad) T.length c)), (1000501, old w.heap.size (memR (some ad) (nodsV T)))]) (fun w => (StartMO.v rfl (StartMO.mo (by simp [trO]) (by decide) StartMO.nil))) fun w₀ hM => ?_
 skip
 refine GV rfl (QS (GT (RM rfl ?_)));refine RS (ok_eqNilS U30 rfl) ?_; refine RF ?_;refine RN (A.no rfl ?_);refine QK (GT (RS (ok_build0P U30 infoN) ?_));refine RS (OpOk.rowO (ok_move rfl) (k := 1000501) (by decide) rfl) ?_;refine RS (ok_append0G U30 infoN (by decide) (by decide) rfl rfl rfl (Le.old _ _) (nods_len hT) (by omega)) ?_;refine RVN 1 rfl ?_;refine A.ret ?_;exact End.ret1 rfl rfl (Le.refl _)
theorem down_fn (x : Int) (ad : Addr) (T : List NodT) (hT : FitT T) (c : Nat) (hsm : T.length ≤ 1000000) (hp : 0 < T.length) (SM : 20 < T.length → MergesT T.length)  : FnM Tryz.prog 94 (trO (some ad) T) [.v (aggV [.int .i64 x, .slice (some ad) T.length c])] (rowD T.length (nodsV (sfF T.length T))) := by
 refine FnM.ofO Tryz.func94 rfl (by kernel_rfl) Tryz.ntmps94 (by simp) (by decide) (fun w => [(0, .v (aggV [.int .i64 x, .slice (some ad) T.length c])), (1000501, old w.heap.size (memR (some ad) (nodsV T)))]) (fun w => (StartMO.v rfl (StartMO.mo (by simp [trO]) (by decide) StartMO.nil))) fun w₀ hM => ?_
 skip
 refine GS (TN 0 (RN ?_));refine ZB 1000001 rfl fun b1 ⟨hBb1, hb1⟩ => ?_
 refine TL (RVN 1 rfl ?_);refine GT (RS (ok_field field32_1 (by decide) rfl) ?_);refine RLV 1000001 U30 rfl rfl rfl ?_;refine RS (ok_callMBK (CloneN_fnB ad T hT c hsm) (fun _ _ h => ownP_mono h) (SubK.cons (k := 1000501) (by decide) rfl Le.unold SubK.nil) (A1 rfl)) ?_;refine RVN 1 rfl ?_;refine A.nameP (t := 3) (k := 1000951) rfl (fun w y h => ownP_one h) fun v3 hv3 => ?_
 refine A.openRowY (k := 1000951) (k' := 1000801) rfl (by rw [nods_len hT]; omega) fun g q y hBg hq e => ?_
 subst e
 refine GS (TF 1 (RVN 1 rfl ?_));refine ⟨_, eff_callW (n := 10) (s := 1000801) (Sort_fnW g q y T hT hsm SM) (fun p hp => by cases hp) (Args.cons rfl LA (Args.cons rfl LA Args.nil)) hBg rfl (by decide) (LV 3 rfl (LT 1000001 rfl (LO 1000501 rfl LN))), ?_⟩
 refine TL (RN (GV rfl (A.ret ?_)));exact End.retRow (k := 1000801) rfl rfl rfl
theorem fdr_no (T W : List NodT) (hT : FitT T) (hW : FitT W) (hsm : T.length ≤ 1000000) (h : ∀ i, i < T.length → i < W.length → ndAt T i = ndAt W i)  : FnM Tryz.prog 93 tabS [rowD T.length (nodsV T), rowD W.length (nodsV W)] (.v (.tuple #[.slice none 0 0, .slice none 0 0, .int .i64 11])) := by
 refine FnM.of Tryz.func93 rfl (by kernel_rfl) Tryz.ntmps93 (by simp) (by decide) (fun w => [(0, old w.heap.size (rowD T.length (nodsV T))), (1, old w.heap.size (rowD W.length (nodsV W))), (1900001, tab 1 (sizV))]) (fun w => (StartM.old rfl (StartM.old rfl (StartM.m (by simp [tabS]) (by decide) StartM.nil)))) fun w₀ hM => ?_
 skip
 refine A.nameR (t := 0) (k := 1000501) rfl fun A₀ c => ?_
 refine A.nameR (t := 1) (k := 1000502) rfl fun B₀ c' => ?_
 refine GV rfl (QS (GT (RM rfl ?_)));refine RS (ok_lenV U30 rfl) ?_;refine RM rfl ?_;refine RS (ok_lenV U30 rfl) ?_;refine RS (ok_min rfl rfl) ?_; refine RZ (nI (min T.length W.length)) (congrArg (Value.int .i64) (by omega)) ?_;refine RVN 1 rfl ?_;refine A.block ?_;refine A.loop (ι := Nat) (fun i => i ≤ min T.length W.length) (fun i => [(0, .v (.slice A₀ T.length c)), (1, .v (.slice B₀ W.length c')), (12, .v (nI (min T.length W.length))), (13, .v (nI (i))), (1000501, old w₀.heap.size (memR A₀ (nodsV T))), (1000502, old w₀.heap.size (memR B₀ (nodsV W))), (1900001, tab 1 (sizV))]) (fun i => min T.length W.length - i) 0 ?_ ?_ ?_
 ·exact Nat.zero_le _
 ·exact (KC 0 rfl (KC 1 rfl (KC 12 rfl (KE 13 rfl (by rfl) (KC 1000501 rfl (KC 1000502 rfl (KC 1900001 rfl KN)))))))
 intro i hG
 refine GV rfl (QS ?_);refine A.cond rfl (fun hc14 => ?_) (fun hc14 => ?_)
 ·have hi : i < min T.length W.length := by simp at hc14; omega
  refine QK (QSB (GV rfl (GTD (RV 2 rfl ?_))));refine RS (ok_indexR (s := 1000501) i U30 infoN rfl rfl (by decide) rfl (by omega : i < T.length) (by rw [nods_len hT]; omega)) ?_;refine RS (ok_loadElemT 274 U57 rfl size57 (by rw [nods_at hT (by omega : i < T.length), (hT.at _).len]; exact Nat.le_refl _) rfl) ?_; refine RZ (aggV (ndAt T i).v) (congrArg aggV (by rw [nods_at hT (by omega : i < T.length)]; exact List.take_of_length_le (Nat.le_of_eq (hT.at _).len))) ?_;refine RV 2 rfl ?_;refine RS (ok_indexR (s := 1000502) i U30 infoN rfl rfl (by decide) rfl (by omega : i < W.length) (by rw [nods_len hW]; omega)) ?_;refine RS (ok_loadElemT 274 U57 rfl size57 (by rw [nods_at hW (by omega : i < W.length), (hW.at _).len]; exact Nat.le_refl _) rfl) ?_; refine RZ (aggV (ndAt W i).v) (congrArg aggV (by rw [nods_at hW (by omega : i < W.length)]; exact List.take_of_length_le (Nat.le_of_eq (hW.at _).len))) ?_;refine RS (ok_neqT (n := 6) (decide (ndAt T i = ndAt W i)) flat57 (by decide) (by kernel_rfl) (by kernel_rfl) rfl rfl (hT.at _).kin (hW.at _).kin (by rw [decide_eq_true_iff]; exact (nodV_eq_iff (hT.at _) (hW.at _)).symm)) ?_; refine RZ (.bool false) (by rw [decide_eq_true (h i (by omega) (by omega))]; rfl) ?_;refine RN (A.no rfl ?_);refine A.skip (End.normal_block (EN (GTE (RB rfl rfl rfl ?_))));refine RZ (nI (i + 1)) (wrap_eq (by omega) (by omega)) ?_;refine RVN 1 rfl ?_;refine End.normal_then ?_;refine End.again (i + 1) ?_ ?_ ?_
  ·exact (by omega : i + 1 ≤ min T.length W.length)
  ·show _ - _ < _ - _; omega
  ·exact (Sv [0, 1, 12, 13, 1000501, 1000502, 1900001] rfl)
 ·skip
  refine A.exit (End.exit_then (End.exit_then (End.exit_here (EN (GV rfl (A.ret ?_))))));exact End.ret3V rfl rfl rfl rfl
theorem diff_no (x : Int) (A₀ B₀ : Option Addr) (T W : List NodT) (c c' : Nat) (r : List UInt8) (hr : r.length = 32) (V₁ V₂ : List NodT) (hV₁ : FitT V₁) (hV₂ : FitT V₂) (hsm : V₁.length ≤ 1000000) (D1 : FnM Tryz.prog 94 (trO A₀ T) [.v (aggV [.int .i64 x, .slice A₀ T.length c])] (rowD V₁.length (nodsV V₁))) (D2 : FnM Tryz.prog 94 (trO B₀ W) [.v (aggV [.int .i64 x, .slice B₀ W.length c'])] (rowD V₂.length (nodsV V₂))) (h : ∀ i, i < V₁.length → i < V₂.length → ndAt V₁ i = ndAt V₂ i)  : FnM Tryz.prog 61 (tabS ++ twoM A₀ T B₀ W) [.v (aggV [.int .i64 x, .slice A₀ T.length c]), .v (aggV [.int .i64 x, .slice B₀ W.length c']), .v (aggV (r.map byteV)), .v (aggV (r.map byteV))] (.v (.tuple #[.slice none 0 0, .slice none 0 0, .int .i64 11])) := by
 refine FnM.ofO Tryz.func61 rfl (by kernel_rfl) Tryz.ntmps61 (by simp) (by decide) (fun w => [(0, .v (aggV [.int .i64 x, .slice A₀ T.length c])), (1, .v (aggV [.int .i64 x, .slice B₀ W.length c'])), (2, .v (aggV (r.map byteV))), (3, .v (aggV (r.map byteV))), (1900001, tab 1 (sizV)), (1000501, old w.heap.size (memR A₀ (nodsV T))), (1000502, old w.heap.size (memR B₀ (nodsV W)))]) (fun w => (StartMO.v rfl (StartMO.v rfl (StartMO.v rfl (StartMO.v rfl (StartMO.m (by simp [tabS]) (by decide) (StartMO.mo (by simp [tabS]) (by decide) (StartMO.mo (by simp [tabS]) (by decide) StartMO.nil)))))))) fun w₀ hM => ?_
 skip
 refine GS (TN 0 (RN ?_));refine ZB 1000004 rfl fun b4 ⟨hBb4, hb4⟩ => ?_
 refine TN 1 (RN ?_);refine ZB 1000005 rfl fun b5 ⟨hBb5, hb5⟩ => ?_
 have hlt_b4_b5 := hb5 1000004 b4 _ _ rfl
 refine TN 2 (RN ?_);refine ZB 1000006 rfl fun b6 ⟨hBb6, hb6⟩ => ?_
 refine TN 3 (RN ?_);refine ZB 1000007 rfl fun b7 ⟨hBb7, hb7⟩ => ?_
 have hlt_b6_b7 := hb7 1000006 b6 _ _ rfl
 refine TL (RVN 3 rfl ?_);refine QSB (GT (RS (ok_field field32_0 (by decide) rfl) ?_));refine RLV 1000004 U3 rfl rfl rfl ?_;refine RS (ok_field field32_0 (by decide) rfl) ?_;refine RLV 1000005 U3 rfl rfl rfl ?_;refine RB rfl rfl rfl ?_;refine RZ (.bool false) (congrArg Value.bool (by simp)) ?_;refine RVN 1 rfl ?_;refine A.no rfl ?_;refine GT (RL 1000006 U40 rfl rfl (size40.of (by rw [List.length_map, hr])) ?_);refine RL 1000007 U40 rfl rfl (size40.of (by rw [List.length_map, hr])) ?_;refine RS (ok_neqT (n := 4) true flat40r (by decide) (by kernel_rfl) (by kernel_rfl) rfl rfl (kinB hr) (kinB hr) (iff_of_true rfl rfl)) ?_; refine RF ?_;refine RVN 1 rfl ?_;refine A.no rfl ?_;refine A.skip (End.normal_block (EN (GTD (RL 1000004 U32 rfl rfl (size32.of rfl) ?_))));refine RS (ok_callMK D1 (SubK.cons (k := 1000501) (by decide) rfl Le.unold SubK.nil) (A1 rfl)) ?_;refine RL 1000005 U32 rfl rfl (size32.of rfl) ?_;refine RS (ok_callMK D2 (SubK.cons (k := 1000502) (by decide) rfl Le.unold SubK.nil) (A1 rfl)) ?_;refine RS (ok_callMK (fdr_no V₁ V₂ hV₁ hV₂ hsm h) (SubK.of (Sub.cons rfl KN) tabS_v) (A2 rfl rfl)) ?_;refine RVN 6 rfl ?_;refine A.sub (Sv [8, 9, 10, 1000004, 1000005, 1000006, 1000007, 1000501, 1000502, 1900001] rfl) ?_;refine A.ret ?_;exact End.ret3V rfl rfl rfl rfl
set_option maxHeartbeats 1000000 in
theorem Differ_no (n : Nat) (ad : Addr) (T : List NodT) (hT : FitT T) (c : Nat) (ht : Tree n T) (bd : Addr) (W : List NodT) (hW : FitT W) (c' : Nat) (hw : Tree n W) (hr : (sha (ndAt T (tot n (hg n))).bl) = (sha (ndAt W (tot n (hg n))).bl)) (V₁ V₂ : List NodT) (hV₁ : FitT V₁) (hV₂ : FitT V₂) (hsm : V₁.length ≤ 1000000) (D1 : FnM Tryz.prog 94 (trO (some ad) T) [.v (aggV [.int .i64 (n : Int), .slice (some ad) T.length c])] (rowD V₁.length (nodsV V₁))) (D2 : FnM Tryz.prog 94 (trO (some bd) W) [.v (aggV [.int .i64 (n : Int), .slice (some bd) W.length c'])] (rowD V₂.length (nodsV V₂))) (h : ∀ i, i < V₁.length → i < V₂.length → ndAt V₁ i = ndAt V₂ i)  : FnM Tryz.prog 34 (tabE ++ twoM (some ad) T (some bd) W) [.v (aggV [nI n, .slice (some ad) T.length c]), .v (aggV [nI n, .slice (some bd) W.length c'])] (.v (.tuple #[.slice none 0 0, .slice none 0 0, .int .i64 11])) := by
 refine FnM.ofO Tryz.func34 rfl (by kernel_rfl) Tryz.ntmps34 (by simp) (by decide) (fun w => [(0, .v (aggV [nI n, .slice (some ad) T.length c])), (1, .v (aggV [nI n, .slice (some bd) W.length c'])), (1900000, tabH 0 ([errT])), (1900001, tab 1 (sizV)), (1900002, tab 2 (H8.list.map u32V)), (1900003, tab 3 (K64.map u32V)), (1000501, old w.heap.size (memR (some ad) (nodsV T))), (1000502, old w.heap.size (memR (some bd) (nodsV W)))]) (fun w => (StartMO.v rfl (StartMO.v rfl (StartMO.m (by simp [tabE]) (by decide) (StartMO.m (by simp [tabE]) (by decide) (StartMO.m (by simp [tabE]) (by decide) (StartMO.m (by simp [tabE]) (by decide) (StartMO.mo (by simp [tabE]) (by decide) (StartMO.mo (by simp [tabE]) (by decide) StartMO.nil))))))))) fun w₀ hM => ?_
 have htab := tabE_hi fun p hp => hM p (List.mem_append_left _ hp)
 refine GS (TN 0 (RN ?_));refine ZB 1000002 rfl fun b2 ⟨hBb2, hb2⟩ => ?_
 refine TN 1 (RN ?_);refine ZB 1000003 rfl fun b3 ⟨hBb3, hb3⟩ => ?_
 have hlt_b2_b3 := hb3 1000002 b2 _ _ rfl
 refine TL (RVN 3 rfl ?_);refine GS (TN 5 (RL 1000002 U32 rfl rfl (size32.of rfl) ?_));refine RS (ok_callMK (Root_ok n ad T hT c ht) (SubK.app (SubK.of (Sub.cons rfl (Sub.cons rfl (Sub.cons rfl (Sub.cons rfl KN)))) tabE_v) (SubK.cons (k := 1000501) (by decide) rfl Le.unold SubK.nil)) (A1 rfl)) ?_;refine RVN 3 rfl ?_;refine ZN 1000007 zero40 fun b7 ⟨hBb7, hb7⟩ => ?_
 refine TF 6 (RN ?_);refine ⟨_, eff_storeA (n := 34) (s := 1000007) (size40.of (by rw [List.length_map, sha_length])) rfl rfl (all_bytes _) hBb7 rfl (by rw [List.length_map, sha_length]; rfl) (LT 1000002 rfl (LT 1000003 rfl (LO 1000501 rfl (LO 1000502 rfl (LeftS.cons (t := 1900000) rfl (Surv.tabH (by omega)) (LQ 1900001 rfl (LQ 1900002 rfl (LQ 1900003 rfl (LW [2, 3, 7, 14] rfl))))))))), ?_⟩
 refine TL (RVN 1 rfl ?_);refine QS (GT (RV 2 rfl ?_));refine RF ?_;refine RN (A.no rfl ?_);refine QK (GS (TN 5 (RL 1000003 U32 rfl rfl (size32.of rfl) ?_)));refine RS (ok_callMK (Root_ok n bd W hW c' hw) (SubK.app (SubK.of (Sub.cons rfl (Sub.cons rfl (Sub.cons rfl (Sub.cons rfl KN)))) tabE_v) (SubK.cons (k := 1000502) (by decide) rfl Le.unold SubK.nil)) (A1 rfl)) ?_;refine RV 2 rfl ?_;refine RZ (aggV ((sha (ndAt T (tot n (hg n))).bl).map byteV)) (by rw [hr]) ?_;refine RVN 1 rfl ?_;refine ZN 1000009 zero40 fun b9 ⟨hBb9, hb9⟩ => ?_
 have hlt_b7_b9 := hb9 1000007 b7 _ _ rfl
 refine TF 6 (RN ?_);refine ⟨_, eff_storeA (n := 34) (s := 1000009) (size40.of (by rw [List.length_map, sha_length])) rfl rfl (all_bytes _) hBb9 rfl (by rw [List.length_map, sha_length]; rfl) (LT 1000002 rfl (LT 1000003 rfl (LB 1000007 rfl (LO 1000501 rfl (LO 1000502 rfl (LeftS.cons (t := 1900000) rfl (Surv.tabH (by omega)) (LQ 1900001 rfl (LQ 1900002 rfl (LQ 1900003 rfl (LW [2, 3, 7, 9, 22] rfl)))))))))), ?_⟩
 refine TL (RVN 1 rfl ?_);refine QS (GT (RV 2 rfl ?_));refine RF ?_;refine RN (A.sub (Sv [2, 3, 7, 8, 9, 24, 1000002, 1000003, 1000007, 1000009, 1000501, 1000502, 1900000, 1900001, 1900002, 1900003] rfl) ?_);refine A.no rfl ?_;refine QK (GT (RL 1000002 U32 rfl rfl (size32.of rfl) ?_));refine RL 1000003 U32 rfl rfl (size32.of rfl) ?_;refine RL 1000007 U40 rfl rfl (size40.of (by rw [List.length_map, sha_length])) ?_;refine RL 1000009 U40 rfl rfl (size40.of (by rw [List.length_map, sha_length])) ?_;refine RS (ok_callMK (diff_no n (some ad) (some bd) T W c c' (sha (ndAt T (tot n (hg n))).bl) (sha_length _) V₁ V₂ hV₁ hV₂ hsm D1 D2 h) (SubK.app (SubK.of (Sub.cons rfl KN) tabS_v) (SubK.cons (k := 1000501) (by decide) rfl Le.unold (SubK.cons (k := 1000502) (by decide) rfl Le.unold SubK.nil))) (Args.cons rfl (Le.refl _) (A3 rfl rfl rfl))) ?_;refine RVN 6 rfl ?_;refine A.ret ?_;exact End.ret3V rfl rfl rfl rfl
end
section
set_option maxHeartbeats 8000000 in
theorem SM_1 (g q : Nat) (ys : List Value) (f a m b : Nat) (W : List NodT) (hW : FitT W) (hsm : W.length ≤ 1000000) (ham : a < m) (hmb : m < b) (hb : b ≤ W.length) (h1 : m - a = 1)  : FnW Tryz.prog 153 [] 57 g (nodsV W ++ ys) (nodsV (smF (f + 1) a m b W) ++ ys) ([.slice (some ⟨g, 0, none⟩) W.length q, nI a, nI m, nI b, .func (.func 122) #[] #[]].map D.v) := by
 refine FnW.of (n := 220) (kb := 1000801) (kw := 1000802) Tryz.func153 rfl (by kernel_rfl) Tryz.ntmps153 (by simp) (by decide) (fun p hp => by cases hp) (by decide) (by decide) [(0, .v (.slice (some ⟨g, 0, none⟩) W.length q)), (1, .v (nI a)), (2, .v (nI m)), (3, .v (nI b)), (4, .v (.func (.func 122) #[] #[]))]
  (fun p hp => by simp only [List.mem_cons, List.not_mem_nil, or_false] at hp; rcases hp with rfl | rfl | rfl | rfl | rfl <;> exact ⟨_, rfl, rfl⟩) fun w₀ w₁ hw hM => ?_
 have hBg : w₀.heap.size ≤ g := Nat.le_of_eq hw
 refine QS (GT (RV 3 rfl ?_));refine RZ (nI (m - a)) (wrap_eq (by omega) (by omega)) ?_;refine RB rfl rfl rfl ?_;refine RZ (.bool true) (congrArg Value.bool (by simp; omega)) ?_;refine RN (A.yes rfl ?_);refine GV rfl (GV rfl (QSB ?_));refine A.loop (ι := Nat × Nat × Nat) (fun p => m ≤ p.2.1 ∧ p.2.1 ≤ p.2.2 ∧ p.2.2 ≤ b ∧ p.2.2 - p.2.1 ≤ p.1 ∧ smI W a m b = bsr (pUp W a) p.1 p.2.1 p.2.2) (fun p => [(0, .v (.slice (some ⟨g, 0, none⟩) W.length q)), (1, .v (nI (a))), (4, .v (.func (.func 122) #[] #[])), (10, .v (nI (p.2.1))), (11, .v (nI (p.2.2))), (1000801, blk g 57 (nodsV W ++ ys)), (1000802, wroteD 57 g w₁)]) (fun p => p.1) (b - m, m, b) ?_ ?_ ?_
 ·exact ⟨Nat.le_refl _, by show m ≤ b; omega, Nat.le_refl _, Nat.le_refl _, rfl⟩
 ·exact (KC 0 rfl (KC 1 rfl (KC 4 rfl (KE 10 rfl (by rfl) (KE 11 rfl (by rfl) (KC 1000801 rfl (KC 1000802 rfl KN)))))))
 intro p hG
 refine QS (GV rfl ?_);refine A.cond rfl (fun hc33 => ?_) (fun hc33 => ?_)
 ·have hij : p.2.1 < p.2.2 := by simp at hc33; omega
  refine QK (A.block (GT (RV 3 rfl ?_)));refine RZ (nI (p.2.1 + p.2.2)) (wrap_eq (by omega) (by omega)) ?_;refine RS (ok_conv U3 U161 rfl) ?_; refine RZ (nQ (p.2.1 + p.2.2)) (congrArg (Value.int .u64) (wrap_u64 (by omega) (by omega))) ?_;refine RS (ok_shr rfl rfl (by decide)) ?_; refine RZ (nQ (((p.2.1 + p.2.2) / 2))) (congrArg (Value.int .u64) (half_fdiv _)) ?_;refine RS (ok_conv U161 U3 rfl) ?_; refine RZ (nI (((p.2.1 + p.2.2) / 2))) (congrArg (Value.int .i64) (wrap_i64 (by omega) (by omega))) ?_;refine RVN 1 rfl ?_;refine GTD (RV 3 rfl ?_);refine RS (ok_indexS (((p.2.1 + p.2.2) / 2)) U30 infoN rfl rfl rfl (by omega)) ?_;refine RS (ok_loadP (s := 1000801) (by decide) U57 rfl size57 rfl rfl (nodsY_len hW ys (by omega)) (nodsY_at hW ys (by omega))) ?_;refine RV 2 rfl ?_;refine RS (ok_indexS (a) U30 infoN rfl rfl rfl (by omega)) ?_;refine RS (ok_loadP (s := 1000801) (by decide) U57 rfl size57 rfl rfl (nodsY_len hW ys (by omega)) (nodsY_at hW ys (by omega))) ?_;refine RS (ok_callV0 (dcmp_fn (ndAt W ((p.2.1 + p.2.2) / 2)) (ndAt W a) (hW.at _) (hW.at _)) rfl (A2 rfl rfl)) ?_;refine RB rfl rfl rfl ?_;refine RZ (.bool (pUp W a ((p.2.1 + p.2.2) / 2))) (congrArg Value.bool cp8_neg) ?_;refine RN ?_;refine A.cond rfl (fun hc50 => ?_) (fun hc50 => ?_)
  ·have hlt : pUp W a ((p.2.1 + p.2.2) / 2) = true := by simpa using hc50
   refine GTE (RV 2 rfl ?_);refine RZ (nI (((p.2.1 + p.2.2) / 2) + 1)) (wrap_eq (by omega) (by omega)) ?_;refine RVN 1 rfl ?_;refine End.normal_block (End.normal_then ?_);refine End.again (if pUp W a ((p.2.1 + p.2.2) / 2) = true then ((p.1 - 1, ((p.2.1 + p.2.2) / 2) + 1, p.2.2) : Nat × Nat × Nat) else (p.1 - 1, p.2.1, ((p.2.1 + p.2.2) / 2))) ?_ ?_ ?_
   ·first | (rw [if_pos hlt]; exact ⟨by show m ≤ ((p.2.1 + p.2.2) / 2) + 1; omega, by show ((p.2.1 + p.2.2) / 2) + 1 ≤ p.2.2; omega, hG.2.2.1, by show p.2.2 - (((p.2.1 + p.2.2) / 2) + 1) ≤ p.1 - 1; omega, hG.2.2.2.2.trans (bsr_up (by omega) hij hlt)⟩) | (rw [if_neg (by rw [hlt]; decide)]; exact ⟨hG.1, by show p.2.1 ≤ ((p.2.1 + p.2.2) / 2); omega, by show ((p.2.1 + p.2.2) / 2) ≤ b; omega, by show ((p.2.1 + p.2.2) / 2) - p.2.1 ≤ p.1 - 1; omega, hG.2.2.2.2.trans (bsr_dn (by omega) hij hlt)⟩)
   ·first | (rw [if_pos hlt]; show p.1 - 1 < p.1; omega) | (rw [if_neg (by rw [hlt]; decide)]; show p.1 - 1 < p.1; omega)
   ·exact (KC 0 rfl (KC 1 rfl (KC 4 rfl (KE 10 rfl (by first | (rw [if_pos hlt]; done) | (rw [if_neg (by rw [hlt]; decide)]; done)) (KE 11 rfl (by first | (rw [if_pos hlt]; done) | (rw [if_neg (by rw [hlt]; decide)]; done)) (KC 1000801 rfl (KC 1000802 rfl KN)))))))
  ·have hlt : pUp W a ((p.2.1 + p.2.2) / 2) = false := by simpa using hc50
   refine GVE rfl (End.normal_block (End.normal_then ?_));refine End.again (if pUp W a ((p.2.1 + p.2.2) / 2) = true then ((p.1 - 1, ((p.2.1 + p.2.2) / 2) + 1, p.2.2) : Nat × Nat × Nat) else (p.1 - 1, p.2.1, ((p.2.1 + p.2.2) / 2))) ?_ ?_ ?_
   ·first | (rw [if_pos hlt]; exact ⟨by show m ≤ ((p.2.1 + p.2.2) / 2) + 1; omega, by show ((p.2.1 + p.2.2) / 2) + 1 ≤ p.2.2; omega, hG.2.2.1, by show p.2.2 - (((p.2.1 + p.2.2) / 2) + 1) ≤ p.1 - 1; omega, hG.2.2.2.2.trans (bsr_up (by omega) hij hlt)⟩) | (rw [if_neg (by rw [hlt]; decide)]; exact ⟨hG.1, by show p.2.1 ≤ ((p.2.1 + p.2.2) / 2); omega, by show ((p.2.1 + p.2.2) / 2) ≤ b; omega, by show ((p.2.1 + p.2.2) / 2) - p.2.1 ≤ p.1 - 1; omega, hG.2.2.2.2.trans (bsr_dn (by omega) hij hlt)⟩)
   ·first | (rw [if_pos hlt]; show p.1 - 1 < p.1; omega) | (rw [if_neg (by rw [hlt]; decide)]; show p.1 - 1 < p.1; omega)
   ·exact (KC 0 rfl (KC 1 rfl (KC 4 rfl (KE 10 rfl (by first | (rw [if_pos hlt]; done) | (rw [if_neg (by rw [hlt]; decide)]; done)) (KE 11 rfl (by first | (rw [if_pos hlt]; done) | (rw [if_neg (by rw [hlt]; decide)]; done)) (KC 1000801 rfl (KC 1000802 rfl KN)))))))
 ·have hij : ¬ p.2.1 < p.2.2 := by simp at hc33; omega
  have hI : smI W a m b = p.2.1 := by rw [hG.2.2.2.2, bsr_end hij]
  refine A.exit (End.exit_then (End.exit_then (End.exit_here (EN (QS (GV rfl (A.block ?_)))))));refine A.loop (ι := Nat) (fun k => k ≤ p.2.1 - 1 - a) (fun k => [(0, .v (.slice (some ⟨g, 0, none⟩) W.length q)), (10, .v (nI (p.2.1))), (13, .v (nI (a + k))), (1000801, blk g 57 (nodsV (mvU a k W) ++ ys)), (1000802, wroteD 57 g w₁)]) (fun k => p.2.1 - 1 - a - k) 0 ?_ ?_ ?_
  ·exact Nat.zero_le _
  ·exact (KC 0 rfl (KC 10 rfl (KE 13 rfl (by rfl) (KE 1000801 rfl (by rfl) (KC 1000802 rfl KN)))))
  intro k hk'
  refine QS (GT (RV 3 rfl ?_));refine RZ (nI (p.2.1 - 1)) (wrap_eq (by omega) (by omega)) ?_;refine RVN 1 rfl ?_;refine A.cond rfl (fun hc58 => ?_) (fun hc58 => ?_)
  ·have hk : k < p.2.1 - 1 - a := by simp at hc58; omega
   have hfk : FitT (mvU a k W) := mvU_fit hW
   have hl : (mvU a k W).length = W.length := mvU_len a k W
   have h0l : a + k < (mvU a k W).length := by omega
   have h1l : a + k + 1 < (mvU a k W).length := by omega
   refine QK (QSB ?_);refine A.regL0 15 [2, 3, 4] (by kernel_rfl) (by kernel_rfl) (by kernel_rfl) (by kernel_rfl) [(0, .v (.slice (some ⟨g, 0, none⟩) W.length q)), (10, .v (nI (p.2.1))), (13, .v (nI (a + k))), (1000801, blk g 57 (nodsV (swT (mvU a k W) (a + k) (a + k + 1)) ++ ys)), (1000802, wroteD 57 g w₁)] ?_ ?_
   ·refine RV 5 rfl ?_;refine RZ (nI (a + k + 1)) (wrap_eq (by omega) (by omega)) ?_;refine RV 3 rfl ?_;refine RZ (nI (a + k + 1)) (wrap_eq (by omega) (by omega)) ?_;refine RS (ok_indexS ((a + k + 1)) U30 infoN rfl rfl rfl (by omega)) ?_;refine RS (ok_loadP (s := 1000801) (by decide) U57 rfl size57 rfl rfl (nodsY_len hfk ys h1l) (nodsY_at hfk ys h1l)) ?_;refine RV 2 rfl ?_;refine RS (ok_indexS ((a + k)) U30 infoN rfl rfl rfl (by omega)) ?_;refine RS (ok_loadP (s := 1000801) (by decide) U57 rfl size57 rfl rfl (nodsY_len hfk ys h0l) (nodsY_at hfk ys h0l)) ?_;refine RS (ok_indexS ((a + k)) U30 infoN rfl rfl rfl (by omega)) ?_;refine RN ?_
    intro S hS
    simp only [subs, List.map_cons, List.map_nil, List.cons_append, List.nil_append, List.mem_cons, List.not_mem_nil, or_false] at hS
    rcases hS with rfl | rfl | rfl | rfl | rfl | rfl | rfl | rfl
    ·refine ⟨2, Nat.le_of_ble_eq_true (by kernel_rfl), _, (Sv [0, 10, 13, 58, 61, 62, 63, 64, 65, 66, 67, 68, 69, 70, 71, 72, 73, 74, 75, 1000801, 1000802] rfl), by kernel_rfl, _, rfl, _, eff_storeP (n := 220) (s := 1000801) (size57.of ((hfk.at _).len)) rfl rfl (NodT.one _) hBg rfl (by first | exact nf1 hfk (hfk.at _) (by omega) | exact nf2 hfk (hfk.at _) (hfk.at _) (by omega) (by omega)) (LV 0 rfl (LV 10 rfl (LV 13 rfl (LV 58 rfl (LV 61 rfl (LV 62 rfl (LV 63 rfl (LV 64 rfl (LV 65 rfl (LV 66 rfl (LV 67 rfl (LV 68 rfl (LV 69 rfl (LV 70 rfl (LV 71 rfl (LV 72 rfl (LV 73 rfl (LV 74 rfl (LV 75 rfl (LeftS.cons (t := 1000802) rfl (Surv.wrote) LN)))))))))))))))))))), ?_⟩
     refine AnyT.step 16 [] (by kernel_rfl) ?_;refine NextT.pure (by kernel_rfl) rfl rfl rfl (ok_indexS ((a + k + 1)) U30 infoN rfl rfl rfl (by omega)) ?_ ?_
     ·refine AnyT.step 17 [] (by kernel_rfl) ?_;refine NextT.eff rfl (eff_storeP (n := 220) (s := 1000801) (size57.of ((hfk.at _).len)) rfl rfl (NodT.one _) hBg rfl (by first | exact nf1 hfk (hfk.at _) (by omega) | exact nf2 hfk (hfk.at _) (hfk.at _) (by omega) (by omega)) (LV 0 rfl (LV 10 rfl (LV 13 rfl (LV 58 rfl (LV 61 rfl (LV 62 rfl (LV 63 rfl (LV 64 rfl (LV 65 rfl (LV 66 rfl (LV 67 rfl (LV 68 rfl (LV 69 rfl (LV 70 rfl (LV 71 rfl (LV 72 rfl (LV 73 rfl (LV 74 rfl (LV 75 rfl (LV 76 rfl (LeftS.cons (t := 1000802) rfl (Surv.wrote) LN)))))))))))))))))))))) ?_ ?_
      ·refine AnyT.last (by kernel_rfl) ?_;exact (QC 0 rfl (QC 10 rfl (QC 13 rfl (QX 1000801 rfl (Le.eq (congrArg (blk g 57) (nods_sw hfk h0l h1l ys _ rfl))) (QC 1000802 rfl SubL.nil)))))
      exact trivial
     exact trivial
    ·refine ⟨3, Nat.le_of_ble_eq_true (by kernel_rfl), _, (Sv [0, 10, 13, 58, 61, 62, 63, 64, 66, 67, 68, 69, 70, 71, 72, 73, 74, 75, 1000801, 1000802] rfl), by kernel_rfl, _, rfl, _, eff_storeP (n := 220) (s := 1000801) (size57.of ((hfk.at _).len)) rfl rfl (NodT.one _) hBg rfl (by first | exact nf1 hfk (hfk.at _) (by omega) | exact nf2 hfk (hfk.at _) (hfk.at _) (by omega) (by omega)) (LV 0 rfl (LV 10 rfl (LV 13 rfl (LV 58 rfl (LV 61 rfl (LV 62 rfl (LV 63 rfl (LV 64 rfl (LV 66 rfl (LV 67 rfl (LV 68 rfl (LV 69 rfl (LV 70 rfl (LV 71 rfl (LV 72 rfl (LV 73 rfl (LV 74 rfl (LV 75 rfl (LeftS.cons (t := 1000802) rfl (Surv.wrote) LN))))))))))))))))))), ?_⟩
     refine AnyT.step 4 [] (by kernel_rfl) ?_;refine NextT.pure (by kernel_rfl) rfl rfl rfl (OpOk.asV (nI (a + k + 1)) (wrap_eq (by omega) (by omega)) (ok_bin rfl rfl rfl)) ?_ ?_
     ·refine AnyT.step 16 [] (by kernel_rfl) ?_;refine NextT.pure (by kernel_rfl) rfl rfl rfl (ok_indexS ((a + k + 1)) U30 infoN rfl rfl rfl (by omega)) ?_ ?_
      ·refine AnyT.step 17 [] (by kernel_rfl) ?_;refine NextT.eff rfl (eff_storeP (n := 220) (s := 1000801) (size57.of ((hfk.at _).len)) rfl rfl (NodT.one _) hBg rfl (by first | exact nf1 hfk (hfk.at _) (by omega) | exact nf2 hfk (hfk.at _) (hfk.at _) (by omega) (by omega)) (LV 0 rfl (LV 10 rfl (LV 13 rfl (LV 58 rfl (LV 61 rfl (LV 62 rfl (LV 63 rfl (LV 64 rfl (LV 65 rfl (LV 66 rfl (LV 67 rfl (LV 68 rfl (LV 69 rfl (LV 70 rfl (LV 71 rfl (LV 72 rfl (LV 73 rfl (LV 74 rfl (LV 75 rfl (LV 76 rfl (LeftS.cons (t := 1000802) rfl (Surv.wrote) LN)))))))))))))))))))))) ?_ ?_
       ·refine AnyT.last (by kernel_rfl) ?_;exact (QC 0 rfl (QC 10 rfl (QC 13 rfl (QX 1000801 rfl (Le.eq (congrArg (blk g 57) (nods_sw hfk h0l h1l ys _ rfl))) (QC 1000802 rfl SubL.nil)))))
       exact trivial
      exact trivial
     exact trivial
    ·refine ⟨3, Nat.le_of_ble_eq_true (by kernel_rfl), _, (Sv [0, 10, 13, 58, 61, 62, 63, 65, 66, 67, 68, 69, 70, 71, 72, 73, 74, 75, 1000801, 1000802] rfl), by kernel_rfl, _, rfl, _, eff_storeP (n := 220) (s := 1000801) (size57.of ((hfk.at _).len)) rfl rfl (NodT.one _) hBg rfl (by first | exact nf1 hfk (hfk.at _) (by omega) | exact nf2 hfk (hfk.at _) (hfk.at _) (by omega) (by omega)) (LV 0 rfl (LV 10 rfl (LV 13 rfl (LV 58 rfl (LV 61 rfl (LV 62 rfl (LV 63 rfl (LV 65 rfl (LV 66 rfl (LV 67 rfl (LV 68 rfl (LV 69 rfl (LV 70 rfl (LV 71 rfl (LV 72 rfl (LV 73 rfl (LV 74 rfl (LV 75 rfl (LeftS.cons (t := 1000802) rfl (Surv.wrote) LN))))))))))))))))))), ?_⟩
     refine AnyT.step 3 [] (by kernel_rfl) ?_;refine NextT.pure (by kernel_rfl) rfl rfl rfl (ok_move rfl) ?_ ?_
     ·refine AnyT.step 16 [] (by kernel_rfl) ?_;refine NextT.pure (by kernel_rfl) rfl rfl rfl (ok_indexS ((a + k + 1)) U30 infoN rfl rfl rfl (by omega)) ?_ ?_
      ·refine AnyT.step 17 [] (by kernel_rfl) ?_;refine NextT.eff rfl (eff_storeP (n := 220) (s := 1000801) (size57.of ((hfk.at _).len)) rfl rfl (NodT.one _) hBg rfl (by first | exact nf1 hfk (hfk.at _) (by omega) | exact nf2 hfk (hfk.at _) (hfk.at _) (by omega) (by omega)) (LV 0 rfl (LV 10 rfl (LV 13 rfl (LV 58 rfl (LV 61 rfl (LV 62 rfl (LV 63 rfl (LV 64 rfl (LV 65 rfl (LV 66 rfl (LV 67 rfl (LV 68 rfl (LV 69 rfl (LV 70 rfl (LV 71 rfl (LV 72 rfl (LV 73 rfl (LV 74 rfl (LV 75 rfl (LV 76 rfl (LeftS.cons (t := 1000802) rfl (Surv.wrote) LN)))))))))))))))))))))) ?_ ?_
       ·refine AnyT.last (by kernel_rfl) ?_;exact (QC 0 rfl (QC 10 rfl (QC 13 rfl (QX 1000801 rfl (Le.eq (congrArg (blk g 57) (nods_sw hfk h0l h1l ys _ rfl))) (QC 1000802 rfl SubL.nil)))))
       exact trivial
      exact trivial
     exact trivial
    ·refine ⟨4, Nat.le_of_ble_eq_true (by kernel_rfl), _, (Sv [0, 10, 13, 58, 61, 62, 63, 66, 67, 68, 69, 70, 71, 72, 73, 74, 75, 1000801, 1000802] rfl), by kernel_rfl, _, rfl, _, eff_storeP (n := 220) (s := 1000801) (size57.of ((hfk.at _).len)) rfl rfl (NodT.one _) hBg rfl (by first | exact nf1 hfk (hfk.at _) (by omega) | exact nf2 hfk (hfk.at _) (hfk.at _) (by omega) (by omega)) (LV 0 rfl (LV 10 rfl (LV 13 rfl (LV 58 rfl (LV 61 rfl (LV 62 rfl (LV 63 rfl (LV 66 rfl (LV 67 rfl (LV 68 rfl (LV 69 rfl (LV 70 rfl (LV 71 rfl (LV 72 rfl (LV 73 rfl (LV 74 rfl (LV 75 rfl (LeftS.cons (t := 1000802) rfl (Surv.wrote) LN)))))))))))))))))), ?_⟩
     refine AnyT.step 3 [] (by kernel_rfl) ?_;refine NextT.pure (by kernel_rfl) rfl rfl rfl (ok_move rfl) ?_ ?_
     ·refine AnyT.step 4 [] (by kernel_rfl) ?_;refine NextT.pure (by kernel_rfl) rfl rfl rfl (OpOk.asV (nI (a + k + 1)) (wrap_eq (by omega) (by omega)) (ok_bin rfl rfl rfl)) ?_ ?_
      ·refine AnyT.step 16 [] (by kernel_rfl) ?_;refine NextT.pure (by kernel_rfl) rfl rfl rfl (ok_indexS ((a + k + 1)) U30 infoN rfl rfl rfl (by omega)) ?_ ?_
       ·refine AnyT.step 17 [] (by kernel_rfl) ?_;refine NextT.eff rfl (eff_storeP (n := 220) (s := 1000801) (size57.of ((hfk.at _).len)) rfl rfl (NodT.one _) hBg rfl (by first | exact nf1 hfk (hfk.at _) (by omega) | exact nf2 hfk (hfk.at _) (hfk.at _) (by omega) (by omega)) (LV 0 rfl (LV 10 rfl (LV 13 rfl (LV 58 rfl (LV 61 rfl (LV 62 rfl (LV 63 rfl (LV 64 rfl (LV 65 rfl (LV 66 rfl (LV 67 rfl (LV 68 rfl (LV 69 rfl (LV 70 rfl (LV 71 rfl (LV 72 rfl (LV 73 rfl (LV 74 rfl (LV 75 rfl (LV 76 rfl (LeftS.cons (t := 1000802) rfl (Surv.wrote) LN)))))))))))))))))))))) ?_ ?_
        ·refine AnyT.last (by kernel_rfl) ?_;exact (QC 0 rfl (QC 10 rfl (QC 13 rfl (QX 1000801 rfl (Le.eq (congrArg (blk g 57) (nods_sw hfk h0l h1l ys _ rfl))) (QC 1000802 rfl SubL.nil)))))
        exact trivial
       exact trivial
      exact trivial
     exact trivial
    ·refine ⟨3, Nat.le_of_ble_eq_true (by kernel_rfl), _, (Sv [0, 10, 13, 58, 61, 62, 64, 65, 66, 67, 68, 69, 70, 71, 72, 73, 74, 75, 1000801, 1000802] rfl), by kernel_rfl, _, rfl, _, eff_storeP (n := 220) (s := 1000801) (size57.of ((hfk.at _).len)) rfl rfl (NodT.one _) hBg rfl (by first | exact nf1 hfk (hfk.at _) (by omega) | exact nf2 hfk (hfk.at _) (hfk.at _) (by omega) (by omega)) (LV 0 rfl (LV 10 rfl (LV 13 rfl (LV 58 rfl (LV 61 rfl (LV 62 rfl (LV 64 rfl (LV 65 rfl (LV 66 rfl (LV 67 rfl (LV 68 rfl (LV 69 rfl (LV 70 rfl (LV 71 rfl (LV 72 rfl (LV 73 rfl (LV 74 rfl (LV 75 rfl (LeftS.cons (t := 1000802) rfl (Surv.wrote) LN))))))))))))))))))), ?_⟩
     refine AnyT.step 2 [] (by kernel_rfl) ?_;refine NextT.pure (by kernel_rfl) rfl rfl rfl (ok_move rfl) ?_ ?_
     ·refine AnyT.step 16 [] (by kernel_rfl) ?_;refine NextT.pure (by kernel_rfl) rfl rfl rfl (ok_indexS ((a + k + 1)) U30 infoN rfl rfl rfl (by omega)) ?_ ?_
      ·refine AnyT.step 17 [] (by kernel_rfl) ?_;refine NextT.eff rfl (eff_storeP (n := 220) (s := 1000801) (size57.of ((hfk.at _).len)) rfl rfl (NodT.one _) hBg rfl (by first | exact nf1 hfk (hfk.at _) (by omega) | exact nf2 hfk (hfk.at _) (hfk.at _) (by omega) (by omega)) (LV 0 rfl (LV 10 rfl (LV 13 rfl (LV 58 rfl (LV 61 rfl (LV 62 rfl (LV 63 rfl (LV 64 rfl (LV 65 rfl (LV 66 rfl (LV 67 rfl (LV 68 rfl (LV 69 rfl (LV 70 rfl (LV 71 rfl (LV 72 rfl (LV 73 rfl (LV 74 rfl (LV 75 rfl (LV 76 rfl (LeftS.cons (t := 1000802) rfl (Surv.wrote) LN)))))))))))))))))))))) ?_ ?_
       ·refine AnyT.last (by kernel_rfl) ?_;exact (QC 0 rfl (QC 10 rfl (QC 13 rfl (QX 1000801 rfl (Le.eq (congrArg (blk g 57) (nods_sw hfk h0l h1l ys _ rfl))) (QC 1000802 rfl SubL.nil)))))
       exact trivial
      exact trivial
     exact trivial
    ·refine ⟨4, Nat.le_of_ble_eq_true (by kernel_rfl), _, (Sv [0, 10, 13, 58, 61, 62, 64, 66, 67, 68, 69, 70, 71, 72, 73, 74, 75, 1000801, 1000802] rfl), by kernel_rfl, _, rfl, _, eff_storeP (n := 220) (s := 1000801) (size57.of ((hfk.at _).len)) rfl rfl (NodT.one _) hBg rfl (by first | exact nf1 hfk (hfk.at _) (by omega) | exact nf2 hfk (hfk.at _) (hfk.at _) (by omega) (by omega)) (LV 0 rfl (LV 10 rfl (LV 13 rfl (LV 58 rfl (LV 61 rfl (LV 62 rfl (LV 64 rfl (LV 66 rfl (LV 67 rfl (LV 68 rfl (LV 69 rfl (LV 70 rfl (LV 71 rfl (LV 72 rfl (LV 73 rfl (LV 74 rfl (LV 75 rfl (LeftS.cons (t := 1000802) rfl (Surv.wrote) LN)))))))))))))))))), ?_⟩
     refine AnyT.step 2 [4] (by kernel_rfl) ?_;refine NextT.pure (by kernel_rfl) rfl rfl rfl (ok_move rfl) ?_ ?_
     ·refine AnyT.step 4 [] (by kernel_rfl) ?_;refine NextT.pure (by kernel_rfl) rfl rfl rfl (OpOk.asV (nI (a + k + 1)) (wrap_eq (by omega) (by omega)) (ok_bin rfl rfl rfl)) ?_ ?_
      ·refine AnyT.step 16 [] (by kernel_rfl) ?_;refine NextT.pure (by kernel_rfl) rfl rfl rfl (ok_indexS ((a + k + 1)) U30 infoN rfl rfl rfl (by omega)) ?_ ?_
       ·refine AnyT.step 17 [] (by kernel_rfl) ?_;refine NextT.eff rfl (eff_storeP (n := 220) (s := 1000801) (size57.of ((hfk.at _).len)) rfl rfl (NodT.one _) hBg rfl (by first | exact nf1 hfk (hfk.at _) (by omega) | exact nf2 hfk (hfk.at _) (hfk.at _) (by omega) (by omega)) (LV 0 rfl (LV 10 rfl (LV 13 rfl (LV 58 rfl (LV 61 rfl (LV 62 rfl (LV 63 rfl (LV 64 rfl (LV 65 rfl (LV 66 rfl (LV 67 rfl (LV 68 rfl (LV 69 rfl (LV 70 rfl (LV 71 rfl (LV 72 rfl (LV 73 rfl (LV 74 rfl (LV 75 rfl (LV 76 rfl (LeftS.cons (t := 1000802) rfl (Surv.wrote) LN)))))))))))))))))))))) ?_ ?_
        ·refine AnyT.last (by kernel_rfl) ?_;exact (QC 0 rfl (QC 10 rfl (QC 13 rfl (QX 1000801 rfl (Le.eq (congrArg (blk g 57) (nods_sw hfk h0l h1l ys _ rfl))) (QC 1000802 rfl SubL.nil)))))
        exact trivial
       exact trivial
      exact trivial
     refine NextT.pure (by kernel_rfl) rfl rfl rfl (OpOk.asV (nI (a + k + 1)) (wrap_eq (by omega) (by omega)) (ok_bin rfl rfl rfl)) ?_ ?_
     ·refine AnyT.step 2 [] (by kernel_rfl) ?_;refine NextT.pure (by kernel_rfl) rfl rfl rfl (ok_move rfl) ?_ ?_
      ·refine AnyT.step 16 [] (by kernel_rfl) ?_;refine NextT.pure (by kernel_rfl) rfl rfl rfl (ok_indexS ((a + k + 1)) U30 infoN rfl rfl rfl (by omega)) ?_ ?_
       ·refine AnyT.step 17 [] (by kernel_rfl) ?_;refine NextT.eff rfl (eff_storeP (n := 220) (s := 1000801) (size57.of ((hfk.at _).len)) rfl rfl (NodT.one _) hBg rfl (by first | exact nf1 hfk (hfk.at _) (by omega) | exact nf2 hfk (hfk.at _) (hfk.at _) (by omega) (by omega)) (LV 0 rfl (LV 10 rfl (LV 13 rfl (LV 58 rfl (LV 61 rfl (LV 62 rfl (LV 63 rfl (LV 64 rfl (LV 65 rfl (LV 66 rfl (LV 67 rfl (LV 68 rfl (LV 69 rfl (LV 70 rfl (LV 71 rfl (LV 72 rfl (LV 73 rfl (LV 74 rfl (LV 75 rfl (LV 76 rfl (LeftS.cons (t := 1000802) rfl (Surv.wrote) LN)))))))))))))))))))))) ?_ ?_
        ·refine AnyT.last (by kernel_rfl) ?_;exact (QC 0 rfl (QC 10 rfl (QC 13 rfl (QX 1000801 rfl (Le.eq (congrArg (blk g 57) (nods_sw hfk h0l h1l ys _ rfl))) (QC 1000802 rfl SubL.nil)))))
        exact trivial
       exact trivial
      exact trivial
     exact trivial
    ·refine ⟨4, Nat.le_of_ble_eq_true (by kernel_rfl), _, (Sv [0, 10, 13, 58, 61, 62, 65, 66, 67, 68, 69, 70, 71, 72, 73, 74, 75, 1000801, 1000802] rfl), by kernel_rfl, _, rfl, _, eff_storeP (n := 220) (s := 1000801) (size57.of ((hfk.at _).len)) rfl rfl (NodT.one _) hBg rfl (by first | exact nf1 hfk (hfk.at _) (by omega) | exact nf2 hfk (hfk.at _) (hfk.at _) (by omega) (by omega)) (LV 0 rfl (LV 10 rfl (LV 13 rfl (LV 58 rfl (LV 61 rfl (LV 62 rfl (LV 65 rfl (LV 66 rfl (LV 67 rfl (LV 68 rfl (LV 69 rfl (LV 70 rfl (LV 71 rfl (LV 72 rfl (LV 73 rfl (LV 74 rfl (LV 75 rfl (LeftS.cons (t := 1000802) rfl (Surv.wrote) LN)))))))))))))))))), ?_⟩
     refine AnyT.step 2 [3] (by kernel_rfl) ?_;refine NextT.pure (by kernel_rfl) rfl rfl rfl (ok_move rfl) ?_ ?_
     ·refine AnyT.step 3 [] (by kernel_rfl) ?_;refine NextT.pure (by kernel_rfl) rfl rfl rfl (ok_move rfl) ?_ ?_
      ·refine AnyT.step 16 [] (by kernel_rfl) ?_;refine NextT.pure (by kernel_rfl) rfl rfl rfl (ok_indexS ((a + k + 1)) U30 infoN rfl rfl rfl (by omega)) ?_ ?_
       ·refine AnyT.step 17 [] (by kernel_rfl) ?_;refine NextT.eff rfl (eff_storeP (n := 220) (s := 1000801) (size57.of ((hfk.at _).len)) rfl rfl (NodT.one _) hBg rfl (by first | exact nf1 hfk (hfk.at _) (by omega) | exact nf2 hfk (hfk.at _) (hfk.at _) (by omega) (by omega)) (LV 0 rfl (LV 10 rfl (LV 13 rfl (LV 58 rfl (LV 61 rfl (LV 62 rfl (LV 63 rfl (LV 64 rfl (LV 65 rfl (LV 66 rfl (LV 67 rfl (LV 68 rfl (LV 69 rfl (LV 70 rfl (LV 71 rfl (LV 72 rfl (LV 73 rfl (LV 74 rfl (LV 75 rfl (LV 76 rfl (LeftS.cons (t := 1000802) rfl (Surv.wrote) LN)))))))))))))))))))))) ?_ ?_
        ·refine AnyT.last (by kernel_rfl) ?_;exact (QC 0 rfl (QC 10 rfl (QC 13 rfl (QX 1000801 rfl (Le.eq (congrArg (blk g 57) (nods_sw hfk h0l h1l ys _ rfl))) (QC 1000802 rfl SubL.nil)))))
        exact trivial
       exact trivial
      exact trivial
     refine NextT.pure (by kernel_rfl) rfl rfl rfl (ok_move rfl) ?_ ?_
     ·refine AnyT.step 2 [] (by kernel_rfl) ?_;refine NextT.pure (by kernel_rfl) rfl rfl rfl (ok_move rfl) ?_ ?_
      ·refine AnyT.step 16 [] (by kernel_rfl) ?_;refine NextT.pure (by kernel_rfl) rfl rfl rfl (ok_indexS ((a + k + 1)) U30 infoN rfl rfl rfl (by omega)) ?_ ?_
       ·refine AnyT.step 17 [] (by kernel_rfl) ?_;refine NextT.eff rfl (eff_storeP (n := 220) (s := 1000801) (size57.of ((hfk.at _).len)) rfl rfl (NodT.one _) hBg rfl (by first | exact nf1 hfk (hfk.at _) (by omega) | exact nf2 hfk (hfk.at _) (hfk.at _) (by omega) (by omega)) (LV 0 rfl (LV 10 rfl (LV 13 rfl (LV 58 rfl (LV 61 rfl (LV 62 rfl (LV 63 rfl (LV 64 rfl (LV 65 rfl (LV 66 rfl (LV 67 rfl (LV 68 rfl (LV 69 rfl (LV 70 rfl (LV 71 rfl (LV 72 rfl (LV 73 rfl (LV 74 rfl (LV 75 rfl (LV 76 rfl (LeftS.cons (t := 1000802) rfl (Surv.wrote) LN)))))))))))))))))))))) ?_ ?_
        ·refine AnyT.last (by kernel_rfl) ?_;exact (QC 0 rfl (QC 10 rfl (QC 13 rfl (QX 1000801 rfl (Le.eq (congrArg (blk g 57) (nods_sw hfk h0l h1l ys _ rfl))) (QC 1000802 rfl SubL.nil)))))
        exact trivial
       exact trivial
      exact trivial
     exact trivial
    ·refine ⟨5, Nat.le_of_ble_eq_true (by kernel_rfl), _, (Sv [0, 10, 13, 58, 61, 62, 66, 67, 68, 69, 70, 71, 72, 73, 74, 75, 1000801, 1000802] rfl), by kernel_rfl, _, rfl, _, eff_storeP (n := 220) (s := 1000801) (size57.of ((hfk.at _).len)) rfl rfl (NodT.one _) hBg rfl (by first | exact nf1 hfk (hfk.at _) (by omega) | exact nf2 hfk (hfk.at _) (hfk.at _) (by omega) (by omega)) (LV 0 rfl (LV 10 rfl (LV 13 rfl (LV 58 rfl (LV 61 rfl (LV 62 rfl (LV 66 rfl (LV 67 rfl (LV 68 rfl (LV 69 rfl (LV 70 rfl (LV 71 rfl (LV 72 rfl (LV 73 rfl (LV 74 rfl (LV 75 rfl (LeftS.cons (t := 1000802) rfl (Surv.wrote) LN))))))))))))))))), ?_⟩
     refine AnyT.step 2 [3] (by kernel_rfl) ?_;refine NextT.pure (by kernel_rfl) rfl rfl rfl (ok_move rfl) ?_ ?_
     ·refine AnyT.step 3 [] (by kernel_rfl) ?_;refine NextT.pure (by kernel_rfl) rfl rfl rfl (ok_move rfl) ?_ ?_
      ·refine AnyT.step 4 [] (by kernel_rfl) ?_;refine NextT.pure (by kernel_rfl) rfl rfl rfl (OpOk.asV (nI (a + k + 1)) (wrap_eq (by omega) (by omega)) (ok_bin rfl rfl rfl)) ?_ ?_
       ·refine AnyT.step 16 [] (by kernel_rfl) ?_;refine NextT.pure (by kernel_rfl) rfl rfl rfl (ok_indexS ((a + k + 1)) U30 infoN rfl rfl rfl (by omega)) ?_ ?_
        ·refine AnyT.step 17 [] (by kernel_rfl) ?_;refine NextT.eff rfl (eff_storeP (n := 220) (s := 1000801) (size57.of ((hfk.at _).len)) rfl rfl (NodT.one _) hBg rfl (by first | exact nf1 hfk (hfk.at _) (by omega) | exact nf2 hfk (hfk.at _) (hfk.at _) (by omega) (by omega)) (LV 0 rfl (LV 10 rfl (LV 13 rfl (LV 58 rfl (LV 61 rfl (LV 62 rfl (LV 63 rfl (LV 64 rfl (LV 65 rfl (LV 66 rfl (LV 67 rfl (LV 68 rfl (LV 69 rfl (LV 70 rfl (LV 71 rfl (LV 72 rfl (LV 73 rfl (LV 74 rfl (LV 75 rfl (LV 76 rfl (LeftS.cons (t := 1000802) rfl (Surv.wrote) LN)))))))))))))))))))))) ?_ ?_
         ·refine AnyT.last (by kernel_rfl) ?_;exact (QC 0 rfl (QC 10 rfl (QC 13 rfl (QX 1000801 rfl (Le.eq (congrArg (blk g 57) (nods_sw hfk h0l h1l ys _ rfl))) (QC 1000802 rfl SubL.nil)))))
         exact trivial
        exact trivial
       exact trivial
      exact trivial
     refine NextT.pure (by kernel_rfl) rfl rfl rfl (ok_move rfl) ?_ ?_
     ·refine AnyT.step 2 [4] (by kernel_rfl) ?_;refine NextT.pure (by kernel_rfl) rfl rfl rfl (ok_move rfl) ?_ ?_
      ·refine AnyT.step 4 [] (by kernel_rfl) ?_;refine NextT.pure (by kernel_rfl) rfl rfl rfl (OpOk.asV (nI (a + k + 1)) (wrap_eq (by omega) (by omega)) (ok_bin rfl rfl rfl)) ?_ ?_
       ·refine AnyT.step 16 [] (by kernel_rfl) ?_;refine NextT.pure (by kernel_rfl) rfl rfl rfl (ok_indexS ((a + k + 1)) U30 infoN rfl rfl rfl (by omega)) ?_ ?_
        ·refine AnyT.step 17 [] (by kernel_rfl) ?_;refine NextT.eff rfl (eff_storeP (n := 220) (s := 1000801) (size57.of ((hfk.at _).len)) rfl rfl (NodT.one _) hBg rfl (by first | exact nf1 hfk (hfk.at _) (by omega) | exact nf2 hfk (hfk.at _) (hfk.at _) (by omega) (by omega)) (LV 0 rfl (LV 10 rfl (LV 13 rfl (LV 58 rfl (LV 61 rfl (LV 62 rfl (LV 63 rfl (LV 64 rfl (LV 65 rfl (LV 66 rfl (LV 67 rfl (LV 68 rfl (LV 69 rfl (LV 70 rfl (LV 71 rfl (LV 72 rfl (LV 73 rfl (LV 74 rfl (LV 75 rfl (LV 76 rfl (LeftS.cons (t := 1000802) rfl (Surv.wrote) LN)))))))))))))))))))))) ?_ ?_
         ·refine AnyT.last (by kernel_rfl) ?_;exact (QC 0 rfl (QC 10 rfl (QC 13 rfl (QX 1000801 rfl (Le.eq (congrArg (blk g 57) (nods_sw hfk h0l h1l ys _ rfl))) (QC 1000802 rfl SubL.nil)))))
         exact trivial
        exact trivial
       exact trivial
      refine NextT.pure (by kernel_rfl) rfl rfl rfl (OpOk.asV (nI (a + k + 1)) (wrap_eq (by omega) (by omega)) (ok_bin rfl rfl rfl)) ?_ ?_
      ·refine AnyT.step 2 [] (by kernel_rfl) ?_;refine NextT.pure (by kernel_rfl) rfl rfl rfl (ok_move rfl) ?_ ?_
       ·refine AnyT.step 16 [] (by kernel_rfl) ?_;refine NextT.pure (by kernel_rfl) rfl rfl rfl (ok_indexS ((a + k + 1)) U30 infoN rfl rfl rfl (by omega)) ?_ ?_
        ·refine AnyT.step 17 [] (by kernel_rfl) ?_;refine NextT.eff rfl (eff_storeP (n := 220) (s := 1000801) (size57.of ((hfk.at _).len)) rfl rfl (NodT.one _) hBg rfl (by first | exact nf1 hfk (hfk.at _) (by omega) | exact nf2 hfk (hfk.at _) (hfk.at _) (by omega) (by omega)) (LV 0 rfl (LV 10 rfl (LV 13 rfl (LV 58 rfl (LV 61 rfl (LV 62 rfl (LV 63 rfl (LV 64 rfl (LV 65 rfl (LV 66 rfl (LV 67 rfl (LV 68 rfl (LV 69 rfl (LV 70 rfl (LV 71 rfl (LV 72 rfl (LV 73 rfl (LV 74 rfl (LV 75 rfl (LV 76 rfl (LeftS.cons (t := 1000802) rfl (Surv.wrote) LN)))))))))))))))))))))) ?_ ?_
         ·refine AnyT.last (by kernel_rfl) ?_;exact (QC 0 rfl (QC 10 rfl (QC 13 rfl (QX 1000801 rfl (Le.eq (congrArg (blk g 57) (nods_sw hfk h0l h1l ys _ rfl))) (QC 1000802 rfl SubL.nil)))))
         exact trivial
        exact trivial
       exact trivial
      exact trivial
     exact trivial
   ·refine End.normal_block (EN (GTE (RV 2 rfl ?_)));refine RZ (nI (a + (k + 1))) (wrap_eq (by omega) (by omega)) ?_;refine RVN 1 rfl ?_;refine End.normal_then ?_;refine End.again (k + 1) ?_ ?_ ?_
    ·show _ ≤ _; omega
    ·show _ - _ < _ - _; omega
    ·exact (Sv [0, 10, 13, 1000801, 1000802] rfl)
  ·have hk2 : k = p.2.1 - 1 - a := by simp at hc58; omega
   refine A.exit (End.exit_then (End.exit_then (End.exit_here (EN (A.ret (End.ret_then ?_))))));exact End.wroteRet (kb := 1000801) (kw := 1000802) rfl rfl (by rw [smF_1 h1, hI, hk2]) rfl
set_option maxHeartbeats 8000000 in
theorem SM_2 (g q : Nat) (ys : List Value) (f a m b : Nat) (W : List NodT) (hW : FitT W) (hsm : W.length ≤ 1000000) (ham : a < m) (hmb : m < b) (hb : b ≤ W.length) (h1 : ¬ m - a = 1) (h2 : b - m = 1)  : FnW Tryz.prog 153 [] 57 g (nodsV W ++ ys) (nodsV (smF (f + 1) a m b W) ++ ys) ([.slice (some ⟨g, 0, none⟩) W.length q, nI a, nI m, nI b, .func (.func 122) #[] #[]].map D.v) := by
 refine FnW.of (n := 220) (kb := 1000801) (kw := 1000802) Tryz.func153 rfl (by kernel_rfl) Tryz.ntmps153 (by simp) (by decide) (fun p hp => by cases hp) (by decide) (by decide) [(0, .v (.slice (some ⟨g, 0, none⟩) W.length q)), (1, .v (nI a)), (2, .v (nI m)), (3, .v (nI b)), (4, .v (.func (.func 122) #[] #[]))]
  (fun p hp => by simp only [List.mem_cons, List.not_mem_nil, or_false] at hp; rcases hp with rfl | rfl | rfl | rfl | rfl <;> exact ⟨_, rfl, rfl⟩) fun w₀ w₁ hw hM => ?_
 have hBg : w₀.heap.size ≤ g := Nat.le_of_eq hw
 refine QS (GT (RV 3 rfl ?_));refine RZ (nI (m - a)) (wrap_eq (by omega) (by omega)) ?_;refine RB rfl rfl rfl ?_;refine RZ (.bool false) (congrArg Value.bool (by simp; omega)) ?_;refine RN (A.no rfl ?_);refine QK (QS (GT (RV 3 rfl ?_)));refine RZ (nI (b - m)) (wrap_eq (by omega) (by omega)) ?_;refine RB rfl rfl rfl ?_;refine RZ (.bool true) (congrArg Value.bool (by simp; omega)) ?_;refine RN (A.yes rfl ?_);refine GV rfl (GV rfl (QSB ?_));refine A.loop (ι := Nat × Nat × Nat) (fun p => a ≤ p.2.1 ∧ p.2.1 ≤ p.2.2 ∧ p.2.2 ≤ m ∧ p.2.2 - p.2.1 ≤ p.1 ∧ smJ W a m = bsr (pDn W m) p.1 p.2.1 p.2.2) (fun p => [(0, .v (.slice (some ⟨g, 0, none⟩) W.length q)), (2, .v (nI (m))), (4, .v (.func (.func 122) #[] #[])), (14, .v (nI (p.2.1))), (15, .v (nI (p.2.2))), (1000801, blk g 57 (nodsV W ++ ys)), (1000802, wroteD 57 g w₁)]) (fun p => p.1) (m - a, a, m) ?_ ?_ ?_
 ·exact ⟨Nat.le_refl _, by show a ≤ m; omega, Nat.le_refl _, Nat.le_refl _, rfl⟩
 ·exact (KC 0 rfl (KC 2 rfl (KC 4 rfl (KE 14 rfl (by rfl) (KE 15 rfl (by rfl) (KC 1000801 rfl (KC 1000802 rfl KN)))))))
 intro p hG
 refine QS (GV rfl ?_);refine A.cond rfl (fun hc85 => ?_) (fun hc85 => ?_)
 ·have hij : p.2.1 < p.2.2 := by simp at hc85; omega
  refine QK (A.block (GT (RV 3 rfl ?_)));refine RZ (nI (p.2.1 + p.2.2)) (wrap_eq (by omega) (by omega)) ?_;refine RS (ok_conv U3 U161 rfl) ?_; refine RZ (nQ (p.2.1 + p.2.2)) (congrArg (Value.int .u64) (wrap_u64 (by omega) (by omega))) ?_;refine RS (ok_shr rfl rfl (by decide)) ?_; refine RZ (nQ (((p.2.1 + p.2.2) / 2))) (congrArg (Value.int .u64) (half_fdiv _)) ?_;refine RS (ok_conv U161 U3 rfl) ?_; refine RZ (nI (((p.2.1 + p.2.2) / 2))) (congrArg (Value.int .i64) (wrap_i64 (by omega) (by omega))) ?_;refine RVN 1 rfl ?_;refine GTD (RV 3 rfl ?_);refine RS (ok_indexS (m) U30 infoN rfl rfl rfl (by omega)) ?_;refine RS (ok_loadP (s := 1000801) (by decide) U57 rfl size57 rfl rfl (nodsY_len hW ys (by omega)) (nodsY_at hW ys (by omega))) ?_;refine RV 2 rfl ?_;refine RS (ok_indexS (((p.2.1 + p.2.2) / 2)) U30 infoN rfl rfl rfl (by omega)) ?_;refine RS (ok_loadP (s := 1000801) (by decide) U57 rfl size57 rfl rfl (nodsY_len hW ys (by omega)) (nodsY_at hW ys (by omega))) ?_;refine RS (ok_callV0 (dcmp_fn (ndAt W m) (ndAt W ((p.2.1 + p.2.2) / 2)) (hW.at _) (hW.at _)) rfl (A2 rfl rfl)) ?_;refine RB rfl rfl rfl ?_;refine RZ (.bool (ltN (ndAt W m) (ndAt W ((p.2.1 + p.2.2) / 2)))) (congrArg Value.bool cp8_neg) ?_;refine RS (ok_not rfl) ?_; refine RZ (.bool (pDn W m ((p.2.1 + p.2.2) / 2))) (by rfl) ?_;refine RN ?_;refine A.cond rfl (fun hc103 => ?_) (fun hc103 => ?_)
  ·have hlt : pDn W m ((p.2.1 + p.2.2) / 2) = true := by simpa using hc103
   refine GTE (RV 2 rfl ?_);refine RZ (nI (((p.2.1 + p.2.2) / 2) + 1)) (wrap_eq (by omega) (by omega)) ?_;refine RVN 1 rfl ?_;refine End.sub (Sv [0, 2, 4, 14, 15, 1000801, 1000802] rfl) ?_;refine End.normal_block (End.normal_then ?_);refine End.again (if pDn W m ((p.2.1 + p.2.2) / 2) = true then ((p.1 - 1, ((p.2.1 + p.2.2) / 2) + 1, p.2.2) : Nat × Nat × Nat) else (p.1 - 1, p.2.1, ((p.2.1 + p.2.2) / 2))) ?_ ?_ ?_
   ·first | (rw [if_pos hlt]; exact ⟨by show a ≤ ((p.2.1 + p.2.2) / 2) + 1; omega, by show ((p.2.1 + p.2.2) / 2) + 1 ≤ p.2.2; omega, hG.2.2.1, by show p.2.2 - (((p.2.1 + p.2.2) / 2) + 1) ≤ p.1 - 1; omega, hG.2.2.2.2.trans (bsr_up (by omega) hij hlt)⟩) | (rw [if_neg (by rw [hlt]; decide)]; exact ⟨hG.1, by show p.2.1 ≤ ((p.2.1 + p.2.2) / 2); omega, by show ((p.2.1 + p.2.2) / 2) ≤ m; omega, by show ((p.2.1 + p.2.2) / 2) - p.2.1 ≤ p.1 - 1; omega, hG.2.2.2.2.trans (bsr_dn (by omega) hij hlt)⟩)
   ·first | (rw [if_pos hlt]; show p.1 - 1 < p.1; omega) | (rw [if_neg (by rw [hlt]; decide)]; show p.1 - 1 < p.1; omega)
   ·exact (KC 0 rfl (KC 2 rfl (KC 4 rfl (KE 14 rfl (by first | (rw [if_pos hlt]; done) | (rw [if_neg (by rw [hlt]; decide)]; done)) (KE 15 rfl (by first | (rw [if_pos hlt]; done) | (rw [if_neg (by rw [hlt]; decide)]; done)) (KC 1000801 rfl (KC 1000802 rfl KN)))))))
  ·have hlt : pDn W m ((p.2.1 + p.2.2) / 2) = false := by simpa using hc103
   refine GVE rfl (End.normal_block (End.normal_then ?_));refine End.again (if pDn W m ((p.2.1 + p.2.2) / 2) = true then ((p.1 - 1, ((p.2.1 + p.2.2) / 2) + 1, p.2.2) : Nat × Nat × Nat) else (p.1 - 1, p.2.1, ((p.2.1 + p.2.2) / 2))) ?_ ?_ ?_
   ·first | (rw [if_pos hlt]; exact ⟨by show a ≤ ((p.2.1 + p.2.2) / 2) + 1; omega, by show ((p.2.1 + p.2.2) / 2) + 1 ≤ p.2.2; omega, hG.2.2.1, by show p.2.2 - (((p.2.1 + p.2.2) / 2) + 1) ≤ p.1 - 1; omega, hG.2.2.2.2.trans (bsr_up (by omega) hij hlt)⟩) | (rw [if_neg (by rw [hlt]; decide)]; exact ⟨hG.1, by show p.2.1 ≤ ((p.2.1 + p.2.2) / 2); omega, by show ((p.2.1 + p.2.2) / 2) ≤ m; omega, by show ((p.2.1 + p.2.2) / 2) - p.2.1 ≤ p.1 - 1; omega, hG.2.2.2.2.trans (bsr_dn (by omega) hij hlt)⟩)
   ·first | (rw [if_pos hlt]; show p.1 - 1 < p.1; omega) | (rw [if_neg (by rw [hlt]; decide)]; show p.1 - 1 < p.1; omega)
   ·exact (KC 0 rfl (KC 2 rfl (KC 4 rfl (KE 14 rfl (by first | (rw [if_pos hlt]; done) | (rw [if_neg (by rw [hlt]; decide)]; done)) (KE 15 rfl (by first | (rw [if_pos hlt]; done) | (rw [if_neg (by rw [hlt]; decide)]; done)) (KC 1000801 rfl (KC 1000802 rfl KN)))))))
 ·have hij : ¬ p.2.1 < p.2.2 := by simp at hc85; omega
  have hI : smJ W a m = p.2.1 := by rw [hG.2.2.2.2, bsr_end hij]
  refine A.exit (End.exit_then (End.exit_then (End.exit_here (EN (QS (GV rfl (A.block ?_)))))));refine A.loop (ι := Nat) (fun k => k ≤ m - p.2.1) (fun k => [(0, .v (.slice (some ⟨g, 0, none⟩) W.length q)), (14, .v (nI (p.2.1))), (17, .v (nI (m - k))), (1000801, blk g 57 (nodsV (mvD m k W) ++ ys)), (1000802, wroteD 57 g w₁)]) (fun k => m - p.2.1 - k) 0 ?_ ?_ ?_
  ·exact Nat.zero_le _
  ·exact (KC 0 rfl (KC 14 rfl (KE 17 rfl (by rfl) (KE 1000801 rfl (by rfl) (KC 1000802 rfl KN)))))
  intro k hk'
  refine QS (GV rfl ?_);refine A.cond rfl (fun hc110 => ?_) (fun hc110 => ?_)
  ·have hk : k < m - p.2.1 := by simp at hc110; omega
   have hfk : FitT (mvD m k W) := mvD_fit hW
   have hl : (mvD m k W).length = W.length := mvD_len m k W
   have h0l : m - k < (mvD m k W).length := by omega
   have h1l : m - k - 1 < (mvD m k W).length := by omega
   refine QK (QSB ?_);refine A.regL0 15 [2, 3, 4] (by kernel_rfl) (by kernel_rfl) (by kernel_rfl) (by kernel_rfl) [(0, .v (.slice (some ⟨g, 0, none⟩) W.length q)), (14, .v (nI (p.2.1))), (17, .v (nI (m - k))), (1000801, blk g 57 (nodsV (swT (mvD m k W) (m - k) (m - k - 1)) ++ ys)), (1000802, wroteD 57 g w₁)] ?_ ?_
   ·refine RV 5 rfl ?_;refine RZ (nI (m - k - 1)) (wrap_eq (by omega) (by omega)) ?_;refine RV 3 rfl ?_;refine RZ (nI (m - k - 1)) (wrap_eq (by omega) (by omega)) ?_;refine RS (ok_indexS ((m - k - 1)) U30 infoN rfl rfl rfl (by omega)) ?_;refine RS (ok_loadP (s := 1000801) (by decide) U57 rfl size57 rfl rfl (nodsY_len hfk ys h1l) (nodsY_at hfk ys h1l)) ?_;refine RV 2 rfl ?_;refine RS (ok_indexS ((m - k)) U30 infoN rfl rfl rfl (by omega)) ?_;refine RS (ok_loadP (s := 1000801) (by decide) U57 rfl size57 rfl rfl (nodsY_len hfk ys h0l) (nodsY_at hfk ys h0l)) ?_;refine RS (ok_indexS ((m - k)) U30 infoN rfl rfl rfl (by omega)) ?_;refine RN ?_
    intro S hS
    simp only [subs, List.map_cons, List.map_nil, List.cons_append, List.nil_append, List.mem_cons, List.not_mem_nil, or_false] at hS
    rcases hS with rfl | rfl | rfl | rfl | rfl | rfl | rfl | rfl
    ·refine ⟨2, Nat.le_of_ble_eq_true (by kernel_rfl), _, (Sv [0, 14, 17, 110, 113, 114, 115, 116, 117, 118, 119, 120, 121, 122, 123, 124, 125, 126, 127, 1000801, 1000802] rfl), by kernel_rfl, _, rfl, _, eff_storeP (n := 220) (s := 1000801) (size57.of ((hfk.at _).len)) rfl rfl (NodT.one _) hBg rfl (by first | exact nf1 hfk (hfk.at _) (by omega) | exact nf2 hfk (hfk.at _) (hfk.at _) (by omega) (by omega)) (LV 0 rfl (LV 14 rfl (LV 17 rfl (LV 110 rfl (LV 113 rfl (LV 114 rfl (LV 115 rfl (LV 116 rfl (LV 117 rfl (LV 118 rfl (LV 119 rfl (LV 120 rfl (LV 121 rfl (LV 122 rfl (LV 123 rfl (LV 124 rfl (LV 125 rfl (LV 126 rfl (LV 127 rfl (LeftS.cons (t := 1000802) rfl (Surv.wrote) LN)))))))))))))))))))), ?_⟩
     refine AnyT.step 16 [] (by kernel_rfl) ?_;refine NextT.pure (by kernel_rfl) rfl rfl rfl (ok_indexS ((m - k - 1)) U30 infoN rfl rfl rfl (by omega)) ?_ ?_
     ·refine AnyT.step 17 [] (by kernel_rfl) ?_;refine NextT.eff rfl (eff_storeP (n := 220) (s := 1000801) (size57.of ((hfk.at _).len)) rfl rfl (NodT.one _) hBg rfl (by first | exact nf1 hfk (hfk.at _) (by omega) | exact nf2 hfk (hfk.at _) (hfk.at _) (by omega) (by omega)) (LV 0 rfl (LV 14 rfl (LV 17 rfl (LV 110 rfl (LV 113 rfl (LV 114 rfl (LV 115 rfl (LV 116 rfl (LV 117 rfl (LV 118 rfl (LV 119 rfl (LV 120 rfl (LV 121 rfl (LV 122 rfl (LV 123 rfl (LV 124 rfl (LV 125 rfl (LV 126 rfl (LV 127 rfl (LV 128 rfl (LeftS.cons (t := 1000802) rfl (Surv.wrote) LN)))))))))))))))))))))) ?_ ?_
      ·refine AnyT.last (by kernel_rfl) ?_;exact (QC 0 rfl (QC 14 rfl (QC 17 rfl (QX 1000801 rfl (Le.eq (congrArg (blk g 57) (nods_sw hfk h0l h1l ys _ rfl))) (QC 1000802 rfl SubL.nil)))))
      exact trivial
     exact trivial
    ·refine ⟨3, Nat.le_of_ble_eq_true (by kernel_rfl), _, (Sv [0, 14, 17, 110, 113, 114, 115, 116, 118, 119, 120, 121, 122, 123, 124, 125, 126, 127, 1000801, 1000802] rfl), by kernel_rfl, _, rfl, _, eff_storeP (n := 220) (s := 1000801) (size57.of ((hfk.at _).len)) rfl rfl (NodT.one _) hBg rfl (by first | exact nf1 hfk (hfk.at _) (by omega) | exact nf2 hfk (hfk.at _) (hfk.at _) (by omega) (by omega)) (LV 0 rfl (LV 14 rfl (LV 17 rfl (LV 110 rfl (LV 113 rfl (LV 114 rfl (LV 115 rfl (LV 116 rfl (LV 118 rfl (LV 119 rfl (LV 120 rfl (LV 121 rfl (LV 122 rfl (LV 123 rfl (LV 124 rfl (LV 125 rfl (LV 126 rfl (LV 127 rfl (LeftS.cons (t := 1000802) rfl (Surv.wrote) LN))))))))))))))))))), ?_⟩
     refine AnyT.step 4 [] (by kernel_rfl) ?_;refine NextT.pure (by kernel_rfl) rfl rfl rfl (OpOk.asV (nI (m - k - 1)) (wrap_eq (by omega) (by omega)) (ok_bin rfl rfl rfl)) ?_ ?_
     ·refine AnyT.step 16 [] (by kernel_rfl) ?_;refine NextT.pure (by kernel_rfl) rfl rfl rfl (ok_indexS ((m - k - 1)) U30 infoN rfl rfl rfl (by omega)) ?_ ?_
      ·refine AnyT.step 17 [] (by kernel_rfl) ?_;refine NextT.eff rfl (eff_storeP (n := 220) (s := 1000801) (size57.of ((hfk.at _).len)) rfl rfl (NodT.one _) hBg rfl (by first | exact nf1 hfk (hfk.at _) (by omega) | exact nf2 hfk (hfk.at _) (hfk.at _) (by omega) (by omega)) (LV 0 rfl (LV 14 rfl (LV 17 rfl (LV 110 rfl (LV 113 rfl (LV 114 rfl (LV 115 rfl (LV 116 rfl (LV 117 rfl (LV 118 rfl (LV 119 rfl (LV 120 rfl (LV 121 rfl (LV 122 rfl (LV 123 rfl (LV 124 rfl (LV 125 rfl (LV 126 rfl (LV 127 rfl (LV 128 rfl (LeftS.cons (t := 1000802) rfl (Surv.wrote) LN)))))))))))))))))))))) ?_ ?_
       ·refine AnyT.last (by kernel_rfl) ?_;exact (QC 0 rfl (QC 14 rfl (QC 17 rfl (QX 1000801 rfl (Le.eq (congrArg (blk g 57) (nods_sw hfk h0l h1l ys _ rfl))) (QC 1000802 rfl SubL.nil)))))
       exact trivial
      exact trivial
     exact trivial
    ·refine ⟨3, Nat.le_of_ble_eq_true (by kernel_rfl), _, (Sv [0, 14, 17, 110, 113, 114, 115, 117, 118, 119, 120, 121, 122, 123, 124, 125, 126, 127, 1000801, 1000802] rfl), by kernel_rfl, _, rfl, _, eff_storeP (n := 220) (s := 1000801) (size57.of ((hfk.at _).len)) rfl rfl (NodT.one _) hBg rfl (by first | exact nf1 hfk (hfk.at _) (by omega) | exact nf2 hfk (hfk.at _) (hfk.at _) (by omega) (by omega)) (LV 0 rfl (LV 14 rfl (LV 17 rfl (LV 110 rfl (LV 113 rfl (LV 114 rfl (LV 115 rfl (LV 117 rfl (LV 118 rfl (LV 119 rfl (LV 120 rfl (LV 121 rfl (LV 122 rfl (LV 123 rfl (LV 124 rfl (LV 125 rfl (LV 126 rfl (LV 127 rfl (LeftS.cons (t := 1000802) rfl (Surv.wrote) LN))))))))))))))))))), ?_⟩
     refine AnyT.step 3 [] (by kernel_rfl) ?_;refine NextT.pure (by kernel_rfl) rfl rfl rfl (ok_move rfl) ?_ ?_
     ·refine AnyT.step 16 [] (by kernel_rfl) ?_;refine NextT.pure (by kernel_rfl) rfl rfl rfl (ok_indexS ((m - k - 1)) U30 infoN rfl rfl rfl (by omega)) ?_ ?_
      ·refine AnyT.step 17 [] (by kernel_rfl) ?_;refine NextT.eff rfl (eff_storeP (n := 220) (s := 1000801) (size57.of ((hfk.at _).len)) rfl rfl (NodT.one _) hBg rfl (by first | exact nf1 hfk (hfk.at _) (by omega) | exact nf2 hfk (hfk.at _) (hfk.at _) (by omega) (by omega)) (LV 0 rfl (LV 14 rfl (LV 17 rfl (LV 110 rfl (LV 113 rfl (LV 114 rfl (LV 115 rfl (LV 116 rfl (LV 117 rfl (LV 118 rfl (LV 119 rfl (LV 120 rfl (LV 121 rfl (LV 122 rfl (LV 123 rfl (LV 124 rfl (LV 125 rfl (LV 126 rfl (LV 127 rfl (LV 128 rfl (LeftS.cons (t := 1000802) rfl (Surv.wrote) LN)))))))))))))))))))))) ?_ ?_
       ·refine AnyT.last (by kernel_rfl) ?_;exact (QC 0 rfl (QC 14 rfl (QC 17 rfl (QX 1000801 rfl (Le.eq (congrArg (blk g 57) (nods_sw hfk h0l h1l ys _ rfl))) (QC 1000802 rfl SubL.nil)))))
       exact trivial
      exact trivial
     exact trivial
    ·refine ⟨4, Nat.le_of_ble_eq_true (by kernel_rfl), _, (Sv [0, 14, 17, 110, 113, 114, 115, 118, 119, 120, 121, 122, 123, 124, 125, 126, 127, 1000801, 1000802] rfl), by kernel_rfl, _, rfl, _, eff_storeP (n := 220) (s := 1000801) (size57.of ((hfk.at _).len)) rfl rfl (NodT.one _) hBg rfl (by first | exact nf1 hfk (hfk.at _) (by omega) | exact nf2 hfk (hfk.at _) (hfk.at _) (by omega) (by omega)) (LV 0 rfl (LV 14 rfl (LV 17 rfl (LV 110 rfl (LV 113 rfl (LV 114 rfl (LV 115 rfl (LV 118 rfl (LV 119 rfl (LV 120 rfl (LV 121 rfl (LV 122 rfl (LV 123 rfl (LV 124 rfl (LV 125 rfl (LV 126 rfl (LV 127 rfl (LeftS.cons (t := 1000802) rfl (Surv.wrote) LN)))))))))))))))))), ?_⟩
     refine AnyT.step 3 [] (by kernel_rfl) ?_;refine NextT.pure (by kernel_rfl) rfl rfl rfl (ok_move rfl) ?_ ?_
     ·refine AnyT.step 4 [] (by kernel_rfl) ?_;refine NextT.pure (by kernel_rfl) rfl rfl rfl (OpOk.asV (nI (m - k - 1)) (wrap_eq (by omega) (by omega)) (ok_bin rfl rfl rfl)) ?_ ?_
      ·refine AnyT.step 16 [] (by kernel_rfl) ?_;refine NextT.pure (by kernel_rfl) rfl rfl rfl (ok_indexS ((m - k - 1)) U30 infoN rfl rfl rfl (by omega)) ?_ ?_
       ·refine AnyT.step 17 [] (by kernel_rfl) ?_;refine NextT.eff rfl (eff_storeP (n := 220) (s := 1000801) (size57.of ((hfk.at _).len)) rfl rfl (NodT.one _) hBg rfl (by first | exact nf1 hfk (hfk.at _) (by omega) | exact nf2 hfk (hfk.at _) (hfk.at _) (by omega) (by omega)) (LV 0 rfl (LV 14 rfl (LV 17 rfl (LV 110 rfl (LV 113 rfl (LV 114 rfl (LV 115 rfl (LV 116 rfl (LV 117 rfl (LV 118 rfl (LV 119 rfl (LV 120 rfl (LV 121 rfl (LV 122 rfl (LV 123 rfl (LV 124 rfl (LV 125 rfl (LV 126 rfl (LV 127 rfl (LV 128 rfl (LeftS.cons (t := 1000802) rfl (Surv.wrote) LN)))))))))))))))))))))) ?_ ?_
        ·refine AnyT.last (by kernel_rfl) ?_;exact (QC 0 rfl (QC 14 rfl (QC 17 rfl (QX 1000801 rfl (Le.eq (congrArg (blk g 57) (nods_sw hfk h0l h1l ys _ rfl))) (QC 1000802 rfl SubL.nil)))))
        exact trivial
       exact trivial
      exact trivial
     exact trivial
    ·refine ⟨3, Nat.le_of_ble_eq_true (by kernel_rfl), _, (Sv [0, 14, 17, 110, 113, 114, 116, 117, 118, 119, 120, 121, 122, 123, 124, 125, 126, 127, 1000801, 1000802] rfl), by kernel_rfl, _, rfl, _, eff_storeP (n := 220) (s := 1000801) (size57.of ((hfk.at _).len)) rfl rfl (NodT.one _) hBg rfl (by first | exact nf1 hfk (hfk.at _) (by omega) | exact nf2 hfk (hfk.at _) (hfk.at _) (by omega) (by omega)) (LV 0 rfl (LV 14 rfl (LV 17 rfl (LV 110 rfl (LV 113 rfl (LV 114 rfl (LV 116 rfl (LV 117 rfl (LV 118 rfl (LV 119 rfl (LV 120 rfl (LV 121 rfl (LV 122 rfl (LV 123 rfl (LV 124 rfl (LV 125 rfl (LV 126 rfl (LV 127 rfl (LeftS.cons (t := 1000802) rfl (Surv.wrote) LN))))))))))))))))))), ?_⟩
     refine AnyT.step 2 [] (by kernel_rfl) ?_;refine NextT.pure (by kernel_rfl) rfl rfl rfl (ok_move rfl) ?_ ?_
     ·refine AnyT.step 16 [] (by kernel_rfl) ?_;refine NextT.pure (by kernel_rfl) rfl rfl rfl (ok_indexS ((m - k - 1)) U30 infoN rfl rfl rfl (by omega)) ?_ ?_
      ·refine AnyT.step 17 [] (by kernel_rfl) ?_;refine NextT.eff rfl (eff_storeP (n := 220) (s := 1000801) (size57.of ((hfk.at _).len)) rfl rfl (NodT.one _) hBg rfl (by first | exact nf1 hfk (hfk.at _) (by omega) | exact nf2 hfk (hfk.at _) (hfk.at _) (by omega) (by omega)) (LV 0 rfl (LV 14 rfl (LV 17 rfl (LV 110 rfl (LV 113 rfl (LV 114 rfl (LV 115 rfl (LV 116 rfl (LV 117 rfl (LV 118 rfl (LV 119 rfl (LV 120 rfl (LV 121 rfl (LV 122 rfl (LV 123 rfl (LV 124 rfl (LV 125 rfl (LV 126 rfl (LV 127 rfl (LV 128 rfl (LeftS.cons (t := 1000802) rfl (Surv.wrote) LN)))))))))))))))))))))) ?_ ?_
       ·refine AnyT.last (by kernel_rfl) ?_;exact (QC 0 rfl (QC 14 rfl (QC 17 rfl (QX 1000801 rfl (Le.eq (congrArg (blk g 57) (nods_sw hfk h0l h1l ys _ rfl))) (QC 1000802 rfl SubL.nil)))))
       exact trivial
      exact trivial
     exact trivial
    ·refine ⟨4, Nat.le_of_ble_eq_true (by kernel_rfl), _, (Sv [0, 14, 17, 110, 113, 114, 116, 118, 119, 120, 121, 122, 123, 124, 125, 126, 127, 1000801, 1000802] rfl), by kernel_rfl, _, rfl, _, eff_storeP (n := 220) (s := 1000801) (size57.of ((hfk.at _).len)) rfl rfl (NodT.one _) hBg rfl (by first | exact nf1 hfk (hfk.at _) (by omega) | exact nf2 hfk (hfk.at _) (hfk.at _) (by omega) (by omega)) (LV 0 rfl (LV 14 rfl (LV 17 rfl (LV 110 rfl (LV 113 rfl (LV 114 rfl (LV 116 rfl (LV 118 rfl (LV 119 rfl (LV 120 rfl (LV 121 rfl (LV 122 rfl (LV 123 rfl (LV 124 rfl (LV 125 rfl (LV 126 rfl (LV 127 rfl (LeftS.cons (t := 1000802) rfl (Surv.wrote) LN)))))))))))))))))), ?_⟩
     refine AnyT.step 2 [4] (by kernel_rfl) ?_;refine NextT.pure (by kernel_rfl) rfl rfl rfl (ok_move rfl) ?_ ?_
     ·refine AnyT.step 4 [] (by kernel_rfl) ?_;refine NextT.pure (by kernel_rfl) rfl rfl rfl (OpOk.asV (nI (m - k - 1)) (wrap_eq (by omega) (by omega)) (ok_bin rfl rfl rfl)) ?_ ?_
      ·refine AnyT.step 16 [] (by kernel_rfl) ?_;refine NextT.pure (by kernel_rfl) rfl rfl rfl (ok_indexS ((m - k - 1)) U30 infoN rfl rfl rfl (by omega)) ?_ ?_
       ·refine AnyT.step 17 [] (by kernel_rfl) ?_;refine NextT.eff rfl (eff_storeP (n := 220) (s := 1000801) (size57.of ((hfk.at _).len)) rfl rfl (NodT.one _) hBg rfl (by first | exact nf1 hfk (hfk.at _) (by omega) | exact nf2 hfk (hfk.at _) (hfk.at _) (by omega) (by omega)) (LV 0 rfl (LV 14 rfl (LV 17 rfl (LV 110 rfl (LV 113 rfl (LV 114 rfl (LV 115 rfl (LV 116 rfl (LV 117 rfl (LV 118 rfl (LV 119 rfl (LV 120 rfl (LV 121 rfl (LV 122 rfl (LV 123 rfl (LV 124 rfl (LV 125 rfl (LV 126 rfl (LV 127 rfl (LV 128 rfl (LeftS.cons (t := 1000802) rfl (Surv.wrote) LN)))))))))))))))))))))) ?_ ?_
        ·refine AnyT.last (by kernel_rfl) ?_;exact (QC 0 rfl (QC 14 rfl (QC 17 rfl (QX 1000801 rfl (Le.eq (congrArg (blk g 57) (nods_sw hfk h0l h1l ys _ rfl))) (QC 1000802 rfl SubL.nil)))))
        exact trivial
       exact trivial
      exact trivial
     refine NextT.pure (by kernel_rfl) rfl rfl rfl (OpOk.asV (nI (m - k - 1)) (wrap_eq (by omega) (by omega)) (ok_bin rfl rfl rfl)) ?_ ?_
     ·refine AnyT.step 2 [] (by kernel_rfl) ?_;refine NextT.pure (by kernel_rfl) rfl rfl rfl (ok_move rfl) ?_ ?_
      ·refine AnyT.step 16 [] (by kernel_rfl) ?_;refine NextT.pure (by kernel_rfl) rfl rfl rfl (ok_indexS ((m - k - 1)) U30 infoN rfl rfl rfl (by omega)) ?_ ?_
       ·refine AnyT.step 17 [] (by kernel_rfl) ?_;refine NextT.eff rfl (eff_storeP (n := 220) (s := 1000801) (size57.of ((hfk.at _).len)) rfl rfl (NodT.one _) hBg rfl (by first | exact nf1 hfk (hfk.at _) (by omega) | exact nf2 hfk (hfk.at _) (hfk.at _) (by omega) (by omega)) (LV 0 rfl (LV 14 rfl (LV 17 rfl (LV 110 rfl (LV 113 rfl (LV 114 rfl (LV 115 rfl (LV 116 rfl (LV 117 rfl (LV 118 rfl (LV 119 rfl (LV 120 rfl (LV 121 rfl (LV 122 rfl (LV 123 rfl (LV 124 rfl (LV 125 rfl (LV 126 rfl (LV 127 rfl (LV 128 rfl (LeftS.cons (t := 1000802) rfl (Surv.wrote) LN)))))))))))))))))))))) ?_ ?_
        ·refine AnyT.last (by kernel_rfl) ?_;exact (QC 0 rfl (QC 14 rfl (QC 17 rfl (QX 1000801 rfl (Le.eq (congrArg (blk g 57) (nods_sw hfk h0l h1l ys _ rfl))) (QC 1000802 rfl SubL.nil)))))
        exact trivial
       exact trivial
      exact trivial
     exact trivial
    ·refine ⟨4, Nat.le_of_ble_eq_true (by kernel_rfl), _, (Sv [0, 14, 17, 110, 113, 114, 117, 118, 119, 120, 121, 122, 123, 124, 125, 126, 127, 1000801, 1000802] rfl), by kernel_rfl, _, rfl, _, eff_storeP (n := 220) (s := 1000801) (size57.of ((hfk.at _).len)) rfl rfl (NodT.one _) hBg rfl (by first | exact nf1 hfk (hfk.at _) (by omega) | exact nf2 hfk (hfk.at _) (hfk.at _) (by omega) (by omega)) (LV 0 rfl (LV 14 rfl (LV 17 rfl (LV 110 rfl (LV 113 rfl (LV 114 rfl (LV 117 rfl (LV 118 rfl (LV 119 rfl (LV 120 rfl (LV 121 rfl (LV 122 rfl (LV 123 rfl (LV 124 rfl (LV 125 rfl (LV 126 rfl (LV 127 rfl (LeftS.cons (t := 1000802) rfl (Surv.wrote) LN)))))))))))))))))), ?_⟩
     refine AnyT.step 2 [3] (by kernel_rfl) ?_;refine NextT.pure (by kernel_rfl) rfl rfl rfl (ok_move rfl) ?_ ?_
     ·refine AnyT.step 3 [] (by kernel_rfl) ?_;refine NextT.pure (by kernel_rfl) rfl rfl rfl (ok_move rfl) ?_ ?_
      ·refine AnyT.step 16 [] (by kernel_rfl) ?_;refine NextT.pure (by kernel_rfl) rfl rfl rfl (ok_indexS ((m - k - 1)) U30 infoN rfl rfl rfl (by omega)) ?_ ?_
       ·refine AnyT.step 17 [] (by kernel_rfl) ?_;refine NextT.eff rfl (eff_storeP (n := 220) (s := 1000801) (size57.of ((hfk.at _).len)) rfl rfl (NodT.one _) hBg rfl (by first | exact nf1 hfk (hfk.at _) (by omega) | exact nf2 hfk (hfk.at _) (hfk.at _) (by omega) (by omega)) (LV 0 rfl (LV 14 rfl (LV 17 rfl (LV 110 rfl (LV 113 rfl (LV 114 rfl (LV 115 rfl (LV 116 rfl (LV 117 rfl (LV 118 rfl (LV 119 rfl (LV 120 rfl (LV 121 rfl (LV 122 rfl (LV 123 rfl (LV 124 rfl (LV 125 rfl (LV 126 rfl (LV 127 rfl (LV 128 rfl (LeftS.cons (t := 1000802) rfl (Surv.wrote) LN)))))))))))))))))))))) ?_ ?_
        ·refine AnyT.last (by kernel_rfl) ?_;exact (QC 0 rfl (QC 14 rfl (QC 17 rfl (QX 1000801 rfl (Le.eq (congrArg (blk g 57) (nods_sw hfk h0l h1l ys _ rfl))) (QC 1000802 rfl SubL.nil)))))
        exact trivial
       exact trivial
      exact trivial
     refine NextT.pure (by kernel_rfl) rfl rfl rfl (ok_move rfl) ?_ ?_
     ·refine AnyT.step 2 [] (by kernel_rfl) ?_;refine NextT.pure (by kernel_rfl) rfl rfl rfl (ok_move rfl) ?_ ?_
      ·refine AnyT.step 16 [] (by kernel_rfl) ?_;refine NextT.pure (by kernel_rfl) rfl rfl rfl (ok_indexS ((m - k - 1)) U30 infoN rfl rfl rfl (by omega)) ?_ ?_
       ·refine AnyT.step 17 [] (by kernel_rfl) ?_;refine NextT.eff rfl (eff_storeP (n := 220) (s := 1000801) (size57.of ((hfk.at _).len)) rfl rfl (NodT.one _) hBg rfl (by first | exact nf1 hfk (hfk.at _) (by omega) | exact nf2 hfk (hfk.at _) (hfk.at _) (by omega) (by omega)) (LV 0 rfl (LV 14 rfl (LV 17 rfl (LV 110 rfl (LV 113 rfl (LV 114 rfl (LV 115 rfl (LV 116 rfl (LV 117 rfl (LV 118 rfl (LV 119 rfl (LV 120 rfl (LV 121 rfl (LV 122 rfl (LV 123 rfl (LV 124 rfl (LV 125 rfl (LV 126 rfl (LV 127 rfl (LV 128 rfl (LeftS.cons (t := 1000802) rfl (Surv.wrote) LN)))))))))))))))))))))) ?_ ?_
        ·refine AnyT.last (by kernel_rfl) ?_;exact (QC 0 rfl (QC 14 rfl (QC 17 rfl (QX 1000801 rfl (Le.eq (congrArg (blk g 57) (nods_sw hfk h0l h1l ys _ rfl))) (QC 1000802 rfl SubL.nil)))))
        exact trivial
       exact trivial
      exact trivial
     exact trivial
    ·refine ⟨5, Nat.le_of_ble_eq_true (by kernel_rfl), _, (Sv [0, 14, 17, 110, 113, 114, 118, 119, 120, 121, 122, 123, 124, 125, 126, 127, 1000801, 1000802] rfl), by kernel_rfl, _, rfl, _, eff_storeP (n := 220) (s := 1000801) (size57.of ((hfk.at _).len)) rfl rfl (NodT.one _) hBg rfl (by first | exact nf1 hfk (hfk.at _) (by omega) | exact nf2 hfk (hfk.at _) (hfk.at _) (by omega) (by omega)) (LV 0 rfl (LV 14 rfl (LV 17 rfl (LV 110 rfl (LV 113 rfl (LV 114 rfl (LV 118 rfl (LV 119 rfl (LV 120 rfl (LV 121 rfl (LV 122 rfl (LV 123 rfl (LV 124 rfl (LV 125 rfl (LV 126 rfl (LV 127 rfl (LeftS.cons (t := 1000802) rfl (Surv.wrote) LN))))))))))))))))), ?_⟩
     refine AnyT.step 2 [3] (by kernel_rfl) ?_;refine NextT.pure (by kernel_rfl) rfl rfl rfl (ok_move rfl) ?_ ?_
     ·refine AnyT.step 3 [] (by kernel_rfl) ?_;refine NextT.pure (by kernel_rfl) rfl rfl rfl (ok_move rfl) ?_ ?_
      ·refine AnyT.step 4 [] (by kernel_rfl) ?_;refine NextT.pure (by kernel_rfl) rfl rfl rfl (OpOk.asV (nI (m - k - 1)) (wrap_eq (by omega) (by omega)) (ok_bin rfl rfl rfl)) ?_ ?_
       ·refine AnyT.step 16 [] (by kernel_rfl) ?_;refine NextT.pure (by kernel_rfl) rfl rfl rfl (ok_indexS ((m - k - 1)) U30 infoN rfl rfl rfl (by omega)) ?_ ?_
        ·refine AnyT.step 17 [] (by kernel_rfl) ?_;refine NextT.eff rfl (eff_storeP (n := 220) (s := 1000801) (size57.of ((hfk.at _).len)) rfl rfl (NodT.one _) hBg rfl (by first | exact nf1 hfk (hfk.at _) (by omega) | exact nf2 hfk (hfk.at _) (hfk.at _) (by omega) (by omega)) (LV 0 rfl (LV 14 rfl (LV 17 rfl (LV 110 rfl (LV 113 rfl (LV 114 rfl (LV 115 rfl (LV 116 rfl (LV 117 rfl (LV 118 rfl (LV 119 rfl (LV 120 rfl (LV 121 rfl (LV 122 rfl (LV 123 rfl (LV 124 rfl (LV 125 rfl (LV 126 rfl (LV 127 rfl (LV 128 rfl (LeftS.cons (t := 1000802) rfl (Surv.wrote) LN)))))))))))))))))))))) ?_ ?_
         ·refine AnyT.last (by kernel_rfl) ?_;exact (QC 0 rfl (QC 14 rfl (QC 17 rfl (QX 1000801 rfl (Le.eq (congrArg (blk g 57) (nods_sw hfk h0l h1l ys _ rfl))) (QC 1000802 rfl SubL.nil)))))
         exact trivial
        exact trivial
       exact trivial
      exact trivial
     refine NextT.pure (by kernel_rfl) rfl rfl rfl (ok_move rfl) ?_ ?_
     ·refine AnyT.step 2 [4] (by kernel_rfl) ?_;refine NextT.pure (by kernel_rfl) rfl rfl rfl (ok_move rfl) ?_ ?_
      ·refine AnyT.step 4 [] (by kernel_rfl) ?_;refine NextT.pure (by kernel_rfl) rfl rfl rfl (OpOk.asV (nI (m - k - 1)) (wrap_eq (by omega) (by omega)) (ok_bin rfl rfl rfl)) ?_ ?_
       ·refine AnyT.step 16 [] (by kernel_rfl) ?_;refine NextT.pure (by kernel_rfl) rfl rfl rfl (ok_indexS ((m - k - 1)) U30 infoN rfl rfl rfl (by omega)) ?_ ?_
        ·refine AnyT.step 17 [] (by kernel_rfl) ?_;refine NextT.eff rfl (eff_storeP (n := 220) (s := 1000801) (size57.of ((hfk.at _).len)) rfl rfl (NodT.one _) hBg rfl (by first | exact nf1 hfk (hfk.at _) (by omega) | exact nf2 hfk (hfk.at _) (hfk.at _) (by omega) (by omega)) (LV 0 rfl (LV 14 rfl (LV 17 rfl (LV 110 rfl (LV 113 rfl (LV 114 rfl (LV 115 rfl (LV 116 rfl (LV 117 rfl (LV 118 rfl (LV 119 rfl (LV 120 rfl (LV 121 rfl (LV 122 rfl (LV 123 rfl (LV 124 rfl (LV 125 rfl (LV 126 rfl (LV 127 rfl (LV 128 rfl (LeftS.cons (t := 1000802) rfl (Surv.wrote) LN)))))))))))))))))))))) ?_ ?_
         ·refine AnyT.last (by kernel_rfl) ?_;exact (QC 0 rfl (QC 14 rfl (QC 17 rfl (QX 1000801 rfl (Le.eq (congrArg (blk g 57) (nods_sw hfk h0l h1l ys _ rfl))) (QC 1000802 rfl SubL.nil)))))
         exact trivial
        exact trivial
       exact trivial
      refine NextT.pure (by kernel_rfl) rfl rfl rfl (OpOk.asV (nI (m - k - 1)) (wrap_eq (by omega) (by omega)) (ok_bin rfl rfl rfl)) ?_ ?_
      ·refine AnyT.step 2 [] (by kernel_rfl) ?_;refine NextT.pure (by kernel_rfl) rfl rfl rfl (ok_move rfl) ?_ ?_
       ·refine AnyT.step 16 [] (by kernel_rfl) ?_;refine NextT.pure (by kernel_rfl) rfl rfl rfl (ok_indexS ((m - k - 1)) U30 infoN rfl rfl rfl (by omega)) ?_ ?_
        ·refine AnyT.step 17 [] (by kernel_rfl) ?_;refine NextT.eff rfl (eff_storeP (n := 220) (s := 1000801) (size57.of ((hfk.at _).len)) rfl rfl (NodT.one _) hBg rfl (by first | exact nf1 hfk (hfk.at _) (by omega) | exact nf2 hfk (hfk.at _) (hfk.at _) (by omega) (by omega)) (LV 0 rfl (LV 14 rfl (LV 17 rfl (LV 110 rfl (LV 113 rfl (LV 114 rfl (LV 115 rfl (LV 116 rfl (LV 117 rfl (LV 118 rfl (LV 119 rfl (LV 120 rfl (LV 121 rfl (LV 122 rfl (LV 123 rfl (LV 124 rfl (LV 125 rfl (LV 126 rfl (LV 127 rfl (LV 128 rfl (LeftS.cons (t := 1000802) rfl (Surv.wrote) LN)))))))))))))))))))))) ?_ ?_
         ·refine AnyT.last (by kernel_rfl) ?_;exact (QC 0 rfl (QC 14 rfl (QC 17 rfl (QX 1000801 rfl (Le.eq (congrArg (blk g 57) (nods_sw hfk h0l h1l ys _ rfl))) (QC 1000802 rfl SubL.nil)))))
         exact trivial
        exact trivial
       exact trivial
      exact trivial
     exact trivial
   ·refine End.normal_block (EN (GTE (RV 2 rfl ?_)));refine RZ (nI (m - (k + 1))) (wrap_eq (by omega) (by omega)) ?_;refine RVN 1 rfl ?_;refine End.normal_then ?_;refine End.again (k + 1) ?_ ?_ ?_
    ·show _ ≤ _; omega
    ·show _ - _ < _ - _; omega
    ·exact (Sv [0, 14, 17, 1000801, 1000802] rfl)
  ·have hk2 : k = m - p.2.1 := by simp at hc110; omega
   refine A.exit (End.exit_then (End.exit_then (End.exit_here (EN (A.ret (End.ret_then ?_))))));exact End.wroteRet (kb := 1000801) (kw := 1000802) rfl rfl (by rw [smF_2 h1 h2, hI, hk2]) rfl
set_option maxHeartbeats 8000000 in
theorem SM_3 (g q : Nat) (ys : List Value) (f a m b : Nat) (W : List NodT) (hW : FitT W) (hsm : W.length ≤ 1000000) (ham : a < m) (hmb : m < b) (hb : b ≤ W.length) (h1 : ¬ m - a = 1) (h2 : ¬ b - m = 1) (hf : b - a ≤ f + 1) (IH : ∀ (a' m' b' : Nat) (V : List NodT), FitT V → V.length = W.length → a' < m' → m' < b' → b' ≤ W.length → b' - a' ≤ f → FnW Tryz.prog 153 [] 57 g (nodsV V ++ ys) (nodsV (smF f a' m' b' V) ++ ys) ([.slice (some ⟨g, 0, none⟩) W.length q, nI a', nI m', nI b', .func (.func 122) #[] #[]].map D.v))  : FnW Tryz.prog 153 [] 57 g (nodsV W ++ ys) (nodsV (smF (f + 1) a m b W) ++ ys) ([.slice (some ⟨g, 0, none⟩) W.length q, nI a, nI m, nI b, .func (.func 122) #[] #[]].map D.v) := by
 refine FnW.of (n := 220) (kb := 1000801) (kw := 1000802) Tryz.func153 rfl (by kernel_rfl) Tryz.ntmps153 (by simp) (by decide) (fun p hp => by cases hp) (by decide) (by decide) [(0, .v (.slice (some ⟨g, 0, none⟩) W.length q)), (1, .v (nI a)), (2, .v (nI m)), (3, .v (nI b)), (4, .v (.func (.func 122) #[] #[]))]
  (fun p hp => by simp only [List.mem_cons, List.not_mem_nil, or_false] at hp; rcases hp with rfl | rfl | rfl | rfl | rfl <;> exact ⟨_, rfl, rfl⟩) fun w₀ w₁ hw hM => ?_
 have hBg : w₀.heap.size ≤ g := Nat.le_of_eq hw
 have hM : smM a b = (a + b) / 2 := rfl
 obtain ⟨b1, b2, b3, b4, b5, b6, b7, b8, b9, b10⟩ := sm_bd (W := W) ham hmb
 refine QS (GT (RV 3 rfl ?_));refine RZ (nI (m - a)) (wrap_eq (by omega) (by omega)) ?_;refine RB rfl rfl rfl ?_;refine RZ (.bool false) (congrArg Value.bool (by simp; omega)) ?_;refine RN (A.no rfl ?_);refine QK (QS (GT (RV 3 rfl ?_)));refine RZ (nI (b - m)) (wrap_eq (by omega) (by omega)) ?_;refine RB rfl rfl rfl ?_;refine RZ (.bool false) (congrArg Value.bool (by simp; omega)) ?_;refine RN (A.no rfl ?_);refine QK (GT (RV 3 rfl ?_));refine RZ (nI (a + b)) (wrap_eq (by omega) (by omega)) ?_;refine RS (ok_conv U3 U161 rfl) ?_; refine RZ (nQ (a + b)) (congrArg (Value.int .u64) (wrap_u64 (by omega) (by omega))) ?_;refine RS (ok_shr rfl rfl (by decide)) ?_; refine RZ (nQ (((a + b) / 2))) (congrArg (Value.int .u64) (half_fdiv _)) ?_;refine RS (ok_conv U161 U3 rfl) ?_; refine RZ (nI ((smM a b))) (congrArg (Value.int .i64) (wrap_i64 (by omega) (by omega))) ?_;refine RVN 1 rfl ?_;refine GT (RV 3 rfl ?_);refine RZ (nI (smM a b + m)) (wrap_eq (by omega) (by omega)) ?_;refine RVN 1 rfl ?_;refine GV rfl ?_;refine A.seqTo [(0, .v (.slice (some ⟨g, 0, none⟩) W.length q)), (1, .v (nI (a))), (2, .v (nI (m))), (3, .v (nI (b))), (4, .v (.func (.func 122) #[] #[])), (18, .v (nI ((smM a b)))), (19, .v (nI (smM a b + m))), (20, .v (nI (smS0 a m b))), (21, .v (nI (smR0 a m b))), (1000801, blk g 57 (nodsV W ++ ys)), (1000802, wroteD 57 g w₁)] ?_ ?_
 ·refine GV rfl ?_;refine A.cond rfl (fun hc140 => ?_) (fun hc140 => ?_)
  ·have hgt : smM a b < m := by simp at hc140; omega
   refine GT (RV 3 rfl ?_);refine RZ (nI (smM a b + m - b)) (wrap_eq (by omega) (by omega)) ?_;refine RVN 1 rfl ?_;refine A.sub (Sv [0, 1, 2, 3, 4, 18, 19, 20, 1000801, 1000802] rfl) ?_;refine GVE rfl ?_;exact End.normal_then (End.toEnv (SQ 0 rfl (SQ 1 rfl (SQ 2 rfl (SQ 3 rfl (SQ 4 rfl (SQ 18 rfl (SQ 19 rfl (QX 20 rfl (Le.v (congrArg (Value.int .i64) (congrArg (fun n : Nat => (n : Int)) (by unfold smS0; first | rw [if_pos hgt] | rw [if_neg hgt])))) (QX 21 rfl (Le.v (congrArg (Value.int .i64) (congrArg (fun n : Nat => (n : Int)) (by unfold smR0; first | rw [if_pos hgt] | rw [if_neg hgt])))) (SQ 1000801 rfl (SQ 1000802 rfl SubL.nil))))))))))))
  ·have hgt : ¬ smM a b < m := by simp at hc140; omega
   refine GV rfl (A.sub (Sv [0, 1, 2, 3, 4, 18, 19, 20, 1000801, 1000802] rfl) ?_);refine GVE rfl ?_;exact End.normal_then (End.toEnv (SQ 0 rfl (SQ 1 rfl (SQ 2 rfl (SQ 3 rfl (SQ 4 rfl (SQ 18 rfl (SQ 19 rfl (QX 20 rfl (Le.v (congrArg (Value.int .i64) (congrArg (fun n : Nat => (n : Int)) (by unfold smS0; first | rw [if_pos hgt] | rw [if_neg hgt])))) (QX 21 rfl (Le.v (congrArg (Value.int .i64) (congrArg (fun n : Nat => (n : Int)) (by unfold smR0; first | rw [if_pos hgt] | rw [if_neg hgt])))) (SQ 1000801 rfl (SQ 1000802 rfl SubL.nil))))))))))))
 ·refine GT (RV 2 rfl ?_);refine RZ (nI (smM a b + m - 1)) (wrap_eq (by omega) (by omega)) ?_;refine RVN 1 rfl ?_;refine QSB ?_;refine A.loop (ι := Nat × Nat × Nat) (fun p => smS0 a m b ≤ p.2.1 ∧ p.2.1 ≤ p.2.2 ∧ p.2.2 ≤ smR0 a m b ∧ p.2.2 - p.2.1 ≤ p.1 ∧ smS W a m b = bsr (pMd W (smM a b + m - 1)) p.1 p.2.1 p.2.2) (fun p => [(0, .v (.slice (some ⟨g, 0, none⟩) W.length q)), (1, .v (nI (a))), (2, .v (nI (m))), (3, .v (nI (b))), (4, .v (.func (.func 122) #[] #[])), (18, .v (nI ((smM a b)))), (19, .v (nI (smM a b + m))), (20, .v (nI (p.2.1))), (21, .v (nI (p.2.2))), (22, .v (nI (smM a b + m - 1))), (1000801, blk g 57 (nodsV W ++ ys)), (1000802, wroteD 57 g w₁)]) (fun p => p.1) (smR0 a m b - smS0 a m b, smS0 a m b, smR0 a m b) ?_ ?_ ?_
  ·exact ⟨Nat.le_refl _, by show smS0 a m b ≤ smR0 a m b; omega, Nat.le_refl _, Nat.le_refl _, rfl⟩
  ·exact (KC 0 rfl (KC 1 rfl (KC 2 rfl (KC 3 rfl (KC 4 rfl (KC 18 rfl (KC 19 rfl (KE 20 rfl (by rfl) (KE 21 rfl (by rfl) (KC 22 rfl (KC 1000801 rfl (KC 1000802 rfl KN))))))))))))
  intro p hG
  refine QS (GV rfl ?_);refine A.cond rfl (fun hc151 => ?_) (fun hc151 => ?_)
  ·have hij : p.2.1 < p.2.2 := by simp at hc151; omega
   have hix := sm_ix (a := a) (m := m) (b := b) (c := ((p.2.1 + p.2.2) / 2)) ham hmb (by omega) (by omega)
   refine QK (A.block (GT (RV 3 rfl ?_)));refine RZ (nI (p.2.1 + p.2.2)) (wrap_eq (by omega) (by omega)) ?_;refine RS (ok_conv U3 U161 rfl) ?_; refine RZ (nQ (p.2.1 + p.2.2)) (congrArg (Value.int .u64) (wrap_u64 (by omega) (by omega))) ?_;refine RS (ok_shr rfl rfl (by decide)) ?_; refine RZ (nQ (((p.2.1 + p.2.2) / 2))) (congrArg (Value.int .u64) (half_fdiv _)) ?_;refine RS (ok_conv U161 U3 rfl) ?_; refine RZ (nI (((p.2.1 + p.2.2) / 2))) (congrArg (Value.int .i64) (wrap_i64 (by omega) (by omega))) ?_;refine RVN 1 rfl ?_;refine GTD (RV 5 rfl ?_);refine RZ (nI ((smM a b + m - 1 - ((p.2.1 + p.2.2) / 2)))) (wrap_eq (by omega) (by omega)) ?_;refine RS (ok_indexS ((smM a b + m - 1 - ((p.2.1 + p.2.2) / 2))) U30 infoN rfl rfl rfl (by omega)) ?_;refine RS (ok_loadP (s := 1000801) (by decide) U57 rfl size57 rfl rfl (nodsY_len hW ys (by omega)) (nodsY_at hW ys (by omega))) ?_;refine RV 2 rfl ?_;refine RS (ok_indexS (((p.2.1 + p.2.2) / 2)) U30 infoN rfl rfl rfl (by omega)) ?_;refine RS (ok_loadP (s := 1000801) (by decide) U57 rfl size57 rfl rfl (nodsY_len hW ys (by omega)) (nodsY_at hW ys (by omega))) ?_;refine RS (ok_callV0 (dcmp_fn (ndAt W (smM a b + m - 1 - ((p.2.1 + p.2.2) / 2))) (ndAt W ((p.2.1 + p.2.2) / 2)) (hW.at _) (hW.at _)) rfl (A2 rfl rfl)) ?_;refine RB rfl rfl rfl ?_;refine RZ (.bool (ltN (ndAt W (smM a b + m - 1 - ((p.2.1 + p.2.2) / 2))) (ndAt W ((p.2.1 + p.2.2) / 2)))) (congrArg Value.bool cp8_neg) ?_;refine RS (ok_not rfl) ?_; refine RZ (.bool (pMd W (smM a b + m - 1) ((p.2.1 + p.2.2) / 2))) (by rfl) ?_;refine RN ?_;refine A.cond rfl (fun hc171 => ?_) (fun hc171 => ?_)
   ·have hlt : pMd W (smM a b + m - 1) ((p.2.1 + p.2.2) / 2) = true := by simpa using hc171
    refine GTE (RV 2 rfl ?_);refine RZ (nI (((p.2.1 + p.2.2) / 2) + 1)) (wrap_eq (by omega) (by omega)) ?_;refine RVN 1 rfl ?_;refine End.sub (Sv [0, 1, 2, 3, 4, 18, 19, 20, 21, 22, 1000801, 1000802] rfl) ?_;refine End.normal_block (End.normal_then ?_);refine End.again (if pMd W (smM a b + m - 1) ((p.2.1 + p.2.2) / 2) = true then ((p.1 - 1, ((p.2.1 + p.2.2) / 2) + 1, p.2.2) : Nat × Nat × Nat) else (p.1 - 1, p.2.1, ((p.2.1 + p.2.2) / 2))) ?_ ?_ ?_
    ·first | (rw [if_pos hlt]; exact ⟨by show smS0 a m b ≤ ((p.2.1 + p.2.2) / 2) + 1; omega, by show ((p.2.1 + p.2.2) / 2) + 1 ≤ p.2.2; omega, hG.2.2.1, by show p.2.2 - (((p.2.1 + p.2.2) / 2) + 1) ≤ p.1 - 1; omega, hG.2.2.2.2.trans (bsr_up (by omega) hij hlt)⟩) | (rw [if_neg (by rw [hlt]; decide)]; exact ⟨hG.1, by show p.2.1 ≤ ((p.2.1 + p.2.2) / 2); omega, by show ((p.2.1 + p.2.2) / 2) ≤ smR0 a m b; omega, by show ((p.2.1 + p.2.2) / 2) - p.2.1 ≤ p.1 - 1; omega, hG.2.2.2.2.trans (bsr_dn (by omega) hij hlt)⟩)
    ·first | (rw [if_pos hlt]; show p.1 - 1 < p.1; omega) | (rw [if_neg (by rw [hlt]; decide)]; show p.1 - 1 < p.1; omega)
    ·exact (KC 0 rfl (KC 1 rfl (KC 2 rfl (KC 3 rfl (KC 4 rfl (KC 18 rfl (KC 19 rfl (KE 20 rfl (by first | (rw [if_pos hlt]; done) | (rw [if_neg (by rw [hlt]; decide)]; done)) (KE 21 rfl (by first | (rw [if_pos hlt]; done) | (rw [if_neg (by rw [hlt]; decide)]; done)) (KC 22 rfl (KC 1000801 rfl (KC 1000802 rfl KN))))))))))))
   ·have hlt : pMd W (smM a b + m - 1) ((p.2.1 + p.2.2) / 2) = false := by simpa using hc171
    refine GVE rfl (End.sub (Sv [0, 1, 2, 3, 4, 18, 19, 20, 21, 22, 1000801, 1000802] rfl) ?_);refine End.normal_block (End.normal_then ?_);refine End.again (if pMd W (smM a b + m - 1) ((p.2.1 + p.2.2) / 2) = true then ((p.1 - 1, ((p.2.1 + p.2.2) / 2) + 1, p.2.2) : Nat × Nat × Nat) else (p.1 - 1, p.2.1, ((p.2.1 + p.2.2) / 2))) ?_ ?_ ?_
    ·first | (rw [if_pos hlt]; exact ⟨by show smS0 a m b ≤ ((p.2.1 + p.2.2) / 2) + 1; omega, by show ((p.2.1 + p.2.2) / 2) + 1 ≤ p.2.2; omega, hG.2.2.1, by show p.2.2 - (((p.2.1 + p.2.2) / 2) + 1) ≤ p.1 - 1; omega, hG.2.2.2.2.trans (bsr_up (by omega) hij hlt)⟩) | (rw [if_neg (by rw [hlt]; decide)]; exact ⟨hG.1, by show p.2.1 ≤ ((p.2.1 + p.2.2) / 2); omega, by show ((p.2.1 + p.2.2) / 2) ≤ smR0 a m b; omega, by show ((p.2.1 + p.2.2) / 2) - p.2.1 ≤ p.1 - 1; omega, hG.2.2.2.2.trans (bsr_dn (by omega) hij hlt)⟩)
    ·first | (rw [if_pos hlt]; show p.1 - 1 < p.1; omega) | (rw [if_neg (by rw [hlt]; decide)]; show p.1 - 1 < p.1; omega)
    ·exact (KC 0 rfl (KC 1 rfl (KC 2 rfl (KC 3 rfl (KC 4 rfl (KC 18 rfl (KC 19 rfl (KE 20 rfl (by first | (rw [if_pos hlt]; done) | (rw [if_neg (by rw [hlt]; decide)]; done)) (KE 21 rfl (by first | (rw [if_pos hlt]; done) | (rw [if_neg (by rw [hlt]; decide)]; done)) (KC 22 rfl (KC 1000801 rfl (KC 1000802 rfl KN))))))))))))
  ·have hij : ¬ p.2.1 < p.2.2 := by simp at hc151; omega
   have hI : smS W a m b = p.2.1 := by rw [hG.2.2.2.2, bsr_end hij]
   refine A.exit (End.exit_then (End.exit_then (End.exit_here (EN (GT (RV 3 rfl ?_))))));refine RZ (nI ((smZ W a m b))) (wrap_eq (by omega) (by omega)) ?_;refine RVN 1 rfl ?_;refine A.seqTo [(0, .v (.slice (some ⟨g, 0, none⟩) W.length q)), (1, .v (nI (a))), (3, .v (nI (b))), (4, .v (.func (.func 122) #[] #[])), (18, .v (nI ((smM a b)))), (20, .v (nI ((smS W a m b)))), (24, .v (nI ((smZ W a m b)))), (1000801, blk g 57 (nodsV (smW1 W a m b) ++ ys)), (1000802, wroteD 57 g w₁)] ?_ ?_
   ·refine A.seqTo [(0, .v (.slice (some ⟨g, 0, none⟩) W.length q)), (1, .v (nI (a))), (2, .v (nI (m))), (3, .v (nI (b))), (4, .v (.func (.func 122) #[] #[])), (18, .v (nI ((smM a b)))), (20, .v (nI ((smS W a m b)))), (24, .v (nI ((smZ W a m b)))), (185, .v (.bool (decide ((smS W a m b) < m ∧ m < (smZ W a m b))))), (1000801, blk g 57 (nodsV W ++ ys)), (1000802, wroteD 57 g w₁)] ?_ ?_
    ·rcases and3 (p := (smS W a m b) < m) (q := m < (smZ W a m b)) with ⟨hx, hy⟩ | ⟨hx, hy⟩ | hx
     ·refine GTE (RV 3 rfl ?_);refine RZ (.bool true) (congrArg Value.bool (decide_eq_true (by omega))) ?_;refine RV 4 rfl ?_;refine RZ (.bool true) (congrArg Value.bool (decide_eq_true (by omega))) ?_;refine RP rfl rfl ?_;refine RT ?_;refine RN ?_;exact End.normal_then (End.toEnv (SQ 0 rfl (SQ 1 rfl (SQ 2 rfl (SQ 3 rfl (SQ 4 rfl (SQ 18 rfl (QX 20 rfl (Le.v (by rw [hI])) (SQ 24 rfl (QX 185 rfl (Le.v (by rw [decide_eq_true (show ((smS W a m b) < m ∧ m < (smZ W a m b)) from ⟨hx, hy⟩)])) (SQ 1000801 rfl (SQ 1000802 rfl SubL.nil))))))))))))
     ·refine GTE (RV 3 rfl ?_);refine RZ (.bool true) (congrArg Value.bool (decide_eq_true (by omega))) ?_;refine RV 4 rfl ?_;refine RZ (.bool false) (congrArg Value.bool (decide_eq_false (by omega))) ?_;refine RP rfl rfl ?_;refine RF ?_;refine RN ?_;exact End.normal_then (End.toEnv (SQ 0 rfl (SQ 1 rfl (SQ 2 rfl (SQ 3 rfl (SQ 4 rfl (SQ 18 rfl (QX 20 rfl (Le.v (by rw [hI])) (SQ 24 rfl (QX 185 rfl (Le.v (by rw [decide_eq_false (fun h : ((smS W a m b) < m ∧ m < (smZ W a m b)) => hy h.2)])) (SQ 1000801 rfl (SQ 1000802 rfl SubL.nil))))))))))))
     ·refine GTE (RV 3 rfl ?_);refine RZ (.bool false) (congrArg Value.bool (decide_eq_false (by omega))) ?_;refine RV 5 rfl ?_;refine RF ?_;refine RN ?_;exact End.normal_then (End.toEnv (SQ 0 rfl (SQ 1 rfl (SQ 2 rfl (SQ 3 rfl (SQ 4 rfl (SQ 18 rfl (QX 20 rfl (Le.v (by rw [hI])) (SQ 24 rfl (QX 185 rfl (Le.v (by rw [decide_eq_false (fun h : ((smS W a m b) < m ∧ m < (smZ W a m b)) => hx h.1)])) (SQ 1000801 rfl (SQ 1000802 rfl SubL.nil))))))))))))
    ·refine A.cond rfl (fun hc185 => ?_) (fun hc185 => ?_)
     ·have hd185 : ((smS W a m b) < m ∧ m < (smZ W a m b)) := by simpa using hc185
      refine GE (TF 5 (RVN 5 rfl ?_));refine ⟨_, eff_callW (n := 220) (s := 1000801) (Rot_fnW g q ys (smS W a m b) m (smZ W a m b) W hW hsm hd185.1 hd185.2 (by omega)) (fun p hp => by cases hp) (Args.cons rfl LA (Args.cons rfl LA (Args.cons rfl LA (Args.cons rfl LA (Args.cons rfl LA Args.nil))))) hBg rfl (by decide) (LeftS.cons (t := 1000802) rfl (Surv.wrote) (LW [0, 1, 3, 4, 18, 20, 24] rfl)), ?_⟩
      refine TL (RN ?_);exact End.normal_then (End.toEnv (SQ 0 rfl (SQ 1 rfl (SQ 3 rfl (SQ 4 rfl (SQ 18 rfl (SQ 20 rfl (SQ 24 rfl (QX 1000801 rfl (Le.eq (congrArg (fun V : List NodT => blk g 57 (nodsV V ++ ys)) (by unfold smW1; first | rw [if_pos hd185] | rw [if_neg hd185]))) (SQ 1000802 rfl SubL.nil))))))))))
     ·have hd185 : ¬ ((smS W a m b) < m ∧ m < (smZ W a m b)) := by simpa using hc185
      refine A.skip ?_;exact End.normal_then (End.toEnv (SQ 0 rfl (SQ 1 rfl (SQ 3 rfl (SQ 4 rfl (SQ 18 rfl (SQ 20 rfl (SQ 24 rfl (QX 1000801 rfl (Le.eq (congrArg (fun V : List NodT => blk g 57 (nodsV V ++ ys)) (by unfold smW1; first | rw [if_pos hd185] | rw [if_neg hd185]))) (SQ 1000802 rfl SubL.nil))))))))))
   ·refine A.seqTo [(0, .v (.slice (some ⟨g, 0, none⟩) W.length q)), (3, .v (nI (b))), (4, .v (.func (.func 122) #[] #[])), (18, .v (nI ((smM a b)))), (24, .v (nI ((smZ W a m b)))), (1000801, blk g 57 (nodsV (smW2 f W a m b) ++ ys)), (1000802, wroteD 57 g w₁)] ?_ ?_
    ·refine A.seqTo [(0, .v (.slice (some ⟨g, 0, none⟩) W.length q)), (1, .v (nI (a))), (3, .v (nI (b))), (4, .v (.func (.func 122) #[] #[])), (18, .v (nI ((smM a b)))), (20, .v (nI ((smS W a m b)))), (24, .v (nI ((smZ W a m b)))), (199, .v (.bool (decide (a < (smS W a m b) ∧ (smS W a m b) < (smM a b))))), (1000801, blk g 57 (nodsV (smW1 W a m b) ++ ys)), (1000802, wroteD 57 g w₁)] ?_ ?_
     ·rcases and3 (p := a < (smS W a m b)) (q := (smS W a m b) < (smM a b)) with ⟨hx, hy⟩ | ⟨hx, hy⟩ | hx
      ·refine GTE (RV 3 rfl ?_);refine RZ (.bool true) (congrArg Value.bool (decide_eq_true (by omega))) ?_;refine RV 4 rfl ?_;refine RZ (.bool true) (congrArg Value.bool (decide_eq_true (by omega))) ?_;refine RP rfl rfl ?_;refine RT ?_;refine RN ?_;exact End.normal_then (End.toEnv (SQ 0 rfl (SQ 1 rfl (SQ 3 rfl (SQ 4 rfl (SQ 18 rfl (SQ 20 rfl (SQ 24 rfl (QX 199 rfl (Le.v (by rw [decide_eq_true (show (a < (smS W a m b) ∧ (smS W a m b) < (smM a b)) from ⟨hx, hy⟩)])) (SQ 1000801 rfl (SQ 1000802 rfl SubL.nil)))))))))))
      ·refine GTE (RV 3 rfl ?_);refine RZ (.bool true) (congrArg Value.bool (decide_eq_true (by omega))) ?_;refine RV 4 rfl ?_;refine RZ (.bool false) (congrArg Value.bool (decide_eq_false (by omega))) ?_;refine RP rfl rfl ?_;refine RF ?_;refine RN ?_;exact End.normal_then (End.toEnv (SQ 0 rfl (SQ 1 rfl (SQ 3 rfl (SQ 4 rfl (SQ 18 rfl (SQ 20 rfl (SQ 24 rfl (QX 199 rfl (Le.v (by rw [decide_eq_false (fun h : (a < (smS W a m b) ∧ (smS W a m b) < (smM a b)) => hy h.2)])) (SQ 1000801 rfl (SQ 1000802 rfl SubL.nil)))))))))))
      ·refine GTE (RV 3 rfl ?_);refine RZ (.bool false) (congrArg Value.bool (decide_eq_false (by omega))) ?_;refine RV 5 rfl ?_;refine RF ?_;refine RN ?_;exact End.normal_then (End.toEnv (SQ 0 rfl (SQ 1 rfl (SQ 3 rfl (SQ 4 rfl (SQ 18 rfl (SQ 20 rfl (SQ 24 rfl (QX 199 rfl (Le.v (by rw [decide_eq_false (fun h : (a < (smS W a m b) ∧ (smS W a m b) < (smM a b)) => hx h.1)])) (SQ 1000801 rfl (SQ 1000802 rfl SubL.nil)))))))))))
     ·refine A.cond rfl (fun hc199 => ?_) (fun hc199 => ?_)
      ·have hd199 : (a < (smS W a m b) ∧ (smS W a m b) < (smM a b)) := by simpa using hc199
       refine GE (TF 5 (RVN 5 rfl ?_));refine ⟨_, eff_callW (n := 220) (s := 1000801) (IH a (smS W a m b) (smM a b) (smW1 W a m b) (smW1_fit hW _ _ _) (smW1_len _ _ _ _) hd199.1 hd199.2 (by omega) (by omega)) (fun p hp => by cases hp) (Args.cons rfl LA (Args.cons rfl LA (Args.cons rfl LA (Args.cons rfl LA (Args.cons rfl LA Args.nil))))) hBg rfl (by decide) (LeftS.cons (t := 1000802) rfl (Surv.wrote) (LW [0, 3, 4, 18, 24] rfl)), ?_⟩
       refine TL (RN ?_);exact End.normal_then (End.toEnv (SQ 0 rfl (SQ 3 rfl (SQ 4 rfl (SQ 18 rfl (SQ 24 rfl (QX 1000801 rfl (Le.eq (congrArg (fun V : List NodT => blk g 57 (nodsV V ++ ys)) (by unfold smW2; first | rw [if_pos hd199] | rw [if_neg hd199]))) (SQ 1000802 rfl SubL.nil))))))))
      ·have hd199 : ¬ (a < (smS W a m b) ∧ (smS W a m b) < (smM a b)) := by simpa using hc199
       refine A.skip ?_;exact End.normal_then (End.toEnv (SQ 0 rfl (SQ 3 rfl (SQ 4 rfl (SQ 18 rfl (SQ 24 rfl (QX 1000801 rfl (Le.eq (congrArg (fun V : List NodT => blk g 57 (nodsV V ++ ys)) (by unfold smW2; first | rw [if_pos hd199] | rw [if_neg hd199]))) (SQ 1000802 rfl SubL.nil))))))))
    ·refine A.seqTo [(0, .v (.slice (some ⟨g, 0, none⟩) W.length q)), (3, .v (nI (b))), (4, .v (.func (.func 122) #[] #[])), (18, .v (nI ((smM a b)))), (24, .v (nI ((smZ W a m b)))), (213, .v (.bool (decide ((smM a b) < (smZ W a m b) ∧ (smZ W a m b) < b)))), (1000801, blk g 57 (nodsV (smW2 f W a m b) ++ ys)), (1000802, wroteD 57 g w₁)] ?_ ?_
     ·rcases and3 (p := (smM a b) < (smZ W a m b)) (q := (smZ W a m b) < b) with ⟨hx, hy⟩ | ⟨hx, hy⟩ | hx
      ·refine GTE (RV 3 rfl ?_);refine RZ (.bool true) (congrArg Value.bool (decide_eq_true (by omega))) ?_;refine RV 4 rfl ?_;refine RZ (.bool true) (congrArg Value.bool (decide_eq_true (by omega))) ?_;refine RP rfl rfl ?_;refine RT ?_;refine RN ?_;exact End.normal_then (End.toEnv (SQ 0 rfl (SQ 3 rfl (SQ 4 rfl (SQ 18 rfl (SQ 24 rfl (QX 213 rfl (Le.v (by rw [decide_eq_true (show ((smM a b) < (smZ W a m b) ∧ (smZ W a m b) < b) from ⟨hx, hy⟩)])) (SQ 1000801 rfl (SQ 1000802 rfl SubL.nil)))))))))
      ·refine GTE (RV 3 rfl ?_);refine RZ (.bool true) (congrArg Value.bool (decide_eq_true (by omega))) ?_;refine RV 4 rfl ?_;refine RZ (.bool false) (congrArg Value.bool (decide_eq_false (by omega))) ?_;refine RP rfl rfl ?_;refine RF ?_;refine RN ?_;exact End.normal_then (End.toEnv (SQ 0 rfl (SQ 3 rfl (SQ 4 rfl (SQ 18 rfl (SQ 24 rfl (QX 213 rfl (Le.v (by rw [decide_eq_false (fun h : ((smM a b) < (smZ W a m b) ∧ (smZ W a m b) < b) => hy h.2)])) (SQ 1000801 rfl (SQ 1000802 rfl SubL.nil)))))))))
      ·refine GTE (RV 3 rfl ?_);refine RZ (.bool false) (congrArg Value.bool (decide_eq_false (by omega))) ?_;refine RV 5 rfl ?_;refine RF ?_;refine RN ?_;exact End.normal_then (End.toEnv (SQ 0 rfl (SQ 3 rfl (SQ 4 rfl (SQ 18 rfl (SQ 24 rfl (QX 213 rfl (Le.v (by rw [decide_eq_false (fun h : ((smM a b) < (smZ W a m b) ∧ (smZ W a m b) < b) => hx h.1)])) (SQ 1000801 rfl (SQ 1000802 rfl SubL.nil)))))))))
     ·refine A.cond rfl (fun hc213 => ?_) (fun hc213 => ?_)
      ·have hd213 : ((smM a b) < (smZ W a m b) ∧ (smZ W a m b) < b) := by simpa using hc213
       refine GE (TF 5 (RVN 5 rfl ?_));refine ⟨_, eff_callW (n := 220) (s := 1000801) (IH (smM a b) (smZ W a m b) b (smW2 f W a m b) (smW2_fit hW _ _ _) (smW2_len _ _ _ _ _) hd213.1 hd213.2 (by omega) (by omega)) (fun p hp => by cases hp) (Args.cons rfl LA (Args.cons rfl LA (Args.cons rfl LA (Args.cons rfl LA (Args.cons rfl LA Args.nil))))) hBg rfl (by decide) (LeftS.cons (t := 1000802) rfl (Surv.wrote) LN), ?_⟩
       refine TL (RN ?_);exact End.wrote (kb := 1000801) (kw := 1000802) rfl rfl (by rw [smF_3 h1 h2]; first | rw [if_pos hd213] | rw [if_neg hd213]) rfl
      ·have hd213 : ¬ ((smM a b) < (smZ W a m b) ∧ (smZ W a m b) < b) := by simpa using hc213
       refine A.skip ?_;exact End.wrote (kb := 1000801) (kw := 1000802) rfl rfl (by rw [smF_3 h1 h2]; first | rw [if_pos hd213] | rw [if_neg hd213]) rfl
theorem SM_all : ∀ (f : Nat) (g q : Nat) (ys : List Value) (a m b k : Nat) (W : List NodT), FitT W → W.length = k → k ≤ 1000000 → a < m → m < b → b ≤ k → b - a ≤ f → FnW Tryz.prog 153 [] 57 g (nodsV W ++ ys) (nodsV (smF f a m b W) ++ ys) ([.slice (some ⟨g, 0, none⟩) k q, nI a, nI m, nI b, .func (.func 122) #[] #[]].map D.v)
 | 0, _, _, _, _, _, _, _, _, _, _, _, h1, h2, _, hf => absurd hf (by omega)
 | f + 1, g, q, ys, a, m, b, k, W, hW, hk, hsm, h1, h2, h3, hf => by
  subst hk
  by_cases c1 : m - a = 1
  ·exact SM_1 g q ys f a m b W hW hsm h1 h2 h3 c1
  ·by_cases c2 : b - m = 1
   ·exact SM_2 g q ys f a m b W hW hsm h1 h2 h3 c1 c2
   ·exact SM_3 g q ys f a m b W hW hsm h1 h2 h3 c1 c2 hf fun a' m' b' V hV hl e1 e2 e3 e4 => SM_all f g q ys a' m' b' W.length V hV hl hsm e1 e2 e3 e4
theorem mergesT (k : Nat) : MergesT k := fun g q ys a m b W hW hk hsm h1 h2 h3 => SM_all (b - a) g q ys a m b k W hW hk hsm h1 h2 h3 (Nat.le_refl _)
theorem down_any (x : Int) (ad : Addr) (T : List NodT) (hT : FitT T) (c : Nat) (hsm : T.length ≤ 1000000) (hp : 0 < T.length) : FnM Tryz.prog 94 (trO (some ad) T) [.v (aggV [.int .i64 x, .slice (some ad) T.length c])] (rowD (sfF T.length T).length (nodsV (sfF T.length T))) := by
 rw [sfF_len]; exact down_fn x ad T hT c hsm hp fun _ => mergesT _
end

section
theorem Tree.short {n : Nat} {T : List NodT} (h : Tree n T) {x m : Nat} (hx : x < n) (hm : 1 ≤ m) (hm2 : m < mny n T x) : ver n (sha (ndAt T (tot n (hg n))).bl) x (pthT n T x m) = 9 := by
 have hp := h.prf hx
 have hle := (mny_le n T x).2
 have hl := pthT_length n T x m
 have hl2 := pthT_length n T x (mny n T x)
 have hat : ∀ i, i < m → ndAt (pthT n T x m) i = ndAt (pthT n T x (mny n T x)) i := fun i hi => by rw [pthT_at hi, pthT_at (by omega)]
 have hw : ∀ i, i < m → wantV n (sha (ndAt T (tot n (hg n))).bl) x (pthT n T x m) i = wantV n (sha (ndAt T (tot n (hg n))).bl) x (pthT n T x (mny n T x)) i := fun i hi => by
  cases i with
  | zero => rfl
  | succ i => show ((ndAt _ i).e _).t = ((ndAt _ i).e _).t; rw [hat i (by omega)]
 have ho : ∀ i, i < m → _ := fun i hi => verE_ok (hp.ok i (by rw [hl2]; omega))
 refine (ver_at (i := m - 1) h.h1 h.h2 hx (by omega) (by omega) (fun k hk => ?_) (by omega) ?_ (by decide)).1
 ·obtain ⟨o1, o2, o3⟩ := ho k (by omega)
  refine verE_0 (by rw [hat k (by omega)]; exact o1) (by rw [hat k (by omega), hw k (by omega)]; exact o2) fun hk2 => ?_
  rw [hat k (by omega), o3 hk2, hl, hl2]
  exact decide_eq_decide.2 (by omega)
 ·obtain ⟨o1, o2, o3⟩ := ho (m - 1) (by omega)
  have hk2 : m - 1 < hg n := by omega
  refine verE_9z (by rw [hat _ (by omega)]; exact o1) (by rw [hat _ (by omega), hw _ (by omega)]; exact o2) hk2 ?_
  rw [hat _ (by omega), o3 hk2, hl, hl2, decide_eq_false (by omega), decide_eq_true (by omega)]
  decide
def knR : List RecT := List.replicate 256 RecT.zero ++ [recOf 2 3]
def knS : List Nat := List.replicate 90 0
theorem knR_len : knR.length = 257 := by simp [knR]
theorem knS_len : knS.length = 90 := by simp [knS]
theorem knR_in {r : RecT} (h : r ∈ knR) : r = RecT.zero ∨ r = recOf 2 3 := by
 rcases List.mem_append.1 (show r ∈ List.replicate 256 RecT.zero ++ [recOf 2 3] from h) with h | h
 ·exact .inl (List.mem_replicate.1 h).2
 ·exact .inr (List.mem_singleton.1 h)
theorem knR_fit : FitR knR := fun r hr => by
 rcases knR_in hr with rfl | rfl
 ·exact RecT.zero_fit
 ·exact recOf_fit _ _
theorem knR_ok : OkR knR := fun r hr => by
 rcases knR_in hr with rfl | rfl
 ·exact RecT.zero_ok
 ·exact recOf_ok _ _
theorem knS_ok : OkS knS := fun s hs => .inl (List.mem_replicate.1 hs).2
theorem knR_lo {i : Nat} (h : i < 256) : recAt knR i = RecT.zero := by
 unfold recAt knR
 rw [List.getD_eq_getElem?_getD, List.getElem?_append_left (by rw [List.length_replicate]; exact h), List.getElem?_replicate, if_pos h]; rfl
theorem knR_hi : recAt knR 256 = recOf 2 3 := by
 unfold recAt knR
 rw [List.getD_eq_getElem?_getD, List.getElem?_append_right (by rw [List.length_replicate]; exact Nat.le_refl _), List.length_replicate]; rfl
theorem kn_tot : tot 257 (hg 257 + 1) = 90 := by decide
def knT : List NodT := treR knR knS 90
theorem knT_len : knT.length = 90 := by unfold knT; rw [treR_length]
theorem knT_fit : FitT knT := treR_fit knR_fit _ (by rw [knR_len]; decide) (by rw [knR_len]; decide) (by rw [knR_len, kn_tot]; exact Nat.le_refl _)
theorem knT_tree : Tree 257 knT := by
 have h := treR_tree knR_ok knS_ok (by rw [knR_len]; decide) (by rw [knR_len]; decide)
 rw [knR_len, kn_tot] at h; exact h
theorem knT_grps : GrpsOf knR knT := treR_grps (by rw [knR_len]; decide)
theorem kn_em {l j : Nat} (h : j < un 257 (l + 1)) : emT 257 knT l j = emF 257 (recAt knR) l j := by
 have := knT_grps.em (l := l) (j := j) (by rw [knR_len]; exact h)
 rw [knR_len] at this; exact this
theorem mny_p : mny 257 knT 256 = 5 := by
 refine runTo_eq (by decide) (by decide) (fun i h1 h2 => ?_) fun h => absurd h (by decide)
 show emT 257 knT (hg 257 - i) (pidx 257 256 i) = false
 rw [kn_em (pidx_lt (by decide) i)]
 cases h : emF 257 (recAt knR) (hg 257 - i) (pidx 257 256 i) with
 | false => rfl
 | true =>
  have := emF_iff.1 h 256 (by decide) rfl
  rw [knR_hi] at this
  exact absurd this (by decide)
theorem mny_q : mny 257 knT 255 = 1 := by
 refine runTo_eq (by decide) (by decide) (fun i h1 h2 => absurd h2 (by omega)) fun _ => ?_
 show emT 257 knT (hg 257 - 1) (pidx 257 255 1) = true
 rw [kn_em (pidx_lt (by decide) 1)]
 refine emF_iff.2 fun i hi h => ?_
 have e1 : pidx 257 255 1 = 0 := by decide
 have e2 : 4 ^ (hg 257 - 1 + 1) = 256 := by decide
 rw [e1, e2] at h
 rw [knR_lo (by omega)]; rfl
def kpP : List NodT := pthT 257 knT 256 5
def kpQ : List NodT := pthT 257 knT 255 1
def kpS : List NodT := pthT 257 knT 256 4
theorem kpP_len : kpP.length = 5 := pthT_length _ _ _ _
theorem kpQ_len : kpQ.length = 1 := pthT_length _ _ _ _
theorem kpS_len : kpS.length = 4 := pthT_length _ _ _ _
theorem kpP_fit : FitT kpP := pthT_fit knT_fit _ _
theorem kpQ_fit : FitT kpQ := pthT_fit knT_fit _ _
theorem kpS_fit : FitT kpS := pthT_fit knT_fit _ _
def knD : List UInt8 := sha (ndAt knT (tot 257 (hg 257))).bl
theorem knD_len : knD.length = 32 := sha_length _
theorem kv_p : ver 257 knD 256 kpP = 0 ∧ verR 257 knD 256 kpP = recOf 2 3 := by
 have h := knT_tree.prf (x := 256) (by decide)
 have h2 := knT_tree.prf_rec (x := 256) (by decide) (lv_rec knT_tree)
 rw [mny_p] at h h2
 refine ⟨h.ver, h2.trans ?_⟩
 rw [knT_grps.recs (by rw [knR_len]; decide), knR_hi]
theorem kv_q : ver 257 knD 255 kpQ = 0 ∧ verR 257 knD 255 kpQ = RecT.zero := by
 have h := knT_tree.prf (x := 255) (by decide)
 have h2 := knT_tree.prf_rec (x := 255) (by decide) (lv_rec knT_tree)
 rw [mny_q] at h h2
 refine ⟨h.ver, h2.trans ?_⟩
 rw [knT_grps.recs (by rw [knR_len]; decide), knR_lo (by decide)]
theorem kv_w : ver 257 knD 256 kpQ = 9 := by
 have h := knT_tree.short (x := 256) (m := 1) (by decide) (by decide) (by rw [mny_p]; decide)
 have e : pthT 257 knT 256 1 = kpQ := by
  unfold kpQ pthT
  rw [show List.range 1 = [0] from rfl, List.map_singleton, List.map_singleton, show pidx 257 256 0 = 0 from by decide, show pidx 257 255 0 = 0 from by decide]
 rw [e] at h; exact h
theorem kv_s : ver 257 knD 256 kpS = 9 := knT_tree.short (x := 256) (m := 4) (by decide) (by decide) (by rw [mny_p]; decide)
theorem kp_cut (ys : List Value) : nodsV kpP ++ ys = nodsV kpS ++ ((ndAt knT (tot 257 (hg 257 - 4) + pidx 257 256 4)).v ++ ys) := by
 have e : kpP = kpS ++ [ndAt knT (tot 257 (hg 257 - 4) + pidx 257 256 4)] := (pthT_step 257 knT 256 4).symm
 rw [e, nods_app, List.append_assoc]; unfold nodsV; rw [List.flatMap_singleton]
def knZ : List RecT := List.replicate 257 RecT.zero
theorem knZ_fit : FitR knZ := fun r hr => by rw [(List.mem_replicate.1 hr).2]; exact RecT.zero_fit
theorem knZ_len : (recsV knZ).length = 8995 := by rw [recs_len knZ_fit]; simp [knZ]
theorem kn_made : (madeCells (aggV RecT.zero.v).cells (257 * 35)).toList = recsV knZ := by rw [made_rec 257 (fun _ => RecT.zero), pgM_zero]; rfl
theorem kn_slots : (madeCells (Value.int .i64 0).cells (90 * 1)).toList = slotV knS := by kernel_rfl
theorem kn_set : (recsV knZ).take (0 + 256 * 35) ++ (recOf 2 3).v ++ (recsV knZ).drop (0 + 256 * 35 + (recOf 2 3).v.length) = recsV knR := by
 have hf : FitR (List.replicate 256 RecT.zero) := fun r hr => by rw [(List.mem_replicate.1 hr).2]; exact RecT.zero_fit
 have hl : (recsV (List.replicate 256 RecT.zero)).length = 8960 := by rw [recs_len hf]; simp
 have e : recsV knZ = recsV (List.replicate 256 RecT.zero) ++ RecT.zero.v := by
  unfold knZ recsV; rw [List.replicate_succ', List.flatMap_append, List.flatMap_singleton]
 have e2 : recsV knR = recsV (List.replicate 256 RecT.zero) ++ (recOf 2 3).v := by
  unfold knR recsV; rw [List.flatMap_append, List.flatMap_singleton]
 have hz : RecT.zero.v.length = 35 := RecT.zero_fit.len
 rw [e, e2, (recOf_fit 2 3).len, List.drop_of_length_le (by rw [List.length_append]; omega), List.append_nil, List.take_left' (by omega)]
theorem recs_at256 : ((recsV knR).drop (0 + 256 * 35)).take 35 = (recOf 2 3).v := by
 rw [Nat.zero_add, recs_at knR_fit (by rw [knR_len]; decide), knR_hi]
set_option maxHeartbeats 16000000 in
theorem MerklesKnown_fn  : FnM Tryz.prog 10 tabE [] (.v (.bool true)) := by
 refine FnM.of Tryz.func10 rfl (by kernel_rfl) Tryz.ntmps10 (by simp) (by decide) (fun w => [(1900000, tabH 0 ([errT])), (1900001, tab 1 (sizV)), (1900002, tab 2 (H8.list.map u32V)), (1900003, tab 3 (K64.map u32V))]) (fun w => (StartM.m (by simp [tabE]) (by decide) (StartM.m (by simp [tabE]) (by decide) (StartM.m (by simp [tabE]) (by decide) (StartM.m (by simp [tabE]) (by decide) StartM.nil))))) fun w₀ hM => ?_
 have htab := tabE_hi hM
 refine GV rfl (GS (TN 0 (RN ?_)));refine ZM 1000015 (fun B' => ok_makeK 257 U26 infoP51 (by decide) rfl rfl (by decide)) rfl fun b15 ⟨hBb15, hb15⟩ => ?_
 refine TL (RVN 1 rfl ?_);refine A.sub (KC 1 rfl (KE 1000015 rfl (congrArg (blk b15 51) kn_made) (KC 1900000 rfl (KC 1900001 rfl (KC 1900002 rfl (KC 1900003 rfl KN)))))) ?_;refine GS (TF 3 (RM rfl ?_));refine RS (ok_call (lRecord_fn 2 3) (A2 rfl rfl)) ?_;refine RS (ok_indexS 256 U26 infoP51 rfl rfl rfl (by decide)) ?_;refine RN ?_;refine ⟨_, eff_storeP (n := 150) (s := 1000015) (size51.of ((recOf_fit 2 3).len)) rfl rfl (RecT.one _) hBb15 rfl (by rw [knZ_len, (recOf_fit 2 3).len]; decide) (LV 1 rfl (LeftS.cons (t := 1900000) rfl (Surv.tabH (by omega)) (LQ 1900001 rfl (LQ 1900002 rfl (LQ 1900003 rfl LN))))), ?_⟩
 refine TL (RN (A.sub (KC 1 rfl (KE 1000015 rfl (congrArg (blk b15 51) kn_set) (KC 1900000 rfl (KC 1900001 rfl (KC 1900002 rfl (KC 1900003 rfl KN)))))) ?_));refine GS (TN 1 (RS (ok_call (rTotal_fn 257 (by decide) (by decide)) (A1 rfl)) ?_)); refine RZ (nI (90)) (by rw [kn_tot]) ?_;refine RN ?_;refine ZM 1000020 (fun B' => ok_makeK 90 U27 infoPI (by decide) rfl rfl (by decide)) rfl fun b20 ⟨hBb20, hb20⟩ => ?_
 have hlt_b15_b20 := hb20 1000015 b15 _ _ rfl
 refine TL (RVN 1 rfl ?_);refine A.sub (KC 1 rfl (KC 2 rfl (KC 1000015 rfl (KE 1000020 rfl (congrArg (blk b20 3) kn_slots) (KC 1900000 rfl (KC 1900001 rfl (KC 1900002 rfl (KC 1900003 rfl KN)))))))) ?_;refine GS (RunTK.newG 2 (by decide) rfl (.inl rfl) ?_);refine RVN 2 rfl ?_;refine ⟨_, _, _, eff_nameY (n := 150) (d := 24) (k := 1000024) rfl rfl (fun B' => ok_callMBK (Build_n 257 90 (by decide) (by decide) knR knR_len knR_fit knR_ok knS knS_len knS_ok kn_tot.symm ⟨b15, 0, none⟩ ⟨b20, 0, none⟩ 257 90 (by decide)) newY_mono (SubK.app (SubK.of (Sub.cons rfl (Sub.cons rfl (Sub.cons rfl KN))) tabN_v) (SubK.cons (k := 1000015) (by decide) rfl Le.blkR0 (SubK.cons (k := 1000020) (by decide) rfl Le.blkR0 SubK.nil))) (A3 rfl rfl rfl)) (by decide) (by decide), fun x24 hx24 => ?_⟩
 obtain ⟨g24, y24⟩ := x24
 have hBg24 : w₀.heap.size ≤ g24 := hx24.1
 refine TN 6 (RV 2 rfl ?_);refine RZ (aggV [nI 257, .slice (some ⟨g24, 0, none⟩) knT.length knT.length]) (by rw [knT_len]; rfl) ?_;refine RVN 1 rfl ?_;refine ZN 1000003 zero32 fun b3 ⟨hBb3, hb3⟩ => ?_
 refine TF 7 (RN ?_); refine ZA 1000003 (size32.of rfl) hBb3 rfl rfl rfl (LT 1000015 rfl (LT 1000020 rfl (LT 1000024 rfl (LeftS.cons (t := 1900000) rfl (Surv.tabH (by omega)) (LQ 1900001 rfl (LQ 1900002 rfl (LQ 1900003 rfl (LW [1, 3, 26] rfl)))))))) ?_;refine TL (RVN 1 rfl ?_);refine QS (GT (RV 2 rfl ?_));refine RF ?_;refine RM rfl ?_;refine RQ (ok_field field32_1 (by decide) rfl) ?_;refine RQ (ok_loadV (s := 1000003) (by decide) U30 rfl rfl rfl (rfl)) ?_;refine RQ (ok_lenV U30 rfl) ?_;refine RQ (ok_bin rfl rfl rfl) ?_;refine RZ (.bool false) (congrArg Value.bool (by rw [knT_len]; rfl)) ?_;refine RP rfl rfl ?_;refine RF ?_;refine RM rfl ?_;refine RQ (ok_loadA (s := 1000003) (by decide) U32 rfl (size32.of (rfl)) rfl rfl) ?_;refine RQ (ok_callMK (Check_fn 257 (some ⟨g24, 0, none⟩) knT knT_fit knT.length) (SubK.app (SubK.of (Sub.cons rfl (Sub.cons rfl (Sub.cons rfl (Sub.cons rfl KN)))) tabE_v) (SubK.cons (k := 1000024) (by decide) rfl Le.blkR SubK.nil)) (A1 rfl)) ?_; refine RZ (.int .i64 0) (congrArg (Value.int .i64) knT_tree.chkT) ?_;refine RQ (ok_bin rfl rfl rfl) ?_;refine RF ?_;refine RP rfl rfl ?_;refine RF ?_;refine RN (A.no rfl ?_);refine QK (GS (TN 5 (RL 1000003 U32 rfl rfl (size32.of rfl) ?_)));refine RS (ok_callMK (Root_ok 257 ⟨g24, 0, none⟩ knT knT_fit knT.length knT_tree) (SubK.app (SubK.of (Sub.cons rfl (Sub.cons rfl (Sub.cons rfl (Sub.cons rfl KN)))) tabE_v) (SubK.cons (k := 1000024) (by decide) rfl Le.blkR SubK.nil)) (A1 rfl)) ?_;refine RV 2 rfl ?_;refine RZ (aggV (knD.map byteV)) (by rfl) ?_;refine RVN 1 rfl ?_;refine ZN 1000005 zero40 fun b5 ⟨hBb5, hb5⟩ => ?_
 refine TF 6 (RN ?_);refine ⟨_, eff_storeA (n := 150) (s := 1000005) (size40.of (by rw [List.length_map, knD_len])) rfl rfl (all_bytes _) hBb5 rfl (by rw [List.length_map, knD_len]; rfl) (LT 1000003 rfl (LT 1000015 rfl (LT 1000020 rfl (LT 1000024 rfl (LeftS.cons (t := 1900000) rfl (Surv.tabH (by omega)) (LQ 1900001 rfl (LQ 1900002 rfl (LQ 1900003 rfl (LW [1, 3, 5, 44] rfl))))))))), ?_⟩
 refine TL (RVN 1 rfl ?_);refine A.sub (Sv [1, 3, 5, 6, 1000003, 1000005, 1000015, 1000020, 1000024, 1900000, 1900001, 1900002, 1900003] rfl) ?_;refine GS (RunTK.newG 1 (by decide) rfl (.inl rfl) ?_);refine RL 1000003 U32 rfl rfl (size32.of rfl) ?_;refine RN ?_;refine ⟨_, _, _, eff_nameY (n := 150) (d := 47) (k := 1000047) rfl rfl (fun B' => ok_callMBK (Prove_okB 257 ⟨g24, 0, none⟩ knT knT_fit knT.length knT_tree 256 (by decide)) newY_mono (SubK.app (SubK.of (Sub.cons rfl (Sub.cons rfl (Sub.cons rfl (Sub.cons rfl KN)))) tabE_v) (SubK.cons (k := 1000024) (by decide) rfl Le.blkR SubK.nil)) (A2 rfl rfl)) (by decide) (by decide), fun x47 hx47 => ?_⟩
 obtain ⟨g47, y47⟩ := x47
 have hBg47 : w₀.heap.size ≤ g47 := hx47.1
 refine TN 5 (RV 2 rfl ?_);refine RZ (aggV [nI 256, .slice (some ⟨g47, 0, none⟩) kpP.length kpP.length]) (by rw [kpP_len, mny_p]) ?_;refine RVN 1 rfl ?_;refine ZN 1000007 zero69 fun b7 ⟨hBb7, hb7⟩ => ?_
 refine TF 6 (RN ?_); refine ZA 1000007 (size69.of rfl) hBb7 rfl rfl rfl (LT 1000003 rfl (LT 1000005 rfl (LT 1000015 rfl (LT 1000020 rfl (LT 1000024 rfl (LT 1000047 rfl (LeftS.cons (t := 1900000) rfl (Surv.tabH (by omega)) (LQ 1900001 rfl (LQ 1900002 rfl (LQ 1900003 rfl (LW [1, 3, 5, 6, 7, 49] rfl))))))))))) ?_;refine TL (RVN 1 rfl ?_);refine GS (RunTK.newG 1 (by decide) rfl (.inl rfl) ?_);refine RL 1000003 U32 rfl rfl (size32.of rfl) ?_;refine RN ?_;refine ⟨_, _, _, eff_nameY (n := 150) (d := 52) (k := 1000052) rfl rfl (fun B' => ok_callMBK (Prove_okB 257 ⟨g24, 0, none⟩ knT knT_fit knT.length knT_tree 255 (by decide)) newY_mono (SubK.app (SubK.of (Sub.cons rfl (Sub.cons rfl (Sub.cons rfl (Sub.cons rfl KN)))) tabE_v) (SubK.cons (k := 1000024) (by decide) rfl Le.blkR SubK.nil)) (A2 rfl rfl)) (by decide) (by decide), fun x52 hx52 => ?_⟩
 obtain ⟨g52, y52⟩ := x52
 have hBg52 : w₀.heap.size ≤ g52 := hx52.1
 refine TN 5 (RV 2 rfl ?_);refine RZ (aggV [nI 255, .slice (some ⟨g52, 0, none⟩) kpQ.length kpQ.length]) (by rw [kpQ_len, mny_q]) ?_;refine RVN 1 rfl ?_;refine ZN 1000009 zero69 fun b9 ⟨hBb9, hb9⟩ => ?_
 have hlt_b7_b9 := hb9 1000007 b7 _ _ rfl
 refine TF 6 (RN ?_); refine ZA 1000009 (size69.of rfl) hBb9 rfl rfl rfl (LT 1000003 rfl (LT 1000005 rfl (LB 1000007 rfl (LT 1000015 rfl (LT 1000020 rfl (LT 1000024 rfl (LT 1000047 rfl (LT 1000052 rfl (LeftS.cons (t := 1900000) rfl (Surv.tabH (by omega)) (LQ 1900001 rfl (LQ 1900002 rfl (LQ 1900003 rfl (LW [1, 3, 5, 6, 7, 8, 9, 54] rfl))))))))))))) ?_;refine TL (RVN 1 rfl ?_);refine GS (TN 6 (RL 1000005 U40 rfl rfl (size40.of (by rw [List.length_map, knD_len])) ?_));refine RL 1000007 U69 rfl rfl (size69.of rfl) ?_;refine RS (ok_callMK (Verify_fn 257 256 knD knD_len (some ⟨g47, 0, none⟩) kpP kpP_fit kpP.length) (SubK.app (SubK.of (Sub.cons rfl (Sub.cons rfl (Sub.cons rfl (Sub.cons rfl KN)))) tabE_v) (SubK.cons (k := 1000047) (by decide) rfl Le.blkR SubK.nil)) (A3 rfl rfl rfl)) ?_;refine RV 2 rfl ?_;refine RZ (aggV (recOf 2 3).v) (by rw [kv_p.2]) ?_;refine RS (ok_extractV rfl rfl) ?_;refine RZ (.int .i64 0) (by rw [kv_p.1]) ?_;refine RN ?_;refine ZN 1000011 zero51 fun b11 ⟨hBb11, hb11⟩ => ?_
 have hlt_b15_b11 := hb11 1000015 b15 _ _ rfl
 refine TF 7 (RN ?_);refine ⟨_, eff_storeA (n := 150) (s := 1000011) (size51.of ((recOf_fit 2 3).len)) rfl rfl (RecT.one _) hBb11 rfl (by rw [(recOf_fit 2 3).len]; rfl) (LT 1000003 rfl (LT 1000005 rfl (LT 1000007 rfl (LT 1000009 rfl (LB 1000015 rfl (LT 1000020 rfl (LT 1000024 rfl (LT 1000047 rfl (LT 1000052 rfl (LeftS.cons (t := 1900000) rfl (Surv.tabH (by omega)) (LQ 1900001 rfl (LQ 1900002 rfl (LQ 1900003 rfl (LW [1, 3, 5, 6, 7, 8, 9, 10, 11, 60] rfl)))))))))))))), ?_⟩
 refine TL (RVN 1 rfl ?_);refine A.sub (Sv [1, 3, 5, 6, 7, 8, 9, 10, 11, 12, 1000003, 1000005, 1000007, 1000009, 1000011, 1000015, 1000020, 1000024, 1000047, 1000052, 1900000, 1900001, 1900002, 1900003] rfl) ?_;refine GS (TN 6 (RL 1000005 U40 rfl rfl (size40.of (by rw [List.length_map, knD_len])) ?_));refine RL 1000009 U69 rfl rfl (size69.of rfl) ?_;refine RS (ok_callMK (Verify_fn 257 255 knD knD_len (some ⟨g52, 0, none⟩) kpQ kpQ_fit kpQ.length) (SubK.app (SubK.of (Sub.cons rfl (Sub.cons rfl (Sub.cons rfl (Sub.cons rfl KN)))) tabE_v) (SubK.cons (k := 1000052) (by decide) rfl Le.blkR SubK.nil)) (A3 rfl rfl rfl)) ?_;refine RV 2 rfl ?_;refine RZ (aggV RecT.zero.v) (by rw [kv_q.2]) ?_;refine RS (ok_extractV rfl rfl) ?_;refine RZ (.int .i64 0) (by rw [kv_q.1]) ?_;refine RN ?_;refine ZN 1000013 zero51 fun b13 ⟨hBb13, hb13⟩ => ?_
 have hlt_b11_b13 := hb13 1000011 b11 _ _ rfl
 have hlt_b15_b13 := hb13 1000015 b15 _ _ rfl
 refine TF 7 (RN ?_);refine ⟨_, eff_storeA (n := 150) (s := 1000013) (size51.of (RecT.zero_fit.len)) rfl rfl (RecT.one _) hBb13 rfl (by rw [RecT.zero_fit.len]; rfl) (LT 1000003 rfl (LT 1000005 rfl (LT 1000007 rfl (LT 1000009 rfl (LB 1000011 rfl (LB 1000015 rfl (LT 1000020 rfl (LT 1000024 rfl (LT 1000047 rfl (LT 1000052 rfl (LeftS.cons (t := 1900000) rfl (Surv.tabH (by omega)) (LQ 1900001 rfl (LQ 1900002 rfl (LQ 1900003 rfl (LW [1, 3, 5, 6, 7, 8, 9, 10, 11, 12, 13, 66] rfl))))))))))))))), ?_⟩
 refine TL (RVN 1 rfl ?_);refine QS (GTD (RV 3 rfl ?_));refine RZ (.int .i64 0) (by rfl) ?_;refine RV 2 rfl ?_;refine RZ (.int .i64 0) (by rfl) ?_;refine RV 2 rfl ?_;refine RZ (.int .i64 0) (by rfl) ?_;refine RV 2 rfl ?_;refine RZ (.int .i64 0) (by rfl) ?_;refine RB rfl rfl rfl ?_;refine RF ?_;refine RM rfl ?_;refine RQ (ok_field field69_1 (by decide) rfl) ?_;refine RQ (ok_loadV (s := 1000007) (by decide) U30 rfl rfl rfl (rfl)) ?_;refine RQ (ok_lenV U30 rfl) ?_;refine RQ (ok_bin rfl rfl rfl) ?_;refine RZ (.bool false) (congrArg Value.bool (by rw [kpP_len]; rfl)) ?_;refine RP rfl rfl ?_;refine RF ?_;refine RM rfl ?_;refine RQ (ok_field field69_1 (by decide) rfl) ?_;refine RQ (ok_loadV (s := 1000009) (by decide) U30 rfl rfl rfl (rfl)) ?_;refine RQ (ok_lenV U30 rfl) ?_;refine RQ (ok_bin rfl rfl rfl) ?_;refine RZ (.bool false) (congrArg Value.bool (by rw [kpQ_len]; rfl)) ?_;refine RP rfl rfl ?_;refine RF ?_;refine RM rfl ?_;refine RQ (ok_loadA (s := 1000011) (by decide) U51 rfl (size51.of ((recOf_fit 2 3).len)) rfl rfl) ?_;refine RQ (ok_move rfl) ?_;refine RQ (ok_indexS 256 U26 infoP51 rfl rfl rfl (by decide)) ?_;refine RQ (ok_loadP (s := 1000015) (by decide) U51 rfl size51 rfl rfl (by rw [recs_len knR_fit, knR_len]; decide) (recs_at256)) ?_; refine RZ (aggV (recOf 2 3).v) (by rfl) ?_;refine RQ (ok_neqT (n := 4) true flat51 (by decide) (by kernel_rfl) (by kernel_rfl) rfl rfl (recOf_fit 2 3).kin (recOf_fit 2 3).kin (iff_of_true rfl rfl)) ?_; refine RF ?_;refine RP rfl rfl ?_;refine RF ?_;refine RM rfl ?_;refine RQ (ok_loadA (s := 1000013) (by decide) U51 rfl (size51.of (RecT.zero_fit.len)) rfl rfl) ?_;refine RQ (ok_lit [] (RecT.v RecT.zero) (fun _ _ => rfl) (by kernel_rfl)) ?_;refine RQ (ok_neqT (n := 4) true flat51 (by decide) (by kernel_rfl) (by kernel_rfl) rfl rfl RecT.zero_fit.kin RecT.zero_fit.kin (iff_of_true rfl rfl)) ?_; refine RF ?_;refine RP rfl rfl ?_;refine RF ?_;refine RN (A.sub (Sv [3, 5, 7, 9, 100, 1000003, 1000005, 1000007, 1000009, 1000011, 1000013, 1000015, 1000020, 1000024, 1000047, 1000052, 1900000, 1900001, 1900002, 1900003] rfl) ?_);refine A.no rfl ?_;refine QK (GT (RL 1000005 U40 rfl rfl (size40.of (by rw [List.length_map, knD_len])) ?_));refine RL 1000007 U69 rfl rfl (size69.of rfl) ?_;refine RL 1000009 U69 rfl rfl (size69.of rfl) ?_;refine RS (ok_callMK (Coll_x 257 256 255 knD knD_len (some ⟨g47, 0, none⟩) (some ⟨g52, 0, none⟩) kpP kpQ kpP_fit kpQ_fit kpP.length kpQ.length kv_p.1 kv_q.1 (by decide)) (SubK.app (SubK.of (Sub.cons rfl (Sub.cons rfl (Sub.cons rfl (Sub.cons rfl KN)))) tabE_v) (SubK.cons (k := 1000047) (by decide) rfl Le.blkR (SubK.cons (k := 1000052) (by decide) rfl Le.blkR SubK.nil))) (Args.cons rfl (Le.refl _) (A3 rfl rfl rfl))) ?_;refine RVN 5 rfl ?_;refine GT (RL 1000003 U32 rfl rfl (size32.of rfl) ?_);refine RL 1000003 U32 rfl rfl (size32.of rfl) ?_
 refine RS (ok_callMK (Differ_no 257 ⟨g24, 0, none⟩ knT knT_fit knT.length knT_tree ⟨g24, 0, none⟩ knT knT_fit knT.length knT_tree rfl (sfF knT.length knT) (sfF knT.length knT) (sfF_fit knT_fit) (sfF_fit knT_fit) (by rw [sfF_len, knT_len]; decide) (down_any _ _ knT knT_fit _ (by rw [knT_len]; decide) (by rw [knT_len]; decide)) (down_any _ _ knT knT_fit _ (by rw [knT_len]; decide) (by rw [knT_len]; decide)) (fun _ _ _ => rfl)) (SubK.app (SubK.of (Sub.cons rfl (Sub.cons rfl (Sub.cons rfl (Sub.cons rfl KN)))) tabE_v) (SubK.cons (k := 1000024) (by decide) rfl Le.blkR (SubK.cons (k := 1000024) (by decide) rfl Le.blkR SubK.nil))) (A2 rfl rfl)) ?_;refine RVN 5 rfl ?_;refine GS (TF 1 (RS (ok_field field69_0 (by decide) rfl) ?_));refine RN ?_;refine ⟨_, eff_storeS (n := 150) (s := 1000009) info3 rfl rfl rfl hBb9 rfl (by simp) (LT 1000003 rfl (LT 1000005 rfl (LB 1000007 rfl (LT 1000011 rfl (LT 1000013 rfl (LT 1000015 rfl (LT 1000020 rfl (LT 1000024 rfl (LT 1000047 rfl (LT 1000052 rfl (LeftS.cons (t := 1900000) rfl (Surv.tabH (by omega)) (LQ 1900001 rfl (LQ 1900002 rfl (LQ 1900003 rfl (LW [5, 6, 7, 8, 9] rfl))))))))))))))), ?_⟩
 refine TL (RN (GT (RL 1000005 U40 rfl rfl (size40.of (by rw [List.length_map, knD_len])) ?_)));refine RL 1000009 U69 rfl rfl (size69.of rfl) ?_;refine RS (ok_callMK (Verify_fn 257 256 knD knD_len (some ⟨g52, 0, none⟩) kpQ kpQ_fit kpQ.length) (SubK.app (SubK.of (Sub.cons rfl (Sub.cons rfl (Sub.cons rfl (Sub.cons rfl KN)))) tabE_v) (SubK.cons (k := 1000052) (by decide) rfl Le.blkR SubK.nil)) (A3 rfl rfl rfl)) ?_;refine RV 2 rfl ?_;refine RZ (aggV RecT.zero.v) (by rw [verR_no (by rw [kv_w]; decide)]) ?_;refine RS (ok_extractV rfl rfl) ?_;refine RZ (.int .i64 9) (by rw [kv_w]) ?_;refine RVN 1 rfl ?_;refine A.sub (Sv [5, 6, 7, 8, 10, 1000003, 1000005, 1000007, 1000009, 1000011, 1000013, 1000015, 1000020, 1000024, 1000047, 1000052, 1900000, 1900001, 1900002, 1900003] rfl) ?_;refine GS (TF 4 (RS (ok_field field69_1 (by decide) rfl) ?_));refine RLV 1000007 U30 rfl rfl rfl ?_;refine RS (ok_sliceHiK 4 U30 infoN rfl rfl (by rw [kpP_len]; decide)) ?_;refine RS (ok_field field69_1 (by decide) rfl) ?_;refine RN ?_;refine ⟨_, eff_storeS (n := 150) (s := 1000007) info30 rfl rfl rfl hBb7 rfl (by simp) (LT 1000003 rfl (LT 1000005 rfl (LB 1000009 rfl (LT 1000011 rfl (LT 1000013 rfl (LT 1000015 rfl (LT 1000020 rfl (LT 1000024 rfl (LT 1000047 rfl (LT 1000052 rfl (LeftS.cons (t := 1900000) rfl (Surv.tabH (by omega)) (LQ 1900001 rfl (LQ 1900002 rfl (LQ 1900003 rfl (LW [5, 6, 7, 8, 10] rfl))))))))))))))), ?_⟩
 refine TL (RN (GT (RL 1000005 U40 rfl rfl (size40.of (by rw [List.length_map, knD_len])) ?_)));refine RL 1000007 U69 rfl rfl (size69.of (rfl)) ?_; refine RZ (aggV [nI 256, .slice (some ⟨g47, 0, none⟩) kpS.length kpP.length]) (by rw [kpS_len]; rfl) ?_;refine RS (ok_callMK (Verify_fn 257 256 knD knD_len (some ⟨g47, 0, none⟩) kpS kpS_fit kpP.length) (SubK.app (SubK.of (Sub.cons rfl (Sub.cons rfl (Sub.cons rfl (Sub.cons rfl KN)))) tabE_v) (SubK.cons (k := 1000047) (by decide) rfl ((Le.eq (congrArg (blk g47 57) (kp_cut _))).trans Le.blkR) SubK.nil)) (A3 rfl rfl rfl)) ?_;refine RV 2 rfl ?_;refine RZ (aggV RecT.zero.v) (by rw [verR_no (by rw [kv_s]; decide)]) ?_;refine RS (ok_extractV rfl rfl) ?_;refine RZ (.int .i64 9) (by rw [kv_s]) ?_;refine RVN 1 rfl ?_;refine GT (RV 2 rfl ?_);refine RT ?_;refine RV 3 rfl ?_;refine RT ?_;refine RP rfl rfl ?_;refine RT ?_;refine RV 3 rfl ?_;refine RT ?_;refine RP rfl rfl ?_;refine RT ?_;refine RV 3 rfl ?_;refine RT ?_;refine RP rfl rfl ?_;refine RT ?_;refine RM rfl ?_;refine RQ (ok_callMK lives16_fn (SubK.of (Sub.cons rfl (Sub.cons rfl (Sub.cons rfl (Sub.cons rfl KN)))) tabE_v) Args.nil) ?_;refine RP rfl rfl ?_;refine RT ?_;refine RVN 1 rfl ?_;refine A.sub (Sv [0, 1000003, 1000005, 1000007, 1000009, 1000011, 1000013, 1000015, 1000020, 1000024, 1000047, 1000052, 1900000, 1900001, 1900002, 1900003] rfl) ?_;refine A.ret ?_;exact End.ret1 rfl rfl (Le.refl _)
end
end Go.Proofs.YtmkpekmhhbcifaaGreatDoor
