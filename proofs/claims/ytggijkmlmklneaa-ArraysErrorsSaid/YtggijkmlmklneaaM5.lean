/-
  OWN TEXTS of this seat, put together, part 5: C21f, C21g, Law8, Law12, Law15.
-/
import Derived.Test.YtggijkmlmklneaaM2
import Derived.Test.YtggijkmlmklneaaM4
import Derived.Test.YtggijkmlmklneaaM1
import Derived.SizedLaws
namespace Go.Proofs.Ytggijkmlmklneaa
open Go Go.RowKit
set_option linter.unusedVariables false
set_option maxRecDepth 20000
set_option linter.unusedSimpArgs false
theorem buildO4 (k : UInt8) (A₁ : Option Addr) (n₁ q₁ : Nat) : Try.prog.built 47 [(0, byteV k), (2, .slice A₁ n₁ q₁)] = some #[byteV k, .int .i64 0, .slice A₁ n₁ q₁] := by kernel_rfl
def lvB : Ar := ⟨(zA 2).now.set 1 (plain 3), (zA 2).dur⟩
def lvC : Ar := ⟨lvB.dur, lvB.dur⟩
def lvD : Ar := ⟨lvB.now, lvB.now⟩
def lvE : Ar := ⟨lvD.now.set 1 (plain 4), lvD.dur⟩
def lvF : Ar := ⟨lvE.dur, lvE.dur⟩
theorem pl_ne : plain 3 ≠ zB := fun h => absurd (congrArg (fun b : Bk => b.1.head?) h) (by decide)
theorem lv_dif : difP (zA 2).now lvB.now 2 = [1] := by
 have h0 : bkAt (zA 2).now 0 = bkAt lvB.now 0 := rfl
 have h1 : bkAt (zA 2).now 1 ≠ bkAt lvB.now 1 := fun h => pl_ne h.symm
 rw [dif_yes h1, dif_no h0]; rfl

set_option maxHeartbeats 16000000 in
theorem lives21_fn  : Fn Try.prog 17 [] (.v (.bool true)) := by
 refine FV Try.func17 rfl Try.ntmps17 rfl fun w₀ => ?_
 refine GV rfl ?_
 refine GS ?_
 refine TN 2 ?_
 refine RS (ok_call (Plain_fn 3) (A1 rfl)) ?_
 refine RS (ok_call (Plain_fn 4) (A1 rfl)) ?_
 refine RN ?_
 refine ZN 1000001 zero41 fun b1 ⟨hBb1, hb1⟩ => ?_
 refine TN 3 ?_
 refine RN ?_
 refine ZN 1000002 zero41 fun b2 ⟨hBb2, hb2⟩ => ?_
 have hlt_b1_b2 := hb2 1000001 b1 _ _ rfl
 refine TF 4 ?_
 refine RN ?_
 refine ⟨_, eff_storeA (n := 181) (s := 1000001) (size41.of (bk_len _)) rfl rfl (bk_one _) hBb1 rfl (by simp only [bk_len]) (LB 1000002 rfl (LW [1, 2, 22] rfl)), ?_⟩
 refine TF 5 ?_
 refine RN ?_
 refine ⟨_, eff_storeA (n := 181) (s := 1000002) (size41.of (bk_len _)) rfl rfl (bk_one _) hBb2 rfl (by simp only [bk_len]) (LB 1000001 rfl (LW [1, 2] rfl)), ?_⟩
 refine TL ?_
 refine RN ?_
 refine GS ?_
 refine TN 4 ?_
 refine RS ((ok_callB (New_ok 2 (by decide) (by decide)) (fun _ _ h => tup_le2 (arr_mono (own_monoT h)) (Le.refl _)) (A1 rfl))) ?_
 refine RM rfl ?_
 refine RS (ok_extract rfl rfl) ?_
 refine RS (ok_extract rfl rfl) ?_
 refine RN ?_
 refine ZN 1000003 zero30 fun b3 ⟨hBb3, hb3⟩ => ?_
 refine TF 5 ?_
 refine RN ?_
 refine ⟨_, eff_storeK (n := 181) (s := 1000003) size30 rfl rfl (Le.refl _) (Agg.arr) hBb3 rfl (rfl) (Surv.arr (by intro h; first | exact absurd h.1 (by decide) | exact absurd h.1.1 (by decide) | exact absurd h.2 (by omega) | exact absurd h.1.2 (by omega) | exact absurd h.1.1.2 (by omega))) (LT 1000001 rfl (LT 1000002 rfl (LW [1, 2, 3, 26] rfl))), ?_⟩
 refine TL ?_
 refine RVN 1 rfl ?_
 refine GS ?_
 refine TN 6 ?_
 refine RS (ok_loadVK (s := 1000003) (by decide) Try.underlying30 rfl size30 rfl rfl) ?_
 refine RS (ok_loadA (s := 1000001) (by decide) Try.underlying41 rfl (size41.of (bk_len _)) rfl rfl) ?_
 refine RS ((ok_callB (Write_ok (zA 2) 1 (plain 3) rfl (by decide) (by decide) (by decide)) (fun _ _ h => tup_le2 (arr_mono (own_monoT h)) (Le.refl _)) (Args.cons rfl (by first | exact Le.refl _ | exact Le.old _ _ | exact arr_any | exact arr_ex | exact arrD_any | exact op_any | exact (Le.old _ _).trans arrD_any | exact (Le.old _ _).trans arr_any) (Args.cons rfl (by first | exact Le.refl _ | exact Le.old _ _ | exact arr_any | exact arr_ex | exact arrD_any | exact op_any | exact (Le.old _ _).trans arrD_any | exact (Le.old _ _).trans arr_any) (Args.cons rfl (by first | exact Le.refl _ | exact Le.old _ _ | exact arr_any | exact arr_ex | exact arrD_any | exact op_any | exact (Le.old _ _).trans arrD_any | exact (Le.old _ _).trans arr_any) Args.nil))))) ?_
 refine RM rfl ?_
 refine RS (ok_extract rfl rfl) ?_
 refine RS (ok_extract rfl rfl) ?_
 refine RN ?_
 refine ⟨_, _, eff_allocV (n := 181) (d := 5) (k := 1000005) zero30 (by decide), fun b5 hb5 => ?_⟩
 have hBb5 := hb5.1
 have hlt_b3_b5 : b3 < b5 := hb5.2.2 1000003 _ _ _ _ rfl
 refine TF 7 ?_
 refine RN ?_
 refine ⟨_, eff_storeK (n := 181) (s := 1000005) size30 rfl rfl (Le.refl _) (Agg.arr) hBb5 rfl (rfl) (Surv.arr (by intro h; first | exact absurd h.1 (by decide) | exact absurd h.1.1 (by decide) | exact absurd h.2 (by omega) | exact absurd h.1.2 (by omega) | exact absurd h.1.1.2 (by omega))) (LT 1000001 rfl (LT 1000002 rfl (LeftS.cons (t := 1000003) rfl (Surv.varK (by omega) (Surv.arr (by intro h; first | exact absurd h.1 (by decide) | exact absurd h.1.1 (by decide) | exact absurd h.2 (by omega) | exact absurd h.1.2 (by omega) | exact absurd h.1.1.2 (by omega)))) (LW [1, 2, 3, 4, 5, 32] rfl)))), ?_⟩
 refine TL ?_
 refine RVN 1 rfl ?_
 refine GS ?_
 refine RunTK.newG 5 (by decide) rfl (.inl rfl) ?_
 refine RS (ok_loadVK (s := 1000005) (by decide) Try.underlying30 rfl size30 rfl rfl) ?_
 refine RS (ok_call (Read_ok lvB 1 rfl (by decide)) (Args.cons rfl (by first | exact Le.refl _ | exact Le.old _ _ | exact arr_any | exact arr_ex | exact arrD_any | exact op_any | exact (Le.old _ _).trans arrD_any | exact (Le.old _ _).trans arr_any) (Args.cons rfl (by first | exact Le.refl _ | exact Le.old _ _ | exact arr_any | exact arr_ex | exact arrD_any | exact op_any | exact (Le.old _ _).trans arrD_any | exact (Le.old _ _).trans arr_any) Args.nil))) ?_
 refine RV 2 rfl ?_
 refine RZ (aggV (bkV (plain 3))) (by rfl) ?_
 refine RVN 1 rfl ?_
 refine ⟨_, _, _, eff_allocF (n := 181) (d := 7) (k := 1000007) [(1000003, (varK b3 30 2 (arrZ (zOwn 41 w₀.heap.size) true (zA 2))), fun b => varK b3 30 2 (arrZ (zCut (zOwn 41 w₀.heap.size) b) true (zA 2))), (1000005, (varK b5 30 2 (arrZ (zOwn 41 w₀.heap.size) true lvB)), fun b => varK b5 30 2 (arrZ (zCut (zOwn 41 w₀.heap.size) b) true lvB))] zero41 (by decide) (fun p hp => by simp only [List.mem_cons, List.not_mem_nil, or_false] at hp; rcases hp with rfl | rfl <;> exact ⟨rfl, by dsimp only; decide, fun w x h => by first | exact varK_arr_cut h | exact sli_cut h | exact ops_cut h | exact arr_cut h⟩), fun b7 hb7 => ?_⟩
 have hBb7 := hb7.1
 have hlt_b1_b7 : b1 < b7 := hb7.2.1 1000001 _ _ _ rfl
 have hlt_b2_b7 : b2 < b7 := hb7.2.1 1000002 _ _ _ rfl
 refine TF 6 ?_
 refine RN ?_
 refine ⟨_, eff_storeA (n := 181) (s := 1000007) (size41.of (bk_len _)) rfl rfl (bk_one _) hBb7 rfl (by simp only [bk_len]) (LB 1000001 rfl (LB 1000002 rfl (LeftS.cons (t := 1000003) rfl (Surv.varKT (by decide) (Surv.arr (by intro h; first | exact absurd h.1 (by decide) | exact absurd h.1.1 (by decide) | exact absurd h.2 (by omega) | exact absurd h.1.2 (by omega) | exact absurd h.1.1.2 (by omega)))) (LeftS.cons (t := 1000005) rfl (Surv.varKT (by decide) (Surv.arr (by intro h; first | exact absurd h.1 (by decide) | exact absurd h.1.1 (by decide) | exact absurd h.2 (by omega) | exact absurd h.1.2 (by omega) | exact absurd h.1.1.2 (by omega)))) (LW [1, 2, 3, 4, 5, 6, 7, 37] rfl))))), ?_⟩
 refine TL ?_
 refine RVN 1 rfl ?_
 refine A.sub (Sv [1, 2, 3, 4, 5, 6, 7, 8, 1000001, 1000002, 1000003, 1000005, 1000007] rfl) ?_
 refine GS ?_
 refine TN 5 ?_
 refine RS (ok_loadVK (s := 1000005) (by decide) Try.underlying30 rfl size30 rfl rfl) ?_
 refine RS (OpOk.raise (k := 1000007) (by decide) rfl (ok_callB (Crash_ok lvB rfl (by decide) (by decide)) (fun _ _ h => tup_le2 (arr_mono (own_monoT h)) (Le.refl _)) (Args.cons rfl (by first | exact Le.refl _ | exact Le.old _ _ | exact arr_any | exact arr_ex | exact arrD_any | exact op_any | exact (Le.old _ _).trans arrD_any | exact (Le.old _ _).trans arr_any) Args.nil))) ?_
 refine RM rfl ?_
 refine RS (ok_extract rfl rfl) ?_
 refine RS (ok_extract rfl rfl) ?_
 refine RN ?_
 refine ⟨_, _, eff_allocV (n := 181) (d := 9) (k := 1000009) zero30 (by decide), fun b9 hb9 => ?_⟩
 have hBb9 := hb9.1
 have hlt_b3_b9 : b3 < b9 := hb9.2.2 1000003 _ _ _ _ rfl
 have hlt_b5_b9 : b5 < b9 := hb9.2.2 1000005 _ _ _ _ rfl
 refine TF 6 ?_
 refine RN ?_
 refine ⟨_, eff_storeK (n := 181) (s := 1000009) size30 rfl rfl (Le.refl _) (Agg.arr) hBb9 rfl (rfl) (Surv.arr (by intro h; first | exact absurd h.1 (by decide) | exact absurd h.1.1 (by decide) | exact absurd h.2 (by omega) | exact absurd h.1.2 (by omega) | exact absurd h.1.1.2 (by omega))) (LT 1000001 rfl (LT 1000002 rfl (LeftS.cons (t := 1000003) rfl (Surv.varK (by omega) (Surv.arr (by intro h; first | exact absurd h.1 (by decide) | exact absurd h.1.1 (by decide) | exact absurd h.2 (by omega) | exact absurd h.1.2 (by omega) | exact absurd h.1.1.2 (by omega)))) (LeftS.cons (t := 1000005) rfl (Surv.varK (by omega) (Surv.arr (by intro h; first | exact absurd h.1 (by decide) | exact absurd h.1.1 (by decide) | exact absurd h.2 (by omega) | exact absurd h.1.2 (by omega) | exact absurd h.1.1.2 (by omega)))) (LT 1000007 rfl (LW [1, 2, 3, 4, 5, 6, 7, 8, 9, 42] rfl)))))), ?_⟩
 refine TL ?_
 refine RVN 1 rfl ?_
 refine GS ?_
 refine RunTK.newG 5 (by decide) rfl (.inl rfl) ?_
 refine RS (ok_loadVK (s := 1000009) (by decide) Try.underlying30 rfl size30 rfl rfl) ?_
 refine RS (ok_call (Read_ok lvC 1 rfl (by decide)) (Args.cons rfl (by first | exact Le.refl _ | exact Le.old _ _ | exact arr_any | exact arr_ex | exact arrD_any | exact op_any | exact (Le.old _ _).trans arrD_any | exact (Le.old _ _).trans arr_any) (Args.cons rfl (by first | exact Le.refl _ | exact Le.old _ _ | exact arr_any | exact arr_ex | exact arrD_any | exact op_any | exact (Le.old _ _).trans arrD_any | exact (Le.old _ _).trans arr_any) Args.nil))) ?_
 refine RV 2 rfl ?_
 refine RZ (aggV (bkV zB)) (by rfl) ?_
 refine RVN 1 rfl ?_
 refine ⟨_, _, _, eff_allocF (n := 181) (d := 11) (k := 1000011) [(1000009, (varK b9 30 2 (arrZ (zOwn 41 (b7 + 1)) true lvC)), fun b => varK b9 30 2 (arrZ (zCut (zOwn 41 (b7 + 1)) b) true lvC))] zero41 (by decide) (fun p hp => by simp only [List.mem_cons, List.not_mem_nil, or_false] at hp; rcases hp with rfl <;> exact ⟨rfl, by dsimp only; decide, fun w x h => by first | exact varK_arr_cut h | exact sli_cut h | exact ops_cut h | exact arr_cut h⟩), fun b11 hb11 => ?_⟩
 have hBb11 := hb11.1
 have hlt_b1_b11 : b1 < b11 := hb11.2.1 1000001 _ _ _ rfl
 have hlt_b2_b11 : b2 < b11 := hb11.2.1 1000002 _ _ _ rfl
 have hlt_b7_b11 : b7 < b11 := hb11.2.1 1000007 _ _ _ rfl
 refine TF 6 ?_
 refine RN ?_
 refine ⟨_, eff_storeA (n := 181) (s := 1000011) (size41.of (bk_len _)) rfl rfl (bk_one _) hBb11 rfl (by simp only [bk_len]) (LB 1000001 rfl (LB 1000002 rfl (LeftS.cons (t := 1000003) rfl (Surv.varKT (by decide) (Surv.arr (by intro h; first | exact absurd h.1 (by decide) | exact absurd h.1.1 (by decide) | exact absurd h.2 (by omega) | exact absurd h.1.2 (by omega) | exact absurd h.1.1.2 (by omega)))) (LeftS.cons (t := 1000005) rfl (Surv.varKT (by decide) (Surv.arr (by intro h; first | exact absurd h.1 (by decide) | exact absurd h.1.1 (by decide) | exact absurd h.2 (by omega) | exact absurd h.1.2 (by omega) | exact absurd h.1.1.2 (by omega)))) (LB 1000007 rfl (LeftS.cons (t := 1000009) rfl (Surv.varKT (by decide) (Surv.arr (by intro h; first | exact absurd h.1 (by decide) | exact absurd h.1.1 (by decide) | exact absurd h.2 (by omega) | exact absurd h.1.2 (by omega) | exact absurd h.1.1.2 (by omega)))) (LW [1, 2, 3, 4, 5, 6, 7, 8, 10, 11, 47] rfl))))))), ?_⟩
 refine TL ?_
 refine RVN 1 rfl ?_
 refine QS ?_
 refine GT ?_
 refine RV 3 rfl ?_
 refine RZ (.int .i64 0) (by rfl) ?_
 refine RV 2 rfl ?_
 refine RZ (.int .i64 0) (by rfl) ?_
 refine RV 2 rfl ?_
 refine RZ (.int .i64 0) (by rfl) ?_
 refine RV 2 rfl ?_
 refine RZ (.int .i64 0) (by rfl) ?_
 refine RB rfl rfl rfl ?_
 refine RF ?_
 refine RM rfl ?_
 refine RQ (ok_loadA (s := 1000007) (by decide) Try.underlying41 rfl (size41.of (bk_len _)) rfl rfl) ?_
 refine RQ (ok_loadA (s := 1000001) (by decide) Try.underlying41 rfl (size41.of (bk_len _)) rfl rfl) ?_
 refine RQ (ok_neqT (n := 4) true flat41 (by decide) (by kernel_rfl) (by kernel_rfl) rfl rfl (kinBk _) (kinBk _) (iff_of_true rfl rfl)) ?_; refine RZ (.bool false) (by first | rfl | (simp; done) | (simp; omega) | (simp [*]; done) | (simp [*]; omega)) ?_
 refine RV 2 rfl ?_
 refine RQ (ok_loadA (s := 1000011) (by decide) Try.underlying41 rfl (size41.of (bk_len _)) rfl rfl) ?_
 refine RQ (ok_litP [] Try.underlying41 info5 zero41 (by decide) trivial rfl) ?_; refine RZ (aggV (bkV zB)) (by rfl) ?_
 refine RQ (ok_neqT (n := 4) true flat41 (by decide) (by kernel_rfl) (by kernel_rfl) rfl rfl (kinBk _) (kinBk _) (iff_of_true rfl rfl)) ?_; refine RZ (.bool false) (by first | rfl | (simp; done) | (simp; omega) | (simp [*]; done) | (simp [*]; omega)) ?_
 refine RVN 1 rfl ?_
 refine A.sub (Sv [1, 2, 3, 5, 7, 67, 1000001, 1000002, 1000003, 1000005, 1000007, 1000009, 1000011] rfl) ?_
 refine A.no rfl ?_
 refine QK ?_
 refine GS ?_
 refine TN 5 ?_
 refine RS (ok_loadVK (s := 1000005) (by decide) Try.underlying30 rfl size30 rfl rfl) ?_
 refine RS (OpOk.raise (k := 1000011) (by decide) rfl (ok_callB (Flush_ok lvB rfl (by decide) (by decide)) (fun _ _ h => tup_le2 (arr_mono (own_monoT h)) (Le.refl _)) (Args.cons rfl (by first | exact Le.refl _ | exact Le.old _ _ | exact arr_any | exact arr_ex | exact arrD_any | exact op_any | exact (Le.old _ _).trans arrD_any | exact (Le.old _ _).trans arr_any) Args.nil))) ?_
 refine RM rfl ?_
 refine RS (ok_extract rfl rfl) ?_
 refine RS (ok_extract rfl rfl) ?_
 refine RN ?_
 refine ⟨_, _, eff_allocV (n := 181) (d := 13) (k := 1000013) zero30 (by decide), fun b13 hb13 => ?_⟩
 have hBb13 := hb13.1
 have hlt_b3_b13 : b3 < b13 := hb13.2.2 1000003 _ _ _ _ rfl
 have hlt_b5_b13 : b5 < b13 := hb13.2.2 1000005 _ _ _ _ rfl
 have hlt_b9_b13 : b9 < b13 := hb13.2.2 1000009 _ _ _ _ rfl
 refine TF 6 ?_
 refine RN ?_
 refine ⟨_, eff_storeK (n := 181) (s := 1000013) size30 rfl rfl (Le.refl _) (Agg.arr) hBb13 rfl (rfl) (Surv.arr (by intro h; first | exact absurd h.1 (by decide) | exact absurd h.1.1 (by decide) | exact absurd h.2 (by omega) | exact absurd h.1.2 (by omega) | exact absurd h.1.1.2 (by omega))) (LT 1000001 rfl (LT 1000002 rfl (LeftS.cons (t := 1000003) rfl (Surv.varK (by omega) (Surv.arr (by intro h; first | exact absurd h.1 (by decide) | exact absurd h.1.1 (by decide) | exact absurd h.2 (by omega) | exact absurd h.1.2 (by omega) | exact absurd h.1.1.2 (by omega)))) (LeftS.cons (t := 1000005) rfl (Surv.varK (by omega) (Surv.arr (by intro h; first | exact absurd h.1 (by decide) | exact absurd h.1.1 (by decide) | exact absurd h.2 (by omega) | exact absurd h.1.2 (by omega) | exact absurd h.1.1.2 (by omega)))) (LT 1000007 rfl (LeftS.cons (t := 1000009) rfl (Surv.varK (by omega) (Surv.arr (by intro h; first | exact absurd h.1 (by decide) | exact absurd h.1.1 (by decide) | exact absurd h.2 (by omega) | exact absurd h.1.2 (by omega) | exact absurd h.1.1.2 (by omega)))) (LT 1000011 rfl (LW [1, 2, 3, 5, 7, 13, 72] rfl)))))))), ?_⟩
 refine TL ?_
 refine RVN 1 rfl ?_
 refine GS ?_
 refine TF 6 ?_
 refine RS (ok_loadVK (s := 1000013) (by decide) Try.underlying30 rfl size30 rfl rfl) ?_
 refine RS (ok_loadA (s := 1000002) (by decide) Try.underlying41 rfl (size41.of (bk_len _)) rfl rfl) ?_
 refine RS (OpOk.raise (k := 1000011) (by decide) rfl (ok_callB (Write_ok lvD 1 (plain 4) rfl (by decide) (by decide) (by decide)) (fun _ _ h => tup_le2 (arr_mono (own_monoT h)) (Le.refl _)) (Args.cons rfl (by first | exact Le.refl _ | exact Le.old _ _ | exact arr_any | exact arr_ex | exact arrD_any | exact op_any | exact (Le.old _ _).trans arrD_any | exact (Le.old _ _).trans arr_any) (Args.cons rfl (by first | exact Le.refl _ | exact Le.old _ _ | exact arr_any | exact arr_ex | exact arrD_any | exact op_any | exact (Le.old _ _).trans arrD_any | exact (Le.old _ _).trans arr_any) (Args.cons rfl (by first | exact Le.refl _ | exact Le.old _ _ | exact arr_any | exact arr_ex | exact arrD_any | exact op_any | exact (Le.old _ _).trans arrD_any | exact (Le.old _ _).trans arr_any) Args.nil))))) ?_
 refine RM rfl ?_
 refine RS (ok_extract rfl rfl) ?_
 refine RS (ok_extract rfl rfl) ?_
 refine RN ?_
 refine ⟨_, eff_storeKK (n := 181) (s := 1000013) size30 rfl rfl (Le.refl _) (Agg.arr) hBb13 rfl (Surv.arr (by intro h; first | exact absurd h.1 (by decide) | exact absurd h.1.1 (by decide) | exact absurd h.2 (by omega) | exact absurd h.1.2 (by omega) | exact absurd h.1.1.2 (by omega))) (LT 1000001 rfl (LT 1000002 rfl (LeftS.cons (t := 1000003) rfl (Surv.varK (by omega) (Surv.arr (by intro h; first | exact absurd h.1 (by decide) | exact absurd h.1.1 (by decide) | exact absurd h.2 (by omega) | exact absurd h.1.2 (by omega) | exact absurd h.1.1.2 (by omega)))) (LeftS.cons (t := 1000005) rfl (Surv.varK (by omega) (Surv.arr (by intro h; first | exact absurd h.1 (by decide) | exact absurd h.1.1 (by decide) | exact absurd h.2 (by omega) | exact absurd h.1.2 (by omega) | exact absurd h.1.1.2 (by omega)))) (LT 1000007 rfl (LeftS.cons (t := 1000009) rfl (Surv.varK (by omega) (Surv.arr (by intro h; first | exact absurd h.1 (by decide) | exact absurd h.1.1 (by decide) | exact absurd h.2 (by omega) | exact absurd h.1.2 (by omega) | exact absurd h.1.1.2 (by omega)))) (LT 1000011 rfl (LW [1, 3, 4, 5, 7, 13, 78] rfl)))))))), ?_⟩
 refine TL ?_
 refine RVN 1 rfl ?_
 refine GS ?_
 refine TF 5 ?_
 refine RS (ok_loadVK (s := 1000013) (by decide) Try.underlying30 rfl size30 rfl rfl) ?_
 refine RS (OpOk.raise (k := 1000011) (by decide) rfl (ok_callB (Crash_ok lvE rfl (by decide) (by decide)) (fun _ _ h => tup_le2 (arr_mono (own_monoT h)) (Le.refl _)) (Args.cons rfl (by first | exact Le.refl _ | exact Le.old _ _ | exact arr_any | exact arr_ex | exact arrD_any | exact op_any | exact (Le.old _ _).trans arrD_any | exact (Le.old _ _).trans arr_any) Args.nil))) ?_
 refine RM rfl ?_
 refine RS (ok_extract rfl rfl) ?_
 refine RS (ok_extract rfl rfl) ?_
 refine RN ?_
 refine ⟨_, eff_storeKK (n := 181) (s := 1000013) size30 rfl rfl (Le.refl _) (Agg.arr) hBb13 rfl (Surv.arr (by intro h; first | exact absurd h.1 (by decide) | exact absurd h.1.1 (by decide) | exact absurd h.2 (by omega) | exact absurd h.1.2 (by omega) | exact absurd h.1.1.2 (by omega))) (LT 1000001 rfl (LT 1000002 rfl (LeftS.cons (t := 1000003) rfl (Surv.varK (by omega) (Surv.arr (by intro h; first | exact absurd h.1 (by decide) | exact absurd h.1.1 (by decide) | exact absurd h.2 (by omega) | exact absurd h.1.2 (by omega) | exact absurd h.1.1.2 (by omega)))) (LeftS.cons (t := 1000005) rfl (Surv.varK (by omega) (Surv.arr (by intro h; first | exact absurd h.1 (by decide) | exact absurd h.1.1 (by decide) | exact absurd h.2 (by omega) | exact absurd h.1.2 (by omega) | exact absurd h.1.1.2 (by omega)))) (LT 1000007 rfl (LeftS.cons (t := 1000009) rfl (Surv.varK (by omega) (Surv.arr (by intro h; first | exact absurd h.1 (by decide) | exact absurd h.1.1 (by decide) | exact absurd h.2 (by omega) | exact absurd h.1.2 (by omega) | exact absurd h.1.1.2 (by omega)))) (LT 1000011 rfl (LW [1, 3, 4, 5, 6, 7, 13, 83] rfl)))))))), ?_⟩
 refine TL ?_
 refine RVN 1 rfl ?_
 refine GS ?_
 refine TF 5 ?_
 refine RS (ok_loadVK (s := 1000013) (by decide) Try.underlying30 rfl size30 rfl rfl) ?_
 refine RS (ok_call (Read_ok lvF 1 rfl (by decide)) (Args.cons rfl (by first | exact Le.refl _ | exact Le.old _ _ | exact arr_any | exact arr_ex | exact arrD_any | exact op_any | exact (Le.old _ _).trans arrD_any | exact (Le.old _ _).trans arr_any) (Args.cons rfl (by first | exact Le.refl _ | exact Le.old _ _ | exact arr_any | exact arr_ex | exact arrD_any | exact op_any | exact (Le.old _ _).trans arrD_any | exact (Le.old _ _).trans arr_any) Args.nil))) ?_
 refine RV 2 rfl ?_
 refine RZ (aggV (bkV (plain 3))) (by rfl) ?_
 refine RVN 1 rfl ?_
 refine ⟨_, eff_storeA (n := 181) (s := 1000007) (size41.of (bk_len _)) rfl rfl (bk_one _) hBb7 rfl (by simp only [bk_len]) (LB 1000001 rfl (LB 1000002 rfl (LeftS.cons (t := 1000003) rfl (Surv.varKT (by decide) (Surv.arr (by intro h; first | exact absurd h.1 (by decide) | exact absurd h.1.1 (by decide) | exact absurd h.2 (by omega) | exact absurd h.1.2 (by omega) | exact absurd h.1.1.2 (by omega)))) (LeftS.cons (t := 1000005) rfl (Surv.varKT (by decide) (Surv.arr (by intro h; first | exact absurd h.1 (by decide) | exact absurd h.1.1 (by decide) | exact absurd h.2 (by omega) | exact absurd h.1.2 (by omega) | exact absurd h.1.1.2 (by omega)))) (LeftS.cons (t := 1000009) rfl (Surv.varKT (by decide) (Surv.arr (by intro h; first | exact absurd h.1 (by decide) | exact absurd h.1.1 (by decide) | exact absurd h.2 (by omega) | exact absurd h.1.2 (by omega) | exact absurd h.1.1.2 (by omega)))) (LB 1000011 rfl (LeftS.cons (t := 1000013) rfl (Surv.varKT (by decide) (Surv.arr (by intro h; first | exact absurd h.1 (by decide) | exact absurd h.1.1 (by decide) | exact absurd h.2 (by omega) | exact absurd h.1.2 (by omega) | exact absurd h.1.1.2 (by omega)))) (LW [1, 3, 4, 5, 6, 7, 8, 88] rfl)))))))), ?_⟩
 refine TL ?_
 refine RVN 1 rfl ?_
 refine A.sub (Sv [1, 3, 4, 5, 6, 7, 8, 10, 1000001, 1000002, 1000003, 1000005, 1000007, 1000009, 1000011, 1000013] rfl) ?_
 refine GT ?_
 refine RS (ok_loadVK (s := 1000003) (by decide) Try.underlying30 rfl size30 rfl rfl) ?_
 refine RS (ok_loadVK (s := 1000005) (by decide) Try.underlying30 rfl size30 rfl rfl) ?_
 refine RS (ok_call (Differ_ok (zA 2) lvB rfl rfl rfl (by decide)) (Args.cons rfl (by first | exact Le.refl _ | exact Le.old _ _ | exact arr_any | exact arr_ex | exact arrD_any | exact op_any | exact (Le.old _ _).trans arrD_any | exact (Le.old _ _).trans arr_any) (Args.cons rfl (by first | exact Le.refl _ | exact Le.old _ _ | exact arr_any | exact arr_ex | exact arrD_any | exact op_any | exact (Le.old _ _).trans arrD_any | exact (Le.old _ _).trans arr_any) Args.nil))) ?_
 refine RM rfl ?_
 refine RS (ok_extract rfl rfl) ?_
 refine RS (ok_extract rfl rfl) ?_
 refine RVN 2 rfl ?_
 refine QS ?_
 refine GT ?_
 refine RV 3 rfl ?_
 refine RZ (.int .i64 0) (by rfl) ?_
 refine RV 2 rfl ?_
 refine RZ (.int .i64 0) (by rfl) ?_
 refine RV 2 rfl ?_
 refine RZ (.int .i64 0) (by rfl) ?_
 refine RV 2 rfl ?_
 refine RZ (.int .i64 0) (by rfl) ?_
 refine RB rfl rfl rfl ?_
 refine RF ?_
 refine RM rfl ?_
 refine RQ (ok_loadA (s := 1000007) (by decide) Try.underlying41 rfl (size41.of (bk_len _)) rfl rfl) ?_
 refine RQ (ok_loadA (s := 1000001) (by decide) Try.underlying41 rfl (size41.of (bk_len _)) rfl rfl) ?_
 refine RQ (ok_neqT (n := 4) true flat41 (by decide) (by kernel_rfl) (by kernel_rfl) rfl rfl (kinBk _) (kinBk _) (iff_of_true rfl rfl)) ?_; refine RZ (.bool false) (by first | rfl | (simp; done) | (simp; omega) | (simp [*]; done) | (simp [*]; omega)) ?_
 refine RV 3 rfl ?_
 refine RQ (ok_lenRD Try.underlying63 rfl rowG_rowD) ?_; refine RZ (nI (1)) (by rw [show (zA 2).now.length = 2 from rfl, lv_dif]; rfl) ?_
 refine RQ (ok_bin rfl rfl rfl) ?_
 refine RF ?_
 refine RV 3 rfl ?_
 refine RQ ((ok_indexRD 0 Try.underlying63 infoI rfl rowG_rowD rfl (by rw [show (zA 2).now.length = 2 from rfl, lv_dif]; decide) (by rw [show (zA 2).now.length = 2 from rfl, lv_dif]; decide))) ?_
 refine RQ (ok_loadP1 (u := nI 1) (us := []) Try.underlying3 rfl (by show some (elemP _) = _; rw [show (zA 2).now.length = 2 from rfl, lv_dif]; rfl)) ?_
 refine RQ (ok_bin rfl rfl rfl) ?_
 refine RF ?_
 refine RVN 1 rfl ?_
 refine A.sub (Sv [1, 3, 120, 1000001, 1000002, 1000003, 1000005, 1000007, 1000009, 1000011, 1000013] rfl) ?_
 refine A.no rfl ?_
 refine QK ?_
 refine GS ?_
 refine TN 7 ?_
 refine RS (ok_loadVK (s := 1000003) (by decide) Try.underlying30 rfl size30 rfl rfl) ?_
 refine RS (ok_litS [(0, byteV 1), (1, .int .i64 2)] [byteV 1, .int .i64 2, .slice none 0 0] ⟨rfl, rfl, rfl, rfl, trivial⟩ (buildO2 1 2)) ?_
 refine RS ((ok_callB (Do_ok (zA 2) ⟨1, 2, []⟩ rfl (by decide) (by decide) rfl) (fun _ _ h => tup_le3 (arr_mono (own_monoT h)) (Le.refl _) (Le.refl _)) (Args.cons rfl (by first | exact Le.refl _ | exact Le.old _ _ | exact arr_any | exact arr_ex | exact arrD_any | exact op_any | exact (Le.old _ _).trans arrD_any | exact (Le.old _ _).trans arr_any) (Args.cons rfl ((op_nil (Z := zAny)).trans op_any) Args.nil)))) ?_
 refine RM rfl ?_
 refine RS (ok_extract rfl rfl) ?_
 refine RS (ok_extract rfl rfl) ?_; refine RZ (aggV (rsV (zB, 1))) (by rfl) ?_
 refine RS (ok_extract rfl rfl) ?_
 refine RN ?_
 refine ⟨_, _, eff_allocV (n := 181) (d := 15) (k := 1000015) zero30 (by decide), fun b15 hb15 => ?_⟩
 have hBb15 := hb15.1
 have hlt_b3_b15 : b3 < b15 := hb15.2.2 1000003 _ _ _ _ rfl
 have hlt_b5_b15 : b5 < b15 := hb15.2.2 1000005 _ _ _ _ rfl
 have hlt_b9_b15 : b9 < b15 := hb15.2.2 1000009 _ _ _ _ rfl
 have hlt_b13_b15 : b13 < b15 := hb15.2.2 1000013 _ _ _ _ rfl
 refine TN 8 ?_
 refine RN ?_
 refine ⟨_, _, eff_allocV (n := 181) (d := 16) (k := 1000016) zero49 (by decide), fun b16 hb16 => ?_⟩
 have hBb16 := hb16.1
 refine TF 9 ?_
 refine RN ?_
 refine ⟨_, eff_storeK (n := 181) (s := 1000015) size30 rfl rfl (Le.refl _) (Agg.arr) hBb15 rfl (rfl) (Surv.arr (by intro h; first | exact absurd h.1 (by decide) | exact absurd h.1.1 (by decide) | exact absurd h.2 (by omega) | exact absurd h.1.2 (by omega) | exact absurd h.1.1.2 (by omega))) (LT 1000001 rfl (LT 1000002 rfl (LeftS.cons (t := 1000003) rfl (Surv.varK (by omega) (Surv.arr (by intro h; first | exact absurd h.1 (by decide) | exact absurd h.1.1 (by decide) | exact absurd h.2 (by omega) | exact absurd h.1.2 (by omega) | exact absurd h.1.1.2 (by omega)))) (LeftS.cons (t := 1000005) rfl (Surv.varK (by omega) (Surv.arr (by intro h; first | exact absurd h.1 (by decide) | exact absurd h.1.1 (by decide) | exact absurd h.2 (by omega) | exact absurd h.1.2 (by omega) | exact absurd h.1.1.2 (by omega)))) (LT 1000007 rfl (LeftS.cons (t := 1000009) rfl (Surv.varK (by omega) (Surv.arr (by intro h; first | exact absurd h.1 (by decide) | exact absurd h.1.1 (by decide) | exact absurd h.2 (by omega) | exact absurd h.1.2 (by omega) | exact absurd h.1.1.2 (by omega)))) (LT 1000011 rfl (LeftS.cons (t := 1000013) rfl (Surv.varK (by omega) (Surv.arr (by intro h; first | exact absurd h.1 (by decide) | exact absurd h.1.1 (by decide) | exact absurd h.2 (by omega) | exact absurd h.1.2 (by omega) | exact absurd h.1.1.2 (by omega)))) (LT 1000016 rfl (LW [1, 3, 16, 126, 127] rfl)))))))))), ?_⟩
 refine TF 10 ?_
 refine RN ?_
 refine ⟨_, eff_storeA (n := 181) (s := 1000016) (size49.of (rs_len _)) rfl rfl (rs_one _) hBb16 rfl (by simp only [rs_len]) (LT 1000001 rfl (LT 1000002 rfl (LeftS.cons (t := 1000003) rfl (Surv.varKT (by decide) (Surv.arr (by intro h; first | exact absurd h.1 (by decide) | exact absurd h.1.1 (by decide) | exact absurd h.2 (by omega) | exact absurd h.1.2 (by omega) | exact absurd h.1.1.2 (by omega)))) (LeftS.cons (t := 1000005) rfl (Surv.varKT (by decide) (Surv.arr (by intro h; first | exact absurd h.1 (by decide) | exact absurd h.1.1 (by decide) | exact absurd h.2 (by omega) | exact absurd h.1.2 (by omega) | exact absurd h.1.1.2 (by omega)))) (LT 1000007 rfl (LeftS.cons (t := 1000009) rfl (Surv.varKT (by decide) (Surv.arr (by intro h; first | exact absurd h.1 (by decide) | exact absurd h.1.1 (by decide) | exact absurd h.2 (by omega) | exact absurd h.1.2 (by omega) | exact absurd h.1.1.2 (by omega)))) (LT 1000011 rfl (LeftS.cons (t := 1000013) rfl (Surv.varKT (by decide) (Surv.arr (by intro h; first | exact absurd h.1 (by decide) | exact absurd h.1.1 (by decide) | exact absurd h.2 (by omega) | exact absurd h.1.2 (by omega) | exact absurd h.1.1.2 (by omega)))) (LeftS.cons (t := 1000015) rfl (Surv.varKT (by decide) (Surv.arr (by intro h; first | exact absurd h.1 (by decide) | exact absurd h.1.1 (by decide) | exact absurd h.2 (by omega) | exact absurd h.1.2 (by omega) | exact absurd h.1.1.2 (by omega)))) (LW [1, 3, 16, 127] rfl)))))))))), ?_⟩
 refine TL ?_
 refine RVN 1 rfl ?_
 refine A.regsF [⟨8, 17, 30, [.slice none 0 0] ++ [.slice none 0 0], 10, 2, arrZ (zOwn 41 w₀.heap.size) true (stepA (zA 2) ⟨2, 0, (plain 3).1.take 31⟩).1⟩, ⟨9, 18, 49, rsV zR, 11, 33, .v (aggV (rsV (zB, 1)))⟩] (by kernel_rfl) (by kernel_rfl) (by kernel_rfl) (SurvF.cons (SurvF.cons (fun B' g hg => (show Surv B' 30 g _ from Surv.arr (by intro h; first | exact absurd h.1 (by decide) | exact absurd h.1.1 (by decide) | exact absurd h.2 (by omega) | exact absurd h.1.2 (by omega) | exact absurd h.1.1.2 (by omega)))) (SurvF.cons (fun B' g hg => (show Surv B' 49 g _ from Surv.arr (by intro h; first | exact absurd h.1 (by decide) | exact absurd h.1.1 (by decide) | exact absurd h.2 (by omega) | exact absurd h.1.2 (by omega) | exact absurd h.1.1.2 (by omega)))) (SurvF.nil rfl))) (SurvF.cons (SurvF.cons (fun B' g hg => (show Surv B' 30 g _ from Surv.v _)) (SurvF.cons (fun B' g hg => (show Surv B' 49 g _ from Surv.v _)) (SurvF.nil rfl))) (SurvF.nil rfl))) ?_
 refine KofsK.pure (_) rfl rfl FromF.all (ok_loadVK (s := 1000003) (by decide) Try.underlying30 rfl size30 rfl rfl) (SurvF.cons (fun B' g hg => (show Surv B' 30 g _ from Surv.arr (by intro h; first | exact absurd h.1 (by decide) | exact absurd h.1.1 (by decide) | exact absurd h.2 (by omega) | exact absurd h.1.2 (by omega) | exact absurd h.1.1.2 (by omega)))) (SurvF.cons (fun B' g hg => (show Surv B' 49 g _ from Surv.arr (by intro h; first | exact absurd h.1 (by decide) | exact absurd h.1.1 (by decide) | exact absurd h.2 (by omega) | exact absurd h.1.2 (by omega) | exact absurd h.1.1.2 (by omega)))) (SurvF.nil rfl))) ?_
 refine KofsK.pure (_) rfl rfl FromF.all (OpOk.asV (.slice (some ⟨b1, 0, none⟩) 31 32) (by rfl) ((ok_sliceX (l := 0) (h := 31) (m := 32) Try.underlying41 info5 rfl (.inr ⟨rfl, rfl⟩) (.inl ⟨_, _, rfl, rfl⟩) (.inr ⟨rfl, rfl⟩) (by decide) (by decide) (by decide) (.inr rfl)))) (SurvF.cons (fun B' g hg => (show Surv B' 30 g _ from Surv.v _)) (SurvF.cons (fun B' g hg => (show Surv B' 49 g _ from Surv.v _)) (SurvF.nil rfl))) ?_
 refine KofsK.pure ((130, _) :: _) rfl rfl (FromF.op 1 (by kernel_rfl) rfl rfl FromF.all) (OpOk.opB (Z := zOwn 41 0) (p := ⟨2, 0, (plain 3).1.take 31⟩) (k := 1000001) (q := 32) (ok_litS [(0, byteV 2), (2, .slice (some ⟨b1, 0, none⟩) 31 32)] [byteV 2, .int .i64 0, .slice (some ⟨b1, 0, none⟩) 31 32] ⟨rfl, rfl, rfl, rfl, trivial⟩ (buildO4 _ _ _ _)) (by decide) (by decide) rfl ⟨rfl, Nat.zero_le _⟩ (fun j u h => by rw [List.map_take, List.getElem?_take] at h; split at h; exact h; cases h)) (SurvF.cons (fun B' g hg => (show Surv B' 30 g _ from Surv.opz (fun h => absurd h.1 (by decide)))) (SurvF.cons (fun B' g hg => (show Surv B' 49 g _ from Surv.opz (fun h => absurd h.1 (by decide)))) (SurvF.nil rfl))) ?_
 refine KofsK.pure ((129, _) :: (131, _) :: _) rfl rfl (FromF.op 0 (by kernel_rfl) rfl rfl (FromF.op 2 (by kernel_rfl) rfl rfl FromF.all)) ((ok_callB (Do_ok (zA 2) ⟨2, 0, (plain 3).1.take 31⟩ rfl (by decide) (by decide) rfl) (fun _ _ h => tup_le3 (arr_mono (own_monoT h)) (Le.refl _) (Le.refl _)) (Args.cons rfl (by first | exact Le.refl _ | exact Le.old _ _ | exact arr_any | exact arr_ex | exact arrD_any | exact op_any | exact (Le.old _ _).trans arrD_any | exact (Le.old _ _).trans arr_any) (Args.cons rfl (by first | exact Le.refl _ | exact Le.old _ _ | exact arr_any | exact arr_ex | exact arrD_any | exact op_any | exact (Le.old _ _).trans arrD_any | exact (Le.old _ _).trans arr_any) Args.nil)))) (SurvF.cons (fun B' g hg => (show Surv B' 30 g _ from Surv.tup3 (Surv.arr (by intro h; first | exact absurd h.1 (by decide) | exact absurd h.1.1 (by decide) | exact absurd h.2 (by omega) | exact absurd h.1.2 (by omega) | exact absurd h.1.1.2 (by omega))) (Surv.v _) (Surv.v _))) (SurvF.cons (fun B' g hg => (show Surv B' 49 g _ from Surv.tup3 (Surv.arr (by intro h; first | exact absurd h.1 (by decide) | exact absurd h.1.1 (by decide) | exact absurd h.2 (by omega) | exact absurd h.1.2 (by omega) | exact absurd h.1.1.2 (by omega))) (Surv.v _) (Surv.v _))) (SurvF.nil rfl))) ?_
 refine KofsK.pure ((132, _) :: _) rfl rfl (FromF.op 3 (by kernel_rfl) rfl rfl FromF.all) (ok_move rfl) (SurvF.cons (fun B' g hg => (show Surv B' 30 g _ from Surv.tup3 (Surv.arr (by intro h; first | exact absurd h.1 (by decide) | exact absurd h.1.1 (by decide) | exact absurd h.2 (by omega) | exact absurd h.1.2 (by omega) | exact absurd h.1.1.2 (by omega))) (Surv.v _) (Surv.v _))) (SurvF.cons (fun B' g hg => (show Surv B' 49 g _ from Surv.tup3 (Surv.arr (by intro h; first | exact absurd h.1 (by decide) | exact absurd h.1.1 (by decide) | exact absurd h.2 (by omega) | exact absurd h.1.2 (by omega) | exact absurd h.1.1.2 (by omega))) (Surv.v _) (Surv.v _))) (SurvF.nil rfl))) ?_
 refine KofsK.pure ((128, _) :: _) rfl rfl (FromF.op 4 (by kernel_rfl) rfl rfl FromF.all) (ok_extract rfl rfl) (SurvF.cons (fun B' g hg => (show Surv B' 30 g _ from Surv.arr (by intro h; first | exact absurd h.1 (by decide) | exact absurd h.1.1 (by decide) | exact absurd h.2 (by omega) | exact absurd h.1.2 (by omega) | exact absurd h.1.1.2 (by omega)))) (SurvF.cons (fun B' g hg => (show Surv B' 49 g _ from Surv.arr (by intro h; first | exact absurd h.1 (by decide) | exact absurd h.1.1 (by decide) | exact absurd h.2 (by omega) | exact absurd h.1.2 (by omega) | exact absurd h.1.1.2 (by omega)))) (SurvF.nil rfl))) ?_
 refine KofsK.pure ((128, _) :: _) rfl rfl (FromF.op 4 (by kernel_rfl) rfl rfl FromF.all) (OpOk.asV (aggV (rsV (zB, 1))) (by rfl) (ok_extract rfl rfl)) (SurvF.cons (fun B' g hg => (show Surv B' 30 g _ from Surv.v _)) (SurvF.cons (fun B' g hg => (show Surv B' 49 g _ from Surv.v _)) (SurvF.nil rfl))) ?_
 refine KofsK.pure ((128, _) :: _) rfl rfl (FromF.op 4 (by kernel_rfl) rfl rfl FromF.all) (ok_extract rfl rfl) (SurvF.cons (fun B' g hg => (show Surv B' 30 g _ from Surv.v _)) (SurvF.cons (fun B' g hg => (show Surv B' 49 g _ from Surv.v _)) (SurvF.nil rfl))) ?_
 refine KofsK.alloc 0 rfl rfl rfl rfl zero30 rfl ?_
 refine KofsK.alloc 1 rfl rfl rfl rfl zero49 rfl ?_
 refine KofsK.store 0 ((133, _) :: _) rfl rfl rfl rfl (by kernel_rfl) (FromF.op 5 (by kernel_rfl) rfl rfl FromF.all) rfl (Le.refl _) size30 rfl (Agg.arr) ?_
 refine KofsK.store 1 ((134, _) :: _) rfl rfl rfl rfl (by kernel_rfl) (FromF.op 6 (by kernel_rfl) rfl rfl FromF.all) rfl (Le.refl _) size49 rfl (Agg.val (rs_len _) (rs_one _)) ?_
 refine KofsK.pure ((135, _) :: _) rfl rfl (FromF.op 7 (by kernel_rfl) rfl rfl FromF.all) (ok_assign rfl) (SurvF.cons (fun B' g hg => (show Surv B' 30 g _ from Surv.v _)) (SurvF.cons (fun B' g hg => (show Surv B' 49 g _ from Surv.v _)) (SurvF.nil rfl))) ?_
 refine KofsK.nil ⟨by kernel_rfl, _, (FromFW.op (t := 6) 12 rfl rfl FromFW.all), fun bs hbs hds => ?_⟩
 have hb17 := hbs 0 (by simp)
 have hb18 := hbs 1 (by simp)
 have hne_b17_b18 := hds 0 1 (by simp) (by simp) (by decide)
 dsimp only [varEnvF]
 generalize bs 0 = b17 at *
 generalize bs (0 + 1) = b18 at *
 have hBb17 := hb17.1
 have hlt_b1_b17 : b1 < b17 := hb17.2.1 1000001 _ _ _ rfl
 have hlt_b2_b17 : b2 < b17 := hb17.2.1 1000002 _ _ _ rfl
 have hlt_b3_b17 : b3 < b17 := hb17.2.2 1000003 _ _ _ _ rfl
 have hlt_b5_b17 : b5 < b17 := hb17.2.2 1000005 _ _ _ _ rfl
 have hlt_b7_b17 : b7 < b17 := hb17.2.1 1000007 _ _ _ rfl
 have hlt_b9_b17 : b9 < b17 := hb17.2.2 1000009 _ _ _ _ rfl
 have hlt_b11_b17 : b11 < b17 := hb17.2.1 1000011 _ _ _ rfl
 have hlt_b13_b17 : b13 < b17 := hb17.2.2 1000013 _ _ _ _ rfl
 have hlt_b15_b17 : b15 < b17 := hb17.2.2 1000015 _ _ _ _ rfl
 have hlt_b16_b17 : b16 < b17 := hb17.2.1 1000016 _ _ _ rfl
 have hBb18 := hb18.1
 have hlt_b1_b18 : b1 < b18 := hb18.2.1 1000001 _ _ _ rfl
 have hlt_b2_b18 : b2 < b18 := hb18.2.1 1000002 _ _ _ rfl
 have hlt_b3_b18 : b3 < b18 := hb18.2.2 1000003 _ _ _ _ rfl
 have hlt_b5_b18 : b5 < b18 := hb18.2.2 1000005 _ _ _ _ rfl
 have hlt_b7_b18 : b7 < b18 := hb18.2.1 1000007 _ _ _ rfl
 have hlt_b9_b18 : b9 < b18 := hb18.2.2 1000009 _ _ _ _ rfl
 have hlt_b11_b18 : b11 < b18 := hb18.2.1 1000011 _ _ _ rfl
 have hlt_b13_b18 : b13 < b18 := hb18.2.2 1000013 _ _ _ _ rfl
 have hlt_b15_b18 : b15 < b18 := hb18.2.2 1000015 _ _ _ _ rfl
 have hlt_b16_b18 : b16 < b18 := hb18.2.1 1000016 _ _ _ rfl
 refine A.sub (Sv [3, 4, 6, 16, 18, 1000001, 1000002, 1000003, 1000005, 1000007, 1000009, 1000011, 1000013, 1000015, 1000016, 1000017, 1000018] rfl) ?_
 refine A.unK (k := 1000018) rfl ?_
 refine GS ?_
 refine TN 7 ?_
 refine RS (ok_loadVK (s := 1000003) (by decide) Try.underlying30 rfl size30 rfl rfl) ?_
 refine RS (ok_litS [(0, byteV 3), (1, .int .i64 9)] [byteV 3, .int .i64 9, .slice none 0 0] ⟨rfl, rfl, rfl, rfl, trivial⟩ (buildO2 3 9)) ?_
 refine RS ((ok_callB (Do_ok (zA 2) ⟨3, 9, []⟩ rfl (by decide) (by decide) rfl) (fun _ _ h => tup_le3 (arr_mono (own_monoT h)) (Le.refl _) (Le.refl _)) (Args.cons rfl (by first | exact Le.refl _ | exact Le.old _ _ | exact arr_any | exact arr_ex | exact arrD_any | exact op_any | exact (Le.old _ _).trans arrD_any | exact (Le.old _ _).trans arr_any) (Args.cons rfl ((op_nil (Z := zAny)).trans op_any) Args.nil)))) ?_
 refine RM rfl ?_
 refine RS (ok_extract rfl rfl) ?_
 refine RS (ok_extract rfl rfl) ?_; refine RZ (aggV (rsV (zB, 0))) (by rfl) ?_
 refine RS (ok_extract rfl rfl) ?_
 refine RN ?_
 refine ⟨_, _, eff_allocV (n := 181) (d := 19) (k := 1000019) zero30 (by decide), fun b19 hb19 => ?_⟩
 have hBb19 := hb19.1
 have hlt_b3_b19 : b3 < b19 := hb19.2.2 1000003 _ _ _ _ rfl
 have hlt_b5_b19 : b5 < b19 := hb19.2.2 1000005 _ _ _ _ rfl
 have hlt_b9_b19 : b9 < b19 := hb19.2.2 1000009 _ _ _ _ rfl
 have hlt_b13_b19 : b13 < b19 := hb19.2.2 1000013 _ _ _ _ rfl
 have hlt_b15_b19 : b15 < b19 := hb19.2.2 1000015 _ _ _ _ rfl
 have hlt_b17_b19 : b17 < b19 := hb19.2.2 1000017 _ _ _ _ rfl
 refine TN 8 ?_
 refine RN ?_
 refine ⟨_, _, eff_allocV (n := 181) (d := 20) (k := 1000020) zero49 (by decide), fun b20 hb20 => ?_⟩
 have hBb20 := hb20.1
 have hlt_b16_b20 : b16 < b20 := hb20.2.1 1000016 _ _ _ rfl
 have hlt_b18_b20 : b18 < b20 := hb20.2.1 1000018 _ _ _ rfl
 refine TF 9 ?_
 refine RN ?_
 refine ⟨_, eff_storeK (n := 181) (s := 1000019) size30 rfl rfl (Le.refl _) (Agg.arr) hBb19 rfl (rfl) (Surv.arr (by intro h; first | exact absurd h.1 (by decide) | exact absurd h.1.1 (by decide) | exact absurd h.2 (by omega) | exact absurd h.1.2 (by omega) | exact absurd h.1.1.2 (by omega))) (LT 1000001 rfl (LT 1000002 rfl (LeftS.cons (t := 1000003) rfl (Surv.varK (by omega) (Surv.arr (by intro h; first | exact absurd h.1 (by decide) | exact absurd h.1.1 (by decide) | exact absurd h.2 (by omega) | exact absurd h.1.2 (by omega) | exact absurd h.1.1.2 (by omega)))) (LeftS.cons (t := 1000005) rfl (Surv.varK (by omega) (Surv.arr (by intro h; first | exact absurd h.1 (by decide) | exact absurd h.1.1 (by decide) | exact absurd h.2 (by omega) | exact absurd h.1.2 (by omega) | exact absurd h.1.1.2 (by omega)))) (LT 1000007 rfl (LeftS.cons (t := 1000009) rfl (Surv.varK (by omega) (Surv.arr (by intro h; first | exact absurd h.1 (by decide) | exact absurd h.1.1 (by decide) | exact absurd h.2 (by omega) | exact absurd h.1.2 (by omega) | exact absurd h.1.1.2 (by omega)))) (LT 1000011 rfl (LeftS.cons (t := 1000013) rfl (Surv.varK (by omega) (Surv.arr (by intro h; first | exact absurd h.1 (by decide) | exact absurd h.1.1 (by decide) | exact absurd h.2 (by omega) | exact absurd h.1.2 (by omega) | exact absurd h.1.1.2 (by omega)))) (LeftS.cons (t := 1000015) rfl (Surv.varK (by omega) (Surv.arr (by intro h; first | exact absurd h.1 (by decide) | exact absurd h.1.1 (by decide) | exact absurd h.2 (by omega) | exact absurd h.1.2 (by omega) | exact absurd h.1.1.2 (by omega)))) (LT 1000016 rfl (LeftS.cons (t := 1000017) rfl (Surv.varK (by omega) (Surv.arr (by intro h; first | exact absurd h.1 (by decide) | exact absurd h.1.1 (by decide) | exact absurd h.2 (by omega) | exact absurd h.1.2 (by omega) | exact absurd h.1.1.2 (by omega)))) (LT 1000018 rfl (LT 1000020 rfl (LW [3, 4, 6, 16, 18, 20, 141, 142] rfl)))))))))))))), ?_⟩
 refine TF 10 ?_
 refine RN ?_
 refine ⟨_, eff_storeA (n := 181) (s := 1000020) (size49.of (rs_len _)) rfl rfl (rs_one _) hBb20 rfl (by simp only [rs_len]) (LT 1000001 rfl (LT 1000002 rfl (LeftS.cons (t := 1000003) rfl (Surv.varKT (by decide) (Surv.arr (by intro h; first | exact absurd h.1 (by decide) | exact absurd h.1.1 (by decide) | exact absurd h.2 (by omega) | exact absurd h.1.2 (by omega) | exact absurd h.1.1.2 (by omega)))) (LeftS.cons (t := 1000005) rfl (Surv.varKT (by decide) (Surv.arr (by intro h; first | exact absurd h.1 (by decide) | exact absurd h.1.1 (by decide) | exact absurd h.2 (by omega) | exact absurd h.1.2 (by omega) | exact absurd h.1.1.2 (by omega)))) (LT 1000007 rfl (LeftS.cons (t := 1000009) rfl (Surv.varKT (by decide) (Surv.arr (by intro h; first | exact absurd h.1 (by decide) | exact absurd h.1.1 (by decide) | exact absurd h.2 (by omega) | exact absurd h.1.2 (by omega) | exact absurd h.1.1.2 (by omega)))) (LT 1000011 rfl (LeftS.cons (t := 1000013) rfl (Surv.varKT (by decide) (Surv.arr (by intro h; first | exact absurd h.1 (by decide) | exact absurd h.1.1 (by decide) | exact absurd h.2 (by omega) | exact absurd h.1.2 (by omega) | exact absurd h.1.1.2 (by omega)))) (LeftS.cons (t := 1000015) rfl (Surv.varKT (by decide) (Surv.arr (by intro h; first | exact absurd h.1 (by decide) | exact absurd h.1.1 (by decide) | exact absurd h.2 (by omega) | exact absurd h.1.2 (by omega) | exact absurd h.1.1.2 (by omega)))) (LB 1000016 rfl (LeftS.cons (t := 1000017) rfl (Surv.varKT (by decide) (Surv.arr (by intro h; first | exact absurd h.1 (by decide) | exact absurd h.1.1 (by decide) | exact absurd h.2 (by omega) | exact absurd h.1.2 (by omega) | exact absurd h.1.1.2 (by omega)))) (LB 1000018 rfl (LeftS.cons (t := 1000019) rfl (Surv.varKT (by decide) (Surv.arr (by intro h; first | exact absurd h.1 (by decide) | exact absurd h.1.1 (by decide) | exact absurd h.2 (by omega) | exact absurd h.1.2 (by omega) | exact absurd h.1.1.2 (by omega)))) (LW [3, 4, 6, 16, 18, 20, 142] rfl)))))))))))))), ?_⟩
 refine TL ?_
 refine RVN 1 rfl ?_
 refine GT ?_
 refine RS (ok_loadVK (s := 1000003) (by decide) Try.underlying30 rfl size30 rfl rfl) ?_
 refine RS (ok_call (Read_out (zA 2) (-1) rfl (by decide)) (Args.cons rfl (by first | exact Le.refl _ | exact Le.old _ _ | exact arr_any | exact arr_ex | exact arrD_any | exact op_any | exact (Le.old _ _).trans arrD_any | exact (Le.old _ _).trans arr_any) (Args.cons rfl (by first | exact Le.refl _ | exact Le.old _ _ | exact arr_any | exact arr_ex | exact arrD_any | exact op_any | exact (Le.old _ _).trans arrD_any | exact (Le.old _ _).trans arr_any) Args.nil))) ?_
 refine RVN 4 rfl ?_
 refine GT ?_
 refine RS (ok_call (New_bad 0 (by decide)) (A1 rfl)) ?_
 refine RVN 4 rfl ?_
 refine GT ?_
 refine RV 3 rfl ?_
 refine RZ (.int .i64 0) (by rfl) ?_
 refine RV 2 rfl ?_
 refine RZ (.int .i64 0) (by rfl) ?_
 refine RB rfl rfl rfl ?_
 refine RT ?_
 refine RM rfl ?_
 refine RQ (ok_field field49_1 (by decide) rfl) ?_
 refine RQ (ok_loadV (s := 1000016) (by decide) Try.underlying31 rfl rfl rfl (rfl)) ?_
 refine RQ (ok_bin rfl rfl rfl) ?_
 refine RT ?_
 refine RV 2 rfl ?_
 refine RQ (ok_field field49_1 (by decide) rfl) ?_
 refine RQ (ok_loadV (s := 1000018) (by decide) Try.underlying31 rfl rfl rfl (rfl)) ?_
 refine RQ (ok_bin rfl rfl rfl) ?_
 refine RT ?_
 refine RV 2 rfl ?_
 refine RQ (ok_field field49_1 (by decide) rfl) ?_
 refine RQ (ok_loadV (s := 1000020) (by decide) Try.underlying31 rfl rfl rfl (rfl)) ?_
 refine RQ (ok_bin rfl rfl rfl) ?_
 refine RT ?_
 refine RV 4 rfl ?_
 refine RT ?_
 refine RV 4 rfl ?_
 refine RT ?_
 refine RVN 2 rfl ?_
 refine A.sub (Sv [0, 1000001, 1000002, 1000003, 1000005, 1000007, 1000009, 1000011, 1000013, 1000015, 1000016, 1000017, 1000018, 1000019, 1000020] rfl) ?_
 refine A.ret ?_
 exact ER rfl rfl
end Go.Proofs.Ytggijkmlmklneaa
namespace Go.Proofs.Ytggijkmlmklneaa
open Go Go.RowKit
set_option linter.unusedVariables false
set_option maxRecDepth 20000
set_option linter.unusedSimpArgs false

set_option maxHeartbeats 16000000 in
theorem Play_law (k : UInt8) (q : List Z3)  : Fn Try.prog 3 [tlD [byteV k] (rowG false q.length (z3R q))] (.v (.bool true)) := by
 refine Fn.of Try.func3 rfl (by kernel_rfl) Try.ntmps3 (by simp) (fun w => [(0, old w.heap.size (tlD [byteV k] (rowG false q.length (z3R q))))]) (fun w => (Start.old rfl Start.nil)) fun w₀ => ?_
 refine A.nameTG (t := 0) (k := 1000201) rfl fun A₁ m hm => ?_
 obtain ⟨n, hn⟩ : ∃ n, n = nO k := ⟨_, rfl⟩
 obtain ⟨L, hL⟩ : ∃ L, L = opsO k q := ⟨_, rfl⟩
 have h1 : 1 ≤ n := hn ▸ (nO_le k).1
 have h2 : n ≤ 20 := hn ▸ (nO_le k).2
 have hl : L.length ≤ 30 := hL ▸ opsO_len k q
 have hz := zA_ok n
 refine GS ?_
 refine TN 0 ?_
 refine RN ?_
 refine ZB 1000001 rfl fun b1 ⟨hBb1, hb1⟩ => ?_
 refine TL ?_
 refine RVN 1 rfl ?_
 refine GT ?_
 refine RS (OpOk.tgO (k₁ := 1000201) (pre := [byteV k]) (ok_loadA (s := 1000001) (by decide) Try.underlying24 rfl (size24.of (rfl)) rfl rfl) rfl hm (by decide) rfl) ?_
 refine RS (ok_callB (Of_fn k q) (fun _ _ h => tup_le2 (Le.refl _) (ops_mono (zDat_mono h))) (Args.cons rfl (by first | exact Le.refl _ | exact Le.old _ _ | exact arr_any | exact arr_ex | exact arrD_any | exact op_any | exact (Le.old _ _).trans arrD_any | exact (Le.old _ _).trans arr_any) Args.nil)) ?_
 refine RM rfl ?_
 refine RS (ok_extract rfl rfl) ?_; refine RZ (nI (n)) (by rw [hn]) ?_
 refine RS ((OpOk.le (d' := lstE 47 3 (L.map (opZ (zDat 41 5 w₀.heap.size)))) (ok_extract rfl rfl) (Le.eq (by rw [hL])))) ?_
 refine RVN 2 rfl ?_
 refine GS ?_
 refine TN 5 ?_
 refine RM rfl ?_
 refine RS ((ok_callB (New_ok n h1 (by omega)) (fun _ _ h => tup_le2 (arr_mono (own_monoT h)) (Le.refl _)) (A1 rfl))) ?_
 refine RM rfl ?_
 refine RS (ok_extract rfl rfl) ?_
 refine RS (ok_extract rfl rfl) ?_
 refine RN ?_
 refine ZN 1000005 zero30 fun b5 ⟨hBb5, hb5⟩ => ?_
 refine TF 6 ?_
 refine RN ?_
 refine ⟨_, eff_storeK (n := 144) (s := 1000005) size30 rfl rfl (Le.refl _) (Agg.arr) hBb5 rfl (rfl) (Surv.arr (by intro h; first | exact absurd h.1 (by decide) | exact absurd h.1.1 (by decide) | exact absurd h.2 (by omega) | exact absurd h.1.2 (by omega) | exact absurd h.1.1.2 (by omega))) (LeftS.cons (t := 4) rfl (Surv.ops (by decide) (by intro h; first | exact absurd h.1 (by decide) | exact absurd h.1.1 (by decide) | exact absurd h.1.1.1 (by decide) | exact absurd h.2 (by omega) | exact absurd h.1.2 (by omega))) (LT 1000001 rfl (LO 1000201 rfl (LW [3, 5, 24] rfl)))), ?_⟩
 refine TL ?_
 refine RVN 1 rfl ?_
 refine QS ?_
 refine GTD ?_
 refine RV 2 rfl ?_
 refine RF ?_
 refine RM rfl ?_
 refine RQ (ok_loadVK (s := 1000005) (by decide) Try.underlying30 rfl size30 rfl rfl) ?_
 refine RQ (ok_move rfl) ?_
 refine RQ (ok_callB (rNew_fn n (by omega)) (fun _ _ h => arr_mono (own_monoT h)) (A1 rfl)) ?_
 refine RQ (ok_call (same_fn (zA n) (by rw [hz.1]; omega) (by rw [hz.2]; omega)) (Args.cons rfl (by first | exact Le.refl _ | exact Le.old _ _ | exact arr_any | exact arr_ex | exact arrD_any | exact op_any | exact (Le.old _ _).trans arrD_any | exact (Le.old _ _).trans arr_any) (Args.cons rfl (by first | exact Le.refl _ | exact Le.old _ _ | exact arr_any | exact arr_ex | exact arrD_any | exact op_any | exact (Le.old _ _).trans arrD_any | exact (Le.old _ _).trans arr_any) Args.nil))) ?_
 refine RQ (ok_bin rfl rfl rfl) ?_
 refine RF ?_
 refine RVN 1 rfl ?_
 refine A.sub (Sv [3, 4, 5, 33, 1000001, 1000005, 1000201] rfl) ?_
 refine A.no rfl ?_
 refine QK ?_
 refine GS ?_
 refine TN 7 ?_
 refine RS (ok_loadVK (s := 1000005) (by decide) Try.underlying30 rfl size30 rfl rfl) ?_
 refine RM rfl ?_
 refine RS ((ok_callB (Play_ok (zA n) L (chk_ok hz h1 (by omega)) (by rw [hz.1]; omega) (by rw [hz.2]; omega) (hz.1.trans hz.2.symm) (by omega)) (fun _ _ h => tup_le3 (arr_mono (own_monoT h)) (sli_mono (own_monoT h)) (Le.refl _)) (Args.cons rfl (by first | exact Le.refl _ | exact Le.old _ _ | exact arr_any | exact arr_ex | exact arrD_any | exact op_any | exact (Le.old _ _).trans arrD_any | exact (Le.old _ _).trans arr_any) (Args.cons rfl ops_any Args.nil)))) ?_
 refine RM rfl ?_
 refine RS (ok_extract rfl rfl) ?_
 refine RS (ok_extract rfl rfl) ?_
 refine RS (ok_extract rfl rfl) ?_
 refine RN ?_
 refine ⟨_, _, eff_allocV (n := 144) (d := 7) (k := 1000007) zero30 (by decide), fun b7 hb7 => ?_⟩
 have hBb7 := hb7.1
 have hlt_b5_b7 : b5 < b7 := hb7.2.2 1000005 _ _ _ _ rfl
 refine TF 8 ?_
 refine RN ?_
 refine ⟨_, eff_storeK (n := 144) (s := 1000007) size30 rfl rfl (Le.refl _) (Agg.arr) hBb7 rfl (rfl) (Surv.arr (by intro h; first | exact absurd h.1 (by decide) | exact absurd h.1.1 (by decide) | exact absurd h.2 (by omega) | exact absurd h.1.2 (by omega) | exact absurd h.1.1.2 (by omega))) (LeftS.cons (t := 4) rfl (Surv.ops (by decide) (by intro h; first | exact absurd h.1 (by decide) | exact absurd h.1.1 (by decide) | exact absurd h.1.1.1 (by decide) | exact absurd h.2 (by omega) | exact absurd h.1.2 (by omega))) (LeftS.cons (t := 39) rfl (Surv.sli (by intro h; first | exact absurd h.1 (by decide) | exact absurd h.1.1 (by decide) | exact absurd h.1.1.1 (by decide) | exact absurd h.2 (by omega) | exact absurd h.1.2 (by omega))) (LT 1000001 rfl (LeftS.cons (t := 1000005) rfl (Surv.varK (by omega) (Surv.arr (by intro h; first | exact absurd h.1 (by decide) | exact absurd h.1.1 (by decide) | exact absurd h.2 (by omega) | exact absurd h.1.2 (by omega) | exact absurd h.1.1.2 (by omega)))) (LO 1000201 rfl (LW [3, 5, 7, 40] rfl)))))), ?_⟩
 refine TL ?_
 refine RVN 2 rfl ?_
 refine QS ?_
 refine GT ?_
 refine RV 2 rfl ?_
 refine RF ?_
 refine RV 2 rfl ?_
 refine RQ (ok_lenRD Try.underlying37 rfl sli_rowD) ?_
 refine RQ (ok_move rfl) ?_
 refine RQ ((ok_lenK Try.underlying25 rfl ops_any).asV' (show _ = .int .i64 (L.length : Int) by rw [List.length_map])) ?_
 refine RQ (ok_bin rfl rfl rfl) ?_
 refine RF ?_
 refine RV 3 rfl ?_
 refine RQ (ok_capG Try.underlying37 rfl sli_rowG) ?_
 refine RQ (ok_move rfl) ?_
 refine RQ (ok_lenRD Try.underlying37 rfl sli_rowD) ?_
 refine RQ (ok_bin rfl rfl rfl) ?_
 refine RF ?_
 refine RVN 1 rfl ?_
 refine A.sub (Sv [3, 4, 5, 7, 8, 56, 1000001, 1000005, 1000007, 1000201] rfl) ?_
 refine A.no rfl ?_
 refine QK ?_
 refine GS ?_
 refine TN 1 ?_
 refine RS (ok_loadVK (s := 1000005) (by decide) Try.underlying30 rfl size30 rfl rfl) ?_
 refine RN ?_
 refine ⟨_, _, eff_allocV (n := 144) (d := 9) (k := 1000009) zero30 (by decide), fun b9 hb9 => ?_⟩
 have hBb9 := hb9.1
 have hlt_b5_b9 : b5 < b9 := hb9.2.2 1000005 _ _ _ _ rfl
 have hlt_b7_b9 : b7 < b9 := hb9.2.2 1000007 _ _ _ _ rfl
 refine TF 2 ?_
 refine RN ?_
 refine ⟨_, eff_storeK (n := 144) (s := 1000009) size30 rfl rfl (Le.refl _) (Agg.arr) hBb9 rfl (rfl) (Surv.arr (by intro h; first | exact absurd h.1 (by decide) | exact absurd h.1.1 (by decide) | exact absurd h.2 (by omega) | exact absurd h.1.2 (by omega) | exact absurd h.1.1.2 (by omega))) (LeftS.cons (t := 4) rfl (Surv.ops (by decide) (by intro h; first | exact absurd h.1 (by decide) | exact absurd h.1.1 (by decide) | exact absurd h.1.1.1 (by decide) | exact absurd h.2 (by omega) | exact absurd h.1.2 (by omega))) (LeftS.cons (t := 8) rfl (Surv.sli (by intro h; first | exact absurd h.1 (by decide) | exact absurd h.1.1 (by decide) | exact absurd h.1.1.1 (by decide) | exact absurd h.2 (by omega) | exact absurd h.1.2 (by omega))) (LT 1000001 rfl (LeftS.cons (t := 1000005) rfl (Surv.varK (by omega) (Surv.arr (by intro h; first | exact absurd h.1 (by decide) | exact absurd h.1.1 (by decide) | exact absurd h.2 (by omega) | exact absurd h.1.2 (by omega) | exact absurd h.1.1.2 (by omega)))) (LeftS.cons (t := 1000007) rfl (Surv.varK (by omega) (Surv.arr (by intro h; first | exact absurd h.1 (by decide) | exact absurd h.1.1 (by decide) | exact absurd h.2 (by omega) | exact absurd h.1.2 (by omega) | exact absurd h.1.1.2 (by omega)))) (LO 1000201 rfl (LW [3, 5, 7, 9] rfl))))))), ?_⟩
 refine TL ?_
 refine RN ?_
 refine GS ?_
 refine TN 2 ?_
 refine RM rfl ?_
 refine RS (ok_callB (rNew_fn n (by omega)) (fun _ _ h => arr_mono (own_monoT h)) (A1 rfl)) ?_
 refine RN ?_
 refine ⟨_, _, eff_allocV (n := 144) (d := 10) (k := 1000010) zero35 (by decide), fun b10 hb10 => ?_⟩
 have hBb10 := hb10.1
 refine TF 3 ?_
 refine RN ?_
 refine ⟨_, eff_storeK (n := 144) (s := 1000010) size35 rfl rfl ((arr_unex : Le (arrZ _ _ _) (arrZ _ false _))) (Agg.arr) hBb10 rfl (rfl) (Surv.arr (by intro h; first | exact absurd h.1 (by decide) | exact absurd h.1.1 (by decide) | exact absurd h.2 (by omega) | exact absurd h.1.2 (by omega) | exact absurd h.1.1.2 (by omega))) (LeftS.cons (t := 4) rfl (Surv.ops (by decide) (by intro h; first | exact absurd h.1 (by decide) | exact absurd h.1.1 (by decide) | exact absurd h.1.1.1 (by decide) | exact absurd h.2 (by omega) | exact absurd h.1.2 (by omega))) (LeftS.cons (t := 8) rfl (Surv.sli (by intro h; first | exact absurd h.1 (by decide) | exact absurd h.1.1 (by decide) | exact absurd h.1.1.1 (by decide) | exact absurd h.2 (by omega) | exact absurd h.1.2 (by omega))) (LT 1000001 rfl (LeftS.cons (t := 1000005) rfl (Surv.varKT (by decide) (Surv.arr (by intro h; first | exact absurd h.1 (by decide) | exact absurd h.1.1 (by decide) | exact absurd h.2 (by omega) | exact absurd h.1.2 (by omega) | exact absurd h.1.1.2 (by omega)))) (LeftS.cons (t := 1000007) rfl (Surv.varKT (by decide) (Surv.arr (by intro h; first | exact absurd h.1 (by decide) | exact absurd h.1.1 (by decide) | exact absurd h.2 (by omega) | exact absurd h.1.2 (by omega) | exact absurd h.1.1.2 (by omega)))) (LeftS.cons (t := 1000009) rfl (Surv.varKT (by decide) (Surv.arr (by intro h; first | exact absurd h.1 (by decide) | exact absurd h.1.1 (by decide) | exact absurd h.2 (by omega) | exact absurd h.1.2 (by omega) | exact absurd h.1.1.2 (by omega)))) (LO 1000201 rfl (LW [3, 5, 7, 9, 10] rfl)))))))), ?_⟩
 refine TL ?_
 refine RN ?_
 refine QS ?_
 refine GV rfl ?_
 refine A.block ?_
 refine A.loop (ι := Nat) (fun i => i ≤ L.length) (fun i => [(3, .v (nI (n))), (5, .v (ptr b5)), (7, .v (ptr b7)), (9, .v (ptr b9)), (10, .v (ptr b10)), (11, .v (nI (i))), (4, lstE 47 3 (L.map (opZ (zDat 41 5 w₀.heap.size)))), (8, sliZ (zOwn 49 w₀.heap.size) true L.length (rssV (resA (zA n) L))), (1000005, varK b5 30 2 (arrZ (zOwn 41 w₀.heap.size) true (zA n))), (1000007, varK b7 30 2 (arrZ (zOwn 41 w₀.heap.size) true (runA (zA n) L))), (1000009, varK b9 30 2 (arrZ (zOwn 41 w₀.heap.size) true (runA (zA n) (L.take i)))), (1000010, varK b10 35 2 (arrZ (zOwn 41 w₀.heap.size) false (runA (zA n) (L.take i))))]) (fun i => L.length - i) 0 ?_ ?_ ?_
 ·exact Nat.zero_le _
 ·exact (KC 3 rfl (KC 5 rfl (KC 7 rfl (KC 9 rfl (KC 10 rfl (KE 11 rfl (by rfl) (KC 4 rfl (KC 8 rfl (KC 1000005 rfl (KC 1000007 rfl (KE 1000009 rfl (by rfl) (KE 1000010 rfl (by rfl) KN))))))))))))
 intro i hG
 refine QS ?_
 refine GT ?_
 refine RV 2 rfl ?_
 refine RS ((ok_lenK Try.underlying25 rfl ops_any).asV' (show _ = .int .i64 (L.length : Int) by rw [List.length_map])) ?_
 refine RVN 1 rfl ?_
 refine A.cond rfl (fun hc63 => ?_) (fun hc63 => ?_)
 ·have hlt : i < L.length := by simp at hc63; omega
  refine QK ?_
  refine QSB ?_
  refine GS ?_
  refine RunTK.newG 0 (by decide) rfl (.inl rfl) ?_
  refine RN ?_
  refine ⟨_, _, _, eff_allocF (n := 144) (d := 12) (k := 1000012) [(1000005, (varK b5 30 2 (arrZ (zOwn 41 w₀.heap.size) true (zA n))), fun b => varK b5 30 2 (arrZ (zCut (zOwn 41 w₀.heap.size) b) true (zA n))), (1000007, (varK b7 30 2 (arrZ (zOwn 41 w₀.heap.size) true (runA (zA n) L))), fun b => varK b7 30 2 (arrZ (zCut (zOwn 41 w₀.heap.size) b) true (runA (zA n) L))), (1000009, (varK b9 30 2 (arrZ (zOwn 41 w₀.heap.size) true (runA (zA n) (L.take i)))), fun b => varK b9 30 2 (arrZ (zCut (zOwn 41 w₀.heap.size) b) true (runA (zA n) (L.take i)))), (1000010, (varK b10 35 2 (arrZ (zOwn 41 w₀.heap.size) false (runA (zA n) (L.take i)))), fun b => varK b10 35 2 (arrZ (zCut (zOwn 41 w₀.heap.size) b) false (runA (zA n) (L.take i)))), (4, (lstE 47 3 (L.map (opZ (zDat 41 5 w₀.heap.size)))), fun b => lstE 47 3 (L.map (opZ (zCut (zDat 41 5 w₀.heap.size) b))))] zero41 (by decide) (fun p hp => by simp only [List.mem_cons, List.not_mem_nil, or_false] at hp; rcases hp with rfl | rfl | rfl | rfl | rfl <;> exact ⟨rfl, by dsimp only; decide, fun w x h => by first | exact varK_arr_cut h | exact sli_cut h | exact ops_cut h | exact arr_cut h⟩), fun b12 hb12 => ?_⟩
  have hBb12 := hb12.1
  refine TL ?_
  refine RN ?_
  refine GV rfl ?_
  refine QS ?_
  refine A.regL0 10 [8, 9] (by kernel_rfl) (by kernel_rfl) (by kernel_rfl) (by kernel_rfl) [(3, .v (nI (n))), (5, .v (ptr b5)), (7, .v (ptr b7)), (9, .v (ptr b9)), (10, .v (ptr b10)), (11, .v (nI (i))), (12, .v (ptr b12)), (13, .v (.int .i64 (stepA (runA (zA n) (L.take i)) (nthO L i)).2.2)), (4, lstE 47 3 (L.map (opZ (zCut (zDat 41 5 w₀.heap.size) b12)))), (8, sliZ (zOwn 49 w₀.heap.size) true L.length (rssV (resA (zA n) L))), (1000005, varK b5 30 2 (arrZ (zCut (zOwn 41 w₀.heap.size) b12) true (zA n))), (1000007, varK b7 30 2 (arrZ (zCut (zOwn 41 w₀.heap.size) b12) true (runA (zA n) L))), (1000009, varK b9 30 2 (arrZ (zCut (zOwn 41 w₀.heap.size) b12) true (runA (zA n) (L.take i)))), (1000010, varK b10 35 2 (arrZ (zOwn 41 (b12 + 1)) false (stepA (runA (zA n) (L.take i)) (nthO L i)).1)), (1000012, blk b12 41 (bkV (stepA (runA (zA n) (L.take i)) (nthO L i)).2.1))] ?_ ?_
  ·refine RS (ok_loadVK (s := 1000010) (by decide) Try.underlying35 rfl size35 rfl rfl) ?_
   refine RV 2 rfl ?_
   refine RS (ok_indexK i Try.underlying25 size47 rfl ops_any rfl (map_nthO opG hlt)) ?_
   refine RS (ok_loadK Try.underlying47 rfl size47 rfl (Le.refl _)) ?_
   refine RS (OpOk.raise (k := 1000012) (by decide) rfl (ok_callB (rDo_fn (runA (zA n) (L.take i)) (nthO L i) (by rw [(run_ok (L := L.take i) hz).1, (run_ok (L := L.take i) hz).2]) (by rw [(run_ok (L := L.take i) hz).1]; omega) (by rw [(run_ok (L := L.take i) hz).1]; omega)) (fun _ _ h => tup_le3 (arr_mono (own_monoT h)) (Le.refl _) (Le.refl _)) (Args.cons rfl (by first | exact Le.refl _ | exact Le.old _ _ | exact arr_any | exact arr_ex | exact arrD_any | exact op_any | exact (Le.old _ _).trans arrD_any | exact (Le.old _ _).trans arr_any) (Args.cons rfl (by first | exact Le.refl _ | exact Le.old _ _ | exact arr_any | exact arr_ex | exact arrD_any | exact op_any | exact (Le.old _ _).trans arrD_any | exact (Le.old _ _).trans arr_any) Args.nil)))) ?_
   refine RM rfl ?_
   refine RS (ok_extract rfl rfl) ?_
   refine RS (ok_extract rfl rfl) ?_
   refine RS (ok_extract rfl rfl) ?_
   refine RN ?_
   intro S hS
   simp only [subs, List.map_cons, List.map_nil, List.cons_append, List.nil_append, List.mem_cons, List.not_mem_nil, or_false] at hS
   rcases hS with rfl | rfl | rfl | rfl
   ·refine ⟨2, Nat.le_of_ble_eq_true (by kernel_rfl), _, (Sv [3, 4, 5, 7, 8, 9, 10, 11, 12, 66, 67, 68, 69, 70, 71, 72, 73, 74, 75, 1000005, 1000007, 1000009, 1000010, 1000012] rfl), by kernel_rfl, _, rfl, _, eff_storeKK (n := 144) (s := 1000010) size35 rfl rfl ((arr_unex : Le (arrZ _ _ _) (arrZ _ false _))) (Agg.arr) hBb10 rfl (Surv.arr (by intro h; first | exact absurd h.1 (by decide) | exact absurd h.1.1 (by decide) | exact absurd h.2 (by omega) | exact absurd h.1.2 (by omega) | exact absurd h.1.1.2 (by omega))) (LV 3 rfl (LeftS.cons (t := 4) rfl (Surv.ops (by decide) (by intro h; first | exact absurd h.1 (by decide) | exact absurd h.1.1 (by decide) | exact absurd h.1.1.1 (by decide) | exact absurd h.2 (by omega) | exact absurd h.1.2 (by omega))) (LV 5 rfl (LV 7 rfl (LeftS.cons (t := 8) rfl (Surv.sli (by intro h; first | exact absurd h.1 (by decide) | exact absurd h.1.1 (by decide) | exact absurd h.1.1.1 (by decide) | exact absurd h.2 (by omega) | exact absurd h.1.2 (by omega))) (LV 9 rfl (LV 10 rfl (LV 11 rfl (LV 12 rfl (LeftS.cons (t := 66) rfl (Surv.tup3 (Surv.arr (by intro h; first | exact absurd h.1 (by decide) | exact absurd h.1.1 (by decide) | exact absurd h.2 (by omega) | exact absurd h.1.2 (by omega) | exact absurd h.1.1.2 (by omega))) (Surv.v _) (Surv.v _)) (LeftS.cons (t := 67) rfl (Surv.arr (by intro h; first | exact absurd h.1 (by decide) | exact absurd h.1.1 (by decide) | exact absurd h.2 (by omega) | exact absurd h.1.2 (by omega) | exact absurd h.1.1.2 (by omega))) (LeftS.cons (t := 68) rfl (Surv.ops (by decide) (by intro h; first | exact absurd h.1 (by decide) | exact absurd h.1.1 (by decide) | exact absurd h.1.1.1 (by decide) | exact absurd h.2 (by omega) | exact absurd h.1.2 (by omega))) (LV 69 rfl (LeftS.cons (t := 72) rfl (Surv.tup3 (Surv.arr (by intro h; first | exact absurd h.1 (by decide) | exact absurd h.1.1 (by decide) | exact absurd h.2 (by omega) | exact absurd h.1.2 (by omega) | exact absurd h.1.1.2 (by omega))) (Surv.v _) (Surv.v _)) (LeftS.cons (t := 73) rfl (Surv.arr (by intro h; first | exact absurd h.1 (by decide) | exact absurd h.1.1 (by decide) | exact absurd h.2 (by omega) | exact absurd h.1.2 (by omega) | exact absurd h.1.1.2 (by omega))) (LV 74 rfl (LV 75 rfl (LeftS.cons (t := 1000005) rfl (Surv.varKT (by decide) (Surv.arr (by intro h; first | exact absurd h.1 (by decide) | exact absurd h.1.1 (by decide) | exact absurd h.2 (by omega) | exact absurd h.1.2 (by omega) | exact absurd h.1.1.2 (by omega)))) (LeftS.cons (t := 1000007) rfl (Surv.varKT (by decide) (Surv.arr (by intro h; first | exact absurd h.1 (by decide) | exact absurd h.1.1 (by decide) | exact absurd h.2 (by omega) | exact absurd h.1.2 (by omega) | exact absurd h.1.1.2 (by omega)))) (LeftS.cons (t := 1000009) rfl (Surv.varKT (by decide) (Surv.arr (by intro h; first | exact absurd h.1 (by decide) | exact absurd h.1.1 (by decide) | exact absurd h.2 (by omega) | exact absurd h.1.2 (by omega) | exact absurd h.1.1.2 (by omega)))) (LT 1000012 rfl LN))))))))))))))))))))), ?_⟩
    refine AnyT.step 11 [] (by kernel_rfl) ?_
    refine NextT.eff rfl (eff_storeA (n := 144) (s := 1000012) (size41.of (bk_len _)) rfl rfl (bk_one _) hBb12 rfl (by simp only [bk_len]) (LV 3 rfl (LeftS.cons (t := 4) rfl (Surv.ops (by decide) (by intro h; first | exact absurd h.1 (by decide) | exact absurd h.1.1 (by decide) | exact absurd h.1.1.1 (by decide) | exact absurd h.2 (by omega) | exact absurd h.1.2 (by omega))) (LV 5 rfl (LV 7 rfl (LeftS.cons (t := 8) rfl (Surv.sli (by intro h; first | exact absurd h.1 (by decide) | exact absurd h.1.1 (by decide) | exact absurd h.1.1.1 (by decide) | exact absurd h.2 (by omega) | exact absurd h.1.2 (by omega))) (LV 9 rfl (LV 10 rfl (LV 11 rfl (LV 12 rfl (LeftS.cons (t := 66) rfl (Surv.tup3 (Surv.arr (by intro h; first | exact absurd h.1 (by decide) | exact absurd h.1.1 (by decide) | exact absurd h.2 (by omega) | exact absurd h.1.2 (by omega) | exact absurd h.1.1.2 (by omega))) (Surv.v _) (Surv.v _)) (LeftS.cons (t := 67) rfl (Surv.arr (by intro h; first | exact absurd h.1 (by decide) | exact absurd h.1.1 (by decide) | exact absurd h.2 (by omega) | exact absurd h.1.2 (by omega) | exact absurd h.1.1.2 (by omega))) (LeftS.cons (t := 68) rfl (Surv.ops (by decide) (by intro h; first | exact absurd h.1 (by decide) | exact absurd h.1.1 (by decide) | exact absurd h.1.1.1 (by decide) | exact absurd h.2 (by omega) | exact absurd h.1.2 (by omega))) (LV 69 rfl (LeftS.cons (t := 72) rfl (Surv.tup3 (Surv.arr (by intro h; first | exact absurd h.1 (by decide) | exact absurd h.1.1 (by decide) | exact absurd h.2 (by omega) | exact absurd h.1.2 (by omega) | exact absurd h.1.1.2 (by omega))) (Surv.v _) (Surv.v _)) (LeftS.cons (t := 73) rfl (Surv.arr (by intro h; first | exact absurd h.1 (by decide) | exact absurd h.1.1 (by decide) | exact absurd h.2 (by omega) | exact absurd h.1.2 (by omega) | exact absurd h.1.1.2 (by omega))) (LV 74 rfl (LV 75 rfl (LeftS.cons (t := 1000005) rfl (Surv.varKT (by decide) (Surv.arr (by intro h; first | exact absurd h.1 (by decide) | exact absurd h.1.1 (by decide) | exact absurd h.2 (by omega) | exact absurd h.1.2 (by omega) | exact absurd h.1.1.2 (by omega)))) (LeftS.cons (t := 1000007) rfl (Surv.varKT (by decide) (Surv.arr (by intro h; first | exact absurd h.1 (by decide) | exact absurd h.1.1 (by decide) | exact absurd h.2 (by omega) | exact absurd h.1.2 (by omega) | exact absurd h.1.1.2 (by omega)))) (LeftS.cons (t := 1000009) rfl (Surv.varKT (by decide) (Surv.arr (by intro h; first | exact absurd h.1 (by decide) | exact absurd h.1.1 (by decide) | exact absurd h.2 (by omega) | exact absurd h.1.2 (by omega) | exact absurd h.1.1.2 (by omega)))) (LeftS.cons (t := 1000010) rfl (Surv.varKT (by decide) (Surv.arr (by intro h; first | exact absurd h.1 (by decide) | exact absurd h.1.1 (by decide) | exact absurd h.2 (by omega) | exact absurd h.1.2 (by omega) | exact absurd h.1.1.2 (by omega)))) LN)))))))))))))))))))))) ?_ ?_
    ·refine AnyT.step 12 [] (by kernel_rfl) ?_
     refine NextT.pure (by kernel_rfl) rfl rfl rfl (ok_assign rfl) ?_ ?_
     ·refine AnyT.last (by kernel_rfl) ?_
      exact (SubL.cons (t := 3) rfl (Le.refl _) (SubL.cons (t := 5) rfl (Le.refl _) (SubL.cons (t := 7) rfl (Le.refl _) (SubL.cons (t := 9) rfl (Le.refl _) (SubL.cons (t := 10) rfl (Le.refl _) (SubL.cons (t := 11) rfl (Le.refl _) (SubL.cons (t := 12) rfl (Le.refl _) (SubL.cons (t := 13) rfl (Le.refl _) (SubL.cons (t := 4) rfl (Le.refl _) (SubL.cons (t := 8) rfl (Le.refl _) (SubL.cons (t := 1000005) rfl (Le.refl _) (SubL.cons (t := 1000007) rfl (Le.refl _) (SubL.cons (t := 1000009) rfl (Le.refl _) (SubL.cons (t := 1000010) rfl (Le.refl _) (SubL.cons (t := 1000012) rfl (Le.refl _) SubL.nil)))))))))))))))
     exact trivial
    exact trivial
   ·refine ⟨3, Nat.le_of_ble_eq_true (by kernel_rfl), _, (Sv [3, 4, 5, 7, 8, 9, 10, 11, 12, 66, 67, 68, 69, 70, 71, 72, 73, 74, 1000005, 1000007, 1000009, 1000010, 1000012] rfl), by kernel_rfl, _, rfl, _, eff_storeKK (n := 144) (s := 1000010) size35 rfl rfl ((arr_unex : Le (arrZ _ _ _) (arrZ _ false _))) (Agg.arr) hBb10 rfl (Surv.arr (by intro h; first | exact absurd h.1 (by decide) | exact absurd h.1.1 (by decide) | exact absurd h.2 (by omega) | exact absurd h.1.2 (by omega) | exact absurd h.1.1.2 (by omega))) (LV 3 rfl (LeftS.cons (t := 4) rfl (Surv.ops (by decide) (by intro h; first | exact absurd h.1 (by decide) | exact absurd h.1.1 (by decide) | exact absurd h.1.1.1 (by decide) | exact absurd h.2 (by omega) | exact absurd h.1.2 (by omega))) (LV 5 rfl (LV 7 rfl (LeftS.cons (t := 8) rfl (Surv.sli (by intro h; first | exact absurd h.1 (by decide) | exact absurd h.1.1 (by decide) | exact absurd h.1.1.1 (by decide) | exact absurd h.2 (by omega) | exact absurd h.1.2 (by omega))) (LV 9 rfl (LV 10 rfl (LV 11 rfl (LV 12 rfl (LeftS.cons (t := 66) rfl (Surv.tup3 (Surv.arr (by intro h; first | exact absurd h.1 (by decide) | exact absurd h.1.1 (by decide) | exact absurd h.2 (by omega) | exact absurd h.1.2 (by omega) | exact absurd h.1.1.2 (by omega))) (Surv.v _) (Surv.v _)) (LeftS.cons (t := 67) rfl (Surv.arr (by intro h; first | exact absurd h.1 (by decide) | exact absurd h.1.1 (by decide) | exact absurd h.2 (by omega) | exact absurd h.1.2 (by omega) | exact absurd h.1.1.2 (by omega))) (LeftS.cons (t := 68) rfl (Surv.ops (by decide) (by intro h; first | exact absurd h.1 (by decide) | exact absurd h.1.1 (by decide) | exact absurd h.1.1.1 (by decide) | exact absurd h.2 (by omega) | exact absurd h.1.2 (by omega))) (LV 69 rfl (LeftS.cons (t := 72) rfl (Surv.tup3 (Surv.arr (by intro h; first | exact absurd h.1 (by decide) | exact absurd h.1.1 (by decide) | exact absurd h.2 (by omega) | exact absurd h.1.2 (by omega) | exact absurd h.1.1.2 (by omega))) (Surv.v _) (Surv.v _)) (LeftS.cons (t := 73) rfl (Surv.arr (by intro h; first | exact absurd h.1 (by decide) | exact absurd h.1.1 (by decide) | exact absurd h.2 (by omega) | exact absurd h.1.2 (by omega) | exact absurd h.1.1.2 (by omega))) (LV 74 rfl (LeftS.cons (t := 1000005) rfl (Surv.varKT (by decide) (Surv.arr (by intro h; first | exact absurd h.1 (by decide) | exact absurd h.1.1 (by decide) | exact absurd h.2 (by omega) | exact absurd h.1.2 (by omega) | exact absurd h.1.1.2 (by omega)))) (LeftS.cons (t := 1000007) rfl (Surv.varKT (by decide) (Surv.arr (by intro h; first | exact absurd h.1 (by decide) | exact absurd h.1.1 (by decide) | exact absurd h.2 (by omega) | exact absurd h.1.2 (by omega) | exact absurd h.1.1.2 (by omega)))) (LeftS.cons (t := 1000009) rfl (Surv.varKT (by decide) (Surv.arr (by intro h; first | exact absurd h.1 (by decide) | exact absurd h.1.1 (by decide) | exact absurd h.2 (by omega) | exact absurd h.1.2 (by omega) | exact absurd h.1.1.2 (by omega)))) (LT 1000012 rfl LN)))))))))))))))))))), ?_⟩
    refine AnyT.step 9 [11] (by kernel_rfl) ?_
    refine NextT.pure (by kernel_rfl) rfl rfl rfl (ok_extract rfl rfl) ?_ ?_
    ·refine AnyT.step 11 [] (by kernel_rfl) ?_
     refine NextT.eff rfl (eff_storeA (n := 144) (s := 1000012) (size41.of (bk_len _)) rfl rfl (bk_one _) hBb12 rfl (by simp only [bk_len]) (LV 3 rfl (LeftS.cons (t := 4) rfl (Surv.ops (by decide) (by intro h; first | exact absurd h.1 (by decide) | exact absurd h.1.1 (by decide) | exact absurd h.1.1.1 (by decide) | exact absurd h.2 (by omega) | exact absurd h.1.2 (by omega))) (LV 5 rfl (LV 7 rfl (LeftS.cons (t := 8) rfl (Surv.sli (by intro h; first | exact absurd h.1 (by decide) | exact absurd h.1.1 (by decide) | exact absurd h.1.1.1 (by decide) | exact absurd h.2 (by omega) | exact absurd h.1.2 (by omega))) (LV 9 rfl (LV 10 rfl (LV 11 rfl (LV 12 rfl (LeftS.cons (t := 66) rfl (Surv.tup3 (Surv.arr (by intro h; first | exact absurd h.1 (by decide) | exact absurd h.1.1 (by decide) | exact absurd h.2 (by omega) | exact absurd h.1.2 (by omega) | exact absurd h.1.1.2 (by omega))) (Surv.v _) (Surv.v _)) (LeftS.cons (t := 67) rfl (Surv.arr (by intro h; first | exact absurd h.1 (by decide) | exact absurd h.1.1 (by decide) | exact absurd h.2 (by omega) | exact absurd h.1.2 (by omega) | exact absurd h.1.1.2 (by omega))) (LeftS.cons (t := 68) rfl (Surv.ops (by decide) (by intro h; first | exact absurd h.1 (by decide) | exact absurd h.1.1 (by decide) | exact absurd h.1.1.1 (by decide) | exact absurd h.2 (by omega) | exact absurd h.1.2 (by omega))) (LV 69 rfl (LeftS.cons (t := 72) rfl (Surv.tup3 (Surv.arr (by intro h; first | exact absurd h.1 (by decide) | exact absurd h.1.1 (by decide) | exact absurd h.2 (by omega) | exact absurd h.1.2 (by omega) | exact absurd h.1.1.2 (by omega))) (Surv.v _) (Surv.v _)) (LeftS.cons (t := 73) rfl (Surv.arr (by intro h; first | exact absurd h.1 (by decide) | exact absurd h.1.1 (by decide) | exact absurd h.2 (by omega) | exact absurd h.1.2 (by omega) | exact absurd h.1.1.2 (by omega))) (LV 74 rfl (LV 75 rfl (LeftS.cons (t := 1000005) rfl (Surv.varKT (by decide) (Surv.arr (by intro h; first | exact absurd h.1 (by decide) | exact absurd h.1.1 (by decide) | exact absurd h.2 (by omega) | exact absurd h.1.2 (by omega) | exact absurd h.1.1.2 (by omega)))) (LeftS.cons (t := 1000007) rfl (Surv.varKT (by decide) (Surv.arr (by intro h; first | exact absurd h.1 (by decide) | exact absurd h.1.1 (by decide) | exact absurd h.2 (by omega) | exact absurd h.1.2 (by omega) | exact absurd h.1.1.2 (by omega)))) (LeftS.cons (t := 1000009) rfl (Surv.varKT (by decide) (Surv.arr (by intro h; first | exact absurd h.1 (by decide) | exact absurd h.1.1 (by decide) | exact absurd h.2 (by omega) | exact absurd h.1.2 (by omega) | exact absurd h.1.1.2 (by omega)))) (LeftS.cons (t := 1000010) rfl (Surv.varKT (by decide) (Surv.arr (by intro h; first | exact absurd h.1 (by decide) | exact absurd h.1.1 (by decide) | exact absurd h.2 (by omega) | exact absurd h.1.2 (by omega) | exact absurd h.1.1.2 (by omega)))) LN)))))))))))))))))))))) ?_ ?_
     ·refine AnyT.step 12 [] (by kernel_rfl) ?_
      refine NextT.pure (by kernel_rfl) rfl rfl rfl (ok_assign rfl) ?_ ?_
      ·refine AnyT.last (by kernel_rfl) ?_
       exact (SubL.cons (t := 3) rfl (Le.refl _) (SubL.cons (t := 5) rfl (Le.refl _) (SubL.cons (t := 7) rfl (Le.refl _) (SubL.cons (t := 9) rfl (Le.refl _) (SubL.cons (t := 10) rfl (Le.refl _) (SubL.cons (t := 11) rfl (Le.refl _) (SubL.cons (t := 12) rfl (Le.refl _) (SubL.cons (t := 13) rfl (Le.refl _) (SubL.cons (t := 4) rfl (Le.refl _) (SubL.cons (t := 8) rfl (Le.refl _) (SubL.cons (t := 1000005) rfl (Le.refl _) (SubL.cons (t := 1000007) rfl (Le.refl _) (SubL.cons (t := 1000009) rfl (Le.refl _) (SubL.cons (t := 1000010) rfl (Le.refl _) (SubL.cons (t := 1000012) rfl (Le.refl _) SubL.nil)))))))))))))))
      exact trivial
     exact trivial
    refine NextT.eff rfl (eff_storeA (n := 144) (s := 1000012) (size41.of (bk_len _)) rfl rfl (bk_one _) hBb12 rfl (by simp only [bk_len]) (LV 3 rfl (LeftS.cons (t := 4) rfl (Surv.ops (by decide) (by intro h; first | exact absurd h.1 (by decide) | exact absurd h.1.1 (by decide) | exact absurd h.1.1.1 (by decide) | exact absurd h.2 (by omega) | exact absurd h.1.2 (by omega))) (LV 5 rfl (LV 7 rfl (LeftS.cons (t := 8) rfl (Surv.sli (by intro h; first | exact absurd h.1 (by decide) | exact absurd h.1.1 (by decide) | exact absurd h.1.1.1 (by decide) | exact absurd h.2 (by omega) | exact absurd h.1.2 (by omega))) (LV 9 rfl (LV 10 rfl (LV 11 rfl (LV 12 rfl (LeftS.cons (t := 66) rfl (Surv.tup3 (Surv.arr (by intro h; first | exact absurd h.1 (by decide) | exact absurd h.1.1 (by decide) | exact absurd h.2 (by omega) | exact absurd h.1.2 (by omega) | exact absurd h.1.1.2 (by omega))) (Surv.v _) (Surv.v _)) (LeftS.cons (t := 67) rfl (Surv.arr (by intro h; first | exact absurd h.1 (by decide) | exact absurd h.1.1 (by decide) | exact absurd h.2 (by omega) | exact absurd h.1.2 (by omega) | exact absurd h.1.1.2 (by omega))) (LeftS.cons (t := 68) rfl (Surv.ops (by decide) (by intro h; first | exact absurd h.1 (by decide) | exact absurd h.1.1 (by decide) | exact absurd h.1.1.1 (by decide) | exact absurd h.2 (by omega) | exact absurd h.1.2 (by omega))) (LV 69 rfl (LeftS.cons (t := 72) rfl (Surv.tup3 (Surv.arr (by intro h; first | exact absurd h.1 (by decide) | exact absurd h.1.1 (by decide) | exact absurd h.2 (by omega) | exact absurd h.1.2 (by omega) | exact absurd h.1.1.2 (by omega))) (Surv.v _) (Surv.v _)) (LeftS.cons (t := 73) rfl (Surv.arr (by intro h; first | exact absurd h.1 (by decide) | exact absurd h.1.1 (by decide) | exact absurd h.2 (by omega) | exact absurd h.1.2 (by omega) | exact absurd h.1.1.2 (by omega))) (LV 74 rfl (LeftS.cons (t := 1000005) rfl (Surv.varKT (by decide) (Surv.arr (by intro h; first | exact absurd h.1 (by decide) | exact absurd h.1.1 (by decide) | exact absurd h.2 (by omega) | exact absurd h.1.2 (by omega) | exact absurd h.1.1.2 (by omega)))) (LeftS.cons (t := 1000007) rfl (Surv.varKT (by decide) (Surv.arr (by intro h; first | exact absurd h.1 (by decide) | exact absurd h.1.1 (by decide) | exact absurd h.2 (by omega) | exact absurd h.1.2 (by omega) | exact absurd h.1.1.2 (by omega)))) (LeftS.cons (t := 1000009) rfl (Surv.varKT (by decide) (Surv.arr (by intro h; first | exact absurd h.1 (by decide) | exact absurd h.1.1 (by decide) | exact absurd h.2 (by omega) | exact absurd h.1.2 (by omega) | exact absurd h.1.1.2 (by omega)))) (LeftS.cons (t := 1000010) rfl (Surv.varKT (by decide) (Surv.arr (by intro h; first | exact absurd h.1 (by decide) | exact absurd h.1.1 (by decide) | exact absurd h.2 (by omega) | exact absurd h.1.2 (by omega) | exact absurd h.1.1.2 (by omega)))) LN))))))))))))))))))))) ?_ ?_
    ·refine AnyT.step 9 [] (by kernel_rfl) ?_
     refine NextT.pure (by kernel_rfl) rfl rfl rfl (ok_extract rfl rfl) ?_ ?_
     ·refine AnyT.step 12 [] (by kernel_rfl) ?_
      refine NextT.pure (by kernel_rfl) rfl rfl rfl (ok_assign rfl) ?_ ?_
      ·refine AnyT.last (by kernel_rfl) ?_
       exact (SubL.cons (t := 3) rfl (Le.refl _) (SubL.cons (t := 5) rfl (Le.refl _) (SubL.cons (t := 7) rfl (Le.refl _) (SubL.cons (t := 9) rfl (Le.refl _) (SubL.cons (t := 10) rfl (Le.refl _) (SubL.cons (t := 11) rfl (Le.refl _) (SubL.cons (t := 12) rfl (Le.refl _) (SubL.cons (t := 13) rfl (Le.refl _) (SubL.cons (t := 4) rfl (Le.refl _) (SubL.cons (t := 8) rfl (Le.refl _) (SubL.cons (t := 1000005) rfl (Le.refl _) (SubL.cons (t := 1000007) rfl (Le.refl _) (SubL.cons (t := 1000009) rfl (Le.refl _) (SubL.cons (t := 1000010) rfl (Le.refl _) (SubL.cons (t := 1000012) rfl (Le.refl _) SubL.nil)))))))))))))))
      exact trivial
     exact trivial
    exact trivial
   ·refine ⟨3, Nat.le_of_ble_eq_true (by kernel_rfl), _, (Sv [3, 4, 5, 7, 8, 9, 10, 11, 12, 66, 67, 68, 69, 70, 71, 72, 73, 75, 1000005, 1000007, 1000009, 1000010, 1000012] rfl), by kernel_rfl, _, rfl, _, eff_storeKK (n := 144) (s := 1000010) size35 rfl rfl ((arr_unex : Le (arrZ _ _ _) (arrZ _ false _))) (Agg.arr) hBb10 rfl (Surv.arr (by intro h; first | exact absurd h.1 (by decide) | exact absurd h.1.1 (by decide) | exact absurd h.2 (by omega) | exact absurd h.1.2 (by omega) | exact absurd h.1.1.2 (by omega))) (LV 3 rfl (LeftS.cons (t := 4) rfl (Surv.ops (by decide) (by intro h; first | exact absurd h.1 (by decide) | exact absurd h.1.1 (by decide) | exact absurd h.1.1.1 (by decide) | exact absurd h.2 (by omega) | exact absurd h.1.2 (by omega))) (LV 5 rfl (LV 7 rfl (LeftS.cons (t := 8) rfl (Surv.sli (by intro h; first | exact absurd h.1 (by decide) | exact absurd h.1.1 (by decide) | exact absurd h.1.1.1 (by decide) | exact absurd h.2 (by omega) | exact absurd h.1.2 (by omega))) (LV 9 rfl (LV 10 rfl (LV 11 rfl (LV 12 rfl (LeftS.cons (t := 66) rfl (Surv.tup3 (Surv.arr (by intro h; first | exact absurd h.1 (by decide) | exact absurd h.1.1 (by decide) | exact absurd h.2 (by omega) | exact absurd h.1.2 (by omega) | exact absurd h.1.1.2 (by omega))) (Surv.v _) (Surv.v _)) (LeftS.cons (t := 67) rfl (Surv.arr (by intro h; first | exact absurd h.1 (by decide) | exact absurd h.1.1 (by decide) | exact absurd h.2 (by omega) | exact absurd h.1.2 (by omega) | exact absurd h.1.1.2 (by omega))) (LeftS.cons (t := 68) rfl (Surv.ops (by decide) (by intro h; first | exact absurd h.1 (by decide) | exact absurd h.1.1 (by decide) | exact absurd h.1.1.1 (by decide) | exact absurd h.2 (by omega) | exact absurd h.1.2 (by omega))) (LV 69 rfl (LeftS.cons (t := 72) rfl (Surv.tup3 (Surv.arr (by intro h; first | exact absurd h.1 (by decide) | exact absurd h.1.1 (by decide) | exact absurd h.2 (by omega) | exact absurd h.1.2 (by omega) | exact absurd h.1.1.2 (by omega))) (Surv.v _) (Surv.v _)) (LeftS.cons (t := 73) rfl (Surv.arr (by intro h; first | exact absurd h.1 (by decide) | exact absurd h.1.1 (by decide) | exact absurd h.2 (by omega) | exact absurd h.1.2 (by omega) | exact absurd h.1.1.2 (by omega))) (LV 75 rfl (LeftS.cons (t := 1000005) rfl (Surv.varKT (by decide) (Surv.arr (by intro h; first | exact absurd h.1 (by decide) | exact absurd h.1.1 (by decide) | exact absurd h.2 (by omega) | exact absurd h.1.2 (by omega) | exact absurd h.1.1.2 (by omega)))) (LeftS.cons (t := 1000007) rfl (Surv.varKT (by decide) (Surv.arr (by intro h; first | exact absurd h.1 (by decide) | exact absurd h.1.1 (by decide) | exact absurd h.2 (by omega) | exact absurd h.1.2 (by omega) | exact absurd h.1.1.2 (by omega)))) (LeftS.cons (t := 1000009) rfl (Surv.varKT (by decide) (Surv.arr (by intro h; first | exact absurd h.1 (by decide) | exact absurd h.1.1 (by decide) | exact absurd h.2 (by omega) | exact absurd h.1.2 (by omega) | exact absurd h.1.1.2 (by omega)))) (LT 1000012 rfl LN)))))))))))))))))))), ?_⟩
    refine AnyT.step 8 [] (by kernel_rfl) ?_
    refine NextT.pure (by kernel_rfl) rfl rfl rfl (ok_extract rfl rfl) ?_ ?_
    ·refine AnyT.step 11 [] (by kernel_rfl) ?_
     refine NextT.eff rfl (eff_storeA (n := 144) (s := 1000012) (size41.of (bk_len _)) rfl rfl (bk_one _) hBb12 rfl (by simp only [bk_len]) (LV 3 rfl (LeftS.cons (t := 4) rfl (Surv.ops (by decide) (by intro h; first | exact absurd h.1 (by decide) | exact absurd h.1.1 (by decide) | exact absurd h.1.1.1 (by decide) | exact absurd h.2 (by omega) | exact absurd h.1.2 (by omega))) (LV 5 rfl (LV 7 rfl (LeftS.cons (t := 8) rfl (Surv.sli (by intro h; first | exact absurd h.1 (by decide) | exact absurd h.1.1 (by decide) | exact absurd h.1.1.1 (by decide) | exact absurd h.2 (by omega) | exact absurd h.1.2 (by omega))) (LV 9 rfl (LV 10 rfl (LV 11 rfl (LV 12 rfl (LeftS.cons (t := 66) rfl (Surv.tup3 (Surv.arr (by intro h; first | exact absurd h.1 (by decide) | exact absurd h.1.1 (by decide) | exact absurd h.2 (by omega) | exact absurd h.1.2 (by omega) | exact absurd h.1.1.2 (by omega))) (Surv.v _) (Surv.v _)) (LeftS.cons (t := 67) rfl (Surv.arr (by intro h; first | exact absurd h.1 (by decide) | exact absurd h.1.1 (by decide) | exact absurd h.2 (by omega) | exact absurd h.1.2 (by omega) | exact absurd h.1.1.2 (by omega))) (LeftS.cons (t := 68) rfl (Surv.ops (by decide) (by intro h; first | exact absurd h.1 (by decide) | exact absurd h.1.1 (by decide) | exact absurd h.1.1.1 (by decide) | exact absurd h.2 (by omega) | exact absurd h.1.2 (by omega))) (LV 69 rfl (LeftS.cons (t := 72) rfl (Surv.tup3 (Surv.arr (by intro h; first | exact absurd h.1 (by decide) | exact absurd h.1.1 (by decide) | exact absurd h.2 (by omega) | exact absurd h.1.2 (by omega) | exact absurd h.1.1.2 (by omega))) (Surv.v _) (Surv.v _)) (LeftS.cons (t := 73) rfl (Surv.arr (by intro h; first | exact absurd h.1 (by decide) | exact absurd h.1.1 (by decide) | exact absurd h.2 (by omega) | exact absurd h.1.2 (by omega) | exact absurd h.1.1.2 (by omega))) (LV 74 rfl (LV 75 rfl (LeftS.cons (t := 1000005) rfl (Surv.varKT (by decide) (Surv.arr (by intro h; first | exact absurd h.1 (by decide) | exact absurd h.1.1 (by decide) | exact absurd h.2 (by omega) | exact absurd h.1.2 (by omega) | exact absurd h.1.1.2 (by omega)))) (LeftS.cons (t := 1000007) rfl (Surv.varKT (by decide) (Surv.arr (by intro h; first | exact absurd h.1 (by decide) | exact absurd h.1.1 (by decide) | exact absurd h.2 (by omega) | exact absurd h.1.2 (by omega) | exact absurd h.1.1.2 (by omega)))) (LeftS.cons (t := 1000009) rfl (Surv.varKT (by decide) (Surv.arr (by intro h; first | exact absurd h.1 (by decide) | exact absurd h.1.1 (by decide) | exact absurd h.2 (by omega) | exact absurd h.1.2 (by omega) | exact absurd h.1.1.2 (by omega)))) (LeftS.cons (t := 1000010) rfl (Surv.varKT (by decide) (Surv.arr (by intro h; first | exact absurd h.1 (by decide) | exact absurd h.1.1 (by decide) | exact absurd h.2 (by omega) | exact absurd h.1.2 (by omega) | exact absurd h.1.1.2 (by omega)))) LN)))))))))))))))))))))) ?_ ?_
     ·refine AnyT.step 12 [] (by kernel_rfl) ?_
      refine NextT.pure (by kernel_rfl) rfl rfl rfl (ok_assign rfl) ?_ ?_
      ·refine AnyT.last (by kernel_rfl) ?_
       exact (SubL.cons (t := 3) rfl (Le.refl _) (SubL.cons (t := 5) rfl (Le.refl _) (SubL.cons (t := 7) rfl (Le.refl _) (SubL.cons (t := 9) rfl (Le.refl _) (SubL.cons (t := 10) rfl (Le.refl _) (SubL.cons (t := 11) rfl (Le.refl _) (SubL.cons (t := 12) rfl (Le.refl _) (SubL.cons (t := 13) rfl (Le.refl _) (SubL.cons (t := 4) rfl (Le.refl _) (SubL.cons (t := 8) rfl (Le.refl _) (SubL.cons (t := 1000005) rfl (Le.refl _) (SubL.cons (t := 1000007) rfl (Le.refl _) (SubL.cons (t := 1000009) rfl (Le.refl _) (SubL.cons (t := 1000010) rfl (Le.refl _) (SubL.cons (t := 1000012) rfl (Le.refl _) SubL.nil)))))))))))))))
      exact trivial
     exact trivial
    exact trivial
   ·refine ⟨4, Nat.le_of_ble_eq_true (by kernel_rfl), _, (Sv [3, 4, 5, 7, 8, 9, 10, 11, 12, 66, 67, 68, 69, 70, 71, 72, 73, 1000005, 1000007, 1000009, 1000010, 1000012] rfl), by kernel_rfl, _, rfl, _, eff_storeKK (n := 144) (s := 1000010) size35 rfl rfl ((arr_unex : Le (arrZ _ _ _) (arrZ _ false _))) (Agg.arr) hBb10 rfl (Surv.arr (by intro h; first | exact absurd h.1 (by decide) | exact absurd h.1.1 (by decide) | exact absurd h.2 (by omega) | exact absurd h.1.2 (by omega) | exact absurd h.1.1.2 (by omega))) (LV 3 rfl (LeftS.cons (t := 4) rfl (Surv.ops (by decide) (by intro h; first | exact absurd h.1 (by decide) | exact absurd h.1.1 (by decide) | exact absurd h.1.1.1 (by decide) | exact absurd h.2 (by omega) | exact absurd h.1.2 (by omega))) (LV 5 rfl (LV 7 rfl (LeftS.cons (t := 8) rfl (Surv.sli (by intro h; first | exact absurd h.1 (by decide) | exact absurd h.1.1 (by decide) | exact absurd h.1.1.1 (by decide) | exact absurd h.2 (by omega) | exact absurd h.1.2 (by omega))) (LV 9 rfl (LV 10 rfl (LV 11 rfl (LV 12 rfl (LeftS.cons (t := 66) rfl (Surv.tup3 (Surv.arr (by intro h; first | exact absurd h.1 (by decide) | exact absurd h.1.1 (by decide) | exact absurd h.2 (by omega) | exact absurd h.1.2 (by omega) | exact absurd h.1.1.2 (by omega))) (Surv.v _) (Surv.v _)) (LeftS.cons (t := 67) rfl (Surv.arr (by intro h; first | exact absurd h.1 (by decide) | exact absurd h.1.1 (by decide) | exact absurd h.2 (by omega) | exact absurd h.1.2 (by omega) | exact absurd h.1.1.2 (by omega))) (LeftS.cons (t := 68) rfl (Surv.ops (by decide) (by intro h; first | exact absurd h.1 (by decide) | exact absurd h.1.1 (by decide) | exact absurd h.1.1.1 (by decide) | exact absurd h.2 (by omega) | exact absurd h.1.2 (by omega))) (LV 69 rfl (LeftS.cons (t := 72) rfl (Surv.tup3 (Surv.arr (by intro h; first | exact absurd h.1 (by decide) | exact absurd h.1.1 (by decide) | exact absurd h.2 (by omega) | exact absurd h.1.2 (by omega) | exact absurd h.1.1.2 (by omega))) (Surv.v _) (Surv.v _)) (LeftS.cons (t := 73) rfl (Surv.arr (by intro h; first | exact absurd h.1 (by decide) | exact absurd h.1.1 (by decide) | exact absurd h.2 (by omega) | exact absurd h.1.2 (by omega) | exact absurd h.1.1.2 (by omega))) (LeftS.cons (t := 1000005) rfl (Surv.varKT (by decide) (Surv.arr (by intro h; first | exact absurd h.1 (by decide) | exact absurd h.1.1 (by decide) | exact absurd h.2 (by omega) | exact absurd h.1.2 (by omega) | exact absurd h.1.1.2 (by omega)))) (LeftS.cons (t := 1000007) rfl (Surv.varKT (by decide) (Surv.arr (by intro h; first | exact absurd h.1 (by decide) | exact absurd h.1.1 (by decide) | exact absurd h.2 (by omega) | exact absurd h.1.2 (by omega) | exact absurd h.1.1.2 (by omega)))) (LeftS.cons (t := 1000009) rfl (Surv.varKT (by decide) (Surv.arr (by intro h; first | exact absurd h.1 (by decide) | exact absurd h.1.1 (by decide) | exact absurd h.2 (by omega) | exact absurd h.1.2 (by omega) | exact absurd h.1.1.2 (by omega)))) (LT 1000012 rfl LN))))))))))))))))))), ?_⟩
    refine AnyT.step 8 [9] (by kernel_rfl) ?_
    refine NextT.pure (by kernel_rfl) rfl rfl rfl (ok_extract rfl rfl) ?_ ?_
    ·refine AnyT.step 9 [11] (by kernel_rfl) ?_
     refine NextT.pure (by kernel_rfl) rfl rfl rfl (ok_extract rfl rfl) ?_ ?_
     ·refine AnyT.step 11 [] (by kernel_rfl) ?_
      refine NextT.eff rfl (eff_storeA (n := 144) (s := 1000012) (size41.of (bk_len _)) rfl rfl (bk_one _) hBb12 rfl (by simp only [bk_len]) (LV 3 rfl (LeftS.cons (t := 4) rfl (Surv.ops (by decide) (by intro h; first | exact absurd h.1 (by decide) | exact absurd h.1.1 (by decide) | exact absurd h.1.1.1 (by decide) | exact absurd h.2 (by omega) | exact absurd h.1.2 (by omega))) (LV 5 rfl (LV 7 rfl (LeftS.cons (t := 8) rfl (Surv.sli (by intro h; first | exact absurd h.1 (by decide) | exact absurd h.1.1 (by decide) | exact absurd h.1.1.1 (by decide) | exact absurd h.2 (by omega) | exact absurd h.1.2 (by omega))) (LV 9 rfl (LV 10 rfl (LV 11 rfl (LV 12 rfl (LeftS.cons (t := 66) rfl (Surv.tup3 (Surv.arr (by intro h; first | exact absurd h.1 (by decide) | exact absurd h.1.1 (by decide) | exact absurd h.2 (by omega) | exact absurd h.1.2 (by omega) | exact absurd h.1.1.2 (by omega))) (Surv.v _) (Surv.v _)) (LeftS.cons (t := 67) rfl (Surv.arr (by intro h; first | exact absurd h.1 (by decide) | exact absurd h.1.1 (by decide) | exact absurd h.2 (by omega) | exact absurd h.1.2 (by omega) | exact absurd h.1.1.2 (by omega))) (LeftS.cons (t := 68) rfl (Surv.ops (by decide) (by intro h; first | exact absurd h.1 (by decide) | exact absurd h.1.1 (by decide) | exact absurd h.1.1.1 (by decide) | exact absurd h.2 (by omega) | exact absurd h.1.2 (by omega))) (LV 69 rfl (LeftS.cons (t := 72) rfl (Surv.tup3 (Surv.arr (by intro h; first | exact absurd h.1 (by decide) | exact absurd h.1.1 (by decide) | exact absurd h.2 (by omega) | exact absurd h.1.2 (by omega) | exact absurd h.1.1.2 (by omega))) (Surv.v _) (Surv.v _)) (LeftS.cons (t := 73) rfl (Surv.arr (by intro h; first | exact absurd h.1 (by decide) | exact absurd h.1.1 (by decide) | exact absurd h.2 (by omega) | exact absurd h.1.2 (by omega) | exact absurd h.1.1.2 (by omega))) (LV 74 rfl (LV 75 rfl (LeftS.cons (t := 1000005) rfl (Surv.varKT (by decide) (Surv.arr (by intro h; first | exact absurd h.1 (by decide) | exact absurd h.1.1 (by decide) | exact absurd h.2 (by omega) | exact absurd h.1.2 (by omega) | exact absurd h.1.1.2 (by omega)))) (LeftS.cons (t := 1000007) rfl (Surv.varKT (by decide) (Surv.arr (by intro h; first | exact absurd h.1 (by decide) | exact absurd h.1.1 (by decide) | exact absurd h.2 (by omega) | exact absurd h.1.2 (by omega) | exact absurd h.1.1.2 (by omega)))) (LeftS.cons (t := 1000009) rfl (Surv.varKT (by decide) (Surv.arr (by intro h; first | exact absurd h.1 (by decide) | exact absurd h.1.1 (by decide) | exact absurd h.2 (by omega) | exact absurd h.1.2 (by omega) | exact absurd h.1.1.2 (by omega)))) (LeftS.cons (t := 1000010) rfl (Surv.varKT (by decide) (Surv.arr (by intro h; first | exact absurd h.1 (by decide) | exact absurd h.1.1 (by decide) | exact absurd h.2 (by omega) | exact absurd h.1.2 (by omega) | exact absurd h.1.1.2 (by omega)))) LN)))))))))))))))))))))) ?_ ?_
      ·refine AnyT.step 12 [] (by kernel_rfl) ?_
       refine NextT.pure (by kernel_rfl) rfl rfl rfl (ok_assign rfl) ?_ ?_
       ·refine AnyT.last (by kernel_rfl) ?_
        exact (SubL.cons (t := 3) rfl (Le.refl _) (SubL.cons (t := 5) rfl (Le.refl _) (SubL.cons (t := 7) rfl (Le.refl _) (SubL.cons (t := 9) rfl (Le.refl _) (SubL.cons (t := 10) rfl (Le.refl _) (SubL.cons (t := 11) rfl (Le.refl _) (SubL.cons (t := 12) rfl (Le.refl _) (SubL.cons (t := 13) rfl (Le.refl _) (SubL.cons (t := 4) rfl (Le.refl _) (SubL.cons (t := 8) rfl (Le.refl _) (SubL.cons (t := 1000005) rfl (Le.refl _) (SubL.cons (t := 1000007) rfl (Le.refl _) (SubL.cons (t := 1000009) rfl (Le.refl _) (SubL.cons (t := 1000010) rfl (Le.refl _) (SubL.cons (t := 1000012) rfl (Le.refl _) SubL.nil)))))))))))))))
       exact trivial
      exact trivial
     refine NextT.eff rfl (eff_storeA (n := 144) (s := 1000012) (size41.of (bk_len _)) rfl rfl (bk_one _) hBb12 rfl (by simp only [bk_len]) (LV 3 rfl (LeftS.cons (t := 4) rfl (Surv.ops (by decide) (by intro h; first | exact absurd h.1 (by decide) | exact absurd h.1.1 (by decide) | exact absurd h.1.1.1 (by decide) | exact absurd h.2 (by omega) | exact absurd h.1.2 (by omega))) (LV 5 rfl (LV 7 rfl (LeftS.cons (t := 8) rfl (Surv.sli (by intro h; first | exact absurd h.1 (by decide) | exact absurd h.1.1 (by decide) | exact absurd h.1.1.1 (by decide) | exact absurd h.2 (by omega) | exact absurd h.1.2 (by omega))) (LV 9 rfl (LV 10 rfl (LV 11 rfl (LV 12 rfl (LeftS.cons (t := 66) rfl (Surv.tup3 (Surv.arr (by intro h; first | exact absurd h.1 (by decide) | exact absurd h.1.1 (by decide) | exact absurd h.2 (by omega) | exact absurd h.1.2 (by omega) | exact absurd h.1.1.2 (by omega))) (Surv.v _) (Surv.v _)) (LeftS.cons (t := 67) rfl (Surv.arr (by intro h; first | exact absurd h.1 (by decide) | exact absurd h.1.1 (by decide) | exact absurd h.2 (by omega) | exact absurd h.1.2 (by omega) | exact absurd h.1.1.2 (by omega))) (LeftS.cons (t := 68) rfl (Surv.ops (by decide) (by intro h; first | exact absurd h.1 (by decide) | exact absurd h.1.1 (by decide) | exact absurd h.1.1.1 (by decide) | exact absurd h.2 (by omega) | exact absurd h.1.2 (by omega))) (LV 69 rfl (LeftS.cons (t := 72) rfl (Surv.tup3 (Surv.arr (by intro h; first | exact absurd h.1 (by decide) | exact absurd h.1.1 (by decide) | exact absurd h.2 (by omega) | exact absurd h.1.2 (by omega) | exact absurd h.1.1.2 (by omega))) (Surv.v _) (Surv.v _)) (LeftS.cons (t := 73) rfl (Surv.arr (by intro h; first | exact absurd h.1 (by decide) | exact absurd h.1.1 (by decide) | exact absurd h.2 (by omega) | exact absurd h.1.2 (by omega) | exact absurd h.1.1.2 (by omega))) (LV 74 rfl (LeftS.cons (t := 1000005) rfl (Surv.varKT (by decide) (Surv.arr (by intro h; first | exact absurd h.1 (by decide) | exact absurd h.1.1 (by decide) | exact absurd h.2 (by omega) | exact absurd h.1.2 (by omega) | exact absurd h.1.1.2 (by omega)))) (LeftS.cons (t := 1000007) rfl (Surv.varKT (by decide) (Surv.arr (by intro h; first | exact absurd h.1 (by decide) | exact absurd h.1.1 (by decide) | exact absurd h.2 (by omega) | exact absurd h.1.2 (by omega) | exact absurd h.1.1.2 (by omega)))) (LeftS.cons (t := 1000009) rfl (Surv.varKT (by decide) (Surv.arr (by intro h; first | exact absurd h.1 (by decide) | exact absurd h.1.1 (by decide) | exact absurd h.2 (by omega) | exact absurd h.1.2 (by omega) | exact absurd h.1.1.2 (by omega)))) (LeftS.cons (t := 1000010) rfl (Surv.varKT (by decide) (Surv.arr (by intro h; first | exact absurd h.1 (by decide) | exact absurd h.1.1 (by decide) | exact absurd h.2 (by omega) | exact absurd h.1.2 (by omega) | exact absurd h.1.1.2 (by omega)))) LN))))))))))))))))))))) ?_ ?_
     ·refine AnyT.step 9 [] (by kernel_rfl) ?_
      refine NextT.pure (by kernel_rfl) rfl rfl rfl (ok_extract rfl rfl) ?_ ?_
      ·refine AnyT.step 12 [] (by kernel_rfl) ?_
       refine NextT.pure (by kernel_rfl) rfl rfl rfl (ok_assign rfl) ?_ ?_
       ·refine AnyT.last (by kernel_rfl) ?_
        exact (SubL.cons (t := 3) rfl (Le.refl _) (SubL.cons (t := 5) rfl (Le.refl _) (SubL.cons (t := 7) rfl (Le.refl _) (SubL.cons (t := 9) rfl (Le.refl _) (SubL.cons (t := 10) rfl (Le.refl _) (SubL.cons (t := 11) rfl (Le.refl _) (SubL.cons (t := 12) rfl (Le.refl _) (SubL.cons (t := 13) rfl (Le.refl _) (SubL.cons (t := 4) rfl (Le.refl _) (SubL.cons (t := 8) rfl (Le.refl _) (SubL.cons (t := 1000005) rfl (Le.refl _) (SubL.cons (t := 1000007) rfl (Le.refl _) (SubL.cons (t := 1000009) rfl (Le.refl _) (SubL.cons (t := 1000010) rfl (Le.refl _) (SubL.cons (t := 1000012) rfl (Le.refl _) SubL.nil)))))))))))))))
       exact trivial
      exact trivial
     exact trivial
    refine NextT.pure (by kernel_rfl) rfl rfl rfl (ok_extract rfl rfl) ?_ ?_
    ·refine AnyT.step 8 [] (by kernel_rfl) ?_
     refine NextT.pure (by kernel_rfl) rfl rfl rfl (ok_extract rfl rfl) ?_ ?_
     ·refine AnyT.step 11 [] (by kernel_rfl) ?_
      refine NextT.eff rfl (eff_storeA (n := 144) (s := 1000012) (size41.of (bk_len _)) rfl rfl (bk_one _) hBb12 rfl (by simp only [bk_len]) (LV 3 rfl (LeftS.cons (t := 4) rfl (Surv.ops (by decide) (by intro h; first | exact absurd h.1 (by decide) | exact absurd h.1.1 (by decide) | exact absurd h.1.1.1 (by decide) | exact absurd h.2 (by omega) | exact absurd h.1.2 (by omega))) (LV 5 rfl (LV 7 rfl (LeftS.cons (t := 8) rfl (Surv.sli (by intro h; first | exact absurd h.1 (by decide) | exact absurd h.1.1 (by decide) | exact absurd h.1.1.1 (by decide) | exact absurd h.2 (by omega) | exact absurd h.1.2 (by omega))) (LV 9 rfl (LV 10 rfl (LV 11 rfl (LV 12 rfl (LeftS.cons (t := 66) rfl (Surv.tup3 (Surv.arr (by intro h; first | exact absurd h.1 (by decide) | exact absurd h.1.1 (by decide) | exact absurd h.2 (by omega) | exact absurd h.1.2 (by omega) | exact absurd h.1.1.2 (by omega))) (Surv.v _) (Surv.v _)) (LeftS.cons (t := 67) rfl (Surv.arr (by intro h; first | exact absurd h.1 (by decide) | exact absurd h.1.1 (by decide) | exact absurd h.2 (by omega) | exact absurd h.1.2 (by omega) | exact absurd h.1.1.2 (by omega))) (LeftS.cons (t := 68) rfl (Surv.ops (by decide) (by intro h; first | exact absurd h.1 (by decide) | exact absurd h.1.1 (by decide) | exact absurd h.1.1.1 (by decide) | exact absurd h.2 (by omega) | exact absurd h.1.2 (by omega))) (LV 69 rfl (LeftS.cons (t := 72) rfl (Surv.tup3 (Surv.arr (by intro h; first | exact absurd h.1 (by decide) | exact absurd h.1.1 (by decide) | exact absurd h.2 (by omega) | exact absurd h.1.2 (by omega) | exact absurd h.1.1.2 (by omega))) (Surv.v _) (Surv.v _)) (LeftS.cons (t := 73) rfl (Surv.arr (by intro h; first | exact absurd h.1 (by decide) | exact absurd h.1.1 (by decide) | exact absurd h.2 (by omega) | exact absurd h.1.2 (by omega) | exact absurd h.1.1.2 (by omega))) (LV 74 rfl (LV 75 rfl (LeftS.cons (t := 1000005) rfl (Surv.varKT (by decide) (Surv.arr (by intro h; first | exact absurd h.1 (by decide) | exact absurd h.1.1 (by decide) | exact absurd h.2 (by omega) | exact absurd h.1.2 (by omega) | exact absurd h.1.1.2 (by omega)))) (LeftS.cons (t := 1000007) rfl (Surv.varKT (by decide) (Surv.arr (by intro h; first | exact absurd h.1 (by decide) | exact absurd h.1.1 (by decide) | exact absurd h.2 (by omega) | exact absurd h.1.2 (by omega) | exact absurd h.1.1.2 (by omega)))) (LeftS.cons (t := 1000009) rfl (Surv.varKT (by decide) (Surv.arr (by intro h; first | exact absurd h.1 (by decide) | exact absurd h.1.1 (by decide) | exact absurd h.2 (by omega) | exact absurd h.1.2 (by omega) | exact absurd h.1.1.2 (by omega)))) (LeftS.cons (t := 1000010) rfl (Surv.varKT (by decide) (Surv.arr (by intro h; first | exact absurd h.1 (by decide) | exact absurd h.1.1 (by decide) | exact absurd h.2 (by omega) | exact absurd h.1.2 (by omega) | exact absurd h.1.1.2 (by omega)))) LN)))))))))))))))))))))) ?_ ?_
      ·refine AnyT.step 12 [] (by kernel_rfl) ?_
       refine NextT.pure (by kernel_rfl) rfl rfl rfl (ok_assign rfl) ?_ ?_
       ·refine AnyT.last (by kernel_rfl) ?_
        exact (SubL.cons (t := 3) rfl (Le.refl _) (SubL.cons (t := 5) rfl (Le.refl _) (SubL.cons (t := 7) rfl (Le.refl _) (SubL.cons (t := 9) rfl (Le.refl _) (SubL.cons (t := 10) rfl (Le.refl _) (SubL.cons (t := 11) rfl (Le.refl _) (SubL.cons (t := 12) rfl (Le.refl _) (SubL.cons (t := 13) rfl (Le.refl _) (SubL.cons (t := 4) rfl (Le.refl _) (SubL.cons (t := 8) rfl (Le.refl _) (SubL.cons (t := 1000005) rfl (Le.refl _) (SubL.cons (t := 1000007) rfl (Le.refl _) (SubL.cons (t := 1000009) rfl (Le.refl _) (SubL.cons (t := 1000010) rfl (Le.refl _) (SubL.cons (t := 1000012) rfl (Le.refl _) SubL.nil)))))))))))))))
       exact trivial
      exact trivial
     exact trivial
    exact trivial
  ·refine EN ?_
   refine GS ?_
   refine RunTK.newG 0 (by decide) rfl (.inl rfl) ?_
   refine RN ?_
   refine ⟨_, _, _, eff_allocF (n := 144) (d := 14) (k := 1000014) [(8, (sliZ (zOwn 49 w₀.heap.size) true L.length (rssV (resA (zA n) L))), fun b => sliZ (zCut (zOwn 49 w₀.heap.size) b) true L.length (rssV (resA (zA n) L)))] zero49 (by decide) (fun p hp => by simp only [List.mem_cons, List.not_mem_nil, or_false] at hp; rcases hp with rfl <;> exact ⟨rfl, by dsimp only; decide, fun w x h => by first | exact varK_arr_cut h | exact sli_cut h | exact ops_cut h | exact arr_cut h⟩), fun b14 hb14 => ?_⟩
   have hBb14 := hb14.1
   refine TL ?_
   refine RN ?_
   refine QS ?_
   refine A.regL0 10 [8, 9] (by kernel_rfl) (by kernel_rfl) (by kernel_rfl) (by kernel_rfl) [(6, .v (nI (0))), (14, .v (ptr b14)), (1000014, blk b14 49 (rsV (stepA (runA (zA n) (L.take i)) (nthO L i)).2)), (3, .v (nI (n))), (5, .v (ptr b5)), (7, .v (ptr b7)), (9, .v (ptr b9)), (10, .v (ptr b10)), (11, .v (nI (i))), (12, .v (ptr b12)), (13, .v (.int .i64 (stepA (runA (zA n) (L.take i)) (nthO L i)).2.2)), (4, lstE 47 3 (L.map (opZ (zCut (zDat 41 5 w₀.heap.size) b12)))), (1000005, varK b5 30 2 (arrZ (zCut (zOwn 41 w₀.heap.size) b12) true (zA n))), (1000007, varK b7 30 2 (arrZ (zCut (zOwn 41 w₀.heap.size) b12) true (runA (zA n) L))), (1000010, varK b10 35 2 (arrZ (zOwn 41 (b12 + 1)) false (stepA (runA (zA n) (L.take i)) (nthO L i)).1)), (1000012, blk b12 41 (bkV (stepA (runA (zA n) (L.take i)) (nthO L i)).2.1)), (8, sliZ (zCut (zOwn 49 w₀.heap.size) b14) true L.length (rssV (resA (zA n) L))), (1000009, varK b9 30 2 (arrZ (zOwn 41 w₀.heap.size) true (stepA (runA (zA n) (L.take i)) (nthO L i)).1))] ?_ ?_
   ·refine RS (ok_loadVK (s := 1000009) (by decide) Try.underlying30 rfl size30 rfl rfl) ?_
    refine RV 2 rfl ?_
    refine RS (ok_indexK i Try.underlying25 size47 rfl ops_any rfl (map_nthO opG hlt)) ?_
    refine RS (ok_loadK Try.underlying47 rfl size47 rfl (Le.refl _)) ?_
    refine RS ((ok_callB (Do_ok (runA (zA n) (L.take i)) (nthO L i) (chk_ok (run_ok (L := L.take i) hz) h1 (by omega)) (by rw [(run_ok (L := L.take i) hz).1]; omega) (by rw [(run_ok (L := L.take i) hz).2]; omega) (by rw [(run_ok (L := L.take i) hz).1, (run_ok (L := L.take i) hz).2])) (fun _ _ h => tup_le3 (arr_mono (own_monoT h)) (Le.refl _) (Le.refl _)) (Args.cons rfl (by first | exact Le.refl _ | exact Le.old _ _ | exact arr_any | exact arr_ex | exact arrD_any | exact op_any | exact (Le.old _ _).trans arrD_any | exact (Le.old _ _).trans arr_any) (Args.cons rfl (by first | exact Le.refl _ | exact Le.old _ _ | exact arr_any | exact arr_ex | exact arrD_any | exact op_any | exact (Le.old _ _).trans arrD_any | exact (Le.old _ _).trans arr_any) Args.nil)))) ?_
    refine RM rfl ?_
    refine RS (ok_extract rfl rfl) ?_
    refine RS (ok_extract rfl rfl) ?_
    refine RS (ok_extract rfl rfl) ?_
    refine RN ?_
    intro S hS
    simp only [subs, List.map_cons, List.map_nil, List.cons_append, List.nil_append, List.mem_cons, List.not_mem_nil, or_false] at hS
    rcases hS with rfl | rfl | rfl | rfl
    ·refine ⟨2, Nat.le_of_ble_eq_true (by kernel_rfl), _, (Sv [3, 4, 5, 7, 8, 9, 10, 11, 12, 13, 14, 76, 77, 78, 79, 80, 81, 82, 83, 84, 85, 1000005, 1000007, 1000009, 1000010, 1000012, 1000014] rfl), by kernel_rfl, _, rfl, _, eff_storeKK (n := 144) (s := 1000009) size30 rfl rfl (Le.refl _) (Agg.arr) hBb9 rfl (Surv.arr (by intro h; first | exact absurd h.1 (by decide) | exact absurd h.1.1 (by decide) | exact absurd h.2 (by omega) | exact absurd h.1.2 (by omega) | exact absurd h.1.1.2 (by omega))) (LV 3 rfl (LeftS.cons (t := 4) rfl (Surv.ops (by decide) (by intro h; first | exact absurd h.1 (by decide) | exact absurd h.1.1 (by decide) | exact absurd h.1.1.1 (by decide) | exact absurd h.2 (by omega) | exact absurd h.1.2 (by omega))) (LV 5 rfl (LV 7 rfl (LeftS.cons (t := 8) rfl (Surv.sli (by intro h; first | exact absurd h.1 (by decide) | exact absurd h.1.1 (by decide) | exact absurd h.1.1.1 (by decide) | exact absurd h.2 (by omega) | exact absurd h.1.2 (by omega))) (LV 9 rfl (LV 10 rfl (LV 11 rfl (LV 12 rfl (LV 13 rfl (LV 14 rfl (LeftS.cons (t := 76) rfl (Surv.tup3 (Surv.arr (by intro h; first | exact absurd h.1 (by decide) | exact absurd h.1.1 (by decide) | exact absurd h.2 (by omega) | exact absurd h.1.2 (by omega) | exact absurd h.1.1.2 (by omega))) (Surv.v _) (Surv.v _)) (LeftS.cons (t := 77) rfl (Surv.arr (by intro h; first | exact absurd h.1 (by decide) | exact absurd h.1.1 (by decide) | exact absurd h.2 (by omega) | exact absurd h.1.2 (by omega) | exact absurd h.1.1.2 (by omega))) (LeftS.cons (t := 78) rfl (Surv.ops (by decide) (by intro h; first | exact absurd h.1 (by decide) | exact absurd h.1.1 (by decide) | exact absurd h.1.1.1 (by decide) | exact absurd h.2 (by omega) | exact absurd h.1.2 (by omega))) (LV 79 rfl (LeftS.cons (t := 82) rfl (Surv.tup3 (Surv.arr (by intro h; first | exact absurd h.1 (by decide) | exact absurd h.1.1 (by decide) | exact absurd h.2 (by omega) | exact absurd h.1.2 (by omega) | exact absurd h.1.1.2 (by omega))) (Surv.v _) (Surv.v _)) (LeftS.cons (t := 83) rfl (Surv.arr (by intro h; first | exact absurd h.1 (by decide) | exact absurd h.1.1 (by decide) | exact absurd h.2 (by omega) | exact absurd h.1.2 (by omega) | exact absurd h.1.1.2 (by omega))) (LV 84 rfl (LV 85 rfl (LeftS.cons (t := 1000005) rfl (Surv.varK (by omega) (Surv.arr (by intro h; first | exact absurd h.1 (by decide) | exact absurd h.1.1 (by decide) | exact absurd h.2 (by omega) | exact absurd h.1.2 (by omega) | exact absurd h.1.1.2 (by omega)))) (LeftS.cons (t := 1000007) rfl (Surv.varK (by omega) (Surv.arr (by intro h; first | exact absurd h.1 (by decide) | exact absurd h.1.1 (by decide) | exact absurd h.2 (by omega) | exact absurd h.1.2 (by omega) | exact absurd h.1.1.2 (by omega)))) (LeftS.cons (t := 1000010) rfl (Surv.varKT (by decide) (Surv.arr (by intro h; first | exact absurd h.1 (by decide) | exact absurd h.1.1 (by decide) | exact absurd h.2 (by omega) | exact absurd h.1.2 (by omega) | exact absurd h.1.1.2 (by omega)))) (LT 1000012 rfl (LT 1000014 rfl LN)))))))))))))))))))))))), ?_⟩
     refine AnyT.step 11 [] (by kernel_rfl) ?_
     refine NextT.eff rfl (eff_storeA (n := 144) (s := 1000014) (size49.of (rs_len _)) rfl rfl (rs_one _) hBb14 rfl (by simp only [rs_len]) (LV 3 rfl (LeftS.cons (t := 4) rfl (Surv.ops (by decide) (by intro h; first | exact absurd h.1 (by decide) | exact absurd h.1.1 (by decide) | exact absurd h.1.1.1 (by decide) | exact absurd h.2 (by omega) | exact absurd h.1.2 (by omega))) (LV 5 rfl (LV 7 rfl (LeftS.cons (t := 8) rfl (Surv.sli (by intro h; first | exact absurd h.1 (by decide) | exact absurd h.1.1 (by decide) | exact absurd h.1.1.1 (by decide) | exact absurd h.2 (by omega) | exact absurd h.1.2 (by omega))) (LV 9 rfl (LV 10 rfl (LV 11 rfl (LV 12 rfl (LV 13 rfl (LV 14 rfl (LeftS.cons (t := 76) rfl (Surv.tup3 (Surv.arr (by intro h; first | exact absurd h.1 (by decide) | exact absurd h.1.1 (by decide) | exact absurd h.2 (by omega) | exact absurd h.1.2 (by omega) | exact absurd h.1.1.2 (by omega))) (Surv.v _) (Surv.v _)) (LeftS.cons (t := 77) rfl (Surv.arr (by intro h; first | exact absurd h.1 (by decide) | exact absurd h.1.1 (by decide) | exact absurd h.2 (by omega) | exact absurd h.1.2 (by omega) | exact absurd h.1.1.2 (by omega))) (LeftS.cons (t := 78) rfl (Surv.ops (by decide) (by intro h; first | exact absurd h.1 (by decide) | exact absurd h.1.1 (by decide) | exact absurd h.1.1.1 (by decide) | exact absurd h.2 (by omega) | exact absurd h.1.2 (by omega))) (LV 79 rfl (LeftS.cons (t := 82) rfl (Surv.tup3 (Surv.arr (by intro h; first | exact absurd h.1 (by decide) | exact absurd h.1.1 (by decide) | exact absurd h.2 (by omega) | exact absurd h.1.2 (by omega) | exact absurd h.1.1.2 (by omega))) (Surv.v _) (Surv.v _)) (LeftS.cons (t := 83) rfl (Surv.arr (by intro h; first | exact absurd h.1 (by decide) | exact absurd h.1.1 (by decide) | exact absurd h.2 (by omega) | exact absurd h.1.2 (by omega) | exact absurd h.1.1.2 (by omega))) (LV 84 rfl (LV 85 rfl (LeftS.cons (t := 1000005) rfl (Surv.varKT (by decide) (Surv.arr (by intro h; first | exact absurd h.1 (by decide) | exact absurd h.1.1 (by decide) | exact absurd h.2 (by omega) | exact absurd h.1.2 (by omega) | exact absurd h.1.1.2 (by omega)))) (LeftS.cons (t := 1000007) rfl (Surv.varKT (by decide) (Surv.arr (by intro h; first | exact absurd h.1 (by decide) | exact absurd h.1.1 (by decide) | exact absurd h.2 (by omega) | exact absurd h.1.2 (by omega) | exact absurd h.1.1.2 (by omega)))) (LeftS.cons (t := 1000009) rfl (Surv.varKT (by decide) (Surv.arr (by intro h; first | exact absurd h.1 (by decide) | exact absurd h.1.1 (by decide) | exact absurd h.2 (by omega) | exact absurd h.1.2 (by omega) | exact absurd h.1.1.2 (by omega)))) (LeftS.cons (t := 1000010) rfl (Surv.varKT (by decide) (Surv.arr (by intro h; first | exact absurd h.1 (by decide) | exact absurd h.1.1 (by decide) | exact absurd h.2 (by omega) | exact absurd h.1.2 (by omega) | exact absurd h.1.1.2 (by omega)))) (LT 1000012 rfl LN))))))))))))))))))))))))) ?_ ?_
     ·refine AnyT.step 12 [] (by kernel_rfl) ?_
      refine NextT.pure (by kernel_rfl) rfl rfl rfl (ok_assign rfl) ?_ ?_
      ·refine AnyT.last (by kernel_rfl) ?_
       exact (SubL.cons (t := 6) rfl (Le.refl _) (SubL.cons (t := 14) rfl (Le.refl _) (SubL.cons (t := 1000014) rfl (Le.refl _) (SubL.cons (t := 3) rfl (Le.refl _) (SubL.cons (t := 5) rfl (Le.refl _) (SubL.cons (t := 7) rfl (Le.refl _) (SubL.cons (t := 9) rfl (Le.refl _) (SubL.cons (t := 10) rfl (Le.refl _) (SubL.cons (t := 11) rfl (Le.refl _) (SubL.cons (t := 12) rfl (Le.refl _) (SubL.cons (t := 13) rfl (Le.refl _) (SubL.cons (t := 4) rfl (Le.refl _) (SubL.cons (t := 1000005) rfl (Le.refl _) (SubL.cons (t := 1000007) rfl (Le.refl _) (SubL.cons (t := 1000010) rfl (Le.refl _) (SubL.cons (t := 1000012) rfl (Le.refl _) (SubL.cons (t := 8) rfl (Le.refl _) (SubL.cons (t := 1000009) rfl (Le.refl _) SubL.nil))))))))))))))))))
      exact trivial
     exact trivial
    ·refine ⟨3, Nat.le_of_ble_eq_true (by kernel_rfl), _, (Sv [3, 4, 5, 7, 8, 9, 10, 11, 12, 13, 14, 76, 77, 78, 79, 80, 81, 82, 83, 84, 1000005, 1000007, 1000009, 1000010, 1000012, 1000014] rfl), by kernel_rfl, _, rfl, _, eff_storeKK (n := 144) (s := 1000009) size30 rfl rfl (Le.refl _) (Agg.arr) hBb9 rfl (Surv.arr (by intro h; first | exact absurd h.1 (by decide) | exact absurd h.1.1 (by decide) | exact absurd h.2 (by omega) | exact absurd h.1.2 (by omega) | exact absurd h.1.1.2 (by omega))) (LV 3 rfl (LeftS.cons (t := 4) rfl (Surv.ops (by decide) (by intro h; first | exact absurd h.1 (by decide) | exact absurd h.1.1 (by decide) | exact absurd h.1.1.1 (by decide) | exact absurd h.2 (by omega) | exact absurd h.1.2 (by omega))) (LV 5 rfl (LV 7 rfl (LeftS.cons (t := 8) rfl (Surv.sli (by intro h; first | exact absurd h.1 (by decide) | exact absurd h.1.1 (by decide) | exact absurd h.1.1.1 (by decide) | exact absurd h.2 (by omega) | exact absurd h.1.2 (by omega))) (LV 9 rfl (LV 10 rfl (LV 11 rfl (LV 12 rfl (LV 13 rfl (LV 14 rfl (LeftS.cons (t := 76) rfl (Surv.tup3 (Surv.arr (by intro h; first | exact absurd h.1 (by decide) | exact absurd h.1.1 (by decide) | exact absurd h.2 (by omega) | exact absurd h.1.2 (by omega) | exact absurd h.1.1.2 (by omega))) (Surv.v _) (Surv.v _)) (LeftS.cons (t := 77) rfl (Surv.arr (by intro h; first | exact absurd h.1 (by decide) | exact absurd h.1.1 (by decide) | exact absurd h.2 (by omega) | exact absurd h.1.2 (by omega) | exact absurd h.1.1.2 (by omega))) (LeftS.cons (t := 78) rfl (Surv.ops (by decide) (by intro h; first | exact absurd h.1 (by decide) | exact absurd h.1.1 (by decide) | exact absurd h.1.1.1 (by decide) | exact absurd h.2 (by omega) | exact absurd h.1.2 (by omega))) (LV 79 rfl (LeftS.cons (t := 82) rfl (Surv.tup3 (Surv.arr (by intro h; first | exact absurd h.1 (by decide) | exact absurd h.1.1 (by decide) | exact absurd h.2 (by omega) | exact absurd h.1.2 (by omega) | exact absurd h.1.1.2 (by omega))) (Surv.v _) (Surv.v _)) (LeftS.cons (t := 83) rfl (Surv.arr (by intro h; first | exact absurd h.1 (by decide) | exact absurd h.1.1 (by decide) | exact absurd h.2 (by omega) | exact absurd h.1.2 (by omega) | exact absurd h.1.1.2 (by omega))) (LV 84 rfl (LeftS.cons (t := 1000005) rfl (Surv.varK (by omega) (Surv.arr (by intro h; first | exact absurd h.1 (by decide) | exact absurd h.1.1 (by decide) | exact absurd h.2 (by omega) | exact absurd h.1.2 (by omega) | exact absurd h.1.1.2 (by omega)))) (LeftS.cons (t := 1000007) rfl (Surv.varK (by omega) (Surv.arr (by intro h; first | exact absurd h.1 (by decide) | exact absurd h.1.1 (by decide) | exact absurd h.2 (by omega) | exact absurd h.1.2 (by omega) | exact absurd h.1.1.2 (by omega)))) (LeftS.cons (t := 1000010) rfl (Surv.varKT (by decide) (Surv.arr (by intro h; first | exact absurd h.1 (by decide) | exact absurd h.1.1 (by decide) | exact absurd h.2 (by omega) | exact absurd h.1.2 (by omega) | exact absurd h.1.1.2 (by omega)))) (LT 1000012 rfl (LT 1000014 rfl LN))))))))))))))))))))))), ?_⟩
     refine AnyT.step 9 [11] (by kernel_rfl) ?_
     refine NextT.pure (by kernel_rfl) rfl rfl rfl (ok_extract rfl rfl) ?_ ?_
     ·refine AnyT.step 11 [] (by kernel_rfl) ?_
      refine NextT.eff rfl (eff_storeA (n := 144) (s := 1000014) (size49.of (rs_len _)) rfl rfl (rs_one _) hBb14 rfl (by simp only [rs_len]) (LV 3 rfl (LeftS.cons (t := 4) rfl (Surv.ops (by decide) (by intro h; first | exact absurd h.1 (by decide) | exact absurd h.1.1 (by decide) | exact absurd h.1.1.1 (by decide) | exact absurd h.2 (by omega) | exact absurd h.1.2 (by omega))) (LV 5 rfl (LV 7 rfl (LeftS.cons (t := 8) rfl (Surv.sli (by intro h; first | exact absurd h.1 (by decide) | exact absurd h.1.1 (by decide) | exact absurd h.1.1.1 (by decide) | exact absurd h.2 (by omega) | exact absurd h.1.2 (by omega))) (LV 9 rfl (LV 10 rfl (LV 11 rfl (LV 12 rfl (LV 13 rfl (LV 14 rfl (LeftS.cons (t := 76) rfl (Surv.tup3 (Surv.arr (by intro h; first | exact absurd h.1 (by decide) | exact absurd h.1.1 (by decide) | exact absurd h.2 (by omega) | exact absurd h.1.2 (by omega) | exact absurd h.1.1.2 (by omega))) (Surv.v _) (Surv.v _)) (LeftS.cons (t := 77) rfl (Surv.arr (by intro h; first | exact absurd h.1 (by decide) | exact absurd h.1.1 (by decide) | exact absurd h.2 (by omega) | exact absurd h.1.2 (by omega) | exact absurd h.1.1.2 (by omega))) (LeftS.cons (t := 78) rfl (Surv.ops (by decide) (by intro h; first | exact absurd h.1 (by decide) | exact absurd h.1.1 (by decide) | exact absurd h.1.1.1 (by decide) | exact absurd h.2 (by omega) | exact absurd h.1.2 (by omega))) (LV 79 rfl (LeftS.cons (t := 82) rfl (Surv.tup3 (Surv.arr (by intro h; first | exact absurd h.1 (by decide) | exact absurd h.1.1 (by decide) | exact absurd h.2 (by omega) | exact absurd h.1.2 (by omega) | exact absurd h.1.1.2 (by omega))) (Surv.v _) (Surv.v _)) (LeftS.cons (t := 83) rfl (Surv.arr (by intro h; first | exact absurd h.1 (by decide) | exact absurd h.1.1 (by decide) | exact absurd h.2 (by omega) | exact absurd h.1.2 (by omega) | exact absurd h.1.1.2 (by omega))) (LV 84 rfl (LV 85 rfl (LeftS.cons (t := 1000005) rfl (Surv.varKT (by decide) (Surv.arr (by intro h; first | exact absurd h.1 (by decide) | exact absurd h.1.1 (by decide) | exact absurd h.2 (by omega) | exact absurd h.1.2 (by omega) | exact absurd h.1.1.2 (by omega)))) (LeftS.cons (t := 1000007) rfl (Surv.varKT (by decide) (Surv.arr (by intro h; first | exact absurd h.1 (by decide) | exact absurd h.1.1 (by decide) | exact absurd h.2 (by omega) | exact absurd h.1.2 (by omega) | exact absurd h.1.1.2 (by omega)))) (LeftS.cons (t := 1000009) rfl (Surv.varKT (by decide) (Surv.arr (by intro h; first | exact absurd h.1 (by decide) | exact absurd h.1.1 (by decide) | exact absurd h.2 (by omega) | exact absurd h.1.2 (by omega) | exact absurd h.1.1.2 (by omega)))) (LeftS.cons (t := 1000010) rfl (Surv.varKT (by decide) (Surv.arr (by intro h; first | exact absurd h.1 (by decide) | exact absurd h.1.1 (by decide) | exact absurd h.2 (by omega) | exact absurd h.1.2 (by omega) | exact absurd h.1.1.2 (by omega)))) (LT 1000012 rfl LN))))))))))))))))))))))))) ?_ ?_
      ·refine AnyT.step 12 [] (by kernel_rfl) ?_
       refine NextT.pure (by kernel_rfl) rfl rfl rfl (ok_assign rfl) ?_ ?_
       ·refine AnyT.last (by kernel_rfl) ?_
        exact (SubL.cons (t := 6) rfl (Le.refl _) (SubL.cons (t := 14) rfl (Le.refl _) (SubL.cons (t := 1000014) rfl (Le.refl _) (SubL.cons (t := 3) rfl (Le.refl _) (SubL.cons (t := 5) rfl (Le.refl _) (SubL.cons (t := 7) rfl (Le.refl _) (SubL.cons (t := 9) rfl (Le.refl _) (SubL.cons (t := 10) rfl (Le.refl _) (SubL.cons (t := 11) rfl (Le.refl _) (SubL.cons (t := 12) rfl (Le.refl _) (SubL.cons (t := 13) rfl (Le.refl _) (SubL.cons (t := 4) rfl (Le.refl _) (SubL.cons (t := 1000005) rfl (Le.refl _) (SubL.cons (t := 1000007) rfl (Le.refl _) (SubL.cons (t := 1000010) rfl (Le.refl _) (SubL.cons (t := 1000012) rfl (Le.refl _) (SubL.cons (t := 8) rfl (Le.refl _) (SubL.cons (t := 1000009) rfl (Le.refl _) SubL.nil))))))))))))))))))
       exact trivial
      exact trivial
     refine NextT.eff rfl (eff_storeA (n := 144) (s := 1000014) (size49.of (rs_len _)) rfl rfl (rs_one _) hBb14 rfl (by simp only [rs_len]) (LV 3 rfl (LeftS.cons (t := 4) rfl (Surv.ops (by decide) (by intro h; first | exact absurd h.1 (by decide) | exact absurd h.1.1 (by decide) | exact absurd h.1.1.1 (by decide) | exact absurd h.2 (by omega) | exact absurd h.1.2 (by omega))) (LV 5 rfl (LV 7 rfl (LeftS.cons (t := 8) rfl (Surv.sli (by intro h; first | exact absurd h.1 (by decide) | exact absurd h.1.1 (by decide) | exact absurd h.1.1.1 (by decide) | exact absurd h.2 (by omega) | exact absurd h.1.2 (by omega))) (LV 9 rfl (LV 10 rfl (LV 11 rfl (LV 12 rfl (LV 13 rfl (LV 14 rfl (LeftS.cons (t := 76) rfl (Surv.tup3 (Surv.arr (by intro h; first | exact absurd h.1 (by decide) | exact absurd h.1.1 (by decide) | exact absurd h.2 (by omega) | exact absurd h.1.2 (by omega) | exact absurd h.1.1.2 (by omega))) (Surv.v _) (Surv.v _)) (LeftS.cons (t := 77) rfl (Surv.arr (by intro h; first | exact absurd h.1 (by decide) | exact absurd h.1.1 (by decide) | exact absurd h.2 (by omega) | exact absurd h.1.2 (by omega) | exact absurd h.1.1.2 (by omega))) (LeftS.cons (t := 78) rfl (Surv.ops (by decide) (by intro h; first | exact absurd h.1 (by decide) | exact absurd h.1.1 (by decide) | exact absurd h.1.1.1 (by decide) | exact absurd h.2 (by omega) | exact absurd h.1.2 (by omega))) (LV 79 rfl (LeftS.cons (t := 82) rfl (Surv.tup3 (Surv.arr (by intro h; first | exact absurd h.1 (by decide) | exact absurd h.1.1 (by decide) | exact absurd h.2 (by omega) | exact absurd h.1.2 (by omega) | exact absurd h.1.1.2 (by omega))) (Surv.v _) (Surv.v _)) (LeftS.cons (t := 83) rfl (Surv.arr (by intro h; first | exact absurd h.1 (by decide) | exact absurd h.1.1 (by decide) | exact absurd h.2 (by omega) | exact absurd h.1.2 (by omega) | exact absurd h.1.1.2 (by omega))) (LV 84 rfl (LeftS.cons (t := 1000005) rfl (Surv.varKT (by decide) (Surv.arr (by intro h; first | exact absurd h.1 (by decide) | exact absurd h.1.1 (by decide) | exact absurd h.2 (by omega) | exact absurd h.1.2 (by omega) | exact absurd h.1.1.2 (by omega)))) (LeftS.cons (t := 1000007) rfl (Surv.varKT (by decide) (Surv.arr (by intro h; first | exact absurd h.1 (by decide) | exact absurd h.1.1 (by decide) | exact absurd h.2 (by omega) | exact absurd h.1.2 (by omega) | exact absurd h.1.1.2 (by omega)))) (LeftS.cons (t := 1000009) rfl (Surv.varKT (by decide) (Surv.arr (by intro h; first | exact absurd h.1 (by decide) | exact absurd h.1.1 (by decide) | exact absurd h.2 (by omega) | exact absurd h.1.2 (by omega) | exact absurd h.1.1.2 (by omega)))) (LeftS.cons (t := 1000010) rfl (Surv.varKT (by decide) (Surv.arr (by intro h; first | exact absurd h.1 (by decide) | exact absurd h.1.1 (by decide) | exact absurd h.2 (by omega) | exact absurd h.1.2 (by omega) | exact absurd h.1.1.2 (by omega)))) (LT 1000012 rfl LN)))))))))))))))))))))))) ?_ ?_
     ·refine AnyT.step 9 [] (by kernel_rfl) ?_
      refine NextT.pure (by kernel_rfl) rfl rfl rfl (ok_extract rfl rfl) ?_ ?_
      ·refine AnyT.step 12 [] (by kernel_rfl) ?_
       refine NextT.pure (by kernel_rfl) rfl rfl rfl (ok_assign rfl) ?_ ?_
       ·refine AnyT.last (by kernel_rfl) ?_
        exact (SubL.cons (t := 6) rfl (Le.refl _) (SubL.cons (t := 14) rfl (Le.refl _) (SubL.cons (t := 1000014) rfl (Le.refl _) (SubL.cons (t := 3) rfl (Le.refl _) (SubL.cons (t := 5) rfl (Le.refl _) (SubL.cons (t := 7) rfl (Le.refl _) (SubL.cons (t := 9) rfl (Le.refl _) (SubL.cons (t := 10) rfl (Le.refl _) (SubL.cons (t := 11) rfl (Le.refl _) (SubL.cons (t := 12) rfl (Le.refl _) (SubL.cons (t := 13) rfl (Le.refl _) (SubL.cons (t := 4) rfl (Le.refl _) (SubL.cons (t := 1000005) rfl (Le.refl _) (SubL.cons (t := 1000007) rfl (Le.refl _) (SubL.cons (t := 1000010) rfl (Le.refl _) (SubL.cons (t := 1000012) rfl (Le.refl _) (SubL.cons (t := 8) rfl (Le.refl _) (SubL.cons (t := 1000009) rfl (Le.refl _) SubL.nil))))))))))))))))))
       exact trivial
      exact trivial
     exact trivial
    ·refine ⟨3, Nat.le_of_ble_eq_true (by kernel_rfl), _, (Sv [3, 4, 5, 7, 8, 9, 10, 11, 12, 13, 14, 76, 77, 78, 79, 80, 81, 82, 83, 85, 1000005, 1000007, 1000009, 1000010, 1000012, 1000014] rfl), by kernel_rfl, _, rfl, _, eff_storeKK (n := 144) (s := 1000009) size30 rfl rfl (Le.refl _) (Agg.arr) hBb9 rfl (Surv.arr (by intro h; first | exact absurd h.1 (by decide) | exact absurd h.1.1 (by decide) | exact absurd h.2 (by omega) | exact absurd h.1.2 (by omega) | exact absurd h.1.1.2 (by omega))) (LV 3 rfl (LeftS.cons (t := 4) rfl (Surv.ops (by decide) (by intro h; first | exact absurd h.1 (by decide) | exact absurd h.1.1 (by decide) | exact absurd h.1.1.1 (by decide) | exact absurd h.2 (by omega) | exact absurd h.1.2 (by omega))) (LV 5 rfl (LV 7 rfl (LeftS.cons (t := 8) rfl (Surv.sli (by intro h; first | exact absurd h.1 (by decide) | exact absurd h.1.1 (by decide) | exact absurd h.1.1.1 (by decide) | exact absurd h.2 (by omega) | exact absurd h.1.2 (by omega))) (LV 9 rfl (LV 10 rfl (LV 11 rfl (LV 12 rfl (LV 13 rfl (LV 14 rfl (LeftS.cons (t := 76) rfl (Surv.tup3 (Surv.arr (by intro h; first | exact absurd h.1 (by decide) | exact absurd h.1.1 (by decide) | exact absurd h.2 (by omega) | exact absurd h.1.2 (by omega) | exact absurd h.1.1.2 (by omega))) (Surv.v _) (Surv.v _)) (LeftS.cons (t := 77) rfl (Surv.arr (by intro h; first | exact absurd h.1 (by decide) | exact absurd h.1.1 (by decide) | exact absurd h.2 (by omega) | exact absurd h.1.2 (by omega) | exact absurd h.1.1.2 (by omega))) (LeftS.cons (t := 78) rfl (Surv.ops (by decide) (by intro h; first | exact absurd h.1 (by decide) | exact absurd h.1.1 (by decide) | exact absurd h.1.1.1 (by decide) | exact absurd h.2 (by omega) | exact absurd h.1.2 (by omega))) (LV 79 rfl (LeftS.cons (t := 82) rfl (Surv.tup3 (Surv.arr (by intro h; first | exact absurd h.1 (by decide) | exact absurd h.1.1 (by decide) | exact absurd h.2 (by omega) | exact absurd h.1.2 (by omega) | exact absurd h.1.1.2 (by omega))) (Surv.v _) (Surv.v _)) (LeftS.cons (t := 83) rfl (Surv.arr (by intro h; first | exact absurd h.1 (by decide) | exact absurd h.1.1 (by decide) | exact absurd h.2 (by omega) | exact absurd h.1.2 (by omega) | exact absurd h.1.1.2 (by omega))) (LV 85 rfl (LeftS.cons (t := 1000005) rfl (Surv.varK (by omega) (Surv.arr (by intro h; first | exact absurd h.1 (by decide) | exact absurd h.1.1 (by decide) | exact absurd h.2 (by omega) | exact absurd h.1.2 (by omega) | exact absurd h.1.1.2 (by omega)))) (LeftS.cons (t := 1000007) rfl (Surv.varK (by omega) (Surv.arr (by intro h; first | exact absurd h.1 (by decide) | exact absurd h.1.1 (by decide) | exact absurd h.2 (by omega) | exact absurd h.1.2 (by omega) | exact absurd h.1.1.2 (by omega)))) (LeftS.cons (t := 1000010) rfl (Surv.varKT (by decide) (Surv.arr (by intro h; first | exact absurd h.1 (by decide) | exact absurd h.1.1 (by decide) | exact absurd h.2 (by omega) | exact absurd h.1.2 (by omega) | exact absurd h.1.1.2 (by omega)))) (LT 1000012 rfl (LT 1000014 rfl LN))))))))))))))))))))))), ?_⟩
     refine AnyT.step 8 [] (by kernel_rfl) ?_
     refine NextT.pure (by kernel_rfl) rfl rfl rfl (ok_extract rfl rfl) ?_ ?_
     ·refine AnyT.step 11 [] (by kernel_rfl) ?_
      refine NextT.eff rfl (eff_storeA (n := 144) (s := 1000014) (size49.of (rs_len _)) rfl rfl (rs_one _) hBb14 rfl (by simp only [rs_len]) (LV 3 rfl (LeftS.cons (t := 4) rfl (Surv.ops (by decide) (by intro h; first | exact absurd h.1 (by decide) | exact absurd h.1.1 (by decide) | exact absurd h.1.1.1 (by decide) | exact absurd h.2 (by omega) | exact absurd h.1.2 (by omega))) (LV 5 rfl (LV 7 rfl (LeftS.cons (t := 8) rfl (Surv.sli (by intro h; first | exact absurd h.1 (by decide) | exact absurd h.1.1 (by decide) | exact absurd h.1.1.1 (by decide) | exact absurd h.2 (by omega) | exact absurd h.1.2 (by omega))) (LV 9 rfl (LV 10 rfl (LV 11 rfl (LV 12 rfl (LV 13 rfl (LV 14 rfl (LeftS.cons (t := 76) rfl (Surv.tup3 (Surv.arr (by intro h; first | exact absurd h.1 (by decide) | exact absurd h.1.1 (by decide) | exact absurd h.2 (by omega) | exact absurd h.1.2 (by omega) | exact absurd h.1.1.2 (by omega))) (Surv.v _) (Surv.v _)) (LeftS.cons (t := 77) rfl (Surv.arr (by intro h; first | exact absurd h.1 (by decide) | exact absurd h.1.1 (by decide) | exact absurd h.2 (by omega) | exact absurd h.1.2 (by omega) | exact absurd h.1.1.2 (by omega))) (LeftS.cons (t := 78) rfl (Surv.ops (by decide) (by intro h; first | exact absurd h.1 (by decide) | exact absurd h.1.1 (by decide) | exact absurd h.1.1.1 (by decide) | exact absurd h.2 (by omega) | exact absurd h.1.2 (by omega))) (LV 79 rfl (LeftS.cons (t := 82) rfl (Surv.tup3 (Surv.arr (by intro h; first | exact absurd h.1 (by decide) | exact absurd h.1.1 (by decide) | exact absurd h.2 (by omega) | exact absurd h.1.2 (by omega) | exact absurd h.1.1.2 (by omega))) (Surv.v _) (Surv.v _)) (LeftS.cons (t := 83) rfl (Surv.arr (by intro h; first | exact absurd h.1 (by decide) | exact absurd h.1.1 (by decide) | exact absurd h.2 (by omega) | exact absurd h.1.2 (by omega) | exact absurd h.1.1.2 (by omega))) (LV 84 rfl (LV 85 rfl (LeftS.cons (t := 1000005) rfl (Surv.varKT (by decide) (Surv.arr (by intro h; first | exact absurd h.1 (by decide) | exact absurd h.1.1 (by decide) | exact absurd h.2 (by omega) | exact absurd h.1.2 (by omega) | exact absurd h.1.1.2 (by omega)))) (LeftS.cons (t := 1000007) rfl (Surv.varKT (by decide) (Surv.arr (by intro h; first | exact absurd h.1 (by decide) | exact absurd h.1.1 (by decide) | exact absurd h.2 (by omega) | exact absurd h.1.2 (by omega) | exact absurd h.1.1.2 (by omega)))) (LeftS.cons (t := 1000009) rfl (Surv.varKT (by decide) (Surv.arr (by intro h; first | exact absurd h.1 (by decide) | exact absurd h.1.1 (by decide) | exact absurd h.2 (by omega) | exact absurd h.1.2 (by omega) | exact absurd h.1.1.2 (by omega)))) (LeftS.cons (t := 1000010) rfl (Surv.varKT (by decide) (Surv.arr (by intro h; first | exact absurd h.1 (by decide) | exact absurd h.1.1 (by decide) | exact absurd h.2 (by omega) | exact absurd h.1.2 (by omega) | exact absurd h.1.1.2 (by omega)))) (LT 1000012 rfl LN))))))))))))))))))))))))) ?_ ?_
      ·refine AnyT.step 12 [] (by kernel_rfl) ?_
       refine NextT.pure (by kernel_rfl) rfl rfl rfl (ok_assign rfl) ?_ ?_
       ·refine AnyT.last (by kernel_rfl) ?_
        exact (SubL.cons (t := 6) rfl (Le.refl _) (SubL.cons (t := 14) rfl (Le.refl _) (SubL.cons (t := 1000014) rfl (Le.refl _) (SubL.cons (t := 3) rfl (Le.refl _) (SubL.cons (t := 5) rfl (Le.refl _) (SubL.cons (t := 7) rfl (Le.refl _) (SubL.cons (t := 9) rfl (Le.refl _) (SubL.cons (t := 10) rfl (Le.refl _) (SubL.cons (t := 11) rfl (Le.refl _) (SubL.cons (t := 12) rfl (Le.refl _) (SubL.cons (t := 13) rfl (Le.refl _) (SubL.cons (t := 4) rfl (Le.refl _) (SubL.cons (t := 1000005) rfl (Le.refl _) (SubL.cons (t := 1000007) rfl (Le.refl _) (SubL.cons (t := 1000010) rfl (Le.refl _) (SubL.cons (t := 1000012) rfl (Le.refl _) (SubL.cons (t := 8) rfl (Le.refl _) (SubL.cons (t := 1000009) rfl (Le.refl _) SubL.nil))))))))))))))))))
       exact trivial
      exact trivial
     exact trivial
    ·refine ⟨4, Nat.le_of_ble_eq_true (by kernel_rfl), _, (Sv [3, 4, 5, 7, 8, 9, 10, 11, 12, 13, 14, 76, 77, 78, 79, 80, 81, 82, 83, 1000005, 1000007, 1000009, 1000010, 1000012, 1000014] rfl), by kernel_rfl, _, rfl, _, eff_storeKK (n := 144) (s := 1000009) size30 rfl rfl (Le.refl _) (Agg.arr) hBb9 rfl (Surv.arr (by intro h; first | exact absurd h.1 (by decide) | exact absurd h.1.1 (by decide) | exact absurd h.2 (by omega) | exact absurd h.1.2 (by omega) | exact absurd h.1.1.2 (by omega))) (LV 3 rfl (LeftS.cons (t := 4) rfl (Surv.ops (by decide) (by intro h; first | exact absurd h.1 (by decide) | exact absurd h.1.1 (by decide) | exact absurd h.1.1.1 (by decide) | exact absurd h.2 (by omega) | exact absurd h.1.2 (by omega))) (LV 5 rfl (LV 7 rfl (LeftS.cons (t := 8) rfl (Surv.sli (by intro h; first | exact absurd h.1 (by decide) | exact absurd h.1.1 (by decide) | exact absurd h.1.1.1 (by decide) | exact absurd h.2 (by omega) | exact absurd h.1.2 (by omega))) (LV 9 rfl (LV 10 rfl (LV 11 rfl (LV 12 rfl (LV 13 rfl (LV 14 rfl (LeftS.cons (t := 76) rfl (Surv.tup3 (Surv.arr (by intro h; first | exact absurd h.1 (by decide) | exact absurd h.1.1 (by decide) | exact absurd h.2 (by omega) | exact absurd h.1.2 (by omega) | exact absurd h.1.1.2 (by omega))) (Surv.v _) (Surv.v _)) (LeftS.cons (t := 77) rfl (Surv.arr (by intro h; first | exact absurd h.1 (by decide) | exact absurd h.1.1 (by decide) | exact absurd h.2 (by omega) | exact absurd h.1.2 (by omega) | exact absurd h.1.1.2 (by omega))) (LeftS.cons (t := 78) rfl (Surv.ops (by decide) (by intro h; first | exact absurd h.1 (by decide) | exact absurd h.1.1 (by decide) | exact absurd h.1.1.1 (by decide) | exact absurd h.2 (by omega) | exact absurd h.1.2 (by omega))) (LV 79 rfl (LeftS.cons (t := 82) rfl (Surv.tup3 (Surv.arr (by intro h; first | exact absurd h.1 (by decide) | exact absurd h.1.1 (by decide) | exact absurd h.2 (by omega) | exact absurd h.1.2 (by omega) | exact absurd h.1.1.2 (by omega))) (Surv.v _) (Surv.v _)) (LeftS.cons (t := 83) rfl (Surv.arr (by intro h; first | exact absurd h.1 (by decide) | exact absurd h.1.1 (by decide) | exact absurd h.2 (by omega) | exact absurd h.1.2 (by omega) | exact absurd h.1.1.2 (by omega))) (LeftS.cons (t := 1000005) rfl (Surv.varK (by omega) (Surv.arr (by intro h; first | exact absurd h.1 (by decide) | exact absurd h.1.1 (by decide) | exact absurd h.2 (by omega) | exact absurd h.1.2 (by omega) | exact absurd h.1.1.2 (by omega)))) (LeftS.cons (t := 1000007) rfl (Surv.varK (by omega) (Surv.arr (by intro h; first | exact absurd h.1 (by decide) | exact absurd h.1.1 (by decide) | exact absurd h.2 (by omega) | exact absurd h.1.2 (by omega) | exact absurd h.1.1.2 (by omega)))) (LeftS.cons (t := 1000010) rfl (Surv.varKT (by decide) (Surv.arr (by intro h; first | exact absurd h.1 (by decide) | exact absurd h.1.1 (by decide) | exact absurd h.2 (by omega) | exact absurd h.1.2 (by omega) | exact absurd h.1.1.2 (by omega)))) (LT 1000012 rfl (LT 1000014 rfl LN)))))))))))))))))))))), ?_⟩
     refine AnyT.step 8 [9] (by kernel_rfl) ?_
     refine NextT.pure (by kernel_rfl) rfl rfl rfl (ok_extract rfl rfl) ?_ ?_
     ·refine AnyT.step 9 [11] (by kernel_rfl) ?_
      refine NextT.pure (by kernel_rfl) rfl rfl rfl (ok_extract rfl rfl) ?_ ?_
      ·refine AnyT.step 11 [] (by kernel_rfl) ?_
       refine NextT.eff rfl (eff_storeA (n := 144) (s := 1000014) (size49.of (rs_len _)) rfl rfl (rs_one _) hBb14 rfl (by simp only [rs_len]) (LV 3 rfl (LeftS.cons (t := 4) rfl (Surv.ops (by decide) (by intro h; first | exact absurd h.1 (by decide) | exact absurd h.1.1 (by decide) | exact absurd h.1.1.1 (by decide) | exact absurd h.2 (by omega) | exact absurd h.1.2 (by omega))) (LV 5 rfl (LV 7 rfl (LeftS.cons (t := 8) rfl (Surv.sli (by intro h; first | exact absurd h.1 (by decide) | exact absurd h.1.1 (by decide) | exact absurd h.1.1.1 (by decide) | exact absurd h.2 (by omega) | exact absurd h.1.2 (by omega))) (LV 9 rfl (LV 10 rfl (LV 11 rfl (LV 12 rfl (LV 13 rfl (LV 14 rfl (LeftS.cons (t := 76) rfl (Surv.tup3 (Surv.arr (by intro h; first | exact absurd h.1 (by decide) | exact absurd h.1.1 (by decide) | exact absurd h.2 (by omega) | exact absurd h.1.2 (by omega) | exact absurd h.1.1.2 (by omega))) (Surv.v _) (Surv.v _)) (LeftS.cons (t := 77) rfl (Surv.arr (by intro h; first | exact absurd h.1 (by decide) | exact absurd h.1.1 (by decide) | exact absurd h.2 (by omega) | exact absurd h.1.2 (by omega) | exact absurd h.1.1.2 (by omega))) (LeftS.cons (t := 78) rfl (Surv.ops (by decide) (by intro h; first | exact absurd h.1 (by decide) | exact absurd h.1.1 (by decide) | exact absurd h.1.1.1 (by decide) | exact absurd h.2 (by omega) | exact absurd h.1.2 (by omega))) (LV 79 rfl (LeftS.cons (t := 82) rfl (Surv.tup3 (Surv.arr (by intro h; first | exact absurd h.1 (by decide) | exact absurd h.1.1 (by decide) | exact absurd h.2 (by omega) | exact absurd h.1.2 (by omega) | exact absurd h.1.1.2 (by omega))) (Surv.v _) (Surv.v _)) (LeftS.cons (t := 83) rfl (Surv.arr (by intro h; first | exact absurd h.1 (by decide) | exact absurd h.1.1 (by decide) | exact absurd h.2 (by omega) | exact absurd h.1.2 (by omega) | exact absurd h.1.1.2 (by omega))) (LV 84 rfl (LV 85 rfl (LeftS.cons (t := 1000005) rfl (Surv.varKT (by decide) (Surv.arr (by intro h; first | exact absurd h.1 (by decide) | exact absurd h.1.1 (by decide) | exact absurd h.2 (by omega) | exact absurd h.1.2 (by omega) | exact absurd h.1.1.2 (by omega)))) (LeftS.cons (t := 1000007) rfl (Surv.varKT (by decide) (Surv.arr (by intro h; first | exact absurd h.1 (by decide) | exact absurd h.1.1 (by decide) | exact absurd h.2 (by omega) | exact absurd h.1.2 (by omega) | exact absurd h.1.1.2 (by omega)))) (LeftS.cons (t := 1000009) rfl (Surv.varKT (by decide) (Surv.arr (by intro h; first | exact absurd h.1 (by decide) | exact absurd h.1.1 (by decide) | exact absurd h.2 (by omega) | exact absurd h.1.2 (by omega) | exact absurd h.1.1.2 (by omega)))) (LeftS.cons (t := 1000010) rfl (Surv.varKT (by decide) (Surv.arr (by intro h; first | exact absurd h.1 (by decide) | exact absurd h.1.1 (by decide) | exact absurd h.2 (by omega) | exact absurd h.1.2 (by omega) | exact absurd h.1.1.2 (by omega)))) (LT 1000012 rfl LN))))))))))))))))))))))))) ?_ ?_
       ·refine AnyT.step 12 [] (by kernel_rfl) ?_
        refine NextT.pure (by kernel_rfl) rfl rfl rfl (ok_assign rfl) ?_ ?_
        ·refine AnyT.last (by kernel_rfl) ?_
         exact (SubL.cons (t := 6) rfl (Le.refl _) (SubL.cons (t := 14) rfl (Le.refl _) (SubL.cons (t := 1000014) rfl (Le.refl _) (SubL.cons (t := 3) rfl (Le.refl _) (SubL.cons (t := 5) rfl (Le.refl _) (SubL.cons (t := 7) rfl (Le.refl _) (SubL.cons (t := 9) rfl (Le.refl _) (SubL.cons (t := 10) rfl (Le.refl _) (SubL.cons (t := 11) rfl (Le.refl _) (SubL.cons (t := 12) rfl (Le.refl _) (SubL.cons (t := 13) rfl (Le.refl _) (SubL.cons (t := 4) rfl (Le.refl _) (SubL.cons (t := 1000005) rfl (Le.refl _) (SubL.cons (t := 1000007) rfl (Le.refl _) (SubL.cons (t := 1000010) rfl (Le.refl _) (SubL.cons (t := 1000012) rfl (Le.refl _) (SubL.cons (t := 8) rfl (Le.refl _) (SubL.cons (t := 1000009) rfl (Le.refl _) SubL.nil))))))))))))))))))
        exact trivial
       exact trivial
      refine NextT.eff rfl (eff_storeA (n := 144) (s := 1000014) (size49.of (rs_len _)) rfl rfl (rs_one _) hBb14 rfl (by simp only [rs_len]) (LV 3 rfl (LeftS.cons (t := 4) rfl (Surv.ops (by decide) (by intro h; first | exact absurd h.1 (by decide) | exact absurd h.1.1 (by decide) | exact absurd h.1.1.1 (by decide) | exact absurd h.2 (by omega) | exact absurd h.1.2 (by omega))) (LV 5 rfl (LV 7 rfl (LeftS.cons (t := 8) rfl (Surv.sli (by intro h; first | exact absurd h.1 (by decide) | exact absurd h.1.1 (by decide) | exact absurd h.1.1.1 (by decide) | exact absurd h.2 (by omega) | exact absurd h.1.2 (by omega))) (LV 9 rfl (LV 10 rfl (LV 11 rfl (LV 12 rfl (LV 13 rfl (LV 14 rfl (LeftS.cons (t := 76) rfl (Surv.tup3 (Surv.arr (by intro h; first | exact absurd h.1 (by decide) | exact absurd h.1.1 (by decide) | exact absurd h.2 (by omega) | exact absurd h.1.2 (by omega) | exact absurd h.1.1.2 (by omega))) (Surv.v _) (Surv.v _)) (LeftS.cons (t := 77) rfl (Surv.arr (by intro h; first | exact absurd h.1 (by decide) | exact absurd h.1.1 (by decide) | exact absurd h.2 (by omega) | exact absurd h.1.2 (by omega) | exact absurd h.1.1.2 (by omega))) (LeftS.cons (t := 78) rfl (Surv.ops (by decide) (by intro h; first | exact absurd h.1 (by decide) | exact absurd h.1.1 (by decide) | exact absurd h.1.1.1 (by decide) | exact absurd h.2 (by omega) | exact absurd h.1.2 (by omega))) (LV 79 rfl (LeftS.cons (t := 82) rfl (Surv.tup3 (Surv.arr (by intro h; first | exact absurd h.1 (by decide) | exact absurd h.1.1 (by decide) | exact absurd h.2 (by omega) | exact absurd h.1.2 (by omega) | exact absurd h.1.1.2 (by omega))) (Surv.v _) (Surv.v _)) (LeftS.cons (t := 83) rfl (Surv.arr (by intro h; first | exact absurd h.1 (by decide) | exact absurd h.1.1 (by decide) | exact absurd h.2 (by omega) | exact absurd h.1.2 (by omega) | exact absurd h.1.1.2 (by omega))) (LV 84 rfl (LeftS.cons (t := 1000005) rfl (Surv.varKT (by decide) (Surv.arr (by intro h; first | exact absurd h.1 (by decide) | exact absurd h.1.1 (by decide) | exact absurd h.2 (by omega) | exact absurd h.1.2 (by omega) | exact absurd h.1.1.2 (by omega)))) (LeftS.cons (t := 1000007) rfl (Surv.varKT (by decide) (Surv.arr (by intro h; first | exact absurd h.1 (by decide) | exact absurd h.1.1 (by decide) | exact absurd h.2 (by omega) | exact absurd h.1.2 (by omega) | exact absurd h.1.1.2 (by omega)))) (LeftS.cons (t := 1000009) rfl (Surv.varKT (by decide) (Surv.arr (by intro h; first | exact absurd h.1 (by decide) | exact absurd h.1.1 (by decide) | exact absurd h.2 (by omega) | exact absurd h.1.2 (by omega) | exact absurd h.1.1.2 (by omega)))) (LeftS.cons (t := 1000010) rfl (Surv.varKT (by decide) (Surv.arr (by intro h; first | exact absurd h.1 (by decide) | exact absurd h.1.1 (by decide) | exact absurd h.2 (by omega) | exact absurd h.1.2 (by omega) | exact absurd h.1.1.2 (by omega)))) (LT 1000012 rfl LN)))))))))))))))))))))))) ?_ ?_
      ·refine AnyT.step 9 [] (by kernel_rfl) ?_
       refine NextT.pure (by kernel_rfl) rfl rfl rfl (ok_extract rfl rfl) ?_ ?_
       ·refine AnyT.step 12 [] (by kernel_rfl) ?_
        refine NextT.pure (by kernel_rfl) rfl rfl rfl (ok_assign rfl) ?_ ?_
        ·refine AnyT.last (by kernel_rfl) ?_
         exact (SubL.cons (t := 6) rfl (Le.refl _) (SubL.cons (t := 14) rfl (Le.refl _) (SubL.cons (t := 1000014) rfl (Le.refl _) (SubL.cons (t := 3) rfl (Le.refl _) (SubL.cons (t := 5) rfl (Le.refl _) (SubL.cons (t := 7) rfl (Le.refl _) (SubL.cons (t := 9) rfl (Le.refl _) (SubL.cons (t := 10) rfl (Le.refl _) (SubL.cons (t := 11) rfl (Le.refl _) (SubL.cons (t := 12) rfl (Le.refl _) (SubL.cons (t := 13) rfl (Le.refl _) (SubL.cons (t := 4) rfl (Le.refl _) (SubL.cons (t := 1000005) rfl (Le.refl _) (SubL.cons (t := 1000007) rfl (Le.refl _) (SubL.cons (t := 1000010) rfl (Le.refl _) (SubL.cons (t := 1000012) rfl (Le.refl _) (SubL.cons (t := 8) rfl (Le.refl _) (SubL.cons (t := 1000009) rfl (Le.refl _) SubL.nil))))))))))))))))))
        exact trivial
       exact trivial
      exact trivial
     refine NextT.pure (by kernel_rfl) rfl rfl rfl (ok_extract rfl rfl) ?_ ?_
     ·refine AnyT.step 8 [] (by kernel_rfl) ?_
      refine NextT.pure (by kernel_rfl) rfl rfl rfl (ok_extract rfl rfl) ?_ ?_
      ·refine AnyT.step 11 [] (by kernel_rfl) ?_
       refine NextT.eff rfl (eff_storeA (n := 144) (s := 1000014) (size49.of (rs_len _)) rfl rfl (rs_one _) hBb14 rfl (by simp only [rs_len]) (LV 3 rfl (LeftS.cons (t := 4) rfl (Surv.ops (by decide) (by intro h; first | exact absurd h.1 (by decide) | exact absurd h.1.1 (by decide) | exact absurd h.1.1.1 (by decide) | exact absurd h.2 (by omega) | exact absurd h.1.2 (by omega))) (LV 5 rfl (LV 7 rfl (LeftS.cons (t := 8) rfl (Surv.sli (by intro h; first | exact absurd h.1 (by decide) | exact absurd h.1.1 (by decide) | exact absurd h.1.1.1 (by decide) | exact absurd h.2 (by omega) | exact absurd h.1.2 (by omega))) (LV 9 rfl (LV 10 rfl (LV 11 rfl (LV 12 rfl (LV 13 rfl (LV 14 rfl (LeftS.cons (t := 76) rfl (Surv.tup3 (Surv.arr (by intro h; first | exact absurd h.1 (by decide) | exact absurd h.1.1 (by decide) | exact absurd h.2 (by omega) | exact absurd h.1.2 (by omega) | exact absurd h.1.1.2 (by omega))) (Surv.v _) (Surv.v _)) (LeftS.cons (t := 77) rfl (Surv.arr (by intro h; first | exact absurd h.1 (by decide) | exact absurd h.1.1 (by decide) | exact absurd h.2 (by omega) | exact absurd h.1.2 (by omega) | exact absurd h.1.1.2 (by omega))) (LeftS.cons (t := 78) rfl (Surv.ops (by decide) (by intro h; first | exact absurd h.1 (by decide) | exact absurd h.1.1 (by decide) | exact absurd h.1.1.1 (by decide) | exact absurd h.2 (by omega) | exact absurd h.1.2 (by omega))) (LV 79 rfl (LeftS.cons (t := 82) rfl (Surv.tup3 (Surv.arr (by intro h; first | exact absurd h.1 (by decide) | exact absurd h.1.1 (by decide) | exact absurd h.2 (by omega) | exact absurd h.1.2 (by omega) | exact absurd h.1.1.2 (by omega))) (Surv.v _) (Surv.v _)) (LeftS.cons (t := 83) rfl (Surv.arr (by intro h; first | exact absurd h.1 (by decide) | exact absurd h.1.1 (by decide) | exact absurd h.2 (by omega) | exact absurd h.1.2 (by omega) | exact absurd h.1.1.2 (by omega))) (LV 84 rfl (LV 85 rfl (LeftS.cons (t := 1000005) rfl (Surv.varKT (by decide) (Surv.arr (by intro h; first | exact absurd h.1 (by decide) | exact absurd h.1.1 (by decide) | exact absurd h.2 (by omega) | exact absurd h.1.2 (by omega) | exact absurd h.1.1.2 (by omega)))) (LeftS.cons (t := 1000007) rfl (Surv.varKT (by decide) (Surv.arr (by intro h; first | exact absurd h.1 (by decide) | exact absurd h.1.1 (by decide) | exact absurd h.2 (by omega) | exact absurd h.1.2 (by omega) | exact absurd h.1.1.2 (by omega)))) (LeftS.cons (t := 1000009) rfl (Surv.varKT (by decide) (Surv.arr (by intro h; first | exact absurd h.1 (by decide) | exact absurd h.1.1 (by decide) | exact absurd h.2 (by omega) | exact absurd h.1.2 (by omega) | exact absurd h.1.1.2 (by omega)))) (LeftS.cons (t := 1000010) rfl (Surv.varKT (by decide) (Surv.arr (by intro h; first | exact absurd h.1 (by decide) | exact absurd h.1.1 (by decide) | exact absurd h.2 (by omega) | exact absurd h.1.2 (by omega) | exact absurd h.1.1.2 (by omega)))) (LT 1000012 rfl LN))))))))))))))))))))))))) ?_ ?_
       ·refine AnyT.step 12 [] (by kernel_rfl) ?_
        refine NextT.pure (by kernel_rfl) rfl rfl rfl (ok_assign rfl) ?_ ?_
        ·refine AnyT.last (by kernel_rfl) ?_
         exact (SubL.cons (t := 6) rfl (Le.refl _) (SubL.cons (t := 14) rfl (Le.refl _) (SubL.cons (t := 1000014) rfl (Le.refl _) (SubL.cons (t := 3) rfl (Le.refl _) (SubL.cons (t := 5) rfl (Le.refl _) (SubL.cons (t := 7) rfl (Le.refl _) (SubL.cons (t := 9) rfl (Le.refl _) (SubL.cons (t := 10) rfl (Le.refl _) (SubL.cons (t := 11) rfl (Le.refl _) (SubL.cons (t := 12) rfl (Le.refl _) (SubL.cons (t := 13) rfl (Le.refl _) (SubL.cons (t := 4) rfl (Le.refl _) (SubL.cons (t := 1000005) rfl (Le.refl _) (SubL.cons (t := 1000007) rfl (Le.refl _) (SubL.cons (t := 1000010) rfl (Le.refl _) (SubL.cons (t := 1000012) rfl (Le.refl _) (SubL.cons (t := 8) rfl (Le.refl _) (SubL.cons (t := 1000009) rfl (Le.refl _) SubL.nil))))))))))))))))))
        exact trivial
       exact trivial
      exact trivial
     exact trivial
   ·refine EN ?_
    refine GTD ?_
    refine RV 2 rfl ?_
    refine RF ?_
    refine RM rfl ?_
    refine RQ (ok_loadA (s := 1000014) (by decide) Try.underlying49 rfl (size49.of (rs_len _)) rfl rfl) ?_
    refine RV 2 rfl ?_
    refine RQ ((ok_indexRD i Try.underlying37 infoR rfl sli_rowD rfl hlt (by rw [rss_len, res_len]; omega))) ?_
    refine RQ (ok_loadElemT 33 Try.underlying49 rfl size49 (by rw [rss_at (by rw [res_len]; exact hlt), rs_len]; exact Nat.le_refl _) rfl) ?_; refine RZ (aggV (rsV (stepA (runA (zA n) (L.take i)) (nthO L i)).2)) (congrArg aggV (by rw [rss_at (by rw [res_len]; exact hlt), res_getD hlt]; exact List.take_of_length_le (Nat.le_of_eq (rs_len _)))) ?_
    refine RQ (ok_neqT (n := 4) true flat49 (by decide) (by kernel_rfl) (by kernel_rfl) rfl rfl (kinRs _) (kinRs _) (iff_of_true rfl rfl)) ?_; refine RZ (.bool false) (by first | rfl | (simp; done) | (simp; omega) | (simp [*]; done) | (simp [*]; omega)) ?_
    refine RV 2 rfl ?_
    refine RQ (ok_field field49_0 (by decide) rfl) ?_
    refine RQ (ok_loadP (s := 1000014) (by decide) Try.underlying41 rfl size41 rfl rfl (by rw [rs_len]; decide) (rs_val)) ?_
    refine RQ (ok_loadA (s := 1000012) (by decide) Try.underlying41 rfl (size41.of (bk_len _)) rfl rfl) ?_
    refine RQ (ok_neqT (n := 4) true flat41 (by decide) (by kernel_rfl) (by kernel_rfl) rfl rfl (kinBk _) (kinBk _) (iff_of_true rfl rfl)) ?_; refine RZ (.bool false) (by first | rfl | (simp; done) | (simp; omega) | (simp [*]; done) | (simp [*]; omega)) ?_
    refine RV 2 rfl ?_
    refine RQ (ok_field field49_1 (by decide) rfl) ?_
    refine RQ (ok_loadV (s := 1000014) (by decide) Try.underlying31 rfl rfl rfl (rs_err)) ?_
    refine RV 2 rfl ?_
    refine RF ?_
    refine RV 2 rfl ?_
    refine RQ (ok_loadVK (s := 1000009) (by decide) Try.underlying30 rfl size30 rfl rfl) ?_
    refine RQ (ok_loadVK (s := 1000010) (by decide) Try.underlying35 rfl size35 rfl rfl) ?_
    refine RQ (ok_call (same_fn (stepA (runA (zA n) (L.take i)) (nthO L i)).1 (by rw [(step_ok (nthO L i) (run_ok (L := L.take i) hz)).1]; omega) (by rw [(step_ok (nthO L i) (run_ok (L := L.take i) hz)).2]; omega)) (Args.cons rfl (by first | exact Le.refl _ | exact Le.old _ _ | exact arr_any | exact arr_ex | exact arrD_any | exact op_any | exact (Le.old _ _).trans arrD_any | exact (Le.old _ _).trans arr_any) (Args.cons rfl (by first | exact Le.refl _ | exact Le.old _ _ | exact arr_any | exact arr_ex | exact arrD_any | exact op_any | exact (Le.old _ _).trans arrD_any | exact (Le.old _ _).trans arr_any) Args.nil))) ?_
    refine RQ (ok_bin rfl rfl rfl) ?_
    refine RF ?_
    refine RV 5 rfl ?_
    refine RQ (ok_indexK i Try.underlying25 size47 rfl ops_any rfl (map_nthO opG hlt)) ?_
    refine RQ (ok_loadK Try.underlying47 rfl size47 rfl (Le.refl _)) ?_
    refine RQ (ok_call (Bad_fn (n : Int) (nthO L i)) (Args.cons rfl (by first | exact Le.refl _ | exact Le.old _ _ | exact arr_any | exact arr_ex | exact arrD_any | exact op_any | exact (Le.old _ _).trans arrD_any | exact (Le.old _ _).trans arr_any) (Args.cons rfl (by first | exact Le.refl _ | exact Le.old _ _ | exact arr_any | exact arr_ex | exact arrD_any | exact op_any | exact (Le.old _ _).trans arrD_any | exact (Le.old _ _).trans arr_any) Args.nil))) ?_
    refine RV 2 rfl ?_
    refine RZ (.bool (badA (n : Int) (nthO L i))) (by rw [step_err, (run_ok (L := L.take i) hz).1]; cases badA (n : Int) (nthO L i) <;> rfl) ?_
    refine RQ (ok_neBool Try.underlying4 rfl rfl) ?_; refine RZ (.bool false) (by simp) ?_
    refine RVN 1 rfl ?_
    refine A.sub (Sv [3, 4, 5, 7, 8, 9, 10, 11, 124, 1000005, 1000007, 1000009, 1000010, 1000012, 1000014] rfl) ?_
    refine A.no rfl ?_
    refine A.skip ?_
    refine End.normal_block ?_
    refine EN ?_
    refine A.subL (SubL.cons (t := 3) rfl (Le.refl _) (SubL.cons (t := 5) rfl (Le.refl _) (SubL.cons (t := 7) rfl (Le.refl _) (SubL.cons (t := 9) rfl (Le.refl _) (SubL.cons (t := 10) rfl (Le.refl _) (SubL.cons (t := 11) rfl (Le.refl _) (SubL.cons (t := 4) rfl (ops_mono zCut_le) (SubL.cons (t := 8) rfl (sli_mono zCut_le) (SubL.cons (t := 1000005) rfl (varK_le (arr_mono zCut_le)) (SubL.cons (t := 1000007) rfl (varK_le (arr_mono zCut_le)) (SubL.cons (t := 1000009) rfl (Le.refl _) (SubL.cons (t := 1000010) rfl (varK_le (arr_mono (own_monoT (B := w₀.heap.size) (B' := b12 + 1) (by omega)))) SubL.nil)))))))))))) ?_
    refine GTE ?_
    refine RV 2 rfl ?_
    refine RZ (nI (i + 1)) (wrap_eq (by omega) (by omega)) ?_
    refine RVN 1 rfl ?_
    refine End.normal_then ?_
    refine End.again (i + 1) ?_ ?_ ?_
    ·show _ ≤ _; omega
    ·show _ - _ < _ - _; omega
    ·exact (KC 3 rfl (KC 5 rfl (KC 7 rfl (KC 9 rfl (KC 10 rfl (KC 11 rfl (KC 4 rfl (KC 8 rfl (KC 1000005 rfl (KC 1000007 rfl (KE 1000009 rfl (congrArg (fun x => varK b9 30 2 (arrZ (zOwn 41 w₀.heap.size) true x)) (run_snoc hlt)) (KE 1000010 rfl (congrArg (fun x => varK b10 35 2 (arrZ (zOwn 41 w₀.heap.size) false x)) (run_snoc hlt)) KN))))))))))))
 ·have hge : i = L.length := by simp at hc63; omega
  refine A.exit ?_
  refine End.exit_then ?_
  refine End.exit_then ?_
  refine End.exit_here ?_
  refine EN ?_
  refine GTD ?_
  refine RS (ok_loadVK (s := 1000007) (by decide) Try.underlying30 rfl size30 rfl rfl) ?_
  refine RS (ok_loadVK (s := 1000010) (by decide) Try.underlying35 rfl size35 rfl rfl) ?_
  refine RS (ok_call (same_fn (runA (zA n) L) (by rw [(run_ok (L := L) hz).1]; omega) (by rw [(run_ok (L := L) hz).2]; omega)) (Args.cons rfl (by first | exact Le.refl _ | exact Le.old _ _ | exact arr_any | exact arr_ex | exact arrD_any | exact op_any | exact (Le.old _ _).trans arrD_any | exact (Le.old _ _).trans arr_any) (Args.cons rfl (arr_any.trans (Le.eq (by rw [hge, List.take_length]))) Args.nil))) ?_
  refine RB rfl rfl rfl ?_
  refine RT ?_
  refine RM rfl ?_
  refine RQ (ok_loadVK (s := 1000005) (by decide) Try.underlying30 rfl size30 rfl rfl) ?_
  refine RQ (ok_move rfl) ?_
  refine RQ (ok_callB (rNew_fn n (by omega)) (fun _ _ h => arr_mono (own_monoT h)) (A1 rfl)) ?_
  refine RQ (ok_call (same_fn (zA n) (by rw [hz.1]; omega) (by rw [hz.2]; omega)) (Args.cons rfl (by first | exact Le.refl _ | exact Le.old _ _ | exact arr_any | exact arr_ex | exact arrD_any | exact op_any | exact (Le.old _ _).trans arrD_any | exact (Le.old _ _).trans arr_any) (Args.cons rfl (by first | exact Le.refl _ | exact Le.old _ _ | exact arr_any | exact arr_ex | exact arrD_any | exact op_any | exact (Le.old _ _).trans arrD_any | exact (Le.old _ _).trans arr_any) Args.nil))) ?_
  refine RQ (ok_bin rfl rfl rfl) ?_
  refine RT ?_
  refine RV 2 rfl ?_
  refine RQ (ok_loadVK (s := 1000007) (by decide) Try.underlying30 rfl size30 rfl rfl) ?_
  refine RQ (ok_call (Check_fn (runA (zA n) L)) (Args.cons rfl (by first | exact Le.refl _ | exact Le.old _ _ | exact arr_any | exact arr_ex | exact arrD_any | exact op_any | exact (Le.old _ _).trans arrD_any | exact (Le.old _ _).trans arr_any) Args.nil)) ?_; refine RZ (.int .i64 0) (by rw [chk_ok (run_ok (L := L) hz) h1 (by omega)]) ?_
  refine RQ (ok_bin rfl rfl rfl) ?_
  refine RT ?_
  refine RV 2 rfl ?_
  refine RQ (ok_call (lives21_fn) Args.nil) ?_
  refine RVN 2 rfl ?_
  refine A.ret ?_
  exact ER rfl rfl
end Go.Proofs.Ytggijkmlmklneaa
namespace Go.Proofs.Ytggijkmlmklneaa
open Go Go.RowKit Go.ChangeShapes Go.WideShapes
set_option linter.unusedVariables false
set_option linter.unusedSimpArgs false
section
variable {H : Type} {enc : TypeId × Value → H} {P : Program} {w : World} {base : Nat} {held : Bool}
/-- Elements, one behind the other. -/
theorem flat_at {α : Type} {f : α → List Value} {sz : Nat} (hl : ∀ x, (f x).length = sz) : ∀ {l : List α} {i k : Nat}, (hi : i < l.length) → k < sz → (l.flatMap f)[i * sz + k]? = (f l[i])[k]?
  | x :: l, 0, k, _, hk => by
    simp only [List.flatMap_cons, List.getElem_cons_zero, Nat.zero_mul, Nat.zero_add]
    rw [List.getElem?_append_left (by rw [hl]; exact hk)]
  | x :: l, i + 1, k, hi, hk => by
    have ih := flat_at (f := f) hl (l := l) (i := i) (k := k) (by simpa using hi) hk
    simp only [List.flatMap_cons, List.getElem_cons_succ]
    rw [List.getElem?_append_right (by rw [hl, Nat.add_mul]; omega), hl, show (i + 1) * sz + k - sz = i * sz + k by rw [Nat.add_mul]; omega, ih]
theorem trod_rows {α : Type} {f : α → List Value} {R : α → Prop} {sz n : Nat} {ks : List IntKind} (x₀ : α) (hl : ∀ x, R x → (f x).length = sz) (h0 : (f x₀).length = sz) (hopen : ∀ ys, Kin (fun k m => (Lit.int k m).wf = true) ks ys → ∃ x, R x ∧ ys = f x)
    {t e : TypeId} {fuel : Nat} {cs : List Value} {y : DataW H × List MemPlace} (ht : P.underlying t = some (.slice e)) (hf : flat P n e = some ks) (hc : P.cellsOf e = sz) (hsz : 0 < sz) (h : DataW.trod enc P w base (fun _ => true) held fuel t cs = some y) :
    ∃ (v : Value) (l : List α), cs = [v] ∧ (∀ x ∈ l, R x) ∧ (rowD l.length (l.flatMap f)).Of w v ∧ (∃ A m c, v = .slice A m c) := by
  rcases DataW.trod_slice ht h with ⟨rfl, _⟩ | ⟨a, len, cap, elems, rest, m, _, rfl, _, hba, hlc, hm, hlen, hel, _, _⟩
  · exact ⟨_, [], rfl, (fun x hx => by cases hx), rowD_nil.of (w := w) (x := .slice none 0 0) rfl, _, _, _, rfl⟩
  · have each : ∀ i, ∃ x : α, (f x).length = sz ∧ (i < len → R x ∧ ∀ k, k < sz → w.cell? (a.add (i * sz + k)) = (f x)[k]?) := fun i => by
      by_cases hi : i < len
      · have h1 := hel i hi
        rw [List.getElem?_eq_getElem (by omega), hc, Option.bind_eq_some_iff] at h1
        obtain ⟨cs', h2, h3⟩ := h1
        obtain ⟨x, hx, rfl⟩ := hopen _ (trod_flat n hf h3)
        obtain ⟨_, _, h4⟩ := World.cells?_some h2
        exact ⟨x, hl x hx, fun _ => ⟨hx, fun k hk => by rw [← add_of_add]; exact h4 k hk⟩⟩
      · exact ⟨x₀, h0, fun h => absurd h hi⟩
    obtain ⟨g, hg⟩ := Classical.axiomOfChoice each
    have hgl : ∀ i, (f (g i)).length = sz := fun i => (hg i).1
    refine ⟨_, (List.range len).map g, rfl, fun x hx => ?_, ?_, _, _, _, rfl⟩
    · obtain ⟨i, hi, rfl⟩ := List.mem_map.1 hx
      exact ((hg i).2 (List.mem_range.1 hi)).1
    · refine ⟨some a, cap, by simp, fun j u hu => ⟨a, rfl, ?_, ?_⟩⟩
      all_goals
        have hfm : ((List.range len).map g).flatMap f = (List.range len).flatMap fun i => f (g i) := by rw [List.flatMap_map]
        have hj : j < len * sz := by
          have h5 := (List.getElem?_eq_some_iff.1 hu).1
          rw [hfm, List.length_flatMap] at h5
          have h6 : ((List.range len).map fun i => (f (g i)).length).sum = len * sz := by
            rw [show ((List.range len).map fun i => (f (g i)).length) = List.replicate len sz from by rw [List.eq_replicate_iff]; exact ⟨by simp, fun b hb => by obtain ⟨i, _, rfl⟩ := List.mem_map.1 hb; exact hgl i⟩]
            simp
          omega
        have hi : j / sz < len := by rw [Nat.div_lt_iff_lt_mul hsz]; exact hj
        have hk : j % sz < sz := Nat.mod_lt _ hsz
        have hjj : j / sz * sz + j % sz = j := Nat.div_add_mod' j sz
        have hcell := ((hg (j / sz)).2 hi).2 (j % sz) hk
        have h7 := flat_at (f := fun i => f (g i)) hgl (l := List.range len) (i := j / sz) (k := j % sz) (by simpa using hi) hk
        rw [hjj, List.getElem_range] at h7
        rw [hfm] at hu
        rw [hjj, ← h7, hu] at hcell
      · have := block_of_cell hcell
        rwa [block_of_add] at this
      · exact hcell
end
end Go.Proofs.Ytggijkmlmklneaa
namespace Go.Proofs.Ytggijkmlmklneaa
open Go Go.RowKit Go.ChangeShapes Go.WideShapes
set_option linter.unusedVariables false
set_option linter.unusedSimpArgs false
section
variable {H : Type} {enc : TypeId × Value → H} {P : Program} {w : World} {base : Nat} {held : Bool}
theorem trod_bytW {t e : TypeId} {fuel : Nat} {cs : List Value} {x : DataW H × List MemPlace} (ht : P.underlying t = some (.slice e)) (he : P.underlying e = some (.int .u8)) (hc : P.cellsOf e = 1)
    (h : DataW.trod enc P w base (fun _ => true) held fuel t cs = some x) : ∃ (v : Value) (l : List UInt8), cs = [v] ∧ v.oneCell' = true ∧ (byt l).Of w v ∧ (l = [] ∨ ∃ elems spare, x.1 = .slice elems spare ∧ elems.length = l.length) := by
  obtain ⟨v, l, rfl, hb⟩ := trod_byt ht he hc (fun _ => rfl) h
  obtain ⟨c, hb'⟩ := id hb
  obtain ⟨A, hv, _, _, _⟩ := bytes_open hb'
  refine ⟨v, l, rfl, by rw [hv]; rfl, hb, ?_⟩
  rcases DataW.trod_slice ht h with ⟨h1, _⟩ | ⟨a, len, cap, elems, rest, n, _, h1, h2, _, _, _, hlen, _⟩
  · left
    simp only [List.cons.injEq, and_true] at h1
    rw [hv] at h1; injection h1 with _ h1 _
    exact List.eq_nil_of_length_eq_zero h1
  · right
    simp only [List.cons.injEq, and_true] at h1
    rw [hv] at h1; injection h1 with _ h1 _
    exact ⟨_, _, by rw [h2], by rw [List.length_map, hlen, h1]⟩
end
end Go.Proofs.Ytggijkmlmklneaa
namespace Go.Proofs.Ytggijkmlmklneaa
open Go Go.RowKit Go.ChangeShapes Go.WideShapes
set_option linter.unusedVariables false
set_option linter.unusedSimpArgs false
section
variable {H : Type} {enc : TypeId × Value → H} {P : Program} {w : World} {base : Nat} {held : Bool}
theorem z3_of_kin {xs : List Value} (h : Kin (fun k m => (Lit.int k m).wf = true) [.u8, .u8, .u8] xs) : ∃ x : UInt8 × UInt8 × UInt8, True ∧ xs = [byteV x.1, byteV x.2.1, byteV x.2.2] := by
  obtain ⟨a, y, rfl, h1, h2⟩ := h.cons
  obtain ⟨b, y', rfl, h3, h4⟩ := h2.cons
  obtain ⟨c, rfl, h5⟩ := h4.one
  exact ⟨⟨UInt8.ofNat a.toNat, UInt8.ofNat b.toNat, UInt8.ofNat c.toNat⟩, trivial, by rw [wf_u8 h1, wf_u8 h3, wf_u8 h5]⟩
theorem bk_of_kin {xs : List Value} (h : Kin (fun k m => (Lit.int k m).wf = true) (List.replicate 32 .u8) xs) : ∃ b : Bk, True ∧ xs = bkV b := by
  obtain ⟨l, hl, rfl⟩ := h.bytes
  exact ⟨⟨l, hl⟩, trivial, rfl⟩
theorem arg_z3 {t : TypeId} {v : Value} {d : DataW H} {ps : List MemPlace} (hf : flat P 3 t = some [.u8, .u8, .u8]) (hg : isAggT P t = true) {r : Reach} {b0 : Nat} (hk : Value.okWide P w r b0 t v)
    (h : DataW.Trod enc P w base (fun _ => true) held t v d ps) : ∃ z : UInt8 × UInt8 × UInt8, v = aggV [byteV z.1, byteV z.2.1, byteV z.2.2] := by
  obtain ⟨xs, rfl, hx⟩ := arg_flat 3 hf hg hk h
  obtain ⟨x, _, rfl⟩ := z3_of_kin hx
  exact ⟨x, rfl⟩
theorem trod_room21 {t e : TypeId} {fuel : Nat} {cs : List Value} {y : DataW H × List MemPlace} (ht : P.underlying t = some (.slice e)) (h : DataW.trod enc P w base (fun _ => true) held fuel t cs = some y) : ∃ A n c, cs = [.slice A n c] ∧ n ≤ c := by
  rcases DataW.trod_slice ht h with ⟨rfl, _⟩ | ⟨a, len, cap, elems, rest, m, _, rfl, _, hba, hlc, _⟩
  · exact ⟨none, 0, 0, rfl, Nat.le_refl _⟩
  · exact ⟨some a, len, cap, rfl, hlc⟩
theorem trod_rowG {α : Type} {f : α → List Value} {sz n : Nat} {ks : List IntKind} (x₀ : α) (hl : ∀ x, (f x).length = sz) (hopen : ∀ ys, Kin (fun k m => (Lit.int k m).wf = true) ks ys → ∃ x, True ∧ ys = f x)
    {t e : TypeId} {fuel : Nat} {cs : List Value} {y : DataW H × List MemPlace} (ht : P.underlying t = some (.slice e)) (hf : flat P n e = some ks) (hc : P.cellsOf e = sz) (hsz : 0 < sz) (h : DataW.trod enc P w base (fun _ => true) held fuel t cs = some y) :
    ∃ (v : Value) (l : List α), cs = [v] ∧ v.oneCell' = true ∧ (rowG false l.length (l.flatMap f)).Of w v := by
  obtain ⟨v, l, h1, _, ⟨A, q, hv, hrow⟩, _⟩ := trod_rows (R := fun _ => True) x₀ (fun x _ => hl x) (hl x₀) hopen ht hf hc hsz h
  obtain ⟨A', n', c', h3, h4⟩ := trod_room21 ht h
  rw [h1, hv] at h3
  injection h3 with h3 _
  injection h3 with h5 h6 h7
  exact ⟨v, l, h1, by rw [hv]; rfl, A, q, hv, by omega, nofun, hrow⟩
/-- A struct of a byte and of a slice of three bytes. -/
theorem arg_X21 {t e : TypeId} {f0 f1 : Field} {v : Value} {d : DataW H} {ps : List MemPlace} (ht : P.underlying t = some (.struct #[f0, f1])) (o0 : f0.offset = 0) (o1 : f1.offset = 1) (t0 : P.underlying f0.type = some (.int .u8)) (t1 : P.underlying f1.type = some (.slice e)) (c0 : P.cellsOf f0.type = 1) (c1 : P.cellsOf f1.type = 1) (hC : P.cellsOf t = 2)
    (hf : flat P 3 e = some [.u8, .u8, .u8]) (hc : P.cellsOf e = 3) {r : Reach} {b0 : Nat} (hk : Value.okWide P w r b0 t v) (h : DataW.Trod enc P w base (fun _ => true) held t v d ps) :
    ∃ (k : UInt8) (q : List (UInt8 × UInt8 × UInt8)), (tlD [byteV k] (rowG false q.length (q.flatMap fun x => [byteV x.1, byteV x.2.1, byteV x.2.2]))).Of w v := by
  obtain ⟨cs, rfl, hcs⟩ := okWide_struct ht hk
  obtain ⟨fuel, hf'⟩ := h
  obtain ⟨xs, m, _, _, hlen, hxl, hel⟩ := DataW.trod_struct ht hf'
  have hlen' : cs.toList.length = 2 := by rw [← hC]; exact hlen
  have hxl' : xs.length = 2 := by simpa using hxl
  have e0 := hel 0 f0 rfl
  have e1 := hel 1 f1 rfl
  rw [List.getElem?_eq_getElem (by omega)] at e0 e1
  rw [o0, c0] at e0
  rw [o1, c1] at e1
  obtain ⟨a, a1, _, a3⟩ := DataW.trod_int t0 e0
  obtain ⟨a', ha'⟩ : ∃ y, Value.int .u8 a = byteV y := ⟨_, wf_u8 a3⟩
  rw [ha'] at a1
  obtain ⟨u, l, h1, h2, h5⟩ := trod_rowG (f := fun x : UInt8 × UInt8 × UInt8 => [byteV x.1, byteV x.2.1, byteV x.2.2]) (0, 0, 0) (fun _ => rfl) (fun _ => z3_of_kin) t1 hf hc (by decide) e1
  refine ⟨a', l, u, h2, ?_, h5⟩
  have h3' : (cs.toList.drop 0).take 1 = [byteV a'] := a1
  have h1' : (cs.toList.drop 1).take 1 = [u] := h1
  unfold aggV
  congr 1
  apply Array.ext'
  show cs.toList = [byteV a'] ++ [u]
  match hcl : cs.toList, hlen' with
  | [x, y], _ =>
    rw [hcl] at h3' h1'
    simp at h3' h1'
    rw [h3', h1']; rfl
/-- An array of blocks. -/
theorem arg_Ar21 {t e : TypeId} {f0 f1 : Field} {v : Value} {d : DataW H} {ps : List MemPlace} (ht : P.underlying t = some (.struct #[f0, f1])) (o0 : f0.offset = 0) (o1 : f1.offset = 1) (t0 : P.underlying f0.type = some (.slice e)) (t1 : P.underlying f1.type = some (.slice e)) (c0 : P.cellsOf f0.type = 1) (c1 : P.cellsOf f1.type = 1) (hC : P.cellsOf t = 2)
    (hf : flat P 4 e = some (List.replicate 32 .u8)) (hc : P.cellsOf e = 32) {r : Reach} {b0 : Nat} (hk : Value.okWide P w r b0 t v) (h : DataW.Trod enc P w base (fun _ => true) held t v d ps) : ∃ a : Ar, (arrD false a).Of w v := by
  obtain ⟨cs, rfl, hcs⟩ := okWide_struct ht hk
  obtain ⟨fuel, hf'⟩ := h
  obtain ⟨xs, m, _, _, hlen, hxl, hel⟩ := DataW.trod_struct ht hf'
  have hlen' : cs.toList.length = 2 := by rw [← hC]; exact hlen
  have hxl' : xs.length = 2 := by simpa using hxl
  have e0 := hel 0 f0 rfl
  have e1 := hel 1 f1 rfl
  rw [List.getElem?_eq_getElem (by omega)] at e0 e1
  rw [o0, c0] at e0
  rw [o1, c1] at e1
  obtain ⟨u, l, h1, h2, h5⟩ := trod_rowG (f := bkV) zB bk_len (fun _ => bk_of_kin) t0 hf hc (by decide) e0
  obtain ⟨u', l', h1', h2', h5'⟩ := trod_rowG (f := bkV) zB bk_len (fun _ => bk_of_kin) t1 hf hc (by decide) e1
  refine ⟨⟨l, l'⟩, u, u', ?_, h5, h5'⟩
  have k1 : (cs.toList.drop 0).take 1 = [u] := h1
  have k2 : (cs.toList.drop 1).take 1 = [u'] := h1'
  unfold aggV
  congr 1
  apply Array.ext'
  show cs.toList = [u, u']
  match hcl : cs.toList, hlen' with
  | [x, y], _ =>
    rw [hcl] at k1 k2
    simp at k1 k2
    rw [k1, k2]
theorem byt_rowG {l : List UInt8} : Le (byt l) (rowG false l.length (l.map byteV)) := fun B w x ⟨c, h⟩ => by
  obtain ⟨A, h1, h2, _, h4⟩ := bytes_open h
  exact ⟨A, c, h1, h2, nofun, h4⟩
/-- An operation. -/
theorem arg_Op21 {t e : TypeId} {f0 f1 f2 : Field} {v : Value} {d : DataW H} {ps : List MemPlace} (ht : P.underlying t = some (.struct #[f0, f1, f2])) (o0 : f0.offset = 0) (o1 : f1.offset = 1) (o2 : f2.offset = 2) (t0 : P.underlying f0.type = some (.int .u8)) (t1 : P.underlying f1.type = some (.int .i64)) (t2 : P.underlying f2.type = some (.slice e)) (c0 : P.cellsOf f0.type = 1) (c1 : P.cellsOf f1.type = 1) (c2 : P.cellsOf f2.type = 1) (hC : P.cellsOf t = 3)
    (he : P.underlying e = some (.int .u8)) (hc : P.cellsOf e = 1) {r : Reach} {b0 : Nat} (hk : Value.okWide P w r b0 t v) (h : DataW.Trod enc P w base (fun _ => true) held t v d ps) : ∃ o : OpA, (opG o).Of w v := by
  obtain ⟨cs, rfl, hcs⟩ := okWide_struct ht hk
  obtain ⟨fuel, hf'⟩ := h
  obtain ⟨xs, m, _, _, hlen, hxl, hel⟩ := DataW.trod_struct ht hf'
  have hlen' : cs.toList.length = 3 := by rw [← hC]; exact hlen
  have hxl' : xs.length = 3 := by simpa using hxl
  have e0 := hel 0 f0 rfl
  have e1 := hel 1 f1 rfl
  have e2 := hel 2 f2 rfl
  rw [List.getElem?_eq_getElem (by omega)] at e0 e1 e2
  rw [o0, c0] at e0
  rw [o1, c1] at e1
  rw [o2, c2] at e2
  obtain ⟨a, a1, _, a3⟩ := DataW.trod_int t0 e0
  obtain ⟨a', ha'⟩ : ∃ y, Value.int .u8 a = byteV y := ⟨_, wf_u8 a3⟩
  rw [ha'] at a1
  obtain ⟨i, i1, _, _⟩ := DataW.trod_int t1 e1
  obtain ⟨u, l, d1, d2, d3, _⟩ := trod_bytW t2 he hc e2
  refine ⟨⟨a', i, l⟩, u, d2, ?_, byt_rowG.of d3⟩
  have k1 : (cs.toList.drop 0).take 1 = [byteV a'] := a1
  have k2 : (cs.toList.drop 1).take 1 = [.int .i64 i] := i1
  have k3 : (cs.toList.drop 2).take 1 = [u] := d1
  unfold aggV
  congr 1
  apply Array.ext'
  show cs.toList = [byteV a', .int .i64 i] ++ [u]
  match hcl : cs.toList, hlen' with
  | [x, y, z], _ =>
    rw [hcl] at k1 k2 k3
    simp at k1 k2 k3
    rw [k1, k2, k3]; rfl
end
end Go.Proofs.Ytggijkmlmklneaa
