/-
 The contracts of package nonces, part two: allocators.
-/
import Derived.Test.YtmedljdbamnoiaaShort
import Derived.Test.YtmedljdbamnoiaaC08a
namespace Go.Proofs.Ytmedljdbamnoiaa
open Go Go.RowKit
set_option linter.unusedVariables false

theorem cs_neg (cs : List Nat) (m l r : Nat) (sh : Int) (h : sh < 0) : Fn Try.prog 35 [hdD (vlst (rowQ cs)) (alR m l r), .v (.int .i64 sh)] (.v (.int .i64 1)) := by
 refine Fn.of Try.func35 rfl (by kernel_rfl) Try.ntmps35 (by simp) (fun w => [(0, old w.heap.size (hdD (vlst (rowQ cs)) (alR m l r))), (1, .v (.int .i64 sh))]) (fun w => (Start.old rfl (Start.v rfl Start.nil))) fun w₀ => ?_
 refine A.nameHd (t := 0) (k := 1000200) rfl fun v hv => ?_
 refine GS ?_
 refine TN 0 ?_
 refine RN ?_
 refine ⟨_, _, eff_box (n := 16) (d := 2) (k := 1000002) rfl (by decide), fun b2 hb2 => ?_⟩
 have hBb2 := hb2.1
 refine TL ?_
 refine RA rfl ?_
 refine RN ?_
 refine A.seq ?_
 refine GS ?_
 refine TL ?_
 refine RM rfl ?_
 refine RBS rfl rfl rfl (.bool true) (by simp; omega) ?_
 refine RM rfl ?_
 refine RK ?_
 refine RK ?_
 refine RK ?_
 refine RK ?_
 refine RK ?_
 refine RP rfl rfl ?_
 refine RN ?_
 refine A.yes rfl ?_
 refine GS ?_
 refine TL ?_
 refine RA rfl ?_
 refine RN ?_
 refine A.ret ?_
 refine End.ret_then ?_
 exact End.ret1 rfl rfl (by first | exact Le.refl _ | exact Le.old _ _)
theorem cs_big (cs : List Nat) (m l r : Nat) (sh : Int) (h : 0 ≤ sh) (h2 : (cs.length : Int) ≤ sh) : Fn Try.prog 35 [hdD (vlst (rowQ cs)) (alR m l r), .v (.int .i64 sh)] (.v (.int .i64 1)) := by
 refine Fn.of Try.func35 rfl (by kernel_rfl) Try.ntmps35 (by simp) (fun w => [(0, old w.heap.size (hdD (vlst (rowQ cs)) (alR m l r))), (1, .v (.int .i64 sh))]) (fun w => (Start.old rfl (Start.v rfl Start.nil))) fun w₀ => ?_
 refine A.nameHd (t := 0) (k := 1000200) rfl fun v hv => ?_
 refine GS ?_
 refine TN 0 ?_
 refine RN ?_
 refine ⟨_, _, eff_box (n := 16) (d := 2) (k := 1000002) rfl (by decide), fun b2 hb2 => ?_⟩
 have hBb2 := hb2.1
 refine TL ?_
 refine RA rfl ?_
 refine RN ?_
 refine A.seq ?_
 refine GS ?_
 refine TL ?_
 refine RM rfl ?_
 refine RBS rfl rfl rfl (.bool false) (by simp; omega) ?_
 refine RM rfl ?_
 refine RQ (ok_move rfl) ?_
 refine RQ (ok_field field36_0 (by decide) rfl) ?_
 refine RQ (OpOk.valO (ok_loadV (s := 1000002) (by decide) Try.underlying34 rfl rfl rfl (rfl)) (k := 1000200) (by decide) rfl) ?_
 refine RQ (ok_lenU cs.length Try.underlying34 rfl LA (rowQ_length cs)) ?_
 refine RQ (ok_bin rfl rfl rfl) ?_; refine RZ (.bool true) (by simp; omega) ?_
 refine RP rfl rfl ?_
 refine RN ?_
 refine A.yes rfl ?_
 refine GS ?_
 refine TL ?_
 refine RA rfl ?_
 refine RN ?_
 refine A.ret ?_
 refine End.ret_then ?_
 exact End.ret1 rfl rfl (by first | exact Le.refl _ | exact Le.old _ _)
theorem cs_bad (cs : List Nat) (m l r : Nat) (sh : Int) (h : 0 ≤ sh) (h2 : sh < (cs.length : Int)) (hV : ¬ Valid cs m l r) : Fn Try.prog 35 [hdD (vlst (rowQ cs)) (alR m l r), .v (.int .i64 sh)] (.v (.int .i64 1)) := by
 refine Fn.of Try.func35 rfl (by kernel_rfl) Try.ntmps35 (by simp) (fun w => [(0, old w.heap.size (hdD (vlst (rowQ cs)) (alR m l r))), (1, .v (.int .i64 sh))]) (fun w => (Start.old rfl (Start.v rfl Start.nil))) fun w₀ => ?_
 refine A.nameHd (t := 0) (k := 1000200) rfl fun v hv => ?_
 refine GS ?_
 refine TN 0 ?_
 refine RN ?_
 refine ⟨_, _, eff_box (n := 16) (d := 2) (k := 1000002) rfl (by decide), fun b2 hb2 => ?_⟩
 have hBb2 := hb2.1
 refine TL ?_
 refine RA rfl ?_
 refine RN ?_
 refine A.seq ?_
 refine GS ?_
 refine TL ?_
 refine RM rfl ?_
 refine RBS rfl rfl rfl (.bool false) (by simp; omega) ?_
 refine RM rfl ?_
 refine RQ (ok_move rfl) ?_
 refine RQ (ok_field field36_0 (by decide) rfl) ?_
 refine RQ (OpOk.valO (ok_loadV (s := 1000002) (by decide) Try.underlying34 rfl rfl rfl (rfl)) (k := 1000200) (by decide) rfl) ?_
 refine RQ (ok_lenU cs.length Try.underlying34 rfl LA (rowQ_length cs)) ?_
 refine RQ (ok_bin rfl rfl rfl) ?_; refine RZ (.bool false) (by simp; omega) ?_
 refine RP rfl rfl ?_
 refine RN ?_
 refine A.no rfl ?_
 refine A.skip ?_
 refine EN ?_
 refine GS ?_
 refine TL ?_
 refine RS (OpOk.hdO (ok_loadA (s := 1000002) (by decide) Try.underlying36 rfl (size36.of (rfl)) rfl rfl) hv (k := 1000200) (by decide) rfl) ?_
 refine RS (ok_call (Check_bad cs m l r hV) (Args.cons rfl (Le.old _ _) Args.nil)) ?_
 refine RA rfl ?_
 refine RN ?_
 refine A.ret ?_
 exact End.ret1 rfl rfl (by first | exact Le.refl _ | exact Le.old _ _)
theorem checkShard_ok (cs : List Nat) (m l r : Nat) (sh : Int) (h : 0 ≤ sh) (h2 : sh < (cs.length : Int)) (hV : Valid cs m l r) : Fn Try.prog 35 [hdD (vlst (rowQ cs)) (alR m l r), .v (.int .i64 sh)] (.v (.int .i64 0)) := by
 refine Fn.of Try.func35 rfl (by kernel_rfl) Try.ntmps35 (by simp) (fun w => [(0, old w.heap.size (hdD (vlst (rowQ cs)) (alR m l r))), (1, .v (.int .i64 sh))]) (fun w => (Start.old rfl (Start.v rfl Start.nil))) fun w₀ => ?_
 refine A.nameHd (t := 0) (k := 1000200) rfl fun v hv => ?_
 refine GS ?_
 refine TN 0 ?_
 refine RN ?_
 refine ⟨_, _, eff_box (n := 16) (d := 2) (k := 1000002) rfl (by decide), fun b2 hb2 => ?_⟩
 have hBb2 := hb2.1
 refine TL ?_
 refine RA rfl ?_
 refine RN ?_
 refine A.seq ?_
 refine GS ?_
 refine TL ?_
 refine RM rfl ?_
 refine RBS rfl rfl rfl (.bool false) (by simp; omega) ?_
 refine RM rfl ?_
 refine RQ (ok_move rfl) ?_
 refine RQ (ok_field field36_0 (by decide) rfl) ?_
 refine RQ (OpOk.valO (ok_loadV (s := 1000002) (by decide) Try.underlying34 rfl rfl rfl (rfl)) (k := 1000200) (by decide) rfl) ?_
 refine RQ (ok_lenU cs.length Try.underlying34 rfl LA (rowQ_length cs)) ?_
 refine RQ (ok_bin rfl rfl rfl) ?_; refine RZ (.bool false) (by simp; omega) ?_
 refine RP rfl rfl ?_
 refine RN ?_
 refine A.no rfl ?_
 refine A.skip ?_
 refine EN ?_
 refine GS ?_
 refine TL ?_
 refine RS (OpOk.hdO (ok_loadA (s := 1000002) (by decide) Try.underlying36 rfl (size36.of (rfl)) rfl rfl) hv (k := 1000200) (by decide) rfl) ?_
 refine RS (ok_call (Check_ok cs m l r hV) (Args.cons rfl (Le.old _ _) Args.nil)) ?_
 refine RA rfl ?_
 refine RN ?_
 refine A.ret ?_
 exact End.ret1 rfl rfl (by first | exact Le.refl _ | exact Le.old _ _)
theorem checkShard_no (cs : List Nat) (m l r : Nat) (sh : Int) (h : ¬ (0 ≤ sh ∧ sh < (cs.length : Int) ∧ Valid cs m l r)) : Fn Try.prog 35 [hdD (vlst (rowQ cs)) (alR m l r), .v (.int .i64 sh)] (.v (.int .i64 1)) := by
 by_cases h1 : sh < 0
 ·exact cs_neg cs m l r sh h1
 by_cases h2 : (cs.length : Int) ≤ sh
 ·exact cs_big cs m l r sh (by omega) h2
 ·exact cs_bad cs m l r sh (by omega) (by omega) fun hV => h ⟨by omega, by omega, hV⟩
theorem nonceOf_fn (s c : Nat) (hs : s < 4294967296) : Fn Try.prog 36 [.v (nI s), .v (nQ c)] (.v (aggV ([nW s, nQ c]))) := by
 refine Fn.of Try.func36 rfl (by kernel_rfl) Try.ntmps36 (by simp) (fun w => [(0, .v (nI s)), (1, .v (nQ c))]) (fun w => (Start.v rfl (Start.v rfl Start.nil))) fun w₀ => ?_
 refine GS ?_
 refine TN 0 ?_
 refine RN ?_
 refine ⟨_, _, eff_alloc (n := 9) (d := 4) (k := 1000004) zero25 (by decide), fun b4 hb4 => ?_⟩
 have hBb4 := hb4.1
 refine TL ?_
 refine RN ?_
 refine GS ?_
 refine TF 4 ?_
 refine RM rfl ?_
 refine RS (ok_conv Try.underlying3 Try.underlying22 rfl) ?_; refine RZ (nW s) (by rw [wrapN_u32 hs]) ?_
 refine RM rfl ?_
 refine RS (ok_litS [(0, nW s), (1, nQ c)] [nW s, nQ c] ⟨rfl, rfl, rfl, rfl, trivial⟩ (buildN s c)) ?_
 refine RN ?_
 refine ⟨_, eff_storeA (n := 9) (s := 1000004) (size25.of (rfl)) rfl rfl (rfl) hBb4 rfl (rfl) (LV 4 rfl LN), ?_⟩
 refine TL ?_
 refine RN ?_
 refine A.ret ?_
 exact End.cell1 (s := 1000004) rfl Try.underlying25 rfl (size25.of (rfl)) rfl rfl (Le.refl _)
theorem copied_fnB (cs : List Nat) (m l r : Nat) (hb : cs.length ≤ 8) : FnB Try.prog 37 [hdD (vlst (rowQ cs)) (alR m l r)] (fun B => newD B 23 (fun b => aggV (.slice (some ⟨b, 0, none⟩) (cs.length) (cs.length) :: alR m l r)) (rowQ cs)) := by
 refine FnB.of Try.func37 rfl (by kernel_rfl) Try.ntmps37 (by simp) (fun w => [(0, old w.heap.size (hdD (vlst (rowQ cs)) (alR m l r)))]) (fun w => (Start.old rfl Start.nil)) fun w₀ => ?_
 refine A.nameHd (t := 0) (k := 1000200) rfl fun v hv => ?_
 refine GS ?_
 refine TN 0 ?_
 refine RN ?_
 refine ⟨_, _, eff_box (n := 15) (d := 1) (k := 1000001) rfl (by decide), fun b1 hb1 => ?_⟩
 have hBb1 := hb1.1
 refine TN 1 ?_
 refine RN ?_
 refine ⟨_, _, eff_alloc (n := 15) (d := 2) (k := 1000002) zero36 (by decide), fun b2 hb2 => ?_⟩
 have hBb2 := hb2.1
 have hlt_b1_b2 : b1 < b2 := hb2.2 1000001 _ _ _ rfl
 refine TL ?_
 refine RN ?_
 refine GS ?_
 refine TN 3 ?_
 refine RS (ok_field field36_0 (by decide) rfl) ?_
 refine RS (OpOk.valO (ok_loadV (s := 1000001) (by decide) Try.underlying34 rfl rfl rfl (rfl)) (k := 1000200) (by decide) rfl) ?_
 refine RS (ok_lenU cs.length Try.underlying34 rfl LA (rowQ_length cs)) ?_
 refine RN ?_
 refine ⟨_, _, eff_nameF (c := cs.length) (by simp) (n := 15) (d := 7) (k := 1000007) rfl rfl (fun B' => ok_make cs.length Try.underlying34 info23 (by decide) rfl rfl rfl rfl rfl (by omega)) (by decide) (by decide), fun b7 hb7 => ?_⟩
 have hBb7 := hb7.1
 have hlt_b1_b7 : b1 < b7 := hb7.2 1000001 _ _ _ rfl
 have hlt_b2_b7 : b2 < b7 := hb7.2 1000002 _ _ _ rfl
 refine TL ?_
 refine RA rfl ?_
 refine RN ?_
 refine GS ?_
 refine TF 3 ?_
 refine RM rfl ?_
 refine RS (ok_field field36_0 (by decide) rfl) ?_
 refine RS (OpOk.valO (ok_loadV (s := 1000001) (by decide) Try.underlying34 rfl rfl rfl (rfl)) (k := 1000200) (by decide) rfl) ?_
 refine RN ?_
 refine ⟨_, eff_copyV (n := 15) (s := 1000007) (us := rowQ cs) Try.underlying34 info23 rfl rfl LA (rowQ_one cs) (rowQ_length cs) hBb7 rfl (by simp) (by decide) (LV 1 rfl (LV 2 rfl (LV 3 rfl (LT 1000001 rfl (LT 1000002 rfl (LO 1000200 rfl LN)))))), ?_⟩
 refine TL ?_
 refine RN ?_
 refine GS ?_
 refine TF 2 ?_
 refine RM rfl ?_
 refine RS (ok_field field36_0 (by decide) rfl) ?_
 refine RN ?_
 refine ⟨_, eff_storeS (n := 15) (s := 1000001) info34 rfl rfl rfl hBb1 rfl (by simp) (LV 1 rfl (LV 2 rfl (LB 1000002 rfl (LT 1000007 rfl (LO 1000200 rfl LN))))), ?_⟩
 refine TL ?_
 refine RN ?_
 refine GS ?_
 refine TF 1 ?_
 refine RS (ok_loadA (s := 1000001) (by decide) Try.underlying36 rfl (size36.of (rfl)) rfl rfl) ?_
 refine RN ?_
 refine ⟨_, eff_storeA (n := 15) (s := 1000002) (size36.of (rfl)) rfl rfl (rfl) hBb2 rfl (rfl) (LV 2 rfl (LB 1000001 rfl (LT 1000007 rfl (LO 1000200 rfl LN)))), ?_⟩
 refine TL ?_
 refine RN ?_
 refine A.ret ?_
 exact End.new1 (s := 1000002) (kg := 1000007) rfl Try.underlying36 rfl (size36.of rfl) rfl rfl rfl hBb7 rfl rfl
theorem restartAt_zero  : Fn Try.prog 38 [.v (aggV ([nW 0, nQ 0]))] (.v (.func (.func 44) #[] #[])) := by
 refine Fn.of Try.func38 rfl (by kernel_rfl) Try.ntmps38 (by simp) (fun w => [(0, .v (aggV ([nW 0, nQ 0])))]) (fun w => (Start.v rfl Start.nil)) fun w₀ => ?_
 refine GS ?_
 refine TN 0 ?_
 refine RN ?_
 refine ⟨_, _, eff_box (n := 7) (d := 1) (k := 1000001) rfl (by decide), fun b1 hb1 => ?_⟩
 have hBb1 := hb1.1
 refine TL ?_
 refine RA rfl ?_
 refine RN ?_
 refine A.seq ?_
 refine GS ?_
 refine TL ?_
 refine RS (ok_loadA (s := 1000001) (by decide) Try.underlying25 rfl (size25.of (rfl)) rfl rfl) ?_
 refine RS (ok_lit [] ([.int .u32 0] ++ [.int .u64 0]) (fun _ _ => rfl) (by kernel_rfl)) ?_
 refine RS (ok_eqlT (n := 3) true flatN (by decide) (by kernel_rfl) (by kernel_rfl) rfl rfl (kinN _ _) (kinN _ _) ⟨fun _ => rfl, fun _ => rfl⟩) ?_
 refine RN ?_
 refine A.yes rfl ?_
 refine GS ?_
 refine TL ?_
 refine RA rfl ?_
 refine RN ?_
 refine A.ret ?_
 refine End.ret_then ?_
 exact End.ret1 rfl rfl (by first | exact Le.refl _ | exact Le.old _ _)
theorem restartAt_pos (m : Nat) (h : 0 < m) : FnB Try.prog 38 [.v (aggV ([nW 0, nQ m]))] (fun B => newD B 25 (fun b => .func (.func 45) #[] #[ptr b]) [nW 0, nQ m]) := by
 refine FnB.of Try.func38 rfl (by kernel_rfl) Try.ntmps38 (by simp) (fun w => [(0, .v (aggV ([nW 0, nQ m])))]) (fun w => (Start.v rfl Start.nil)) fun w₀ => ?_
 refine GS ?_
 refine TN 0 ?_
 refine RN ?_
 refine ⟨_, _, eff_box (n := 7) (d := 1) (k := 1000001) rfl (by decide), fun b1 hb1 => ?_⟩
 have hBb1 := hb1.1
 refine TL ?_
 refine RA rfl ?_
 refine RN ?_
 refine A.seq ?_
 refine GS ?_
 refine TL ?_
 refine RS (ok_loadA (s := 1000001) (by decide) Try.underlying25 rfl (size25.of (rfl)) rfl rfl) ?_
 refine RS (ok_lit [] ([.int .u32 0] ++ [.int .u64 0]) (fun _ _ => rfl) (by kernel_rfl)) ?_
 refine RS (ok_eqlT (n := 3) false flatN (by decide) (by kernel_rfl) (by kernel_rfl) rfl rfl (kinN _ _) (kinN _ _) (neN (by omega))) ?_
 refine RN ?_
 refine A.no rfl ?_
 refine A.skip ?_
 refine EN ?_
 refine GS ?_
 refine TL ?_
 refine RS (ok_makeFuncN [ptr b1] ⟨rfl, trivial⟩) ?_
 refine RA rfl ?_
 refine RN ?_
 refine A.ret ?_
 exact End.newF (kg := 1000001) rfl rfl rfl hBb1 rfl rfl
/-- The first i of them are m. -/
def fillTo (cs : List Nat) (m i : Nat) : List Nat := List.replicate i m ++ cs.drop i
theorem fillTo_zero (cs : List Nat) (m : Nat) : fillTo cs m 0 = cs := by simp [fillTo]
theorem fillTo_end {cs : List Nat} {m n : Nat} (h : cs.length = n) : fillTo cs m n = List.replicate n m := by simp [fillTo, List.drop_of_length_le (Nat.le_of_eq h)]
theorem fillTo_length {cs : List Nat} {m i : Nat} (h : i ≤ cs.length) : (fillTo cs m i).length = cs.length := by simp [fillTo]; omega
theorem fillTo_set {cs : List Nat} {m i : Nat} (h : i < cs.length) : (fillTo cs m i).set i m = fillTo cs m (i + 1) := by
 unfold fillTo
 rw [List.set_append_right _ _ (by simp), List.length_replicate, Nat.sub_self, List.drop_eq_getElem_cons h, List.set_cons_zero, List.replicate_succ', List.append_assoc]
 rfl
theorem clear_fnWR (g n : Nat) (cs : List Nat) (hn : cs.length = n) (h : 0 < n) : FnWR Try.prog 44 [] 23 g (rowQ cs) (rowQ (List.replicate n 0)) ([.slice (some ⟨g, 0, none⟩) (n) (n)].map D.v) (.tuple #[]) := by
 refine FnWR.of (n := 3) (kb := 1000080) (kw := 1000081) Try.func44 rfl (by kernel_rfl) Try.ntmps44 (by simp) (by decide) (fun p hp => by cases hp) (by decide) (by decide) [(0, .v (.slice (some ⟨g, 0, none⟩) (n) (n)))]
  (fun p hp => by simp only [List.mem_cons, List.not_mem_nil, or_false] at hp; rcases hp with rfl <;> exact ⟨_, rfl, rfl⟩) fun w₀ w₁ hw => ?_
 have hBg : w₀.heap.size ≤ g := Nat.le_of_eq hw
 refine GE ?_
 refine TF 1 ?_
 refine RM rfl ?_
 refine RN ?_
 refine ⟨_, eff_clear (n := 3) (s := 1000080) Try.underlying34 info23 rfl rfl rfl h hBg rfl (by rw [rowQ_length, hn]) (LeftS.cons (t := 1000081) rfl (Surv.wrote) LN), ?_⟩
 refine TL ?_
 refine RN ?_
 exact End.wrote0 (kb := 1000080) (kw := 1000081) (.inr rfl) rfl rfl (rowQ_rep n 0) rfl
theorem fill_fnWR (g p n m : Nat) (cs : List Nat) (hn : cs.length = n) (hb : n ≤ 8) : FnWR Try.prog 45 [(1000070, blk p 25 [nW 0, nQ m])] 23 g (rowQ cs) (rowQ (List.replicate n m)) ([.slice (some ⟨g, 0, none⟩) (n) (n), ptr p].map D.v) (.tuple #[]) := by
 refine FnWR.of (n := 15) (kb := 1000080) (kw := 1000081) Try.func45 rfl (by kernel_rfl) Try.ntmps45 (by simp) (by decide) (fun p hp => by simp only [List.mem_cons, List.not_mem_nil, or_false] at hp; rcases hp with rfl; exact vle rfl) (by decide) (by decide) [(0, .v (.slice (some ⟨g, 0, none⟩) (n) (n))), (1, .v (ptr p))]
  (fun p hp => by simp only [List.mem_cons, List.not_mem_nil, or_false] at hp; rcases hp with rfl | rfl <;> exact ⟨_, rfl, rfl⟩) fun w₀ w₁ hw => ?_
 have hBg : w₀.heap.size ≤ g := Nat.le_of_eq hw
 refine GS ?_
 refine TL ?_
 refine RM rfl ?_
 refine RS (ok_lenV Try.underlying34 rfl) ?_
 refine RM rfl ?_
 refine RN ?_
 refine A.block ?_
 refine A.loop (ι := Nat) (fun i => i ≤ n) (fun i => [(0, .v (.slice (some ⟨g, 0, none⟩) (n) (n))), (1, .v (ptr p)), (5, .v (nI n)), (6, .v (nI i)), (1000080, blk g 23 (rowQ (fillTo cs m i))), (1000070, blk p 25 [nW 0, nQ m]), (1000081, wroteD 23 g w₁)]) (fun i => n - i) 0 ?_ ?_ ?_
 ·exact Nat.zero_le _
 ·exact (KC 0 rfl (KC 1 rfl (KC 5 rfl (KE 6 rfl (by rfl) (KE 1000080 rfl (by rw [fillTo_zero]) (KC 1000070 rfl (KC 1000081 rfl KN)))))))
 intro i hi'
 refine GS ?_
 refine TL ?_
 refine RB rfl rfl rfl ?_
 refine RN ?_
 refine A.seq ?_
 refine A.cond rfl (fun hc7 => ?_) (fun hc7 => ?_)
 ·have hi : i < n := by simp at hc7; omega
  refine A.skip ?_
  refine EN ?_
  refine A.seq ?_
  refine A.block ?_
  refine GS ?_
  refine TL ?_
  refine RM rfl ?_
  refine RA rfl ?_
  refine RN ?_
  refine GE ?_
  refine TF 5 ?_
  refine RM rfl ?_
  refine RM rfl ?_
  refine RS (ok_field field25_1 (by decide) rfl) ?_
  refine RS (ok_loadV (s := 1000070) (by decide) Try.underlying23 rfl rfl rfl (rfl)) ?_
  refine RS (ok_indexV i Try.underlying34 info23 rfl rfl rfl (by omega)) ?_
  refine RN ?_
  refine ⟨_, eff_storeS (n := 15) (s := 1000080) info23 rfl rfl rfl hBg rfl (by rw [rowQ_length, fillTo_length (by omega)]; omega) (LV 0 rfl (LV 1 rfl (LV 5 rfl (LV 6 rfl (LT 1000070 rfl (LeftS.cons (t := 1000081) rfl (Surv.wrote) LN)))))), ?_⟩
  refine TL ?_
  refine RN ?_
  refine End.normal_block ?_
  refine EN ?_
  refine GE ?_
  refine TL ?_
  refine RBS rfl rfl rfl (nI (i + 1)) (by rw [wrap_i64 (by omega) (by omega)]; exact congrArg (Value.int .i64) (by omega)) ?_
  refine RM rfl ?_
  refine RN ?_
  refine End.normal_then ?_
  refine End.again (i + 1) ?_ ?_ ?_
  ·show _ ≤ _; omega
  ·show _ - _ < _ - _; omega
  ·exact (KC 0 rfl (KC 1 rfl (KC 5 rfl (KC 6 rfl (KE 1000080 rfl (congrArg _ (by rw [Nat.zero_add, rowQ_set, fillTo_set (by omega)])) (KC 1000070 rfl (KC 1000081 rfl KN)))))))
 ·have hi2 : i = n := by simp at hc7; omega
  refine A.exit ?_
  refine End.exit_then ?_
  refine End.exit_then ?_
  refine End.exit_here ?_
  exact End.wrote0 (kb := 1000080) (kw := 1000081) (.inr rfl) rfl rfl (by rw [hi2, fillTo_end hn]) rfl
theorem New_A (n : Int) (l r : Nat) (h : ¬ (1 ≤ n ∧ n ≤ 8)) : Fn Try.prog 14 [.v (.int .i64 n), .v (nQ l), .v (nQ r)] (.v (.tuple #[aggV [.slice none 0 0, .int .u64 0, .int .u64 0, .int .u64 0], .int .i64 1])) := by
 refine Fn.of Try.func14 rfl (by kernel_rfl) Try.ntmps14 (by simp) (fun w => [(0, .v (.int .i64 n)), (1, .v (nQ l)), (2, .v (nQ r))]) (fun w => (Start.v rfl (Start.v rfl (Start.v rfl Start.nil)))) fun w₀ => ?_
 refine GS ?_
 refine TN 0 ?_
 refine RN ?_
 refine ⟨_, _, eff_alloc (n := 26) (d := 6) (k := 1000006) zero36 (by decide), fun b6 hb6 => ?_⟩
 have hBb6 := hb6.1
 refine TL ?_
 refine RA rfl ?_
 refine RN ?_
 refine A.seq ?_
 refine GS ?_
 refine TL ?_
 refine RM rfl ?_
 refine RS (ok_call (allowed_no n h) (A1 rfl)) ?_
 refine RS (ok_not rfl) ?_; refine RZ (.bool true) (by rfl) ?_
 refine RN ?_
 refine A.yes rfl ?_
 refine GS ?_
 refine TF 1 ?_
 refine RS (ok_lit [] ([.slice none 0 0] ++ [.int .u64 0] ++ [.int .u64 0] ++ [.int .u64 0]) (fun _ _ => rfl) (by kernel_rfl)) ?_
 refine RN ?_
 refine ⟨_, eff_storeA (n := 26) (s := 1000006) (size36.of (rfl)) rfl rfl (rfl) hBb6 rfl (rfl) (LV 6 rfl LN), ?_⟩
 refine TL ?_
 refine RA rfl ?_
 refine RN ?_
 refine A.ret ?_
 refine End.ret_then ?_
 exact End.cellV (s := 1000006) rfl Try.underlying36 rfl (size36.of rfl) rfl rfl rfl
theorem New_B (n l r : Nat) (h1 : 1 ≤ n) (h2 : n ≤ 8) (hV : ¬ Valid (List.replicate n 0) 0 l r) : Fn Try.prog 14 [.v (nI n), .v (nQ l), .v (nQ r)] (.v (.tuple #[aggV [.slice none 0 0, .int .u64 0, .int .u64 0, .int .u64 0], .int .i64 1])) := by
 refine Fn.of Try.func14 rfl (by kernel_rfl) Try.ntmps14 (by simp) (fun w => [(0, .v (nI n)), (1, .v (nQ l)), (2, .v (nQ r))]) (fun w => (Start.v rfl (Start.v rfl (Start.v rfl Start.nil)))) fun w₀ => ?_
 refine GS ?_
 refine TN 0 ?_
 refine RN ?_
 refine ⟨_, _, eff_alloc (n := 26) (d := 6) (k := 1000006) zero36 (by decide), fun b6 hb6 => ?_⟩
 have hBb6 := hb6.1
 refine TL ?_
 refine RA rfl ?_
 refine RN ?_
 refine A.seq ?_
 refine GS ?_
 refine TL ?_
 refine RM rfl ?_
 refine RS (ok_call (allowed_yes (n : Int) (by omega) (by omega)) (A1 rfl)) ?_
 refine RS (ok_not rfl) ?_; refine RZ (.bool false) (by rfl) ?_
 refine RN ?_
 refine A.no rfl ?_
 refine A.skip ?_
 refine EN ?_
 refine GS ?_
 refine TN 1 ?_
 refine RM rfl ?_
 refine RN ?_
 refine ⟨_, _, eff_nameF (c := n) (by simp) (n := 26) (d := 15) (k := 1000015) rfl rfl (fun B' => ok_make n Try.underlying34 info23 (by decide) rfl rfl rfl rfl rfl (by omega)) (by decide) (by decide), fun b15 hb15 => ?_⟩
 have hBb15 := hb15.1
 have hlt_b6_b15 : b6 < b15 := hb15.2 1000006 _ _ _ rfl
 refine TN 5 ?_
 refine RM rfl ?_
 refine RM rfl ?_
 refine RS (ok_litS [(0, .slice (some ⟨b15, 0, none⟩) (n) (n)), (2, qV l), (3, qV r)] (.slice (some ⟨b15, 0, none⟩) (n) (n) :: alR 0 l r) ⟨rfl, rfl, rfl, rfl, rfl, rfl, trivial⟩ (buildA023 _ _ _ _ _)) ?_
 refine RN ?_
 refine ⟨_, _, eff_alloc (n := 26) (d := 8) (k := 1000008) zero36 (by decide), fun b8 hb8 => ?_⟩
 have hBb8 := hb8.1
 have hlt_b6_b8 : b6 < b8 := hb8.2 1000006 _ _ _ rfl
 refine TF 6 ?_
 refine RN ?_
 refine ⟨_, eff_storeA (n := 26) (s := 1000008) (size36.of (rfl)) rfl rfl (rfl) hBb8 rfl (rfl) (LV 6 rfl (LV 8 rfl (LB 1000006 rfl (LT 1000015 rfl LN)))), ?_⟩
 refine TL ?_
 refine RN ?_
 refine A.seq ?_
 refine GS ?_
 refine TL ?_
 refine RS (OpOk.fact (ok_loadA (s := 1000008) (by decide) Try.underlying36 rfl (size36.of (rfl)) rfl rfl) (d := hdD (vlst (rowQ (List.replicate n 0))) (alR 0 l r)) (s := 1000015) (by decide) rfl (hd_ofL (rowQ (List.replicate n 0)) (alR 0 l r) (by simp [rowQ]) (Nat.le_refl _) (by simp only [maxLen]; omega) (by simp [rowQ]))) ?_
 refine RS (ok_call (Check_bad (List.replicate n 0) 0 l r hV) (A1 rfl)) ?_
 refine RA rfl ?_
 refine RN ?_
 refine GS ?_
 refine TL ?_
 refine RM rfl ?_
 refine RBS rfl rfl rfl (.bool true) (by rfl) ?_
 refine RN ?_
 refine A.yes rfl ?_
 refine GS ?_
 refine TF 2 ?_
 refine RS (ok_lit [] ([.slice none 0 0] ++ [.int .u64 0] ++ [.int .u64 0] ++ [.int .u64 0]) (fun _ _ => rfl) (by kernel_rfl)) ?_
 refine RM rfl ?_
 refine RN ?_
 refine ⟨_, eff_storeA (n := 26) (s := 1000006) (size36.of (rfl)) rfl rfl (rfl) hBb6 rfl (rfl) (LV 6 rfl (LV 24 rfl (LB 1000008 rfl (LT 1000015 rfl LN)))), ?_⟩
 refine TL ?_
 refine RA rfl ?_
 refine RN ?_
 refine A.ret ?_
 refine End.ret_then ?_
 exact End.cellV (s := 1000006) rfl Try.underlying36 rfl (size36.of rfl) rfl rfl rfl
theorem New_C (n l r : Nat) (h1 : 1 ≤ n) (h2 : n ≤ 8) (hV : Valid (List.replicate n 0) 0 l r) : FnB Try.prog 14 [.v (nI n), .v (nQ l), .v (nQ r)] (fun B => newD B 23 (fun b => .tuple #[aggV (.slice (some ⟨b, 0, none⟩) (n) (n) :: alR 0 l r), .int .i64 0]) (rowQ (List.replicate n 0))) := by
 refine FnB.of Try.func14 rfl (by kernel_rfl) Try.ntmps14 (by simp) (fun w => [(0, .v (nI n)), (1, .v (nQ l)), (2, .v (nQ r))]) (fun w => (Start.v rfl (Start.v rfl (Start.v rfl Start.nil)))) fun w₀ => ?_
 refine GS ?_
 refine TN 0 ?_
 refine RN ?_
 refine ⟨_, _, eff_alloc (n := 26) (d := 6) (k := 1000006) zero36 (by decide), fun b6 hb6 => ?_⟩
 have hBb6 := hb6.1
 refine TL ?_
 refine RA rfl ?_
 refine RN ?_
 refine A.seq ?_
 refine GS ?_
 refine TL ?_
 refine RM rfl ?_
 refine RS (ok_call (allowed_yes (n : Int) (by omega) (by omega)) (A1 rfl)) ?_
 refine RS (ok_not rfl) ?_; refine RZ (.bool false) (by rfl) ?_
 refine RN ?_
 refine A.no rfl ?_
 refine A.skip ?_
 refine EN ?_
 refine GS ?_
 refine TN 1 ?_
 refine RM rfl ?_
 refine RN ?_
 refine ⟨_, _, eff_nameF (c := n) (by simp) (n := 26) (d := 15) (k := 1000015) rfl rfl (fun B' => ok_make n Try.underlying34 info23 (by decide) rfl rfl rfl rfl rfl (by omega)) (by decide) (by decide), fun b15 hb15 => ?_⟩
 have hBb15 := hb15.1
 have hlt_b6_b15 : b6 < b15 := hb15.2 1000006 _ _ _ rfl
 refine TN 5 ?_
 refine RM rfl ?_
 refine RM rfl ?_
 refine RS (ok_litS [(0, .slice (some ⟨b15, 0, none⟩) (n) (n)), (2, qV l), (3, qV r)] (.slice (some ⟨b15, 0, none⟩) (n) (n) :: alR 0 l r) ⟨rfl, rfl, rfl, rfl, rfl, rfl, trivial⟩ (buildA023 _ _ _ _ _)) ?_
 refine RN ?_
 refine ⟨_, _, eff_alloc (n := 26) (d := 8) (k := 1000008) zero36 (by decide), fun b8 hb8 => ?_⟩
 have hBb8 := hb8.1
 have hlt_b6_b8 : b6 < b8 := hb8.2 1000006 _ _ _ rfl
 refine TF 6 ?_
 refine RN ?_
 refine ⟨_, eff_storeA (n := 26) (s := 1000008) (size36.of (rfl)) rfl rfl (rfl) hBb8 rfl (rfl) (LV 6 rfl (LV 8 rfl (LB 1000006 rfl (LT 1000015 rfl LN)))), ?_⟩
 refine TL ?_
 refine RN ?_
 refine A.seq ?_
 refine GS ?_
 refine TL ?_
 refine RS (OpOk.fact (ok_loadA (s := 1000008) (by decide) Try.underlying36 rfl (size36.of (rfl)) rfl rfl) (d := hdD (vlst (rowQ (List.replicate n 0))) (alR 0 l r)) (s := 1000015) (by decide) rfl (hd_ofL (rowQ (List.replicate n 0)) (alR 0 l r) (by simp [rowQ]) (Nat.le_refl _) (by simp only [maxLen]; omega) (by simp [rowQ]))) ?_
 refine RS (ok_call (Check_ok (List.replicate n 0) 0 l r hV) (A1 rfl)) ?_
 refine RA rfl ?_
 refine RN ?_
 refine GS ?_
 refine TL ?_
 refine RM rfl ?_
 refine RBS rfl rfl rfl (.bool false) (by rfl) ?_
 refine RN ?_
 refine A.no rfl ?_
 refine A.skip ?_
 refine EN ?_
 refine GS ?_
 refine TF 1 ?_
 refine RS (ok_loadA (s := 1000008) (by decide) Try.underlying36 rfl (size36.of (rfl)) rfl rfl) ?_
 refine RN ?_
 refine ⟨_, eff_storeA (n := 26) (s := 1000006) (size36.of (rfl)) rfl rfl (rfl) hBb6 rfl (rfl) (LV 6 rfl (LB 1000008 rfl (LT 1000015 rfl LN))), ?_⟩
 refine TL ?_
 refine RA rfl ?_
 refine RN ?_
 refine A.ret ?_
 exact End.newT (s := 1000006) (kg := 1000015) rfl Try.underlying36 rfl (size36.of rfl) rfl rfl rfl rfl hBb15 rfl (rowQ_rep n 0)
theorem Take_no (cs : List Nat) (m l r : Nat) (sh : Int) (h : ¬ (0 ≤ sh ∧ sh < (cs.length : Int) ∧ Valid cs m l r)) : Fn Try.prog 17 [hdD (vlst (rowQ cs)) (alR m l r), .v (.int .i64 sh)] (.v (.tuple #[aggV [.int .u32 0, .int .u64 0], aggV [.slice none 0 0, .int .u64 0, .int .u64 0, .int .u64 0], .int .i64 1])) := by
 refine Fn.of Try.func17 rfl (by kernel_rfl) Try.ntmps17 (by simp) (fun w => [(0, old w.heap.size (hdD (vlst (rowQ cs)) (alR m l r))), (1, .v (.int .i64 sh))]) (fun w => (Start.old rfl (Start.v rfl Start.nil))) fun w₀ => ?_
 refine A.nameHd (t := 0) (k := 1000200) rfl fun v hv => ?_
 refine GS ?_
 refine TN 0 ?_
 refine RN ?_
 refine ⟨_, _, eff_box (n := 44) (d := 2) (k := 1000002) rfl (by decide), fun b2 hb2 => ?_⟩
 have hBb2 := hb2.1
 refine TN 1 ?_
 refine RN ?_
 refine ⟨_, _, eff_alloc (n := 44) (d := 4) (k := 1000004) zero25 (by decide), fun b4 hb4 => ?_⟩
 have hBb4 := hb4.1
 refine TN 2 ?_
 refine RN ?_
 refine ⟨_, _, eff_alloc (n := 44) (d := 5) (k := 1000005) zero36 (by decide), fun b5 hb5 => ?_⟩
 have hBb5 := hb5.1
 have hlt_b2_b5 : b2 < b5 := hb5.2 1000002 _ _ _ rfl
 refine TL ?_
 refine RA rfl ?_
 refine RN ?_
 refine A.seq ?_
 refine GS ?_
 refine TL ?_
 refine RS (OpOk.hdO (ok_loadA (s := 1000002) (by decide) Try.underlying36 rfl (size36.of (rfl)) rfl rfl) hv (k := 1000200) (by decide) rfl) ?_
 refine RM rfl ?_
 refine RS (ok_call (checkShard_no cs m l r sh h) (Args.cons rfl (Le.old _ _) (A1 rfl))) ?_
 refine RA rfl ?_
 refine RN ?_
 refine GS ?_
 refine TL ?_
 refine RM rfl ?_
 refine RBS rfl rfl rfl (.bool true) (by rfl) ?_
 refine RN ?_
 refine A.yes rfl ?_
 refine GS ?_
 refine TF 3 ?_
 refine RS (ok_lit [] ([.int .u32 0] ++ [.int .u64 0]) (fun _ _ => rfl) (by kernel_rfl)) ?_
 refine RS (ok_lit [] ([.slice none 0 0] ++ [.int .u64 0] ++ [.int .u64 0] ++ [.int .u64 0]) (fun _ _ => rfl) (by kernel_rfl)) ?_
 refine RM rfl ?_
 refine RN ?_
 refine ⟨_, eff_storeA (n := 44) (s := 1000004) (size25.of (rfl)) rfl rfl (rfl) hBb4 rfl (rfl) (LV 4 rfl (LV 5 rfl (LV 16 rfl (LV 17 rfl (LT 1000002 rfl (LT 1000005 rfl (LO 1000200 rfl LN))))))), ?_⟩
 refine TF 4 ?_
 refine RN ?_
 refine ⟨_, eff_storeA (n := 44) (s := 1000005) (size36.of (rfl)) rfl rfl (rfl) hBb5 rfl (rfl) (LV 4 rfl (LV 5 rfl (LV 17 rfl (LB 1000002 rfl (LT 1000004 rfl (LO 1000200 rfl LN)))))), ?_⟩
 refine TL ?_
 refine RA rfl ?_
 refine RN ?_
 refine A.ret ?_
 refine End.ret_then ?_
 exact End.cell3 (s := 1000004) (s₂ := 1000005) rfl Try.underlying25 rfl (size25.of rfl) Try.underlying36 rfl (size36.of rfl) rfl rfl rfl rfl rfl
theorem Take_state (cs : List Nat) (m l r : Nat) (s : Nat) (h : s < cs.length) (hV : Valid cs m l r) (hc : cs.getD s 0 = m) : Fn Try.prog 17 [hdD (vlst (rowQ cs)) (alR m l r), .v (nI s)] (.v (.tuple #[aggV [.int .u32 0, .int .u64 0], aggV [.slice none 0 0, .int .u64 0, .int .u64 0, .int .u64 0], .int .i64 10])) := by
 have hle8 := hV.2.1
 have hgm : cs.getD s 0 ≤ m := getD_le hV.2.2.1
 refine Fn.of Try.func17 rfl (by kernel_rfl) Try.ntmps17 (by simp) (fun w => [(0, old w.heap.size (hdD (vlst (rowQ cs)) (alR m l r))), (1, .v (nI s))]) (fun w => (Start.old rfl (Start.v rfl Start.nil))) fun w₀ => ?_
 refine A.nameHd (t := 0) (k := 1000200) rfl fun v hv => ?_
 refine GS ?_
 refine TN 0 ?_
 refine RN ?_
 refine ⟨_, _, eff_box (n := 44) (d := 2) (k := 1000002) rfl (by decide), fun b2 hb2 => ?_⟩
 have hBb2 := hb2.1
 refine TN 1 ?_
 refine RN ?_
 refine ⟨_, _, eff_alloc (n := 44) (d := 4) (k := 1000004) zero25 (by decide), fun b4 hb4 => ?_⟩
 have hBb4 := hb4.1
 refine TN 2 ?_
 refine RN ?_
 refine ⟨_, _, eff_alloc (n := 44) (d := 5) (k := 1000005) zero36 (by decide), fun b5 hb5 => ?_⟩
 have hBb5 := hb5.1
 have hlt_b2_b5 : b2 < b5 := hb5.2 1000002 _ _ _ rfl
 refine TL ?_
 refine RA rfl ?_
 refine RN ?_
 refine A.seq ?_
 refine GS ?_
 refine TL ?_
 refine RS (OpOk.hdO (ok_loadA (s := 1000002) (by decide) Try.underlying36 rfl (size36.of (rfl)) rfl rfl) hv (k := 1000200) (by decide) rfl) ?_
 refine RM rfl ?_
 refine RS (ok_call (checkShard_ok cs m l r (s : Int) (by omega) (by omega) hV) (Args.cons rfl (Le.old _ _) (A1 rfl))) ?_
 refine RA rfl ?_
 refine RN ?_
 refine GS ?_
 refine TL ?_
 refine RM rfl ?_
 refine RBS rfl rfl rfl (.bool false) (by rfl) ?_
 refine RN ?_
 refine A.no rfl ?_
 refine A.skip ?_
 refine EN ?_
 refine GS ?_
 refine TN 7 ?_
 refine RM rfl ?_
 refine RS (ok_field field36_0 (by decide) rfl) ?_
 refine RS (OpOk.valO (ok_loadV (s := 1000002) (by decide) Try.underlying34 rfl rfl rfl (rfl)) (k := 1000200) (by decide) rfl) ?_
 refine RM rfl ?_
 refine RS (ok_indexU s Try.underlying34 info23 rfl LA rfl (rowQ_get h)) ?_
 refine RS (ok_load Try.underlying23 rfl rfl) ?_
 refine RS (ok_call (nonceOf_fn s (cs.getD s 0) (by omega)) (A2 rfl rfl)) ?_
 refine RN ?_
 refine ⟨_, _, eff_alloc (n := 44) (d := 8) (k := 1000008) zero25 (by decide), fun b8 hb8 => ?_⟩
 have hBb8 := hb8.1
 have hlt_b4_b8 : b4 < b8 := hb8.2 1000004 _ _ _ rfl
 refine TF 8 ?_
 refine RN ?_
 refine ⟨_, eff_storeA (n := 44) (s := 1000008) (size25.of (rfl)) rfl rfl (rfl) hBb8 rfl (rfl) (LV 1 rfl (LV 2 rfl (LV 4 rfl (LV 5 rfl (LV 8 rfl (LT 1000002 rfl (LB 1000004 rfl (LT 1000005 rfl (LO 1000200 rfl LN))))))))), ?_⟩
 refine TL ?_
 refine RN ?_
 refine A.seq ?_
 refine GD ?_
 refine TL ?_
 refine RS (ok_loadA (s := 1000008) (by decide) Try.underlying25 rfl (size25.of (rfl)) rfl rfl) ?_
 refine RM rfl ?_
 refine RS (ok_field field36_1 (by decide) rfl) ?_
 refine RS (ok_loadV (s := 1000002) (by decide) Try.underlying23 rfl rfl rfl (rfl)) ?_
 refine RS (ok_call (nonceOf_fn s m (by omega)) (A2 rfl rfl)) ?_
 refine RS (ok_eqlT (n := 3) true flatN (by decide) (by kernel_rfl) (by kernel_rfl) rfl rfl (kinN _ _) (kinN _ _) ⟨fun _ => by rw [hc], fun _ => rfl⟩) ?_
 refine RN ?_
 refine A.sub (KC 1 rfl (KC 2 rfl (KC 4 rfl (KC 5 rfl (KC 8 rfl (KC 30 rfl (KC 1000002 rfl (KC 1000004 rfl (KC 1000005 rfl (KC 1000008 rfl (KC 1000200 rfl KN))))))))))) ?_
 refine A.yes rfl ?_
 refine GS ?_
 refine TF 2 ?_
 refine RS (ok_lit [] ([.int .u32 0] ++ [.int .u64 0]) (fun _ _ => rfl) (by kernel_rfl)) ?_
 refine RS (ok_lit [] ([.slice none 0 0] ++ [.int .u64 0] ++ [.int .u64 0] ++ [.int .u64 0]) (fun _ _ => rfl) (by kernel_rfl)) ?_
 refine RN ?_
 refine ⟨_, eff_storeA (n := 44) (s := 1000004) (size25.of (rfl)) rfl rfl (rfl) hBb4 rfl (rfl) (LV 4 rfl (LV 5 rfl (LV 32 rfl (LT 1000002 rfl (LT 1000005 rfl (LB 1000008 rfl (LO 1000200 rfl LN))))))), ?_⟩
 refine TF 3 ?_
 refine RN ?_
 refine ⟨_, eff_storeA (n := 44) (s := 1000005) (size36.of (rfl)) rfl rfl (rfl) hBb5 rfl (rfl) (LV 4 rfl (LV 5 rfl (LB 1000002 rfl (LT 1000004 rfl (LT 1000008 rfl (LO 1000200 rfl LN)))))), ?_⟩
 refine TL ?_
 refine RA rfl ?_
 refine RN ?_
 refine A.ret ?_
 refine End.ret_then ?_
 exact End.cell3 (s := 1000004) (s₂ := 1000005) rfl Try.underlying25 rfl (size25.of rfl) Try.underlying36 rfl (size36.of rfl) rfl rfl rfl rfl rfl
theorem Take_ok (cs : List Nat) (m l r : Nat) (s : Nat) (h : s < cs.length) (hV : Valid cs m l r) (hc : cs.getD s 0 < m) (hm : m < 18446744073709551616) : FnB Try.prog 17 [hdD (vlst (rowQ cs)) (alR m l r), .v (nI s)] (fun B => newD B 23 (fun b => .tuple #[aggV [nW s, nQ (cs.getD s 0)], aggV (.slice (some ⟨b, 0, none⟩) (cs.length) (cs.length) :: alR m l r), .int .i64 0]) (rowQ (cs.set s (cs.getD s 0 + 1)))) := by
 have hle8 := hV.2.1
 have hgm : cs.getD s 0 ≤ m := getD_le hV.2.2.1
 refine FnB.of Try.func17 rfl (by kernel_rfl) Try.ntmps17 (by simp) (fun w => [(0, old w.heap.size (hdD (vlst (rowQ cs)) (alR m l r))), (1, .v (nI s))]) (fun w => (Start.old rfl (Start.v rfl Start.nil))) fun w₀ => ?_
 refine A.nameHd (t := 0) (k := 1000200) rfl fun v hv => ?_
 refine GS ?_
 refine TN 0 ?_
 refine RN ?_
 refine ⟨_, _, eff_box (n := 44) (d := 2) (k := 1000002) rfl (by decide), fun b2 hb2 => ?_⟩
 have hBb2 := hb2.1
 refine TN 1 ?_
 refine RN ?_
 refine ⟨_, _, eff_alloc (n := 44) (d := 4) (k := 1000004) zero25 (by decide), fun b4 hb4 => ?_⟩
 have hBb4 := hb4.1
 refine TN 2 ?_
 refine RN ?_
 refine ⟨_, _, eff_alloc (n := 44) (d := 5) (k := 1000005) zero36 (by decide), fun b5 hb5 => ?_⟩
 have hBb5 := hb5.1
 have hlt_b2_b5 : b2 < b5 := hb5.2 1000002 _ _ _ rfl
 refine TL ?_
 refine RA rfl ?_
 refine RN ?_
 refine A.seq ?_
 refine GS ?_
 refine TL ?_
 refine RS (OpOk.hdO (ok_loadA (s := 1000002) (by decide) Try.underlying36 rfl (size36.of (rfl)) rfl rfl) hv (k := 1000200) (by decide) rfl) ?_
 refine RM rfl ?_
 refine RS (ok_call (checkShard_ok cs m l r (s : Int) (by omega) (by omega) hV) (Args.cons rfl (Le.old _ _) (A1 rfl))) ?_
 refine RA rfl ?_
 refine RN ?_
 refine GS ?_
 refine TL ?_
 refine RM rfl ?_
 refine RBS rfl rfl rfl (.bool false) (by rfl) ?_
 refine RN ?_
 refine A.no rfl ?_
 refine A.skip ?_
 refine EN ?_
 refine GS ?_
 refine TN 7 ?_
 refine RM rfl ?_
 refine RS (ok_field field36_0 (by decide) rfl) ?_
 refine RS (OpOk.valO (ok_loadV (s := 1000002) (by decide) Try.underlying34 rfl rfl rfl (rfl)) (k := 1000200) (by decide) rfl) ?_
 refine RM rfl ?_
 refine RS (ok_indexU s Try.underlying34 info23 rfl LA rfl (rowQ_get h)) ?_
 refine RS (ok_load Try.underlying23 rfl rfl) ?_
 refine RS (ok_call (nonceOf_fn s (cs.getD s 0) (by omega)) (A2 rfl rfl)) ?_
 refine RN ?_
 refine ⟨_, _, eff_alloc (n := 44) (d := 8) (k := 1000008) zero25 (by decide), fun b8 hb8 => ?_⟩
 have hBb8 := hb8.1
 have hlt_b4_b8 : b4 < b8 := hb8.2 1000004 _ _ _ rfl
 refine TF 8 ?_
 refine RN ?_
 refine ⟨_, eff_storeA (n := 44) (s := 1000008) (size25.of (rfl)) rfl rfl (rfl) hBb8 rfl (rfl) (LV 1 rfl (LV 2 rfl (LV 4 rfl (LV 5 rfl (LV 8 rfl (LT 1000002 rfl (LB 1000004 rfl (LT 1000005 rfl (LO 1000200 rfl LN))))))))), ?_⟩
 refine TL ?_
 refine RN ?_
 refine A.seq ?_
 refine GD ?_
 refine TL ?_
 refine RS (ok_loadA (s := 1000008) (by decide) Try.underlying25 rfl (size25.of (rfl)) rfl rfl) ?_
 refine RM rfl ?_
 refine RS (ok_field field36_1 (by decide) rfl) ?_
 refine RS (ok_loadV (s := 1000002) (by decide) Try.underlying23 rfl rfl rfl (rfl)) ?_
 refine RS (ok_call (nonceOf_fn s m (by omega)) (A2 rfl rfl)) ?_
 refine RS (ok_eqlT (n := 3) false flatN (by decide) (by kernel_rfl) (by kernel_rfl) rfl rfl (kinN _ _) (kinN _ _) (neN (by omega))) ?_
 refine RN ?_
 refine A.sub (KC 1 rfl (KC 2 rfl (KC 4 rfl (KC 5 rfl (KC 8 rfl (KC 30 rfl (KC 1000002 rfl (KC 1000004 rfl (KC 1000005 rfl (KC 1000008 rfl (KC 1000200 rfl KN))))))))))) ?_
 refine A.no rfl ?_
 refine A.skip ?_
 refine EN ?_
 refine GS ?_
 refine TN 1 ?_
 refine RS (OpOk.hdO (ok_loadA (s := 1000002) (by decide) Try.underlying36 rfl (size36.of (rfl)) rfl rfl) hv (k := 1000200) (by decide) rfl) ?_
 refine RN ?_
 refine ⟨_, _, eff_name (n := 44) (d := 34) (k := 1000034) rfl rfl (fun B' => ok_callB (copied_fnB cs m l r (by omega)) newD_mono (Args.cons rfl (Le.old _ _) Args.nil)) (by decide) (by decide), fun b34 hb34 => ?_⟩
 have hBb34 := hb34.1
 have hlt_b2_b34 : b2 < b34 := hb34.2 1000002 _ _ _ rfl
 have hlt_b4_b34 : b4 < b34 := hb34.2 1000004 _ _ _ rfl
 have hlt_b5_b34 : b5 < b34 := hb34.2 1000005 _ _ _ rfl
 have hlt_b8_b34 : b8 < b34 := hb34.2 1000008 _ _ _ rfl
 refine TN 2 ?_
 refine RN ?_
 refine ⟨_, _, eff_alloc (n := 44) (d := 9) (k := 1000009) zero36 (by decide), fun b9 hb9 => ?_⟩
 have hBb9 := hb9.1
 have hlt_b2_b9 : b2 < b9 := hb9.2 1000002 _ _ _ rfl
 have hlt_b5_b9 : b5 < b9 := hb9.2 1000005 _ _ _ rfl
 refine TF 3 ?_
 refine RN ?_
 refine ⟨_, eff_storeA (n := 44) (s := 1000009) (size36.of (rfl)) rfl rfl (rfl) hBb9 rfl (rfl) (LV 1 rfl (LV 4 rfl (LV 5 rfl (LV 8 rfl (LV 9 rfl (LB 1000002 rfl (LT 1000004 rfl (LB 1000005 rfl (LT 1000008 rfl (LT 1000034 rfl (LO 1000200 rfl LN))))))))))), ?_⟩
 refine TL ?_
 refine RN ?_
 refine GS ?_
 refine TF 7 ?_
 refine RS (ok_field field36_0 (by decide) rfl) ?_
 refine RS (ok_loadV (s := 1000009) (by decide) Try.underlying34 rfl rfl rfl (rfl)) ?_
 refine RM rfl ?_
 refine RS (ok_indexV s Try.underlying34 info23 rfl rfl rfl (by omega)) ?_
 refine RS (ok_loadV (s := 1000034) (by decide) Try.underlying23 rfl rfl rfl (by rw [Nat.zero_add]; exact rowQ_get h)) ?_
 refine RBS rfl rfl rfl (nQ (cs.getD s 0 + 1)) (by rw [wrap_u64 (by omega) (by omega)]; rfl) ?_
 refine RS (ok_indexV s Try.underlying34 info23 rfl rfl rfl (by omega)) ?_
 refine RN ?_
 refine ⟨_, eff_storeS (n := 44) (s := 1000034) info23 rfl rfl rfl hBb34 rfl (by rw [rowQ_length]; omega) (LV 4 rfl (LV 5 rfl (LV 8 rfl (LV 9 rfl (LT 1000002 rfl (LT 1000004 rfl (LT 1000005 rfl (LT 1000008 rfl (LT 1000009 rfl (LO 1000200 rfl LN)))))))))), ?_⟩
 refine TL ?_
 refine RN ?_
 refine A.sub (KC 4 rfl (KC 5 rfl (KC 8 rfl (KC 9 rfl (KC 1000002 rfl (KC 1000004 rfl (KC 1000005 rfl (KC 1000008 rfl (KC 1000009 rfl (KE 1000034 rfl (show _ = blk b34 23 (rowQ (cs.set s (cs.getD s 0 + 1))) from congrArg _ (by rw [Nat.zero_add, rowQ_set])) (KC 1000200 rfl KN))))))))))) ?_
 refine A.regsE (by kernel_rfl) ?_
 refine AnyT.step 0 [1] (by kernel_rfl) ?_
 refine NextT.pure (by kernel_rfl) rfl rfl rfl (ok_loadA (s := 1000008) (by decide) Try.underlying25 rfl (size25.of (rfl)) rfl rfl) ?_ ?_
 ·refine AnyT.step 1 [2] (by kernel_rfl) ?_
  refine NextT.pure (by kernel_rfl) rfl rfl rfl (ok_loadA (s := 1000009) (by decide) Try.underlying36 rfl (size36.of (rfl)) rfl rfl) ?_ ?_
  ·refine AnyT.step 2 [] (by kernel_rfl) ?_
   refine NextT.eff rfl (eff_storeA (n := 44) (s := 1000004) (size25.of (rfl)) rfl rfl (rfl) hBb4 rfl (rfl) (LV 4 rfl (LV 5 rfl (LV 8 rfl (LV 9 rfl (LV 42 rfl (LV 43 rfl (LT 1000002 rfl (LT 1000005 rfl (LB 1000008 rfl (LT 1000009 rfl (LT 1000034 rfl (LO 1000200 rfl LN))))))))))))) ?_ ?_
   ·refine AnyT.step 3 [] (by kernel_rfl) ?_
    refine NextT.eff rfl (eff_storeA (n := 44) (s := 1000005) (size36.of (rfl)) rfl rfl (rfl) hBb5 rfl (rfl) (LV 4 rfl (LV 5 rfl (LV 8 rfl (LV 9 rfl (LV 42 rfl (LV 43 rfl (LB 1000002 rfl (LT 1000004 rfl (LT 1000008 rfl (LB 1000009 rfl (LT 1000034 rfl (LO 1000200 rfl LN))))))))))))) ?_ ?_
    ·refine AnyT.step 4 [] (by kernel_rfl) ?_
     refine NextT.pure (by kernel_rfl) rfl rfl rfl (ok_assign rfl) ?_ ?_
     ·refine AnyT.last (by kernel_rfl) ?_
      refine A.sub (KC 4 rfl (KC 5 rfl (KC 6 rfl (KC 1000002 rfl (KC 1000004 rfl (KC 1000005 rfl (KC 1000008 rfl (KC 1000009 rfl (KC 1000034 rfl (KC 1000200 rfl KN)))))))))) ?_
      refine A.ret ?_
      exact End.new3 (s := 1000004) (s₂ := 1000005) (kg := 1000034) rfl Try.underlying25 rfl (size25.of rfl) Try.underlying36 rfl (size36.of rfl) rfl rfl rfl rfl rfl rfl hBb34 rfl rfl
     exact trivial
    exact trivial
   exact trivial
  refine NextT.eff rfl (eff_storeA (n := 44) (s := 1000004) (size25.of (rfl)) rfl rfl (rfl) hBb4 rfl (rfl) (LV 4 rfl (LV 5 rfl (LV 8 rfl (LV 9 rfl (LV 42 rfl (LT 1000002 rfl (LT 1000005 rfl (LB 1000008 rfl (LT 1000009 rfl (LT 1000034 rfl (LO 1000200 rfl LN)))))))))))) ?_ ?_
  ·refine AnyT.step 1 [] (by kernel_rfl) ?_
   refine NextT.pure (by kernel_rfl) rfl rfl rfl (ok_loadA (s := 1000009) (by decide) Try.underlying36 rfl (size36.of (rfl)) rfl rfl) ?_ ?_
   ·refine AnyT.step 3 [] (by kernel_rfl) ?_
    refine NextT.eff rfl (eff_storeA (n := 44) (s := 1000005) (size36.of (rfl)) rfl rfl (rfl) hBb5 rfl (rfl) (LV 4 rfl (LV 5 rfl (LV 8 rfl (LV 9 rfl (LV 42 rfl (LV 43 rfl (LB 1000002 rfl (LT 1000004 rfl (LT 1000008 rfl (LB 1000009 rfl (LT 1000034 rfl (LO 1000200 rfl LN))))))))))))) ?_ ?_
    ·refine AnyT.step 4 [] (by kernel_rfl) ?_
     refine NextT.pure (by kernel_rfl) rfl rfl rfl (ok_assign rfl) ?_ ?_
     ·refine AnyT.last (by kernel_rfl) ?_
      refine A.sub (KC 4 rfl (KC 5 rfl (KC 6 rfl (KC 1000002 rfl (KC 1000004 rfl (KC 1000005 rfl (KC 1000008 rfl (KC 1000009 rfl (KC 1000034 rfl (KC 1000200 rfl KN)))))))))) ?_
      refine A.ret ?_
      exact End.new3 (s := 1000004) (s₂ := 1000005) (kg := 1000034) rfl Try.underlying25 rfl (size25.of rfl) Try.underlying36 rfl (size36.of rfl) rfl rfl rfl rfl rfl rfl hBb34 rfl rfl
     exact trivial
    exact trivial
   exact trivial
  exact trivial
 refine NextT.pure (by kernel_rfl) rfl rfl rfl (ok_loadA (s := 1000009) (by decide) Try.underlying36 rfl (size36.of (rfl)) rfl rfl) ?_ ?_
 ·refine AnyT.step 0 [] (by kernel_rfl) ?_
  refine NextT.pure (by kernel_rfl) rfl rfl rfl (ok_loadA (s := 1000008) (by decide) Try.underlying25 rfl (size25.of (rfl)) rfl rfl) ?_ ?_
  ·refine AnyT.step 2 [] (by kernel_rfl) ?_
   refine NextT.eff rfl (eff_storeA (n := 44) (s := 1000004) (size25.of (rfl)) rfl rfl (rfl) hBb4 rfl (rfl) (LV 4 rfl (LV 5 rfl (LV 8 rfl (LV 9 rfl (LV 42 rfl (LV 43 rfl (LT 1000002 rfl (LT 1000005 rfl (LB 1000008 rfl (LT 1000009 rfl (LT 1000034 rfl (LO 1000200 rfl LN))))))))))))) ?_ ?_
   ·refine AnyT.step 3 [] (by kernel_rfl) ?_
    refine NextT.eff rfl (eff_storeA (n := 44) (s := 1000005) (size36.of (rfl)) rfl rfl (rfl) hBb5 rfl (rfl) (LV 4 rfl (LV 5 rfl (LV 8 rfl (LV 9 rfl (LV 42 rfl (LV 43 rfl (LB 1000002 rfl (LT 1000004 rfl (LT 1000008 rfl (LB 1000009 rfl (LT 1000034 rfl (LO 1000200 rfl LN))))))))))))) ?_ ?_
    ·refine AnyT.step 4 [] (by kernel_rfl) ?_
     refine NextT.pure (by kernel_rfl) rfl rfl rfl (ok_assign rfl) ?_ ?_
     ·refine AnyT.last (by kernel_rfl) ?_
      refine A.sub (KC 4 rfl (KC 5 rfl (KC 6 rfl (KC 1000002 rfl (KC 1000004 rfl (KC 1000005 rfl (KC 1000008 rfl (KC 1000009 rfl (KC 1000034 rfl (KC 1000200 rfl KN)))))))))) ?_
      refine A.ret ?_
      exact End.new3 (s := 1000004) (s₂ := 1000005) (kg := 1000034) rfl Try.underlying25 rfl (size25.of rfl) Try.underlying36 rfl (size36.of rfl) rfl rfl rfl rfl rfl rfl hBb34 rfl rfl
     exact trivial
    exact trivial
   exact trivial
  exact trivial
 exact trivial
theorem Left_no (cs : List Nat) (m l r : Nat) (sh : Int) (h : ¬ (0 ≤ sh ∧ sh < (cs.length : Int) ∧ Valid cs m l r)) : Fn Try.prog 18 [hdD (vlst (rowQ cs)) (alR m l r), .v (.int .i64 sh)] (.v (.tuple #[.int .u64 0, .int .i64 1])) := by
 refine Fn.of Try.func18 rfl (by kernel_rfl) Try.ntmps18 (by simp) (fun w => [(0, old w.heap.size (hdD (vlst (rowQ cs)) (alR m l r))), (1, .v (.int .i64 sh))]) (fun w => (Start.old rfl (Start.v rfl Start.nil))) fun w₀ => ?_
 refine A.nameHd (t := 0) (k := 1000200) rfl fun v hv => ?_
 refine GS ?_
 refine TN 0 ?_
 refine RN ?_
 refine ⟨_, _, eff_box (n := 21) (d := 2) (k := 1000002) rfl (by decide), fun b2 hb2 => ?_⟩
 have hBb2 := hb2.1
 refine TL ?_
 refine RA rfl ?_
 refine RA rfl ?_
 refine RN ?_
 refine A.seq ?_
 refine GS ?_
 refine TL ?_
 refine RS (OpOk.hdO (ok_loadA (s := 1000002) (by decide) Try.underlying36 rfl (size36.of (rfl)) rfl rfl) hv (k := 1000200) (by decide) rfl) ?_
 refine RM rfl ?_
 refine RS (ok_call (checkShard_no cs m l r sh h) (Args.cons rfl (Le.old _ _) (A1 rfl))) ?_
 refine RA rfl ?_
 refine RN ?_
 refine GS ?_
 refine TL ?_
 refine RM rfl ?_
 refine RBS rfl rfl rfl (.bool true) (by rfl) ?_
 refine RN ?_
 refine A.yes rfl ?_
 refine GS ?_
 refine TL ?_
 refine RM rfl ?_
 refine RA rfl ?_
 refine RA rfl ?_
 refine RN ?_
 refine A.ret ?_
 refine End.ret_then ?_
 exact End.ret2V rfl rfl rfl
theorem Left_ok (cs : List Nat) (m l r : Nat) (s : Nat) (h : s < cs.length) (hV : Valid cs m l r) (hm : m < 18446744073709551616) : Fn Try.prog 18 [hdD (vlst (rowQ cs)) (alR m l r), .v (nI s)] (.v (.tuple #[nQ (m - cs.getD s 0), .int .i64 0])) := by
 have hle8 := hV.2.1
 have hgm : cs.getD s 0 ≤ m := getD_le hV.2.2.1
 refine Fn.of Try.func18 rfl (by kernel_rfl) Try.ntmps18 (by simp) (fun w => [(0, old w.heap.size (hdD (vlst (rowQ cs)) (alR m l r))), (1, .v (nI s))]) (fun w => (Start.old rfl (Start.v rfl Start.nil))) fun w₀ => ?_
 refine A.nameHd (t := 0) (k := 1000200) rfl fun v hv => ?_
 refine GS ?_
 refine TN 0 ?_
 refine RN ?_
 refine ⟨_, _, eff_box (n := 21) (d := 2) (k := 1000002) rfl (by decide), fun b2 hb2 => ?_⟩
 have hBb2 := hb2.1
 refine TL ?_
 refine RA rfl ?_
 refine RA rfl ?_
 refine RN ?_
 refine A.seq ?_
 refine GS ?_
 refine TL ?_
 refine RS (OpOk.hdO (ok_loadA (s := 1000002) (by decide) Try.underlying36 rfl (size36.of (rfl)) rfl rfl) hv (k := 1000200) (by decide) rfl) ?_
 refine RM rfl ?_
 refine RS (ok_call (checkShard_ok cs m l r (s : Int) (by omega) (by omega) hV) (Args.cons rfl (Le.old _ _) (A1 rfl))) ?_
 refine RA rfl ?_
 refine RN ?_
 refine GS ?_
 refine TL ?_
 refine RM rfl ?_
 refine RBS rfl rfl rfl (.bool false) (by rfl) ?_
 refine RN ?_
 refine A.no rfl ?_
 refine A.skip ?_
 refine EN ?_
 refine GD ?_
 refine TL ?_
 refine RS (ok_field field36_1 (by decide) rfl) ?_
 refine RS (ok_loadV (s := 1000002) (by decide) Try.underlying23 rfl rfl rfl (rfl)) ?_
 refine RS (ok_field field36_0 (by decide) rfl) ?_
 refine RS (OpOk.valO (ok_loadV (s := 1000002) (by decide) Try.underlying34 rfl rfl rfl (rfl)) (k := 1000200) (by decide) rfl) ?_
 refine RM rfl ?_
 refine RS (ok_indexU s Try.underlying34 info23 rfl LA rfl (rowQ_get h)) ?_
 refine RS (ok_load Try.underlying23 rfl rfl) ?_
 refine RBS rfl rfl rfl (nQ (m - cs.getD s 0)) (by rw [wrap_u64 (by omega) (by omega)]; exact congrArg (Value.int .u64) (by omega)) ?_
 refine RA rfl ?_
 refine RA rfl ?_
 refine RN ?_
 refine A.ret ?_
 exact End.ret2V rfl rfl rfl
theorem Extend_bad (cs : List Nat) (m l r : Nat) (hV : ¬ Valid cs m l r) : Fn Try.prog 19 [hdD (vlst (rowQ cs)) (alR m l r)] (.v (.tuple #[aggV [.slice none 0 0, .int .u64 0, .int .u64 0, .int .u64 0], .int .i64 1])) := by
 refine Fn.of Try.func19 rfl (by kernel_rfl) Try.ntmps19 (by simp) (fun w => [(0, old w.heap.size (hdD (vlst (rowQ cs)) (alR m l r)))]) (fun w => (Start.old rfl Start.nil)) fun w₀ => ?_
 refine A.nameHd (t := 0) (k := 1000200) rfl fun v hv => ?_
 refine GS ?_
 refine TN 0 ?_
 refine RN ?_
 refine ⟨_, _, eff_box (n := 30) (d := 1) (k := 1000001) rfl (by decide), fun b1 hb1 => ?_⟩
 have hBb1 := hb1.1
 refine TN 1 ?_
 refine RN ?_
 refine ⟨_, _, eff_alloc (n := 30) (d := 2) (k := 1000002) zero36 (by decide), fun b2 hb2 => ?_⟩
 have hBb2 := hb2.1
 have hlt_b1_b2 : b1 < b2 := hb2.2 1000001 _ _ _ rfl
 refine TL ?_
 refine RA rfl ?_
 refine RN ?_
 refine A.seq ?_
 refine GS ?_
 refine TL ?_
 refine RS (OpOk.hdO (ok_loadA (s := 1000001) (by decide) Try.underlying36 rfl (size36.of (rfl)) rfl rfl) hv (k := 1000200) (by decide) rfl) ?_
 refine RS (ok_call (Check_bad cs m l r hV) (Args.cons rfl (Le.old _ _) Args.nil)) ?_
 refine RA rfl ?_
 refine RN ?_
 refine GS ?_
 refine TL ?_
 refine RM rfl ?_
 refine RBS rfl rfl rfl (.bool true) (by rfl) ?_
 refine RN ?_
 refine A.yes rfl ?_
 refine GS ?_
 refine TF 2 ?_
 refine RS (ok_lit [] ([.slice none 0 0] ++ [.int .u64 0] ++ [.int .u64 0] ++ [.int .u64 0]) (fun _ _ => rfl) (by kernel_rfl)) ?_
 refine RM rfl ?_
 refine RN ?_
 refine ⟨_, eff_storeA (n := 30) (s := 1000002) (size36.of (rfl)) rfl rfl (rfl) hBb2 rfl (rfl) (LV 2 rfl (LV 11 rfl (LB 1000001 rfl (LO 1000200 rfl LN)))), ?_⟩
 refine TL ?_
 refine RA rfl ?_
 refine RN ?_
 refine A.ret ?_
 refine End.ret_then ?_
 exact End.cellV (s := 1000002) rfl Try.underlying36 rfl (size36.of rfl) rfl rfl rfl
theorem Extend_nonce (cs : List Nat) (m l r : Nat) (hV : Valid cs m l r) (hl : l < 18446744073709551616) (h : l - m < r) : Fn Try.prog 19 [hdD (vlst (rowQ cs)) (alR m l r)] (.v (.tuple #[aggV [.slice none 0 0, .int .u64 0, .int .u64 0, .int .u64 0], .int .i64 8])) := by
 have hml := hV.2.2.2.1
 refine Fn.of Try.func19 rfl (by kernel_rfl) Try.ntmps19 (by simp) (fun w => [(0, old w.heap.size (hdD (vlst (rowQ cs)) (alR m l r)))]) (fun w => (Start.old rfl Start.nil)) fun w₀ => ?_
 refine A.nameHd (t := 0) (k := 1000200) rfl fun v hv => ?_
 refine GS ?_
 refine TN 0 ?_
 refine RN ?_
 refine ⟨_, _, eff_box (n := 30) (d := 1) (k := 1000001) rfl (by decide), fun b1 hb1 => ?_⟩
 have hBb1 := hb1.1
 refine TN 1 ?_
 refine RN ?_
 refine ⟨_, _, eff_alloc (n := 30) (d := 2) (k := 1000002) zero36 (by decide), fun b2 hb2 => ?_⟩
 have hBb2 := hb2.1
 have hlt_b1_b2 : b1 < b2 := hb2.2 1000001 _ _ _ rfl
 refine TL ?_
 refine RA rfl ?_
 refine RN ?_
 refine A.seq ?_
 refine GS ?_
 refine TL ?_
 refine RS (OpOk.hdO (ok_loadA (s := 1000001) (by decide) Try.underlying36 rfl (size36.of (rfl)) rfl rfl) hv (k := 1000200) (by decide) rfl) ?_
 refine RS (ok_call (Check_ok cs m l r hV) (Args.cons rfl (Le.old _ _) Args.nil)) ?_
 refine RA rfl ?_
 refine RN ?_
 refine GS ?_
 refine TL ?_
 refine RM rfl ?_
 refine RBS rfl rfl rfl (.bool false) (by rfl) ?_
 refine RN ?_
 refine A.no rfl ?_
 refine A.skip ?_
 refine EN ?_
 refine A.seq ?_
 refine GS ?_
 refine TL ?_
 refine RS (ok_field field36_3 (by decide) rfl) ?_
 refine RS (ok_loadV (s := 1000001) (by decide) Try.underlying23 rfl rfl rfl (rfl)) ?_
 refine RS (ok_field field36_2 (by decide) rfl) ?_
 refine RS (ok_loadV (s := 1000001) (by decide) Try.underlying23 rfl rfl rfl (rfl)) ?_
 refine RS (ok_field field36_1 (by decide) rfl) ?_
 refine RS (ok_loadV (s := 1000001) (by decide) Try.underlying23 rfl rfl rfl (rfl)) ?_
 refine RBS rfl rfl rfl (nQ (l - m)) (by rw [wrap_u64 (by omega) (by omega)]; exact congrArg (Value.int .u64) (by omega)) ?_
 refine RBS rfl rfl rfl (.bool true) (by simp; omega) ?_
 refine RN ?_
 refine A.yes rfl ?_
 refine GS ?_
 refine TF 1 ?_
 refine RS (ok_lit [] ([.slice none 0 0] ++ [.int .u64 0] ++ [.int .u64 0] ++ [.int .u64 0]) (fun _ _ => rfl) (by kernel_rfl)) ?_
 refine RN ?_
 refine ⟨_, eff_storeA (n := 30) (s := 1000002) (size36.of (rfl)) rfl rfl (rfl) hBb2 rfl (rfl) (LV 2 rfl (LB 1000001 rfl (LO 1000200 rfl LN))), ?_⟩
 refine TL ?_
 refine RA rfl ?_
 refine RN ?_
 refine A.ret ?_
 refine End.ret_then ?_
 exact End.cellV (s := 1000002) rfl Try.underlying36 rfl (size36.of rfl) rfl rfl rfl
theorem Extend_ok (cs : List Nat) (m l r : Nat) (hV : Valid cs m l r) (hl : l < 18446744073709551616) (h : r ≤ l - m) : FnB Try.prog 19 [hdD (vlst (rowQ cs)) (alR m l r)] (fun B => newD B 23 (fun b => .tuple #[aggV (.slice (some ⟨b, 0, none⟩) (cs.length) (cs.length) :: alR (m + r) l r), .int .i64 0]) (rowQ cs)) := by
 have hml := hV.2.2.2.1
 refine FnB.of Try.func19 rfl (by kernel_rfl) Try.ntmps19 (by simp) (fun w => [(0, old w.heap.size (hdD (vlst (rowQ cs)) (alR m l r)))]) (fun w => (Start.old rfl Start.nil)) fun w₀ => ?_
 refine A.nameHd (t := 0) (k := 1000200) rfl fun v hv => ?_
 refine GS ?_
 refine TN 0 ?_
 refine RN ?_
 refine ⟨_, _, eff_box (n := 30) (d := 1) (k := 1000001) rfl (by decide), fun b1 hb1 => ?_⟩
 have hBb1 := hb1.1
 refine TN 1 ?_
 refine RN ?_
 refine ⟨_, _, eff_alloc (n := 30) (d := 2) (k := 1000002) zero36 (by decide), fun b2 hb2 => ?_⟩
 have hBb2 := hb2.1
 have hlt_b1_b2 : b1 < b2 := hb2.2 1000001 _ _ _ rfl
 refine TL ?_
 refine RA rfl ?_
 refine RN ?_
 refine A.seq ?_
 refine GS ?_
 refine TL ?_
 refine RS (OpOk.hdO (ok_loadA (s := 1000001) (by decide) Try.underlying36 rfl (size36.of (rfl)) rfl rfl) hv (k := 1000200) (by decide) rfl) ?_
 refine RS (ok_call (Check_ok cs m l r hV) (Args.cons rfl (Le.old _ _) Args.nil)) ?_
 refine RA rfl ?_
 refine RN ?_
 refine GS ?_
 refine TL ?_
 refine RM rfl ?_
 refine RBS rfl rfl rfl (.bool false) (by rfl) ?_
 refine RN ?_
 refine A.no rfl ?_
 refine A.skip ?_
 refine EN ?_
 refine A.seq ?_
 refine GS ?_
 refine TL ?_
 refine RS (ok_field field36_3 (by decide) rfl) ?_
 refine RS (ok_loadV (s := 1000001) (by decide) Try.underlying23 rfl rfl rfl (rfl)) ?_
 refine RS (ok_field field36_2 (by decide) rfl) ?_
 refine RS (ok_loadV (s := 1000001) (by decide) Try.underlying23 rfl rfl rfl (rfl)) ?_
 refine RS (ok_field field36_1 (by decide) rfl) ?_
 refine RS (ok_loadV (s := 1000001) (by decide) Try.underlying23 rfl rfl rfl (rfl)) ?_
 refine RBS rfl rfl rfl (nQ (l - m)) (by rw [wrap_u64 (by omega) (by omega)]; exact congrArg (Value.int .u64) (by omega)) ?_
 refine RBS rfl rfl rfl (.bool false) (by simp; omega) ?_
 refine RN ?_
 refine A.no rfl ?_
 refine A.skip ?_
 refine EN ?_
 refine GS ?_
 refine TN 1 ?_
 refine RS (OpOk.hdO (ok_loadA (s := 1000001) (by decide) Try.underlying36 rfl (size36.of (rfl)) rfl rfl) hv (k := 1000200) (by decide) rfl) ?_
 refine RN ?_
 refine ⟨_, _, eff_name (n := 30) (d := 22) (k := 1000022) rfl rfl (fun B' => ok_callB (copied_fnB cs m l r hV.2.1) newD_mono (Args.cons rfl (Le.old _ _) Args.nil)) (by decide) (by decide), fun b22 hb22 => ?_⟩
 have hBb22 := hb22.1
 have hlt_b1_b22 : b1 < b22 := hb22.2 1000001 _ _ _ rfl
 have hlt_b2_b22 : b2 < b22 := hb22.2 1000002 _ _ _ rfl
 refine TN 2 ?_
 refine RN ?_
 refine ⟨_, _, eff_alloc (n := 30) (d := 5) (k := 1000005) zero36 (by decide), fun b5 hb5 => ?_⟩
 have hBb5 := hb5.1
 have hlt_b1_b5 : b1 < b5 := hb5.2 1000001 _ _ _ rfl
 have hlt_b2_b5 : b2 < b5 := hb5.2 1000002 _ _ _ rfl
 refine TF 3 ?_
 refine RN ?_
 refine ⟨_, eff_storeA (n := 30) (s := 1000005) (size36.of (rfl)) rfl rfl (rfl) hBb5 rfl (rfl) (LV 1 rfl (LV 2 rfl (LV 5 rfl (LB 1000001 rfl (LB 1000002 rfl (LT 1000022 rfl (LO 1000200 rfl LN))))))), ?_⟩
 refine TL ?_
 refine RN ?_
 refine GS ?_
 refine TF 6 ?_
 refine RS (ok_field field36_1 (by decide) rfl) ?_
 refine RS (ok_loadV (s := 1000005) (by decide) Try.underlying23 rfl rfl rfl (rfl)) ?_
 refine RS (ok_field field36_3 (by decide) rfl) ?_
 refine RS (ok_loadV (s := 1000001) (by decide) Try.underlying23 rfl rfl rfl (rfl)) ?_
 refine RBS rfl rfl rfl (nQ (m + r)) (by rw [wrap_u64 (by omega) (by omega)]; rfl) ?_
 refine RS (ok_field field36_1 (by decide) rfl) ?_
 refine RN ?_
 refine ⟨_, eff_storeS (n := 30) (s := 1000005) info23 rfl rfl rfl hBb5 rfl (by simp [alR]) (LV 2 rfl (LV 5 rfl (LB 1000001 rfl (LB 1000002 rfl (LT 1000022 rfl (LO 1000200 rfl LN)))))), ?_⟩
 refine TL ?_
 refine RN ?_
 refine A.sub (KC 2 rfl (KC 5 rfl (KC 1000001 rfl (KC 1000002 rfl (KC 1000005 rfl (KC 1000022 rfl (KC 1000200 rfl KN))))))) ?_
 refine GS ?_
 refine TF 1 ?_
 refine RS (ok_loadA (s := 1000005) (by decide) Try.underlying36 rfl (size36.of (rfl)) rfl rfl) ?_
 refine RN ?_
 refine ⟨_, eff_storeA (n := 30) (s := 1000002) (size36.of (rfl)) rfl rfl (rfl) hBb2 rfl (rfl) (LV 2 rfl (LB 1000001 rfl (LB 1000005 rfl (LT 1000022 rfl (LO 1000200 rfl LN))))), ?_⟩
 refine TL ?_
 refine RA rfl ?_
 refine RN ?_
 refine A.ret ?_
 exact End.newT (s := 1000002) (kg := 1000022) rfl Try.underlying36 rfl (size36.of rfl) rfl rfl rfl rfl hBb22 rfl rfl
theorem Crash_bad (cs : List Nat) (m l r : Nat) (hV : ¬ Valid cs m l r) : Fn Try.prog 20 [hdD (vlst (rowQ cs)) (alR m l r)] (.v (.tuple #[aggV [.slice none 0 0, .int .u64 0, .int .u64 0, .int .u64 0], .int .i64 1])) := by
 refine Fn.of Try.func20 rfl (by kernel_rfl) Try.ntmps20 (by simp) (fun w => [(0, old w.heap.size (hdD (vlst (rowQ cs)) (alR m l r)))]) (fun w => (Start.old rfl Start.nil)) fun w₀ => ?_
 refine A.nameHd (t := 0) (k := 1000200) rfl fun v hv => ?_
 refine GS ?_
 refine TN 0 ?_
 refine RN ?_
 refine ⟨_, _, eff_box (n := 24) (d := 1) (k := 1000001) rfl (by decide), fun b1 hb1 => ?_⟩
 have hBb1 := hb1.1
 refine TN 1 ?_
 refine RN ?_
 refine ⟨_, _, eff_alloc (n := 24) (d := 2) (k := 1000002) zero36 (by decide), fun b2 hb2 => ?_⟩
 have hBb2 := hb2.1
 have hlt_b1_b2 : b1 < b2 := hb2.2 1000001 _ _ _ rfl
 refine TL ?_
 refine RA rfl ?_
 refine RN ?_
 refine A.seq ?_
 refine GS ?_
 refine TL ?_
 refine RS (OpOk.hdO (ok_loadA (s := 1000001) (by decide) Try.underlying36 rfl (size36.of (rfl)) rfl rfl) hv (k := 1000200) (by decide) rfl) ?_
 refine RS (ok_call (Check_bad cs m l r hV) (Args.cons rfl (Le.old _ _) Args.nil)) ?_
 refine RA rfl ?_
 refine RN ?_
 refine GS ?_
 refine TL ?_
 refine RM rfl ?_
 refine RBS rfl rfl rfl (.bool true) (by rfl) ?_
 refine RN ?_
 refine A.yes rfl ?_
 refine GS ?_
 refine TF 2 ?_
 refine RS (ok_lit [] ([.slice none 0 0] ++ [.int .u64 0] ++ [.int .u64 0] ++ [.int .u64 0]) (fun _ _ => rfl) (by kernel_rfl)) ?_
 refine RM rfl ?_
 refine RN ?_
 refine ⟨_, eff_storeA (n := 24) (s := 1000002) (size36.of (rfl)) rfl rfl (rfl) hBb2 rfl (rfl) (LV 2 rfl (LV 12 rfl (LB 1000001 rfl (LO 1000200 rfl LN)))), ?_⟩
 refine TL ?_
 refine RA rfl ?_
 refine RN ?_
 refine A.ret ?_
 refine End.ret_then ?_
 exact End.cellV (s := 1000002) rfl Try.underlying36 rfl (size36.of rfl) rfl rfl rfl
theorem Crash_zero (cs : List Nat) (l r : Nat) (hV : Valid cs 0 l r) : FnB Try.prog 20 [hdD (vlst (rowQ cs)) (alR 0 l r)] (fun B => newD B 23 (fun b => .tuple #[aggV (.slice (some ⟨b, 0, none⟩) (cs.length) (cs.length) :: alR 0 l r), .int .i64 0]) (rowQ (List.replicate cs.length 0))) := by
 have hle8 := hV.2.1
 have hle1 := hV.1
 refine FnB.of Try.func20 rfl (by kernel_rfl) Try.ntmps20 (by simp) (fun w => [(0, old w.heap.size (hdD (vlst (rowQ cs)) (alR 0 l r)))]) (fun w => (Start.old rfl Start.nil)) fun w₀ => ?_
 refine A.nameHd (t := 0) (k := 1000200) rfl fun v hv => ?_
 refine GS ?_
 refine TN 0 ?_
 refine RN ?_
 refine ⟨_, _, eff_box (n := 24) (d := 1) (k := 1000001) rfl (by decide), fun b1 hb1 => ?_⟩
 have hBb1 := hb1.1
 refine TN 1 ?_
 refine RN ?_
 refine ⟨_, _, eff_alloc (n := 24) (d := 2) (k := 1000002) zero36 (by decide), fun b2 hb2 => ?_⟩
 have hBb2 := hb2.1
 have hlt_b1_b2 : b1 < b2 := hb2.2 1000001 _ _ _ rfl
 refine TL ?_
 refine RA rfl ?_
 refine RN ?_
 refine A.seq ?_
 refine GS ?_
 refine TL ?_
 refine RS (OpOk.hdO (ok_loadA (s := 1000001) (by decide) Try.underlying36 rfl (size36.of (rfl)) rfl rfl) hv (k := 1000200) (by decide) rfl) ?_
 refine RS (ok_call (Check_ok cs 0 l r hV) (Args.cons rfl (Le.old _ _) Args.nil)) ?_
 refine RA rfl ?_
 refine RN ?_
 refine GS ?_
 refine TL ?_
 refine RM rfl ?_
 refine RBS rfl rfl rfl (.bool false) (by rfl) ?_
 refine RN ?_
 refine A.no rfl ?_
 refine A.skip ?_
 refine EN ?_
 refine GS ?_
 refine TN 1 ?_
 refine RS (OpOk.hdO (ok_loadA (s := 1000001) (by decide) Try.underlying36 rfl (size36.of (rfl)) rfl rfl) hv (k := 1000200) (by decide) rfl) ?_
 refine RN ?_
 refine ⟨_, _, eff_name (n := 24) (d := 14) (k := 1000014) rfl rfl (fun B' => ok_callB (copied_fnB cs 0 l r hV.2.1) newD_mono (Args.cons rfl (Le.old _ _) Args.nil)) (by decide) (by decide), fun b14 hb14 => ?_⟩
 have hBb14 := hb14.1
 have hlt_b1_b14 : b1 < b14 := hb14.2 1000001 _ _ _ rfl
 have hlt_b2_b14 : b2 < b14 := hb14.2 1000002 _ _ _ rfl
 refine TN 2 ?_
 refine RN ?_
 refine ⟨_, _, eff_alloc (n := 24) (d := 5) (k := 1000005) zero36 (by decide), fun b5 hb5 => ?_⟩
 have hBb5 := hb5.1
 have hlt_b1_b5 : b1 < b5 := hb5.2 1000001 _ _ _ rfl
 have hlt_b2_b5 : b2 < b5 := hb5.2 1000002 _ _ _ rfl
 refine TF 3 ?_
 refine RN ?_
 refine ⟨_, eff_storeA (n := 24) (s := 1000005) (size36.of (rfl)) rfl rfl (rfl) hBb5 rfl (rfl) (LV 1 rfl (LV 2 rfl (LV 5 rfl (LB 1000001 rfl (LB 1000002 rfl (LT 1000014 rfl (LO 1000200 rfl LN))))))), ?_⟩
 refine TL ?_
 refine RN ?_
 refine GS ?_
 refine TL ?_
 refine RS (ok_field field36_1 (by decide) rfl) ?_
 refine RS (ok_loadV (s := 1000001) (by decide) Try.underlying23 rfl rfl rfl (rfl)) ?_
 refine RS (ok_litS [(1, nQ 0)] [nW 0, nQ 0] ⟨rfl, rfl, trivial⟩ (buildN1 0)) ?_
 refine RS (ok_call restartAt_zero (A1 rfl)) ?_
 refine RA rfl ?_
 refine RN ?_
 refine GS ?_
 refine TF 3 ?_
 refine RM rfl ?_
 refine RS (ok_field field36_0 (by decide) rfl) ?_
 refine RS (ok_loadV (s := 1000005) (by decide) Try.underlying34 rfl rfl rfl (rfl)) ?_
 refine RN ?_
 refine ⟨_, eff_callVR (n := 24) (s := 1000014) (us := []) (ds := [.v (.slice (some ⟨b14, 0, none⟩) (cs.length) (cs.length))]) (clear_fnWR b14 cs.length cs rfl hle1) (fun p hp => by cases hp) rfl (A1 rfl) hBb14 rfl (by decide) (by decide) (LV 2 rfl (LV 5 rfl (LT 1000001 rfl (LT 1000002 rfl (LT 1000005 rfl (LO 1000200 rfl LN)))))), ?_⟩
 refine TL ?_
 refine RN ?_
 refine GS ?_
 refine TF 1 ?_
 refine RS (ok_loadA (s := 1000005) (by decide) Try.underlying36 rfl (size36.of (rfl)) rfl rfl) ?_
 refine RN ?_
 refine ⟨_, eff_storeA (n := 24) (s := 1000002) (size36.of (rfl)) rfl rfl (rfl) hBb2 rfl (rfl) (LV 2 rfl (LB 1000001 rfl (LB 1000005 rfl (LT 1000014 rfl (LO 1000200 rfl LN))))), ?_⟩
 refine TL ?_
 refine RA rfl ?_
 refine RN ?_
 refine A.ret ?_
 exact End.newT (s := 1000002) (kg := 1000014) rfl Try.underlying36 rfl (size36.of rfl) rfl rfl rfl rfl hBb14 rfl rfl
theorem Crash_pos (cs : List Nat) (m l r : Nat) (hV : Valid cs m l r) (h : 0 < m) : FnB Try.prog 20 [hdD (vlst (rowQ cs)) (alR m l r)] (fun B => newD B 23 (fun b => .tuple #[aggV (.slice (some ⟨b, 0, none⟩) (cs.length) (cs.length) :: alR m l r), .int .i64 0]) (rowQ (List.replicate cs.length m))) := by
 have hle8 := hV.2.1
 have hle1 := hV.1
 refine FnB.of Try.func20 rfl (by kernel_rfl) Try.ntmps20 (by simp) (fun w => [(0, old w.heap.size (hdD (vlst (rowQ cs)) (alR m l r)))]) (fun w => (Start.old rfl Start.nil)) fun w₀ => ?_
 refine A.nameHd (t := 0) (k := 1000200) rfl fun v hv => ?_
 refine GS ?_
 refine TN 0 ?_
 refine RN ?_
 refine ⟨_, _, eff_box (n := 24) (d := 1) (k := 1000001) rfl (by decide), fun b1 hb1 => ?_⟩
 have hBb1 := hb1.1
 refine TN 1 ?_
 refine RN ?_
 refine ⟨_, _, eff_alloc (n := 24) (d := 2) (k := 1000002) zero36 (by decide), fun b2 hb2 => ?_⟩
 have hBb2 := hb2.1
 have hlt_b1_b2 : b1 < b2 := hb2.2 1000001 _ _ _ rfl
 refine TL ?_
 refine RA rfl ?_
 refine RN ?_
 refine A.seq ?_
 refine GS ?_
 refine TL ?_
 refine RS (OpOk.hdO (ok_loadA (s := 1000001) (by decide) Try.underlying36 rfl (size36.of (rfl)) rfl rfl) hv (k := 1000200) (by decide) rfl) ?_
 refine RS (ok_call (Check_ok cs m l r hV) (Args.cons rfl (Le.old _ _) Args.nil)) ?_
 refine RA rfl ?_
 refine RN ?_
 refine GS ?_
 refine TL ?_
 refine RM rfl ?_
 refine RBS rfl rfl rfl (.bool false) (by rfl) ?_
 refine RN ?_
 refine A.no rfl ?_
 refine A.skip ?_
 refine EN ?_
 refine GS ?_
 refine TN 1 ?_
 refine RS (OpOk.hdO (ok_loadA (s := 1000001) (by decide) Try.underlying36 rfl (size36.of (rfl)) rfl rfl) hv (k := 1000200) (by decide) rfl) ?_
 refine RN ?_
 refine ⟨_, _, eff_name (n := 24) (d := 14) (k := 1000014) rfl rfl (fun B' => ok_callB (copied_fnB cs m l r hV.2.1) newD_mono (Args.cons rfl (Le.old _ _) Args.nil)) (by decide) (by decide), fun b14 hb14 => ?_⟩
 have hBb14 := hb14.1
 have hlt_b1_b14 : b1 < b14 := hb14.2 1000001 _ _ _ rfl
 have hlt_b2_b14 : b2 < b14 := hb14.2 1000002 _ _ _ rfl
 refine TN 2 ?_
 refine RN ?_
 refine ⟨_, _, eff_alloc (n := 24) (d := 5) (k := 1000005) zero36 (by decide), fun b5 hb5 => ?_⟩
 have hBb5 := hb5.1
 have hlt_b1_b5 : b1 < b5 := hb5.2 1000001 _ _ _ rfl
 have hlt_b2_b5 : b2 < b5 := hb5.2 1000002 _ _ _ rfl
 refine TF 3 ?_
 refine RN ?_
 refine ⟨_, eff_storeA (n := 24) (s := 1000005) (size36.of (rfl)) rfl rfl (rfl) hBb5 rfl (rfl) (LV 1 rfl (LV 2 rfl (LV 5 rfl (LB 1000001 rfl (LB 1000002 rfl (LT 1000014 rfl (LO 1000200 rfl LN))))))), ?_⟩
 refine TL ?_
 refine RN ?_
 refine GS ?_
 refine TN 3 ?_
 refine RS (ok_field field36_1 (by decide) rfl) ?_
 refine RS (ok_loadV (s := 1000001) (by decide) Try.underlying23 rfl rfl rfl (rfl)) ?_
 refine RS (ok_litS [(1, nQ m)] [nW 0, nQ m] ⟨rfl, rfl, trivial⟩ (buildN1 m)) ?_
 refine RN ?_
 refine ⟨_, _, eff_name (n := 24) (d := 18) (k := 1000018) rfl rfl (fun B' => ok_callB (restartAt_pos m h) newD_mono (A1 rfl)) (by decide) (by decide), fun b18 hb18 => ?_⟩
 have hBb18 := hb18.1
 have hlt_b1_b18 : b1 < b18 := hb18.2 1000001 _ _ _ rfl
 have hlt_b2_b18 : b2 < b18 := hb18.2 1000002 _ _ _ rfl
 have hlt_b5_b18 : b5 < b18 := hb18.2 1000005 _ _ _ rfl
 have hlt_b14_b18 : b14 < b18 := hb18.2 1000014 _ _ _ rfl
 refine TL ?_
 refine RA rfl ?_
 refine RN ?_
 refine GS ?_
 refine TF 3 ?_
 refine RM rfl ?_
 refine RS (ok_field field36_0 (by decide) rfl) ?_
 refine RS (ok_loadV (s := 1000005) (by decide) Try.underlying34 rfl rfl rfl (rfl)) ?_
 refine RN ?_
 refine ⟨_, eff_callVR (n := 24) (s := 1000014) (us := [ptr b18]) (ds := [.v (.slice (some ⟨b14, 0, none⟩) (cs.length) (cs.length))]) (fill_fnWR b14 b18 cs.length m cs rfl hle8) (fun p hp => by simp only [List.mem_cons, List.not_mem_nil, or_false] at hp; rcases hp with rfl; exact ⟨1000018, by decide, rfl⟩) rfl (A1 rfl) hBb14 rfl (by decide) (by decide) (LV 2 rfl (LV 5 rfl (LT 1000001 rfl (LT 1000002 rfl (LT 1000005 rfl (LT 1000018 rfl (LO 1000200 rfl LN))))))), ?_⟩
 refine TL ?_
 refine RN ?_
 refine GS ?_
 refine TF 1 ?_
 refine RS (ok_loadA (s := 1000005) (by decide) Try.underlying36 rfl (size36.of (rfl)) rfl rfl) ?_
 refine RN ?_
 refine ⟨_, eff_storeA (n := 24) (s := 1000002) (size36.of (rfl)) rfl rfl (rfl) hBb2 rfl (rfl) (LV 2 rfl (LB 1000001 rfl (LB 1000005 rfl (LT 1000014 rfl (LT 1000018 rfl (LO 1000200 rfl LN)))))), ?_⟩
 refine TL ?_
 refine RA rfl ?_
 refine RN ?_
 refine A.ret ?_
 exact End.newT (s := 1000002) (kg := 1000014) rfl Try.underlying36 rfl (size36.of rfl) rfl rfl rfl rfl hBb14 rfl rfl
theorem Crash_ok (cs : List Nat) (m l r : Nat) (hV : Valid cs m l r) : FnB Try.prog 20 [hdD (vlst (rowQ cs)) (alR m l r)] (fun B => newD B 23 (fun b => .tuple #[aggV (.slice (some ⟨b, 0, none⟩) (cs.length) (cs.length) :: alR m l r), .int .i64 0]) (rowQ (List.replicate cs.length m))) := by
 rcases Nat.eq_zero_or_pos m with rfl | h
 ·exact Crash_zero cs l r hV
 ·exact Crash_pos cs m l r hV h
end Go.Proofs.Ytmedljdbamnoiaa
