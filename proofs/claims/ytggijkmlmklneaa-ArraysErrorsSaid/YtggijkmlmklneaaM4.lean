/-
  OWN TEXTS of this seat, put together, part 4: C21c, ArrD, C21d, ArrL, C21e, Leave, Cell, CellR.
-/
import Derived.Test.YtggijkmlmklneaaM2
import Derived.Test.YtggijkmlmklneaaM3
namespace Go.Proofs.Ytggijkmlmklneaa
open Go Go.RowKit
set_option linter.unusedVariables false
set_option maxRecDepth 20000
set_option linter.unusedSimpArgs false
theorem acts_fn  : Fn Try.prog 38 [] (.v (aggV [.nilFunc, .func (.func 39) #[] #[], .func (.func 40) #[] #[], .func (.func 41) #[] #[]])) := by
 refine FV Try.func38 rfl Try.ntmps38 rfl fun w₀ => ?_
 refine GS ?_
 refine TN 0 ?_
 refine RN ?_
 refine ZN 1000000 zero82 fun b0 ⟨hBb0, hb0⟩ => ?_
 refine TL ?_
 refine RN ?_
 refine GS ?_
 refine TF 1 ?_
 refine RS (ok_litS [(1, .func (.func 39) #[] #[]), (2, .func (.func 40) #[] #[]), (3, .func (.func 41) #[] #[])] [.nilFunc, .func (.func 39) #[] #[], .func (.func 40) #[] #[], .func (.func 41) #[] #[]] ⟨rfl, rfl, rfl, rfl, rfl, rfl, trivial⟩ buildF) ?_
 refine RN ?_
 refine ZA 1000000 (size82.of rfl) hBb0 rfl rfl rfl (LV 0 rfl LN) ?_
 refine TL ?_
 refine RN ?_
 refine A.ret ?_
 exact End.cell1 (s := 1000000) rfl Try.underlying82 rfl (size82.of (rfl)) rfl rfl (Le.refl _)
set_option maxHeartbeats 2000000 in
theorem act1 {B c1 c2 q : Nat} {A₁ : Option Addr} (hB₁ : B ≤ c1) (hB₂ : B ≤ c2) (hne : c1 ≠ c2) (a : Ar) (o : OpA) (i : Nat) (hi : i < a.now.length)  : FnL Try.prog 39 B [(41, c1), (41, c2)] [aggV [.slice (some ⟨c1, 0, none⟩) a.now.length a.now.length, .slice (some ⟨c2, 0, none⟩) a.dur.length a.dur.length], aggV [byteV o.k, .int .i64 (i : Int), .slice A₁ o.d.length q]] [(1000301, blk c1 41 (bksV a.now)), (1000302, blk c2 41 (bksV a.dur)), (1000303, old B (memR A₁ (o.d.map byteV)))] (fun _ _ => True) (fun _ => aggV (bkV (bkAt a.now i))) (fun _ => [(1000301, blk c1 41 (bksV a.now)), (1000302, blk c2 41 (bksV a.dur))]) := by
 refine FnL.of (n := 11) (kw := 1000099) (ks := 1000098) Try.func39 rfl (by kernel_rfl) Try.ntmps39 (by simp) (by decide) (vbL_cons (vL rfl) (vbL_cons (vL rfl) (vbL_cons (vL rfl) vbL_nil))) (vL rfl) (vL rfl) [(0, .v (aggV [.slice (some ⟨c1, 0, none⟩) a.now.length a.now.length, .slice (some ⟨c2, 0, none⟩) a.dur.length a.dur.length])), (1, .v (aggV [byteV o.k, .int .i64 (i : Int), .slice A₁ o.d.length q]))]
  (fun p hp => by simp only [List.mem_cons, List.not_mem_nil, or_false] at hp; rcases hp with rfl | rfl <;> exact ⟨_, rfl, rfl⟩) fun w₀ w₁ hw hw₁ => ?_
 have hBc1 : w₀.heap.size ≤ c1 := by omega
 have hBc2 : w₀.heap.size ≤ c2 := by omega
 have hBB : B ≤ w₀.heap.size := by omega
 refine GS ?_
 refine TN 0 ?_
 refine RN ?_
 refine ⟨_, _, eff_boxL (n := 11) (d := 2) (k := 1000002) rfl (by decide), fun b2 hb2 => ?_⟩
 have hBb2 := hb2.1
 have hw_b2 := hb2.2.2 1000099 _ _ rfl
 refine TN 1 ?_
 refine RN ?_
 refine ⟨_, _, eff_boxL (n := 11) (d := 3) (k := 1000003) rfl (by decide), fun b3 hb3 => ?_⟩
 have hBb3 := hb3.1
 have hw_b3 := hb3.2.2 1000099 _ _ rfl
 refine TN 2 ?_
 refine RN ?_
 refine ⟨_, _, eff_allocL (n := 11) (d := 4) (k := 1000004) zero41 (by decide), fun b4 hb4 => ?_⟩
 have hBb4 := hb4.1
 have hw_b4 := hb4.2.2 1000099 _ _ rfl
 have hlt_c1_b4 : c1 < b4 := hb4.2.1 1000301 _ _ _ rfl
 have hlt_c2_b4 : c2 < b4 := hb4.2.1 1000302 _ _ _ rfl
 refine TL ?_
 refine RN ?_
 refine GS ?_
 refine TF 6 ?_
 refine RS (ok_field field30_0 (by decide) rfl) ?_
 refine RLV 1000002 Try.underlying28 rfl rfl rfl ?_
 refine RS (ok_field field47_1 (by decide) rfl) ?_
 refine RLV 1000003 Try.underlying3 rfl rfl rfl ?_
 refine RS (ok_indexVK i Try.underlying28 infoB rfl rfl hi) ?_
 refine RS (ok_loadP (s := 1000301) (by decide) Try.underlying41 rfl size41 rfl rfl (by rw [bks_len]; omega) (bks_at hi)) ?_
 refine RN ?_
 refine ⟨_, eff_storeA (n := 11) (s := 1000004) (size41.of (bk_len _)) rfl rfl (bk_one _) hBb4 rfl (by simp only [bk_len]) (LV 4 rfl (LT 1000002 rfl (LT 1000003 rfl (LeftS.cons (t := 1000099) rfl (Surv.wroteLN hw_b4) (LB 1000301 rfl (LB 1000302 rfl (LO 1000303 rfl LN))))))), ?_⟩
 refine TL ?_
 refine RN ?_
 refine A.ret ?_
 exact End.wroteLC (s := 1000004) (.inl rfl) rfl Try.underlying41 rfl (size41.of (bk_len _)) rfl rfl (kw := 1000099) rfl 0 (rfl) trivial (by decide) (lookL_cons (k := 1000301) (vL rfl) rfl (lookL_cons (k := 1000302) (vL rfl) rfl lookL_nil))
set_option maxHeartbeats 2000000 in
theorem act2 {B c1 c2 q : Nat} {A₁ : Option Addr} (hB₁ : B ≤ c1) (hB₂ : B ≤ c2) (hne : c1 ≠ c2) (a : Ar) (o : OpA) (i : Nat) (hi : i < a.now.length) (hd : o.d.length = 32)  : FnL Try.prog 40 B [(41, c1), (41, c2)] [aggV [.slice (some ⟨c1, 0, none⟩) a.now.length a.now.length, .slice (some ⟨c2, 0, none⟩) a.dur.length a.dur.length], aggV [byteV o.k, .int .i64 (i : Int), .slice A₁ o.d.length q]] [(1000301, blk c1 41 (bksV a.now)), (1000302, blk c2 41 (bksV a.dur)), (1000303, old B (memR A₁ (o.d.map byteV)))] (fun _ _ => True) (fun _ => aggV (bkV zB)) (fun _ => [(1000301, blk c1 41 (bksV (⟨a.now.set i (mkB o.d), a.dur⟩ : Ar).now)), (1000302, blk c2 41 (bksV (⟨a.now.set i (mkB o.d), a.dur⟩ : Ar).dur))]) := by
 refine FnL.of (n := 15) (kw := 1000099) (ks := 1000098) Try.func40 rfl (by kernel_rfl) Try.ntmps40 (by simp) (by decide) (vbL_cons (vL rfl) (vbL_cons (vL rfl) (vbL_cons (vL rfl) vbL_nil))) (vL rfl) (vL rfl) [(0, .v (aggV [.slice (some ⟨c1, 0, none⟩) a.now.length a.now.length, .slice (some ⟨c2, 0, none⟩) a.dur.length a.dur.length])), (1, .v (aggV [byteV o.k, .int .i64 (i : Int), .slice A₁ o.d.length q]))]
  (fun p hp => by simp only [List.mem_cons, List.not_mem_nil, or_false] at hp; rcases hp with rfl | rfl <;> exact ⟨_, rfl, rfl⟩) fun w₀ w₁ hw hw₁ => ?_
 have hBc1 : w₀.heap.size ≤ c1 := by omega
 have hBc2 : w₀.heap.size ≤ c2 := by omega
 have hBB : B ≤ w₀.heap.size := by omega
 refine GS ?_
 refine TN 0 ?_
 refine RN ?_
 refine ⟨_, _, eff_boxL (n := 15) (d := 2) (k := 1000002) rfl (by decide), fun b2 hb2 => ?_⟩
 have hBb2 := hb2.1
 have hw_b2 := hb2.2.2 1000099 _ _ rfl
 refine TN 1 ?_
 refine RN ?_
 refine ⟨_, _, eff_boxL (n := 15) (d := 3) (k := 1000003) rfl (by decide), fun b3 hb3 => ?_⟩
 have hBb3 := hb3.1
 have hw_b3 := hb3.2.2 1000099 _ _ rfl
 refine TN 2 ?_
 refine RN ?_
 refine ⟨_, _, eff_allocL (n := 15) (d := 4) (k := 1000004) zero41 (by decide), fun b4 hb4 => ?_⟩
 have hBb4 := hb4.1
 have hw_b4 := hb4.2.2 1000099 _ _ rfl
 have hlt_c1_b4 : c1 < b4 := hb4.2.1 1000301 _ _ _ rfl
 have hlt_c2_b4 : c2 < b4 := hb4.2.1 1000302 _ _ _ rfl
 refine TL ?_
 refine RN ?_
 refine GD ?_
 refine TD 9 ?_
 refine RS (ok_field field30_0 (by decide) rfl) ?_
 refine RLV 1000002 Try.underlying28 rfl rfl rfl ?_
 refine RS (ok_field field47_1 (by decide) rfl) ?_
 refine RLV 1000003 Try.underlying3 rfl rfl rfl ?_
 refine RS (ok_field field47_2 (by decide) rfl) ?_
 refine RLV 1000003 Try.underlying45 rfl rfl rfl ?_
 refine RS ((ok_arrayR (k := 1000303) 32 hd Try.underlying41 rfl (by decide) rfl (by omega))) ?_
 refine RS (ok_loadElemT 32 Try.underlying41 rfl size41 (by rw [List.length_map, hd]; exact Nat.le_refl _) rfl) ?_; refine RZ (aggV (o.d.map byteV)) (congrArg aggV (List.take_of_length_le (by rw [List.length_map, hd]; exact Nat.le_refl _))) ?_
 refine RS (ok_indexVK i Try.underlying28 infoB rfl rfl hi) ?_
 refine RN ?_
 refine ⟨_, eff_storeP (n := 15) (s := 1000301) (size41.of (by rw [List.length_map, hd])) rfl rfl (all_bytes _) hBc1 rfl (by rw [List.length_map, hd, bks_len]; omega) (LV 4 rfl (LT 1000002 rfl (LT 1000003 rfl (LB 1000004 rfl (LeftS.cons (t := 1000099) rfl (Surv.wroteL (by simp)) (LB 1000302 rfl (LO 1000303 rfl LN))))))), ?_⟩
 refine TL ?_
 refine RN ?_
 refine A.sub (KC 4 rfl (KC 1000002 rfl (KC 1000003 rfl (KC 1000004 rfl (KC 1000099 rfl (KE 1000301 rfl (show _ = blk c1 41 (bksV (a.now.set i (mkB o.d))) from congrArg _ (by rw [← mkB_v hd]; exact bks_set hi (mkB o.d))) (KC 1000302 rfl (KC 1000303 rfl KN)))))))) ?_
 refine GS ?_
 refine TF 1 ?_
 refine RS (ok_litP [] Try.underlying41 info5 zero41 (by decide) trivial rfl) ?_; refine RZ (aggV (bkV zB)) (by rfl) ?_
 refine RN ?_
 refine ⟨_, eff_storeA (n := 15) (s := 1000004) (size41.of (bk_len _)) rfl rfl (bk_one _) hBb4 rfl (by simp only [bk_len]) (LV 4 rfl (LT 1000002 rfl (LT 1000003 rfl (LeftS.cons (t := 1000099) rfl (Surv.wroteLN hw_b4) (LB 1000301 rfl (LB 1000302 rfl (LO 1000303 rfl LN))))))), ?_⟩
 refine TL ?_
 refine RN ?_
 refine A.ret ?_
 exact End.wroteLC (s := 1000004) (.inl rfl) rfl Try.underlying41 rfl (size41.of (bk_len _)) rfl rfl (kw := 1000099) rfl 0 (rfl) trivial (by decide) (lookL_cons (k := 1000301) (vL rfl) rfl (lookL_cons (k := 1000302) (vL rfl) rfl lookL_nil))
set_option maxHeartbeats 2000000 in
theorem act3 {B c1 c2 q : Nat} {A₁ : Option Addr} (hB₁ : B ≤ c1) (hB₂ : B ≤ c2) (hne : c1 ≠ c2) (a : Ar) (o : OpA) (he : a.now.length = a.dur.length)  : FnL Try.prog 41 B [(41, c1), (41, c2)] [aggV [.slice (some ⟨c1, 0, none⟩) a.now.length a.now.length, .slice (some ⟨c2, 0, none⟩) a.dur.length a.dur.length], aggV [byteV o.k, .int .i64 o.i, .slice A₁ o.d.length q]] [(1000301, blk c1 41 (bksV a.now)), (1000302, blk c2 41 (bksV a.dur)), (1000303, old B (memR A₁ (o.d.map byteV)))] (fun _ _ => True) (fun _ => aggV (bkV zB)) (fun _ => [(1000301, blk c1 41 (bksV (⟨a.now, a.now⟩ : Ar).now)), (1000302, blk c2 41 (bksV (⟨a.now, a.now⟩ : Ar).dur))]) := by
 refine FnL.of (n := 11) (kw := 1000099) (ks := 1000098) Try.func41 rfl (by kernel_rfl) Try.ntmps41 (by simp) (by decide) (vbL_cons (vL rfl) (vbL_cons (vL rfl) (vbL_cons (vL rfl) vbL_nil))) (vL rfl) (vL rfl) [(0, .v (aggV [.slice (some ⟨c1, 0, none⟩) a.now.length a.now.length, .slice (some ⟨c2, 0, none⟩) a.dur.length a.dur.length])), (1, .v (aggV [byteV o.k, .int .i64 o.i, .slice A₁ o.d.length q]))]
  (fun p hp => by simp only [List.mem_cons, List.not_mem_nil, or_false] at hp; rcases hp with rfl | rfl <;> exact ⟨_, rfl, rfl⟩) fun w₀ w₁ hw hw₁ => ?_
 have hBc1 : w₀.heap.size ≤ c1 := by omega
 have hBc2 : w₀.heap.size ≤ c2 := by omega
 have hBB : B ≤ w₀.heap.size := by omega
 refine GS ?_
 refine TN 0 ?_
 refine RN ?_
 refine ⟨_, _, eff_boxL (n := 11) (d := 2) (k := 1000002) rfl (by decide), fun b2 hb2 => ?_⟩
 have hBb2 := hb2.1
 have hw_b2 := hb2.2.2 1000099 _ _ rfl
 refine TN 1 ?_
 refine RN ?_
 refine ⟨_, _, eff_boxL (n := 11) (d := 3) (k := 1000003) rfl (by decide), fun b3 hb3 => ?_⟩
 have hBb3 := hb3.1
 have hw_b3 := hb3.2.2 1000099 _ _ rfl
 refine TN 2 ?_
 refine RN ?_
 refine ⟨_, _, eff_allocL (n := 11) (d := 4) (k := 1000004) zero41 (by decide), fun b4 hb4 => ?_⟩
 have hBb4 := hb4.1
 have hw_b4 := hb4.2.2 1000099 _ _ rfl
 have hlt_c1_b4 : c1 < b4 := hb4.2.1 1000301 _ _ _ rfl
 have hlt_c2_b4 : c2 < b4 := hb4.2.1 1000302 _ _ _ rfl
 refine TL ?_
 refine RN ?_
 refine A.memOf (k := 1000301) (k' := 1000401) rfl ?_
 refine GS ?_
 refine TF 4 ?_
 refine RS (ok_field field30_1 (by decide) rfl) ?_
 refine RLV 1000002 Try.underlying28 rfl rfl rfl ?_
 refine RS (ok_field field30_0 (by decide) rfl) ?_
 refine RLV 1000002 Try.underlying28 rfl rfl rfl ?_
 refine RN ?_
 refine ⟨_, eff_copyK (n := 11) (s := 1000302) (k := 1000401) (B' := c1 + 1) Try.underlying28 infoB rfl rfl rfl (bks_one _) (bks_len _) (Nat.le_of_eq he) (by decide) hBc2 rfl (by rw [bks_len, he]; omega) (by decide) (LV 4 rfl (LT 1000002 rfl (LT 1000003 rfl (LB 1000004 rfl (LeftS.cons (t := 1000099) rfl (Surv.wroteL (by simp)) (LB 1000301 rfl (LO 1000303 rfl LN))))))), ?_⟩
 refine TL ?_
 refine RN ?_
 refine A.sub (KC 4 rfl (KC 1000002 rfl (KC 1000003 rfl (KC 1000004 rfl (KC 1000099 rfl (KC 1000301 rfl (KE 1000302 rfl (show _ = blk c2 41 (bksV a.now) from congrArg _ (by rw [List.take_zero, List.nil_append, List.drop_eq_nil_of_le (by rw [bks_len, he]; omega), List.append_nil])) (KC 1000303 rfl KN)))))))) ?_
 refine GS ?_
 refine TF 1 ?_
 refine RS (ok_litP [] Try.underlying41 info5 zero41 (by decide) trivial rfl) ?_; refine RZ (aggV (bkV zB)) (by rfl) ?_
 refine RN ?_
 refine ⟨_, eff_storeA (n := 11) (s := 1000004) (size41.of (bk_len _)) rfl rfl (bk_one _) hBb4 rfl (by simp only [bk_len]) (LV 4 rfl (LT 1000002 rfl (LT 1000003 rfl (LeftS.cons (t := 1000099) rfl (Surv.wroteLN hw_b4) (LB 1000301 rfl (LB 1000302 rfl (LO 1000303 rfl LN))))))), ?_⟩
 refine TL ?_
 refine RN ?_
 refine A.ret ?_
 exact End.wroteLC (s := 1000004) (.inl rfl) rfl Try.underlying41 rfl (size41.of (bk_len _)) rfl rfl (kw := 1000099) rfl 0 (rfl) trivial (by decide) (lookL_cons (k := 1000301) (vL rfl) rfl (lookL_cons (k := 1000302) (vL rfl) rfl lookL_nil))
set_option maxHeartbeats 2000000 in
theorem carry_bad {B c1 c2 q : Nat} {A₁ : Option Addr} (hB₁ : B ≤ c1) (hB₂ : B ≤ c2) (hne : c1 ≠ c2) (a : Ar) (o : OpA) (hq : o.d.length ≤ q) (hb : badA a.now.length o = true)  : FnL Try.prog 32 B [(41, c1), (41, c2)] [aggV [.slice (some ⟨c1, 0, none⟩) a.now.length a.now.length, .slice (some ⟨c2, 0, none⟩) a.dur.length a.dur.length], aggV [byteV o.k, .int .i64 o.i, .slice A₁ o.d.length q]] [(1000301, blk c1 41 (bksV a.now)), (1000302, blk c2 41 (bksV a.dur)), (1000303, old B (memR A₁ (o.d.map byteV)))] (fun _ _ => True) (fun _ => aggV (rsV (zB, 1))) (fun _ => [(1000301, blk c1 41 (bksV a.now)), (1000302, blk c2 41 (bksV a.dur))]) := by
 refine FnL.of (n := 19) (kw := 1000099) (ks := 1000098) Try.func32 rfl (by kernel_rfl) Try.ntmps32 (by simp) (by decide) (vbL_cons (vL rfl) (vbL_cons (vL rfl) (vbL_cons (vL rfl) vbL_nil))) (vL rfl) (vL rfl) [(0, .v (aggV [.slice (some ⟨c1, 0, none⟩) a.now.length a.now.length, .slice (some ⟨c2, 0, none⟩) a.dur.length a.dur.length])), (1, .v (aggV [byteV o.k, .int .i64 o.i, .slice A₁ o.d.length q]))]
  (fun p hp => by simp only [List.mem_cons, List.not_mem_nil, or_false] at hp; rcases hp with rfl | rfl <;> exact ⟨_, rfl, rfl⟩) fun w₀ w₁ hw hw₁ => ?_
 have hBc1 : w₀.heap.size ≤ c1 := by omega
 have hBc2 : w₀.heap.size ≤ c2 := by omega
 subst hw
 have hB₁' := hB₁
 have hB₂' := hB₂
 have hBB : w₀.heap.size ≤ w₀.heap.size := Nat.le_refl _
 refine GS ?_
 refine TN 0 ?_
 refine RN ?_
 refine ⟨_, _, eff_boxL (n := 19) (d := 2) (k := 1000002) rfl (by decide), fun b2 hb2 => ?_⟩
 have hBb2 := hb2.1
 have hw_b2 := hb2.2.2 1000099 _ _ rfl
 refine TN 1 ?_
 refine RN ?_
 refine ⟨_, _, eff_boxL (n := 19) (d := 3) (k := 1000003) rfl (by decide), fun b3 hb3 => ?_⟩
 have hBb3 := hb3.1
 have hw_b3 := hb3.2.2 1000099 _ _ rfl
 refine TN 2 ?_
 refine RN ?_
 refine ⟨_, _, eff_allocL (n := 19) (d := 4) (k := 1000004) zero49 (by decide), fun b4 hb4 => ?_⟩
 have hBb4 := hb4.1
 have hw_b4 := hb4.2.2 1000099 _ _ rfl
 refine TL ?_
 refine RN ?_
 refine QS ?_
 refine GT ?_
 refine RS (ok_field field30_0 (by decide) rfl) ?_
 refine RLV 1000002 Try.underlying28 rfl rfl rfl ?_
 refine RS (ok_lenV Try.underlying28 rfl) ?_
 refine RS (OpOk.opO (k₁ := 1000303) (p := o) (ok_loadA (s := 1000003) (by decide) Try.underlying47 rfl (size47.of (rfl)) rfl rfl) hq (by decide) rfl) ?_
 refine RS (ok_call (Bad_fn (a.now.length : Int) o) (Args.cons rfl (by first | exact Le.refl _ | exact Le.old _ _ | exact arr_any | exact arr_ex | exact arrD_any | exact op_any | exact (Le.old _ _).trans arrD_any | exact (Le.old _ _).trans arr_any) (Args.cons rfl (by first | exact Le.refl _ | exact Le.old _ _ | exact arr_any | exact arr_ex | exact arrD_any | exact op_any | exact (Le.old _ _).trans arrD_any | exact (Le.old _ _).trans arr_any) Args.nil))) ?_; refine RZ (.bool true) (by rw [hb]) ?_
 refine RN ?_
 refine A.yes rfl ?_
 refine GS ?_
 refine TF 1 ?_
 refine RS (ok_litS [(1, .int .i64 1)] (rsV (zB, 1)) ⟨rfl, rfl, trivial⟩ (buildR1 1)) ?_
 refine RN ?_
 refine ⟨_, eff_storeA (n := 19) (s := 1000004) (size49.of (rs_len _)) rfl rfl (rs_one _) hBb4 rfl (by simp only [rs_len]) (LV 4 rfl (LT 1000002 rfl (LT 1000003 rfl (LeftS.cons (t := 1000099) rfl (Surv.wroteLN hw_b4) (LT 1000301 rfl (LT 1000302 rfl (LO 1000303 rfl LN))))))), ?_⟩
 refine TL ?_
 refine RN ?_
 refine A.ret ?_
 refine End.ret_then ?_
 exact End.wroteLC (s := 1000004) (.inl rfl) rfl Try.underlying49 rfl (size49.of (rs_len _)) rfl rfl (kw := 1000099) rfl 0 (rfl) trivial (by decide) (lookL_cons (k := 1000301) (vL rfl) rfl (lookL_cons (k := 1000302) (vL rfl) rfl lookL_nil))
set_option maxHeartbeats 2000000 in
theorem carry_r {B c1 c2 q : Nat} {A₁ : Option Addr} (hB₁ : B ≤ c1) (hB₂ : B ≤ c2) (hne : c1 ≠ c2) (a : Ar) (o : OpA) (hq : o.d.length ≤ q) (hb : badA a.now.length o = false) (hk : o.k.toNat = 1) (i : Nat) (hi' : o.i = (i : Int)) (hi : i < a.now.length)  : FnL Try.prog 32 B [(41, c1), (41, c2)] [aggV [.slice (some ⟨c1, 0, none⟩) a.now.length a.now.length, .slice (some ⟨c2, 0, none⟩) a.dur.length a.dur.length], aggV [byteV o.k, .int .i64 o.i, .slice A₁ o.d.length q]] [(1000301, blk c1 41 (bksV a.now)), (1000302, blk c2 41 (bksV a.dur)), (1000303, old B (memR A₁ (o.d.map byteV)))] (fun _ _ => True) (fun _ => aggV (rsV ((bkAt a.now i), 0))) (fun _ => [(1000301, blk c1 41 (bksV a.now)), (1000302, blk c2 41 (bksV a.dur))]) := by
 refine FnL.of (n := 19) (kw := 1000099) (ks := 1000098) Try.func32 rfl (by kernel_rfl) Try.ntmps32 (by simp) (by decide) (vbL_cons (vL rfl) (vbL_cons (vL rfl) (vbL_cons (vL rfl) vbL_nil))) (vL rfl) (vL rfl) [(0, .v (aggV [.slice (some ⟨c1, 0, none⟩) a.now.length a.now.length, .slice (some ⟨c2, 0, none⟩) a.dur.length a.dur.length])), (1, .v (aggV [byteV o.k, .int .i64 o.i, .slice A₁ o.d.length q]))]
  (fun p hp => by simp only [List.mem_cons, List.not_mem_nil, or_false] at hp; rcases hp with rfl | rfl <;> exact ⟨_, rfl, rfl⟩) fun w₀ w₁ hw hw₁ => ?_
 have hBc1 : w₀.heap.size ≤ c1 := by omega
 have hBc2 : w₀.heap.size ≤ c2 := by omega
 subst hw
 have hB₁' := hB₁
 have hB₂' := hB₂
 have hBB : w₀.heap.size ≤ w₀.heap.size := Nat.le_refl _
 refine GS ?_
 refine TN 0 ?_
 refine RN ?_
 refine ⟨_, _, eff_boxL (n := 19) (d := 2) (k := 1000002) rfl (by decide), fun b2 hb2 => ?_⟩
 have hBb2 := hb2.1
 have hw_b2 := hb2.2.2 1000099 _ _ rfl
 refine TN 1 ?_
 refine RN ?_
 refine ⟨_, _, eff_boxL (n := 19) (d := 3) (k := 1000003) rfl (by decide), fun b3 hb3 => ?_⟩
 have hBb3 := hb3.1
 have hw_b3 := hb3.2.2 1000099 _ _ rfl
 refine TN 2 ?_
 refine RN ?_
 refine ⟨_, _, eff_allocL (n := 19) (d := 4) (k := 1000004) zero49 (by decide), fun b4 hb4 => ?_⟩
 have hBb4 := hb4.1
 have hw_b4 := hb4.2.2 1000099 _ _ rfl
 refine TL ?_
 refine RN ?_
 refine QS ?_
 refine GT ?_
 refine RS (ok_field field30_0 (by decide) rfl) ?_
 refine RLV 1000002 Try.underlying28 rfl rfl rfl ?_
 refine RS (ok_lenV Try.underlying28 rfl) ?_
 refine RS (OpOk.opO (k₁ := 1000303) (p := o) (ok_loadA (s := 1000003) (by decide) Try.underlying47 rfl (size47.of (rfl)) rfl rfl) hq (by decide) rfl) ?_
 refine RS (ok_call (Bad_fn (a.now.length : Int) o) (Args.cons rfl (by first | exact Le.refl _ | exact Le.old _ _ | exact arr_any | exact arr_ex | exact arrD_any | exact op_any | exact (Le.old _ _).trans arrD_any | exact (Le.old _ _).trans arr_any) (Args.cons rfl (by first | exact Le.refl _ | exact Le.old _ _ | exact arr_any | exact arr_ex | exact arrD_any | exact op_any | exact (Le.old _ _).trans arrD_any | exact (Le.old _ _).trans arr_any) Args.nil))) ?_; refine RZ (.bool false) (by rw [hb]) ?_
 refine RN ?_
 refine A.no rfl ?_
 refine QK ?_
 refine GD ?_
 refine TD 6 ?_
 refine RS (ok_call (acts_fn) Args.nil) ?_
 refine RS (ok_field field47_0 (by decide) rfl) ?_
 refine RLV 1000003 Try.underlying44 rfl rfl rfl ?_
 refine RS (ok_indexV1 1 Try.underlying82 Try.underlying81 rfl info81 rfl rfl (by rw [hk]) (by decide) rfl) ?_
 refine RL 1000002 Try.underlying30 rfl rfl (size30.of rfl) ?_
 refine RL 1000003 Try.underlying47 rfl rfl (size47.of rfl) ?_
 refine RN ?_
 refine ⟨_, eff_callL1 (n := 19) (vs := [aggV [.slice (some ⟨c1, 0, none⟩) a.now.length a.now.length, .slice (some ⟨c2, 0, none⟩) a.dur.length a.dur.length], aggV [byteV o.k, .int .i64 o.i, .slice A₁ o.d.length q]]) (us := []) (hi' ▸ act1 hB₁' hB₂' hne a o i hi) rfl (A2 rfl rfl) (subL_M (Sv [1000301, 1000302, 1000303] rfl) (vbL_cons (vL rfl) (vbL_cons (vL rfl) (vbL_cons (vL rfl) vbL_nil)))) (vbL_cons (vL rfl) (vbL_cons (vL rfl) vbL_nil)) (gsL_cons (k := 1000301) hBc1 rfl (gsL_cons (k := 1000302) hBc2 rfl gsL_nil)) (by decide) (by decide) (LeftL.cons (LV 4 rfl (LT 1000002 rfl (LT 1000003 rfl (LT 1000004 rfl (LeftS.cons (t := 1000099) rfl (Surv.wroteL (by simp)) (LO 1000303 rfl LN)))))) (LeftL.one (LV 4 rfl (LT 1000002 rfl (LT 1000003 rfl (LT 1000004 rfl (LeftS.cons (t := 1000099) rfl (Surv.wroteL (by simp)) (LO 1000303 rfl LN)))))))), ?_⟩
 refine TD 8 ?_
 refine RS (ok_litS [(0, aggV (bkV (bkAt a.now i)))] (rsV ((bkAt a.now i), 0)) ⟨rfl, rfl, trivial⟩ (buildR0 _)) ?_
 refine RN ?_
 refine ⟨_, eff_storeA (n := 19) (s := 1000004) (size49.of (rs_len _)) rfl rfl (rs_one _) hBb4 rfl (by simp only [rs_len]) (LV 4 rfl (LT 1000002 rfl (LT 1000003 rfl (LeftS.cons (t := 1000099) rfl (Surv.wroteLN hw_b4) (LT 1000301 rfl (LT 1000302 rfl (LO 1000303 rfl LN))))))), ?_⟩
 refine TL ?_
 refine RN ?_
 refine A.ret ?_
 exact End.wroteLC (s := 1000004) (.inl rfl) rfl Try.underlying49 rfl (size49.of (rs_len _)) rfl rfl (kw := 1000099) rfl 0 (rfl) trivial (by decide) (lookL_cons (k := 1000301) (vL rfl) rfl (lookL_cons (k := 1000302) (vL rfl) rfl lookL_nil))
set_option maxHeartbeats 2000000 in
theorem carry_w {B c1 c2 q : Nat} {A₁ : Option Addr} (hB₁ : B ≤ c1) (hB₂ : B ≤ c2) (hne : c1 ≠ c2) (a : Ar) (o : OpA) (hq : o.d.length ≤ q) (hb : badA a.now.length o = false) (hk : o.k.toNat = 2) (i : Nat) (hi' : o.i = (i : Int)) (hi : i < a.now.length) (hd : o.d.length = 32)  : FnL Try.prog 32 B [(41, c1), (41, c2)] [aggV [.slice (some ⟨c1, 0, none⟩) a.now.length a.now.length, .slice (some ⟨c2, 0, none⟩) a.dur.length a.dur.length], aggV [byteV o.k, .int .i64 o.i, .slice A₁ o.d.length q]] [(1000301, blk c1 41 (bksV a.now)), (1000302, blk c2 41 (bksV a.dur)), (1000303, old B (memR A₁ (o.d.map byteV)))] (fun _ _ => True) (fun _ => aggV (rsV (zB, 0))) (fun _ => [(1000301, blk c1 41 (bksV (⟨a.now.set i (mkB o.d), a.dur⟩ : Ar).now)), (1000302, blk c2 41 (bksV (⟨a.now.set i (mkB o.d), a.dur⟩ : Ar).dur))]) := by
 refine FnL.of (n := 19) (kw := 1000099) (ks := 1000098) Try.func32 rfl (by kernel_rfl) Try.ntmps32 (by simp) (by decide) (vbL_cons (vL rfl) (vbL_cons (vL rfl) (vbL_cons (vL rfl) vbL_nil))) (vL rfl) (vL rfl) [(0, .v (aggV [.slice (some ⟨c1, 0, none⟩) a.now.length a.now.length, .slice (some ⟨c2, 0, none⟩) a.dur.length a.dur.length])), (1, .v (aggV [byteV o.k, .int .i64 o.i, .slice A₁ o.d.length q]))]
  (fun p hp => by simp only [List.mem_cons, List.not_mem_nil, or_false] at hp; rcases hp with rfl | rfl <;> exact ⟨_, rfl, rfl⟩) fun w₀ w₁ hw hw₁ => ?_
 have hBc1 : w₀.heap.size ≤ c1 := by omega
 have hBc2 : w₀.heap.size ≤ c2 := by omega
 subst hw
 have hB₁' := hB₁
 have hB₂' := hB₂
 have hBB : w₀.heap.size ≤ w₀.heap.size := Nat.le_refl _
 refine GS ?_
 refine TN 0 ?_
 refine RN ?_
 refine ⟨_, _, eff_boxL (n := 19) (d := 2) (k := 1000002) rfl (by decide), fun b2 hb2 => ?_⟩
 have hBb2 := hb2.1
 have hw_b2 := hb2.2.2 1000099 _ _ rfl
 refine TN 1 ?_
 refine RN ?_
 refine ⟨_, _, eff_boxL (n := 19) (d := 3) (k := 1000003) rfl (by decide), fun b3 hb3 => ?_⟩
 have hBb3 := hb3.1
 have hw_b3 := hb3.2.2 1000099 _ _ rfl
 refine TN 2 ?_
 refine RN ?_
 refine ⟨_, _, eff_allocL (n := 19) (d := 4) (k := 1000004) zero49 (by decide), fun b4 hb4 => ?_⟩
 have hBb4 := hb4.1
 have hw_b4 := hb4.2.2 1000099 _ _ rfl
 refine TL ?_
 refine RN ?_
 refine QS ?_
 refine GT ?_
 refine RS (ok_field field30_0 (by decide) rfl) ?_
 refine RLV 1000002 Try.underlying28 rfl rfl rfl ?_
 refine RS (ok_lenV Try.underlying28 rfl) ?_
 refine RS (OpOk.opO (k₁ := 1000303) (p := o) (ok_loadA (s := 1000003) (by decide) Try.underlying47 rfl (size47.of (rfl)) rfl rfl) hq (by decide) rfl) ?_
 refine RS (ok_call (Bad_fn (a.now.length : Int) o) (Args.cons rfl (by first | exact Le.refl _ | exact Le.old _ _ | exact arr_any | exact arr_ex | exact arrD_any | exact op_any | exact (Le.old _ _).trans arrD_any | exact (Le.old _ _).trans arr_any) (Args.cons rfl (by first | exact Le.refl _ | exact Le.old _ _ | exact arr_any | exact arr_ex | exact arrD_any | exact op_any | exact (Le.old _ _).trans arrD_any | exact (Le.old _ _).trans arr_any) Args.nil))) ?_; refine RZ (.bool false) (by rw [hb]) ?_
 refine RN ?_
 refine A.no rfl ?_
 refine QK ?_
 refine GD ?_
 refine TD 6 ?_
 refine RS (ok_call (acts_fn) Args.nil) ?_
 refine RS (ok_field field47_0 (by decide) rfl) ?_
 refine RLV 1000003 Try.underlying44 rfl rfl rfl ?_
 refine RS (ok_indexV1 2 Try.underlying82 Try.underlying81 rfl info81 rfl rfl (by rw [hk]) (by decide) rfl) ?_
 refine RL 1000002 Try.underlying30 rfl rfl (size30.of rfl) ?_
 refine RL 1000003 Try.underlying47 rfl rfl (size47.of rfl) ?_
 refine RN ?_
 refine ⟨_, eff_callL1 (n := 19) (vs := [aggV [.slice (some ⟨c1, 0, none⟩) a.now.length a.now.length, .slice (some ⟨c2, 0, none⟩) a.dur.length a.dur.length], aggV [byteV o.k, .int .i64 o.i, .slice A₁ o.d.length q]]) (us := []) (hi' ▸ act2 hB₁' hB₂' hne a o i hi hd) rfl (A2 rfl rfl) (subL_M (Sv [1000301, 1000302, 1000303] rfl) (vbL_cons (vL rfl) (vbL_cons (vL rfl) (vbL_cons (vL rfl) vbL_nil)))) (vbL_cons (vL rfl) (vbL_cons (vL rfl) vbL_nil)) (gsL_cons (k := 1000301) hBc1 rfl (gsL_cons (k := 1000302) hBc2 rfl gsL_nil)) (by decide) (by decide) (LeftL.cons (LV 4 rfl (LT 1000002 rfl (LT 1000003 rfl (LT 1000004 rfl (LeftS.cons (t := 1000099) rfl (Surv.wroteL (by simp)) (LO 1000303 rfl LN)))))) (LeftL.one (LV 4 rfl (LT 1000002 rfl (LT 1000003 rfl (LT 1000004 rfl (LeftS.cons (t := 1000099) rfl (Surv.wroteL (by simp)) (LO 1000303 rfl LN)))))))), ?_⟩
 refine TD 8 ?_
 refine RS (ok_litS [(0, aggV (bkV zB))] (rsV (zB, 0)) ⟨rfl, rfl, trivial⟩ (buildR0 _)) ?_
 refine RN ?_
 refine ⟨_, eff_storeA (n := 19) (s := 1000004) (size49.of (rs_len _)) rfl rfl (rs_one _) hBb4 rfl (by simp only [rs_len]) (LV 4 rfl (LT 1000002 rfl (LT 1000003 rfl (LeftS.cons (t := 1000099) rfl (Surv.wroteLN hw_b4) (LT 1000301 rfl (LT 1000302 rfl (LO 1000303 rfl LN))))))), ?_⟩
 refine TL ?_
 refine RN ?_
 refine A.ret ?_
 exact End.wroteLC (s := 1000004) (.inl rfl) rfl Try.underlying49 rfl (size49.of (rs_len _)) rfl rfl (kw := 1000099) rfl 0 (rfl) trivial (by decide) (lookL_cons (k := 1000301) (vL rfl) rfl (lookL_cons (k := 1000302) (vL rfl) rfl lookL_nil))
set_option maxHeartbeats 2000000 in
theorem carry_f {B c1 c2 q : Nat} {A₁ : Option Addr} (hB₁ : B ≤ c1) (hB₂ : B ≤ c2) (hne : c1 ≠ c2) (a : Ar) (o : OpA) (hq : o.d.length ≤ q) (hb : badA a.now.length o = false) (hk : o.k.toNat = 3) (he : a.now.length = a.dur.length)  : FnL Try.prog 32 B [(41, c1), (41, c2)] [aggV [.slice (some ⟨c1, 0, none⟩) a.now.length a.now.length, .slice (some ⟨c2, 0, none⟩) a.dur.length a.dur.length], aggV [byteV o.k, .int .i64 o.i, .slice A₁ o.d.length q]] [(1000301, blk c1 41 (bksV a.now)), (1000302, blk c2 41 (bksV a.dur)), (1000303, old B (memR A₁ (o.d.map byteV)))] (fun _ _ => True) (fun _ => aggV (rsV (zB, 0))) (fun _ => [(1000301, blk c1 41 (bksV (⟨a.now, a.now⟩ : Ar).now)), (1000302, blk c2 41 (bksV (⟨a.now, a.now⟩ : Ar).dur))]) := by
 refine FnL.of (n := 19) (kw := 1000099) (ks := 1000098) Try.func32 rfl (by kernel_rfl) Try.ntmps32 (by simp) (by decide) (vbL_cons (vL rfl) (vbL_cons (vL rfl) (vbL_cons (vL rfl) vbL_nil))) (vL rfl) (vL rfl) [(0, .v (aggV [.slice (some ⟨c1, 0, none⟩) a.now.length a.now.length, .slice (some ⟨c2, 0, none⟩) a.dur.length a.dur.length])), (1, .v (aggV [byteV o.k, .int .i64 o.i, .slice A₁ o.d.length q]))]
  (fun p hp => by simp only [List.mem_cons, List.not_mem_nil, or_false] at hp; rcases hp with rfl | rfl <;> exact ⟨_, rfl, rfl⟩) fun w₀ w₁ hw hw₁ => ?_
 have hBc1 : w₀.heap.size ≤ c1 := by omega
 have hBc2 : w₀.heap.size ≤ c2 := by omega
 subst hw
 have hB₁' := hB₁
 have hB₂' := hB₂
 have hBB : w₀.heap.size ≤ w₀.heap.size := Nat.le_refl _
 refine GS ?_
 refine TN 0 ?_
 refine RN ?_
 refine ⟨_, _, eff_boxL (n := 19) (d := 2) (k := 1000002) rfl (by decide), fun b2 hb2 => ?_⟩
 have hBb2 := hb2.1
 have hw_b2 := hb2.2.2 1000099 _ _ rfl
 refine TN 1 ?_
 refine RN ?_
 refine ⟨_, _, eff_boxL (n := 19) (d := 3) (k := 1000003) rfl (by decide), fun b3 hb3 => ?_⟩
 have hBb3 := hb3.1
 have hw_b3 := hb3.2.2 1000099 _ _ rfl
 refine TN 2 ?_
 refine RN ?_
 refine ⟨_, _, eff_allocL (n := 19) (d := 4) (k := 1000004) zero49 (by decide), fun b4 hb4 => ?_⟩
 have hBb4 := hb4.1
 have hw_b4 := hb4.2.2 1000099 _ _ rfl
 refine TL ?_
 refine RN ?_
 refine QS ?_
 refine GT ?_
 refine RS (ok_field field30_0 (by decide) rfl) ?_
 refine RLV 1000002 Try.underlying28 rfl rfl rfl ?_
 refine RS (ok_lenV Try.underlying28 rfl) ?_
 refine RS (OpOk.opO (k₁ := 1000303) (p := o) (ok_loadA (s := 1000003) (by decide) Try.underlying47 rfl (size47.of (rfl)) rfl rfl) hq (by decide) rfl) ?_
 refine RS (ok_call (Bad_fn (a.now.length : Int) o) (Args.cons rfl (by first | exact Le.refl _ | exact Le.old _ _ | exact arr_any | exact arr_ex | exact arrD_any | exact op_any | exact (Le.old _ _).trans arrD_any | exact (Le.old _ _).trans arr_any) (Args.cons rfl (by first | exact Le.refl _ | exact Le.old _ _ | exact arr_any | exact arr_ex | exact arrD_any | exact op_any | exact (Le.old _ _).trans arrD_any | exact (Le.old _ _).trans arr_any) Args.nil))) ?_; refine RZ (.bool false) (by rw [hb]) ?_
 refine RN ?_
 refine A.no rfl ?_
 refine QK ?_
 refine GD ?_
 refine TD 6 ?_
 refine RS (ok_call (acts_fn) Args.nil) ?_
 refine RS (ok_field field47_0 (by decide) rfl) ?_
 refine RLV 1000003 Try.underlying44 rfl rfl rfl ?_
 refine RS (ok_indexV1 3 Try.underlying82 Try.underlying81 rfl info81 rfl rfl (by rw [hk]) (by decide) rfl) ?_
 refine RL 1000002 Try.underlying30 rfl rfl (size30.of rfl) ?_
 refine RL 1000003 Try.underlying47 rfl rfl (size47.of rfl) ?_
 refine RN ?_
 refine ⟨_, eff_callL1 (n := 19) (vs := [aggV [.slice (some ⟨c1, 0, none⟩) a.now.length a.now.length, .slice (some ⟨c2, 0, none⟩) a.dur.length a.dur.length], aggV [byteV o.k, .int .i64 o.i, .slice A₁ o.d.length q]]) (us := []) (act3 hB₁' hB₂' hne a o he) rfl (A2 rfl rfl) (subL_M (Sv [1000301, 1000302, 1000303] rfl) (vbL_cons (vL rfl) (vbL_cons (vL rfl) (vbL_cons (vL rfl) vbL_nil)))) (vbL_cons (vL rfl) (vbL_cons (vL rfl) vbL_nil)) (gsL_cons (k := 1000301) hBc1 rfl (gsL_cons (k := 1000302) hBc2 rfl gsL_nil)) (by decide) (by decide) (LeftL.cons (LV 4 rfl (LT 1000002 rfl (LT 1000003 rfl (LT 1000004 rfl (LeftS.cons (t := 1000099) rfl (Surv.wroteL (by simp)) (LO 1000303 rfl LN)))))) (LeftL.one (LV 4 rfl (LT 1000002 rfl (LT 1000003 rfl (LT 1000004 rfl (LeftS.cons (t := 1000099) rfl (Surv.wroteL (by simp)) (LO 1000303 rfl LN)))))))), ?_⟩
 refine TD 8 ?_
 refine RS (ok_litS [(0, aggV (bkV zB))] (rsV (zB, 0)) ⟨rfl, rfl, trivial⟩ (buildR0 _)) ?_
 refine RN ?_
 refine ⟨_, eff_storeA (n := 19) (s := 1000004) (size49.of (rs_len _)) rfl rfl (rs_one _) hBb4 rfl (by simp only [rs_len]) (LV 4 rfl (LT 1000002 rfl (LT 1000003 rfl (LeftS.cons (t := 1000099) rfl (Surv.wroteLN hw_b4) (LT 1000301 rfl (LT 1000302 rfl (LO 1000303 rfl LN))))))), ?_⟩
 refine TL ?_
 refine RN ?_
 refine A.ret ?_
 exact End.wroteLC (s := 1000004) (.inl rfl) rfl Try.underlying49 rfl (size49.of (rs_len _)) rfl rfl (kw := 1000099) rfl 0 (rfl) trivial (by decide) (lookL_cons (k := 1000301) (vL rfl) rfl (lookL_cons (k := 1000302) (vL rfl) rfl lookL_nil))
theorem carry_fn {B c1 c2 q : Nat} {A₁ : Option Addr} (hB₁ : B ≤ c1) (hB₂ : B ≤ c2) (hne : c1 ≠ c2) (a : Ar) (o : OpA) (hq : o.d.length ≤ q) (he : a.now.length = a.dur.length) : FnL Try.prog 32 B [(41, c1), (41, c2)] [aggV [.slice (some ⟨c1, 0, none⟩) a.now.length a.now.length, .slice (some ⟨c2, 0, none⟩) a.dur.length a.dur.length], aggV [byteV o.k, .int .i64 o.i, .slice A₁ o.d.length q]] [(1000301, blk c1 41 (bksV a.now)), (1000302, blk c2 41 (bksV a.dur)), (1000303, old B (memR A₁ (o.d.map byteV)))] (fun _ _ => True) (fun _ => aggV (rsV (stepA a o).2)) (fun _ => [(1000301, blk c1 41 (bksV (stepA a o).1.now)), (1000302, blk c2 41 (bksV (stepA a o).1.dur))]) := by
 cases hb : badA a.now.length o with
 | true => rw [step_bad hb]; exact carry_bad hB₁ hB₂ hne a o hq hb
 | false =>
  rcases bad_not hb with ⟨hk, h0, h1⟩ | ⟨hk, h0, h1, hd⟩ | hk
  ·rw [step_read hb hk]; exact carry_r hB₁ hB₂ hne a o hq hb hk o.i.toNat (by omega) (by omega)
  ·rw [step_write hb hk]; exact carry_w hB₁ hB₂ hne a o hq hb hk o.i.toNat (by omega) (by omega) hd
  ·rw [step_flush hb hk]; exact carry_f hB₁ hB₂ hne a o hq hb hk he
theorem Do_arr (a : Ar) (o : OpA) (h : chkA a = 1)  : Fn Try.prog 14 [arrD false a, opG o] (.v (.tuple #[aggV [.slice none 0 0, .slice none 0 0], aggV (rsV zR), .int .i64 1])) := by
 refine Fn.of Try.func14 rfl (by kernel_rfl) Try.ntmps14 (by simp) (fun w => [(0, old w.heap.size (arrD false a)), (1, old w.heap.size (opG o))]) (fun w => (Start.old rfl (Start.old rfl Start.nil))) fun w₀ => ?_
 refine A.nameAr (t := 0) (k₁ := 1000201) (k₂ := 1000202) rfl fun A₃ q₃ A₂ q₂ hq₃ hq₂ he₁ he₂ => ?_
 refine A.nameOp (t := 1) (k := 1000303) rfl fun A₁ q hq => ?_
 refine GS ?_
 refine TN 0 ?_
 refine RN ?_
 refine ZB 1000002 rfl fun b2 ⟨hBb2, hb2⟩ => ?_
 refine TN 1 ?_
 refine RN ?_
 refine ZB 1000003 rfl fun b3 ⟨hBb3, hb3⟩ => ?_
 refine TN 2 ?_
 refine RN ?_
 refine ZN 1000004 zero30 fun b4 ⟨hBb4, hb4⟩ => ?_
 have hlt_b2_b4 := hb4 1000002 b2 _ _ rfl
 refine TN 3 ?_
 refine RN ?_
 refine ZN 1000005 zero49 fun b5 ⟨hBb5, hb5⟩ => ?_
 refine TL ?_
 refine RVN 1 rfl ?_
 refine QS ?_
 refine GT ?_
 refine RS (OpOk.arO (k₁ := 1000201) (k₂ := 1000202) (ok_loadA (s := 1000002) (by decide) Try.underlying30 rfl (size30.of (rfl)) rfl rfl) hq₃ hq₂ (by decide) (by decide) rfl rfl) ?_
 refine RS (ok_call (Check_fn a) (Args.cons rfl (by first | exact Le.refl _ | exact Le.old _ _ | exact arr_any | exact arr_ex | exact arrD_any | exact op_any | exact (Le.old _ _).trans arrD_any | exact (Le.old _ _).trans arr_any) Args.nil)) ?_; refine RZ (.int .i64 1) (by rw [h]) ?_
 refine RVN 1 rfl ?_
 refine GT ?_
 refine RV 2 rfl ?_
 refine RT ?_
 refine RN ?_
 refine A.yes rfl ?_
 refine GS ?_
 refine TF 3 ?_
 refine RS (ok_lit [] ([.slice none 0 0] ++ [.slice none 0 0]) (fun _ _ => rfl) (by kernel_rfl)) ?_
 refine RS (ok_lit [] (rsV zR) (fun _ _ => rfl) (by kernel_rfl)) ?_
 refine RVN 1 rfl ?_
 refine ZA 1000004 (size30.of rfl) hBb4 rfl rfl rfl (LB 1000002 rfl (LT 1000003 rfl (LT 1000005 rfl (LO 1000201 rfl (LO 1000202 rfl (LO 1000303 rfl (LW [4, 5, 14, 15] rfl))))))) ?_
 refine TF 4 ?_
 refine RN ?_
 refine ⟨_, eff_storeA (n := 25) (s := 1000005) (size49.of (rs_len _)) rfl rfl (rs_one _) hBb5 rfl (by simp only [rs_len]) (LT 1000002 rfl (LT 1000003 rfl (LT 1000004 rfl (LO 1000201 rfl (LO 1000202 rfl (LO 1000303 rfl (LW [4, 5, 15] rfl))))))), ?_⟩
 refine TL ?_
 refine RVN 1 rfl ?_
 refine A.ret ?_
 refine End.ret_then ?_
 exact End.cell3 (s := 1000004) (s₂ := 1000005) rfl Try.underlying30 rfl size30 Try.underlying49 rfl (size49.of (rs_len _)) rfl rfl rfl rfl rfl
set_option maxHeartbeats 4000000 in
theorem Do_ok (a : Ar) (o : OpA) (h : chkA a = 0) (h1 : a.now.length ≤ 4096) (h2 : a.dur.length ≤ 4096) (he : a.now.length = a.dur.length)  : FnB Try.prog 14 [arrD false a, opG o] (fun B => tup [arrZ (zOwn 41 B) true (stepA a o).1, .v (aggV (rsV (stepA a o).2)), .v (nI (0))]) := by
 refine FnB.of Try.func14 rfl (by kernel_rfl) Try.ntmps14 (by simp) (fun w => [(0, old w.heap.size (arrD false a)), (1, old w.heap.size (opG o))]) (fun w => (Start.old rfl (Start.old rfl Start.nil))) fun w₀ => ?_
 refine A.nameAr (t := 0) (k₁ := 1000201) (k₂ := 1000202) rfl fun A₃ q₃ A₂ q₂ hq₃ hq₂ he₁ he₂ => ?_
 refine A.nameOp (t := 1) (k := 1000303) rfl fun A₁ q hq => ?_
 refine GS ?_
 refine TN 0 ?_
 refine RN ?_
 refine ZB 1000002 rfl fun b2 ⟨hBb2, hb2⟩ => ?_
 refine TN 1 ?_
 refine RN ?_
 refine ZB 1000003 rfl fun b3 ⟨hBb3, hb3⟩ => ?_
 refine TN 2 ?_
 refine RN ?_
 refine ZN 1000004 zero30 fun b4 ⟨hBb4, hb4⟩ => ?_
 have hlt_b2_b4 := hb4 1000002 b2 _ _ rfl
 refine TN 3 ?_
 refine RN ?_
 refine ZN 1000005 zero49 fun b5 ⟨hBb5, hb5⟩ => ?_
 refine TL ?_
 refine RVN 1 rfl ?_
 refine QS ?_
 refine GT ?_
 refine RS (OpOk.arO (k₁ := 1000201) (k₂ := 1000202) (ok_loadA (s := 1000002) (by decide) Try.underlying30 rfl (size30.of (rfl)) rfl rfl) hq₃ hq₂ (by decide) (by decide) rfl rfl) ?_
 refine RS (ok_call (Check_fn a) (Args.cons rfl (by first | exact Le.refl _ | exact Le.old _ _ | exact arr_any | exact arr_ex | exact arrD_any | exact op_any | exact (Le.old _ _).trans arrD_any | exact (Le.old _ _).trans arr_any) Args.nil)) ?_; refine RZ (.int .i64 0) (by rw [h]) ?_
 refine RVN 1 rfl ?_
 refine GT ?_
 refine RV 2 rfl ?_
 refine RF ?_
 refine RN ?_
 refine A.no rfl ?_
 refine QK ?_
 refine GS ?_
 refine RunTK.newG 4 (by decide) rfl (.inl rfl) ?_
 refine RS (ok_field field30_0 (by decide) rfl) ?_
 refine RS (OpOk.slO (ex := false) (k₁ := 1000201) (ok_loadV (s := 1000002) (by decide) Try.underlying28 rfl rfl rfl (rfl)) hq₃ nofun (by decide) rfl) ?_
 refine RS (ok_field field30_1 (by decide) rfl) ?_
 refine RS (OpOk.slO (ex := false) (k₁ := 1000202) (ok_loadV (s := 1000002) (by decide) Try.underlying28 rfl rfl rfl (rfl)) hq₂ nofun (by decide) rfl) ?_
 refine RN ?_
 refine ⟨_, _, _, eff_nameAE (n := 25) (d := 20) (k₁ := 1000301) (k₂ := 1000302) rfl rfl (fun B' => ok_callB (copied_fn a.now a.dur h1 h2) newA_mono (Args.cons rfl (by first | exact Le.refl _ | exact Le.old _ _ | exact arr_any | exact arr_ex | exact arrD_any | exact op_any | exact (Le.old _ _).trans arrD_any | exact (Le.old _ _).trans arr_any) (Args.cons rfl (by first | exact Le.refl _ | exact Le.old _ _ | exact arr_any | exact arr_ex | exact arrD_any | exact op_any | exact (Le.old _ _).trans arrD_any | exact (Le.old _ _).trans arr_any) Args.nil))) (by decide) (by decide), fun ⟨c1, c2⟩ hc => ?_⟩
 have hBc1 := hc.1
 have hBc2 := hc.2.1
 have hne : c1 ≠ c2 := hc.2.2.1
 dsimp only at hBc1 hBc2
 refine TN 5 ?_
 refine RN ?_
 refine ZN 1000008 zero30 fun b8 ⟨hBb8, hb8⟩ => ?_
 have hlt_b2_b8 := hb8 1000002 b2 _ _ rfl
 have hlt_b4_b8 := hb8 1000004 b4 _ _ rfl
 refine TF 6 ?_
 refine RN ?_
 refine ZA 1000008 (size30.of rfl) hBb8 rfl rfl rfl (LB 1000002 rfl (LT 1000003 rfl (LB 1000004 rfl (LT 1000005 rfl (LO 1000201 rfl (LO 1000202 rfl (LT 1000301 rfl (LT 1000302 rfl (LO 1000303 rfl (LW [3, 4, 5, 8] rfl)))))))))) ?_
 refine TL ?_
 refine RN ?_
 refine QS ?_
 refine A.regL0 3 [0] (by kernel_rfl) (by kernel_rfl) (by kernel_rfl) (by kernel_rfl) [(4, .v (ptr b4)), (5, .v (ptr b5)), (6, .v (nI (0))), (1000004, blk b4 30 [.slice (some ⟨c1, 0, none⟩) a.now.length a.now.length, .slice (some ⟨c2, 0, none⟩) a.dur.length a.dur.length]), (1000005, blk b5 49 (rsV (stepA a o).2)), (1000301, blk c1 41 (bksV (stepA a o).1.now)), (1000302, blk c2 41 (bksV (stepA a o).1.dur))] ?_ ?_
 ·refine RL 1000008 Try.underlying30 rfl rfl (size30.of rfl) ?_
  refine RL 1000008 Try.underlying30 rfl rfl (size30.of rfl) ?_
  refine RL 1000003 Try.underlying47 rfl rfl (size47.of rfl) ?_
  refine RN ?_
  intro S hS
  simp only [subs, List.map_cons, List.map_nil, List.cons_append, List.nil_append, List.mem_cons, List.not_mem_nil, or_false] at hS
  rcases hS with rfl | rfl
  ·refine ⟨3, Nat.le_of_ble_eq_true (by kernel_rfl), _, (Sv [3, 4, 5, 8, 21, 22, 23, 1000002, 1000003, 1000004, 1000005, 1000008, 1000201, 1000202, 1000301, 1000302, 1000303] rfl), by kernel_rfl, _, rfl, _, eff_callL1 (n := 25) (vs := [aggV [.slice (some ⟨c1, 0, none⟩) a.now.length a.now.length, .slice (some ⟨c2, 0, none⟩) a.dur.length a.dur.length], aggV [byteV o.k, .int .i64 o.i, .slice A₁ o.d.length q]]) (us := []) (carry_fn hBc1 hBc2 hne a o hq he) rfl (A2 rfl rfl) (subL_M (Sv [1000301, 1000302, 1000303] rfl) (vbL_cons (vL rfl) (vbL_cons (vL rfl) (vbL_cons (vL rfl) vbL_nil)))) (vbL_cons (vL rfl) (vbL_cons (vL rfl) vbL_nil)) (gsL_cons (k := 1000301) hBc1 rfl (gsL_cons (k := 1000302) hBc2 rfl gsL_nil)) (by decide) (by decide) (LeftL.cons (LV 3 rfl (LV 4 rfl (LV 5 rfl (LV 8 rfl (LV 21 rfl (LV 22 rfl (LV 23 rfl (LT 1000002 rfl (LT 1000003 rfl (LT 1000004 rfl (LT 1000005 rfl (LT 1000008 rfl (LO 1000201 rfl (LO 1000202 rfl (LO 1000303 rfl LN))))))))))))))) (LeftL.one (LV 3 rfl (LV 4 rfl (LV 5 rfl (LV 8 rfl (LV 21 rfl (LV 22 rfl (LV 23 rfl (LT 1000002 rfl (LT 1000003 rfl (LT 1000004 rfl (LT 1000005 rfl (LT 1000008 rfl (LO 1000201 rfl (LO 1000202 rfl (LO 1000303 rfl LN))))))))))))))))), ?_⟩
   refine AnyT.step 4 [] (by kernel_rfl) ?_
   refine NextT.eff rfl (eff_storeA (n := 25) (s := 1000004) (size30.of (rfl)) rfl rfl (rfl) hBb4 rfl (rfl) (LV 3 rfl (LV 4 rfl (LV 5 rfl (LV 8 rfl (LV 21 rfl (LV 22 rfl (LV 23 rfl (LV 24 rfl (LB 1000002 rfl (LT 1000003 rfl (LT 1000005 rfl (LB 1000008 rfl (LO 1000201 rfl (LO 1000202 rfl (LT 1000301 rfl (LT 1000302 rfl (LO 1000303 rfl LN)))))))))))))))))) ?_ ?_
   ·refine AnyT.step 5 [] (by kernel_rfl) ?_
    refine NextT.eff rfl (eff_storeA (n := 25) (s := 1000005) (size49.of (rs_len _)) rfl rfl (rs_one _) hBb5 rfl (by simp only [rs_len]) (LV 3 rfl (LV 4 rfl (LV 5 rfl (LV 8 rfl (LV 21 rfl (LV 22 rfl (LV 23 rfl (LV 24 rfl (LT 1000002 rfl (LT 1000003 rfl (LT 1000004 rfl (LT 1000008 rfl (LO 1000201 rfl (LO 1000202 rfl (LT 1000301 rfl (LT 1000302 rfl (LO 1000303 rfl LN)))))))))))))))))) ?_ ?_
    ·refine AnyT.step 6 [] (by kernel_rfl) ?_
     refine NextT.pure (by kernel_rfl) rfl rfl rfl (ok_assign rfl) ?_ ?_
     ·refine AnyT.last (by kernel_rfl) ?_
      exact (SubL.cons (t := 4) rfl (Le.refl _) (SubL.cons (t := 5) rfl (Le.refl _) (SubL.cons (t := 6) rfl (Le.refl _) (SubL.cons (t := 1000004) rfl (Le.refl _) (SubL.cons (t := 1000005) rfl (Le.refl _) (SubL.cons (t := 1000301) rfl (Le.refl _) (SubL.cons (t := 1000302) rfl (Le.refl _) SubL.nil)))))))
     exact trivial
    exact trivial
   exact trivial
  ·refine ⟨4, Nat.le_of_ble_eq_true (by kernel_rfl), _, (Sv [3, 4, 5, 8, 22, 23, 1000002, 1000003, 1000004, 1000005, 1000008, 1000201, 1000202, 1000301, 1000302, 1000303] rfl), by kernel_rfl, _, rfl, _, eff_callL1 (n := 25) (vs := [aggV [.slice (some ⟨c1, 0, none⟩) a.now.length a.now.length, .slice (some ⟨c2, 0, none⟩) a.dur.length a.dur.length], aggV [byteV o.k, .int .i64 o.i, .slice A₁ o.d.length q]]) (us := []) (carry_fn hBc1 hBc2 hne a o hq he) rfl (A2 rfl rfl) (subL_M (Sv [1000301, 1000302, 1000303] rfl) (vbL_cons (vL rfl) (vbL_cons (vL rfl) (vbL_cons (vL rfl) vbL_nil)))) (vbL_cons (vL rfl) (vbL_cons (vL rfl) vbL_nil)) (gsL_cons (k := 1000301) hBc1 rfl (gsL_cons (k := 1000302) hBc2 rfl gsL_nil)) (by decide) (by decide) (LeftL.cons (LV 3 rfl (LV 4 rfl (LV 5 rfl (LV 8 rfl (LV 22 rfl (LV 23 rfl (LT 1000002 rfl (LT 1000003 rfl (LT 1000004 rfl (LT 1000005 rfl (LT 1000008 rfl (LO 1000201 rfl (LO 1000202 rfl (LO 1000303 rfl LN)))))))))))))) (LeftL.one (LV 3 rfl (LV 4 rfl (LV 5 rfl (LV 8 rfl (LV 22 rfl (LV 23 rfl (LT 1000002 rfl (LT 1000003 rfl (LT 1000004 rfl (LT 1000005 rfl (LT 1000008 rfl (LO 1000201 rfl (LO 1000202 rfl (LO 1000303 rfl LN)))))))))))))))), ?_⟩
   refine AnyT.step 0 [] (by kernel_rfl) ?_
   refine NextT.pure (by kernel_rfl) rfl rfl rfl (ok_loadA (s := 1000008) (by decide) Try.underlying30 rfl (size30.of (rfl)) rfl rfl) ?_ ?_
   ·refine AnyT.step 4 [] (by kernel_rfl) ?_
    refine NextT.eff rfl (eff_storeA (n := 25) (s := 1000004) (size30.of (rfl)) rfl rfl (rfl) hBb4 rfl (rfl) (LV 3 rfl (LV 4 rfl (LV 5 rfl (LV 8 rfl (LV 21 rfl (LV 22 rfl (LV 23 rfl (LV 24 rfl (LB 1000002 rfl (LT 1000003 rfl (LT 1000005 rfl (LB 1000008 rfl (LO 1000201 rfl (LO 1000202 rfl (LT 1000301 rfl (LT 1000302 rfl (LO 1000303 rfl LN)))))))))))))))))) ?_ ?_
    ·refine AnyT.step 5 [] (by kernel_rfl) ?_
     refine NextT.eff rfl (eff_storeA (n := 25) (s := 1000005) (size49.of (rs_len _)) rfl rfl (rs_one _) hBb5 rfl (by simp only [rs_len]) (LV 3 rfl (LV 4 rfl (LV 5 rfl (LV 8 rfl (LV 21 rfl (LV 22 rfl (LV 23 rfl (LV 24 rfl (LT 1000002 rfl (LT 1000003 rfl (LT 1000004 rfl (LT 1000008 rfl (LO 1000201 rfl (LO 1000202 rfl (LT 1000301 rfl (LT 1000302 rfl (LO 1000303 rfl LN)))))))))))))))))) ?_ ?_
     ·refine AnyT.step 6 [] (by kernel_rfl) ?_
      refine NextT.pure (by kernel_rfl) rfl rfl rfl (ok_assign rfl) ?_ ?_
      ·refine AnyT.last (by kernel_rfl) ?_
       exact (SubL.cons (t := 4) rfl (Le.refl _) (SubL.cons (t := 5) rfl (Le.refl _) (SubL.cons (t := 6) rfl (Le.refl _) (SubL.cons (t := 1000004) rfl (Le.refl _) (SubL.cons (t := 1000005) rfl (Le.refl _) (SubL.cons (t := 1000301) rfl (Le.refl _) (SubL.cons (t := 1000302) rfl (Le.refl _) SubL.nil)))))))
      exact trivial
     exact trivial
    exact trivial
   exact trivial
 ·refine EN ?_
  refine A.ret ?_
  refine End.packAE (k := 1000004) (k₁ := 1000301) (k₂ := 1000302) (lo := w₀.heap.size) (stepA a o).1 rfl ((step_ok o ⟨rfl, he.symm⟩).1).symm ((he.symm).trans ((step_ok o ⟨rfl, he.symm⟩).2).symm) rfl rfl hBc1 hBc2 ?_
  exact End.cellKV (s := 1000004) (s₂ := 1000005) rfl Try.underlying30 rfl size30 rfl rfl (Le.refl _) Try.underlying49 rfl (size49.of (rs_len _)) rfl rfl rfl (Le.refl _)
theorem Play_arr (a : Ar) (L : List OpA) (h : chkA a = 1)  : Fn Try.prog 12 [arrD false a, lstK 3 (L.map opG)] (tup [.v (aggV [.slice none 0 0, .slice none 0 0]), .v (.slice none 0 0), .v (nI (1))]) := by
 refine Fn.of Try.func12 rfl (by kernel_rfl) Try.ntmps12 (by simp) (fun w => [(0, old w.heap.size (arrD false a)), (1, old w.heap.size (lstK 3 (L.map opG)))]) (fun w => (Start.old rfl (Start.old rfl Start.nil))) fun w₀ => ?_
 refine A.nameAr (t := 0) (k₁ := 1000201) (k₂ := 1000202) rfl fun A₃ q₃ A₂ q₂ hq₃ hq₂ he₁ he₂ => ?_
 refine GS ?_
 refine TN 0 ?_
 refine RN ?_
 refine ZB 1000002 rfl fun b2 ⟨hBb2, hb2⟩ => ?_
 refine TN 1 ?_
 refine RN ?_
 refine ZN 1000004 zero30 fun b4 ⟨hBb4, hb4⟩ => ?_
 have hlt_b2_b4 := hb4 1000002 b2 _ _ rfl
 refine TL ?_
 refine RVN 2 rfl ?_
 refine QS ?_
 refine GT ?_
 refine RS (OpOk.arO (k₁ := 1000201) (k₂ := 1000202) (ok_loadA (s := 1000002) (by decide) Try.underlying30 rfl (size30.of (rfl)) rfl rfl) hq₃ hq₂ (by decide) (by decide) rfl rfl) ?_
 refine RS (ok_call (Check_fn a) (Args.cons rfl (by first | exact Le.refl _ | exact Le.old _ _ | exact arr_any | exact arr_ex | exact arrD_any | exact op_any | exact (Le.old _ _).trans arrD_any | exact (Le.old _ _).trans arr_any) Args.nil)) ?_; refine RZ (.int .i64 1) (by rw [h]) ?_
 refine RVN 1 rfl ?_
 refine GT ?_
 refine RV 2 rfl ?_
 refine RT ?_
 refine RN ?_
 refine A.yes rfl ?_
 refine GS ?_
 refine TF 2 ?_
 refine RS (ok_lit [] ([.slice none 0 0] ++ [.slice none 0 0]) (fun _ _ => rfl) (by kernel_rfl)) ?_
 refine RVN 1 rfl ?_
 refine ZA 1000004 (size30.of rfl) hBb4 rfl rfl rfl (LB 1000002 rfl (LO 1000201 rfl (LO 1000202 rfl (LW [4, 17] rfl)))) ?_
 refine TL ?_
 refine RVN 2 rfl ?_
 refine A.subL (SubL.cons (t := 4) rfl (Le.refl _) (SubL.cons (t := 5) rfl (Le.refl _) (SubL.cons (t := 6) rfl (Le.refl _) (SubL.cons (t := 1000004) rfl (blk_varK rfl rfl (Le.refl _)) SubL.nil)))) ?_
 refine A.ret ?_
 refine End.ret_then ?_
 exact End.cellKT (s := 1000004) rfl Try.underlying30 rfl size30 rfl rfl (Le.refl _) rfl (Le.refl _) rfl (Le.refl _)
theorem Play_long (a : Ar) (L : List OpA) (h : chkA a = 0) (hL : 256 < L.length) : Fn Try.prog 12 [arrD false a, lstK 3 (L.map opG)] (tup [.v (aggV [.slice none 0 0, .slice none 0 0]), .v (.slice none 0 0), .v (nI (3))]) := by
 refine Fn.of Try.func12 rfl (by kernel_rfl) Try.ntmps12 (by simp) (fun w => [(0, old w.heap.size (arrD false a)), (1, old w.heap.size (lstK 3 (L.map opG)))]) (fun w => (Start.old rfl (Start.old rfl Start.nil))) fun w₀ => ?_
 refine A.nameAr (t := 0) (k₁ := 1000201) (k₂ := 1000202) rfl fun A₃ q₃ A₂ q₂ hq₃ hq₂ he₁ he₂ => ?_
 refine GS ?_
 refine TN 0 ?_
 refine RN ?_
 refine ZB 1000002 rfl fun b2 ⟨hBb2, hb2⟩ => ?_
 refine TN 1 ?_
 refine RN ?_
 refine ZN 1000004 zero30 fun b4 ⟨hBb4, hb4⟩ => ?_
 have hlt_b2_b4 := hb4 1000002 b2 _ _ rfl
 refine TL ?_
 refine RVN 2 rfl ?_
 refine QS ?_
 refine GT ?_
 refine RS (OpOk.arO (k₁ := 1000201) (k₂ := 1000202) (ok_loadA (s := 1000002) (by decide) Try.underlying30 rfl (size30.of (rfl)) rfl rfl) hq₃ hq₂ (by decide) (by decide) rfl rfl) ?_
 refine RS (ok_call (Check_fn a) (Args.cons rfl (by first | exact Le.refl _ | exact Le.old _ _ | exact arr_any | exact arr_ex | exact arrD_any | exact op_any | exact (Le.old _ _).trans arrD_any | exact (Le.old _ _).trans arr_any) Args.nil)) ?_; refine RZ (.int .i64 0) (by rw [h]) ?_
 refine RVN 1 rfl ?_
 refine GT ?_
 refine RV 2 rfl ?_
 refine RF ?_
 refine RN ?_
 refine A.no rfl ?_
 refine QK ?_
 refine QS ?_
 refine GT ?_
 refine RM rfl ?_
 refine RS ((ok_lenK Try.underlying25 rfl (Le.old _ _)).asV' (show _ = .int .i64 (L.length : Int) by rw [List.length_map])) ?_
 refine RB rfl rfl rfl ?_
 refine RT ?_
 refine RN ?_
 refine A.yes rfl ?_
 refine GS ?_
 refine TF 1 ?_
 refine RS (ok_lit [] ([.slice none 0 0] ++ [.slice none 0 0]) (fun _ _ => rfl) (by kernel_rfl)) ?_
 refine RN ?_
 refine ZA 1000004 (size30.of rfl) hBb4 rfl rfl rfl (LV 4 rfl (LB 1000002 rfl (LO 1000201 rfl (LO 1000202 rfl LN)))) ?_
 refine TL ?_
 refine RVN 2 rfl ?_
 refine A.subL (SubL.cons (t := 4) rfl (Le.refl _) (SubL.cons (t := 5) rfl (Le.refl _) (SubL.cons (t := 6) rfl (Le.refl _) (SubL.cons (t := 1000004) rfl (blk_varK rfl rfl (Le.refl _)) SubL.nil)))) ?_
 refine A.ret ?_
 refine End.ret_then ?_
 exact End.cellKT (s := 1000004) rfl Try.underlying30 rfl size30 rfl rfl (Le.refl _) rfl (Le.refl _) rfl (Le.refl _)
set_option maxHeartbeats 4000000 in
theorem Play_ok (a : Ar) (L : List OpA) (h : chkA a = 0) (h1 : a.now.length ≤ 4096) (h2 : a.dur.length ≤ 4096) (he : a.now.length = a.dur.length) (hL : L.length ≤ 256) : FnB Try.prog 12 [arrD false a, lstK 3 (L.map opG)] (fun B => tup [arrZ (zOwn 41 B) true (runA a L), sliZ (zOwn 49 B) true L.length (rssV (resA a L)), .v (nI (0))]) := by
 refine FnB.of Try.func12 rfl (by kernel_rfl) Try.ntmps12 (by simp) (fun w => [(0, old w.heap.size (arrD false a)), (1, old w.heap.size (lstK 3 (L.map opG)))]) (fun w => (Start.old rfl (Start.old rfl Start.nil))) fun w₀ => ?_
 refine A.nameAr (t := 0) (k₁ := 1000201) (k₂ := 1000202) rfl fun A₃ q₃ A₂ q₂ hq₃ hq₂ he₁ he₂ => ?_
 refine GS ?_
 refine TN 0 ?_
 refine RN ?_
 refine ZB 1000002 rfl fun b2 ⟨hBb2, hb2⟩ => ?_
 refine TN 1 ?_
 refine RN ?_
 refine ZN 1000004 zero30 fun b4 ⟨hBb4, hb4⟩ => ?_
 have hlt_b2_b4 := hb4 1000002 b2 _ _ rfl
 refine TL ?_
 refine RVN 2 rfl ?_
 refine QS ?_
 refine GT ?_
 refine RS (OpOk.arO (k₁ := 1000201) (k₂ := 1000202) (ok_loadA (s := 1000002) (by decide) Try.underlying30 rfl (size30.of (rfl)) rfl rfl) hq₃ hq₂ (by decide) (by decide) rfl rfl) ?_
 refine RS (ok_call (Check_fn a) (Args.cons rfl (by first | exact Le.refl _ | exact Le.old _ _ | exact arr_any | exact arr_ex | exact arrD_any | exact op_any | exact (Le.old _ _).trans arrD_any | exact (Le.old _ _).trans arr_any) Args.nil)) ?_; refine RZ (.int .i64 0) (by rw [h]) ?_
 refine RVN 1 rfl ?_
 refine GT ?_
 refine RV 2 rfl ?_
 refine RF ?_
 refine RN ?_
 refine A.no rfl ?_
 refine QK ?_
 refine QS ?_
 refine GT ?_
 refine RM rfl ?_
 refine RS ((ok_lenK Try.underlying25 rfl (Le.old _ _)).asV' (show _ = .int .i64 (L.length : Int) by rw [List.length_map])) ?_
 refine RB rfl rfl rfl ?_
 refine RF ?_
 refine RN ?_
 refine A.no rfl ?_
 refine QK ?_
 refine GS ?_
 refine RunTK.newG 4 (by decide) rfl (.inl rfl) ?_
 refine RS (ok_field field30_0 (by decide) rfl) ?_
 refine RS (OpOk.slO (ex := false) (k₁ := 1000201) (ok_loadV (s := 1000002) (by decide) Try.underlying28 rfl rfl rfl (rfl)) hq₃ nofun (by decide) rfl) ?_
 refine RS (ok_field field30_1 (by decide) rfl) ?_
 refine RS (OpOk.slO (ex := false) (k₁ := 1000202) (ok_loadV (s := 1000002) (by decide) Try.underlying28 rfl rfl rfl (rfl)) hq₂ nofun (by decide) rfl) ?_
 refine RN ?_
 refine ⟨_, _, _, eff_nameAE (n := 46) (d := 26) (k₁ := 1000301) (k₂ := 1000302) rfl rfl (fun B' => ok_callB (copied_fn a.now a.dur h1 h2) newA_mono (Args.cons rfl (by first | exact Le.refl _ | exact Le.old _ _ | exact arr_any | exact arr_ex | exact arrD_any | exact op_any | exact (Le.old _ _).trans arrD_any | exact (Le.old _ _).trans arr_any) (Args.cons rfl (by first | exact Le.refl _ | exact Le.old _ _ | exact arr_any | exact arr_ex | exact arrD_any | exact op_any | exact (Le.old _ _).trans arrD_any | exact (Le.old _ _).trans arr_any) Args.nil))) (by decide) (by decide), fun ⟨c1, c2⟩ hc => ?_⟩
 have hBc1 := hc.1
 have hBc2 := hc.2.1
 have hne : c1 ≠ c2 := hc.2.2.1
 dsimp only at hBc1 hBc2
 refine TN 5 ?_
 refine RN ?_
 refine ZN 1000008 zero30 fun b8 ⟨hBb8, hb8⟩ => ?_
 have hlt_b2_b8 := hb8 1000002 b2 _ _ rfl
 have hlt_b4_b8 := hb8 1000004 b4 _ _ rfl
 refine TF 6 ?_
 refine RN ?_
 refine ZA 1000008 (size30.of rfl) hBb8 rfl rfl rfl (LO 1 rfl (LB 1000002 rfl (LB 1000004 rfl (LO 1000201 rfl (LO 1000202 rfl (LT 1000301 rfl (LT 1000302 rfl (LW [4, 8] rfl)))))))) ?_
 refine TL ?_
 refine RN ?_
 refine GS ?_
 refine TN 2 ?_
 refine RM rfl ?_
 refine RS ((ok_lenK Try.underlying25 rfl (Le.old _ _)).asV' (show _ = .int .i64 (L.length : Int) by rw [List.length_map])) ?_
 refine RN ?_
 refine ZM 1000029 (fun B' => ok_makeR L.length Try.underlying37 infoR (by decide) rfl rfl rfl (by omega)) rfl fun b29 ⟨hBb29, hb29⟩ => ?_
 have hlt_b2_b29 := hb29 1000002 b2 _ _ rfl
 have hlt_b4_b29 := hb29 1000004 b4 _ _ rfl
 have hlt_b8_b29 := hb29 1000008 b8 _ _ rfl
 have hlt_c1_b29 := hb29 1000301 c1 _ _ rfl
 have hlt_c2_b29 := hb29 1000302 c2 _ _ rfl
 refine TL ?_
 refine RVN 1 rfl ?_
 refine QS ?_
 refine GT ?_
 refine RM rfl ?_
 refine RS ((ok_lenK Try.underlying25 rfl (Le.old _ _)).asV' (show _ = .int .i64 (L.length : Int) by rw [List.length_map])) ?_
 refine RVN 1 rfl ?_
 refine A.sub (Sv [4, 8, 9, 30, 31, 32, 1000002, 1000004, 1000008, 1000029, 1000201, 1000202, 1000301, 1000302] rfl) ?_
 refine A.block ?_
 refine A.loop (ι := Nat) (fun i => i ≤ L.length) (fun i => [(4, .v (ptr b4)), (8, .v (ptr b8)), (9, .v (.slice (some ⟨b29, 0, none⟩) L.length L.length)), (30, old w₀.heap.size (lstK 3 (L.map opG))), (31, .v (.int .i64 (L.length : Int))), (32, .v (nI (i))), (1000004, blk b4 30 ([.slice none 0 0] ++ [.slice none 0 0])), (1000008, blk b8 30 [.slice (some ⟨c1, 0, none⟩) a.now.length a.now.length, .slice (some ⟨c2, 0, none⟩) a.dur.length a.dur.length]), (1000301, blk c1 41 (bksV (runA a (L.take i)).now)), (1000302, blk c2 41 (bksV (runA a (L.take i)).dur)), (1000029, blk b29 49 (rssV (fillR a L i)))]) (fun i => L.length - i) 0 ?_ ?_ ?_
 ·exact Nat.zero_le _
 ·exact (KC 4 rfl (KC 8 rfl (KC 9 rfl (KC 30 rfl (KC 31 rfl (KE 32 rfl (by rfl) (KC 1000004 rfl (KC 1000008 rfl (KE 1000301 rfl (by rfl) (KE 1000302 rfl (by rfl) (KE 1000029 rfl (congrArg (blk b29 49) (by simp [fillR, resA])) KN)))))))))))
 intro i hG
 refine GV rfl ?_
 refine QS ?_
 refine A.cond rfl (fun hc33 => ?_) (fun hc33 => ?_)
 ·have hlt : i < L.length := by simp at hc33; omega
  refine QK ?_
  refine QSB ?_
  refine GS ?_
  refine TN 3 ?_
  refine RM rfl ?_
  refine RS (ok_indexKO i Try.underlying25 size47 rfl rfl (map_nthO opG hlt)) ?_
  refine RS (ok_loadKO Try.underlying47 rfl size47 rfl) ?_
  refine RN ?_
  refine ZN 1000011 zero47 fun b11 ⟨hBb11, hb11⟩ => ?_
  refine TF 5 ?_
  refine RVN 1 rfl ?_
  refine ⟨_, eff_storeK (n := 46) (s := 1000011) size47 rfl rfl (Le.refl _) (Agg.old (Agg.tl rfl rfl)) hBb11 rfl (rfl) (Surv.old (by omega)) (LO 30 rfl (LT 1000004 rfl (LT 1000008 rfl (LT 1000029 rfl (LT 1000301 rfl (LT 1000302 rfl (LW [4, 8, 9, 10, 11, 31, 32] rfl))))))), ?_⟩
  refine TL ?_
  refine RN ?_
  refine A.nameOpV (t := 1000011) (k := 1000303) rfl fun A₁ q hq => ?_
  refine GE ?_
  refine TF 4 ?_
  refine RV 2 rfl ?_
  refine RS (ok_loadA (s := 1000008) (by decide) Try.underlying30 rfl (size30.of (rfl)) rfl rfl) ?_; refine RZ (aggV [.slice (some ⟨c1, 0, none⟩) (runA a (L.take i)).now.length (runA a (L.take i)).now.length, .slice (some ⟨c2, 0, none⟩) (runA a (L.take i)).dur.length (runA a (L.take i)).dur.length]) (by rw [(run_ok (L := L.take i) (a := a) (n := a.now.length) ⟨rfl, he.symm⟩).1, (run_ok (L := L.take i) (a := a) (n := a.now.length) ⟨rfl, he.symm⟩).2, he]) ?_
  refine RL 1000011 Try.underlying47 rfl rfl (size47.of rfl) ?_
  refine RN ?_
  refine ⟨_, eff_callL1 (n := 46) (vs := [aggV [.slice (some ⟨c1, 0, none⟩) (runA a (L.take i)).now.length (runA a (L.take i)).now.length, .slice (some ⟨c2, 0, none⟩) (runA a (L.take i)).dur.length (runA a (L.take i)).dur.length], aggV [byteV (nthO L i).k, .int .i64 (nthO L i).i, .slice A₁ (nthO L i).d.length q]]) (us := []) (carry_fn hBc1 hBc2 hne (runA a (L.take i)) (nthO L i) hq (by rw [(run_ok (L := L.take i) (a := a) (n := a.now.length) ⟨rfl, he.symm⟩).1, (run_ok (L := L.take i) (a := a) (n := a.now.length) ⟨rfl, he.symm⟩).2])) rfl (A2 rfl rfl) (subL_M (Sv [1000301, 1000302, 1000303] rfl) (vbL_cons (vL rfl) (vbL_cons (vL rfl) (vbL_cons (vL rfl) vbL_nil)))) (vbL_cons (vL rfl) (vbL_cons (vL rfl) vbL_nil)) (gsL_cons (k := 1000301) hBc1 rfl (gsL_cons (k := 1000302) hBc2 rfl gsL_nil)) (by decide) (by decide) (LeftL.cons (LO 30 rfl (LT 1000004 rfl (LT 1000008 rfl (LT 1000011 rfl (LT 1000029 rfl (LO 1000303 rfl (LW [4, 8, 9, 31, 32, 37, 38] rfl))))))) (LeftL.one (LO 30 rfl (LT 1000004 rfl (LT 1000008 rfl (LT 1000011 rfl (LT 1000029 rfl (LO 1000303 rfl (LW [4, 8, 9, 31, 32, 37, 38] rfl))))))))), ?_⟩
  refine TF 6 ?_
  refine RS (ok_indexVK i Try.underlying37 infoR rfl rfl hlt) ?_
  refine RN ?_
  refine ⟨_, eff_storeP (n := 46) (s := 1000029) (size49.of (rs_len _)) rfl rfl (rs_one _) hBb29 rfl (by rw [rs_len, rss_len, fill_len (by omega)]; omega) (LO 30 rfl (LT 1000004 rfl (LT 1000008 rfl (LT 1000011 rfl (LT 1000301 rfl (LT 1000302 rfl (LO 1000303 rfl (LW [4, 8, 9, 31, 32] rfl)))))))), ?_⟩
  refine TL ?_
  refine RN ?_
  refine End.sub (KC 4 rfl (KC 8 rfl (KC 9 rfl (KC 30 rfl (KC 31 rfl (KC 32 rfl (KC 1000004 rfl (KC 1000008 rfl (KC 1000011 rfl (KE 1000029 rfl (show _ = blk b29 49 (rssV (fillR a L (i + 1))) from congrArg _ (fill_set hlt)) (KC 1000301 rfl (KC 1000302 rfl (KC 1000303 rfl KN))))))))))))) ?_
  refine End.normal_block ?_
  refine EN ?_
  refine GTE ?_
  refine RB rfl rfl rfl ?_
  refine RZ (nI (i + 1)) (wrap_eq (by omega) (by omega)) ?_
  refine RVN 1 rfl ?_
  refine End.normal_then ?_
  refine End.again (i + 1) ?_ ?_ ?_
  ·show _ ≤ _; omega
  ·show _ - _ < _ - _; omega
  ·exact (KC 4 rfl (KC 8 rfl (KC 9 rfl (KC 30 rfl (KC 31 rfl (KC 32 rfl (KC 1000004 rfl (KC 1000008 rfl (KE 1000301 rfl (congrArg (fun x : Ar => blk c1 41 (bksV x.now)) (run_snoc hlt)) (KE 1000302 rfl (congrArg (fun x : Ar => blk c2 41 (bksV x.dur)) (run_snoc hlt)) (KC 1000029 rfl KN)))))))))))
 ·have hge : i = L.length := by simp at hc33; omega
  refine A.exit ?_
  refine End.exit_then ?_
  refine End.exit_then ?_
  refine End.exit_here ?_
  refine EN ?_
  refine GS ?_
  refine TF 2 ?_
  refine RL 1000008 Try.underlying30 rfl rfl (size30.of rfl) ?_
  refine RVN 1 rfl ?_
  refine ZA 1000004 (size30.of rfl) hBb4 rfl rfl rfl (LB 1000008 rfl (LT 1000029 rfl (LT 1000301 rfl (LT 1000302 rfl (LW [4, 45] rfl))))) ?_
  refine TL ?_
  refine RVN 2 rfl ?_
  subst hge
  refine A.packAE (k := 1000004) (k₁ := 1000301) (k₂ := 1000302) (lo := w₀.heap.size) (runA a (L.take L.length)) rfl (run_ok (L := L.take L.length) (a := a) (n := a.now.length) ⟨rfl, he.symm⟩).1.symm (he.symm.trans (run_ok (L := L.take L.length) (a := a) (n := a.now.length) ⟨rfl, he.symm⟩).2.symm) rfl rfl hBc1 hBc2 ?_
  refine A.packSl (t := 5) (k := 1000029) (lo := w₀.heap.size) rfl rfl hBb29 ?_
  refine A.ret ?_
  exact End.cellKT (s := 1000004) rfl Try.underlying30 rfl size30 rfl rfl (Le.eq (by rw [List.take_length])) rfl (Le.eq (by rw [fill_end])) rfl (Le.refl _)
end Go.Proofs.Ytggijkmlmklneaa
namespace Go.Proofs.Ytggijkmlmklneaa
open Go Go.RowKit
set_option linter.unusedVariables false
set_option linter.unusedSimpArgs false
variable {κ : Cx}
/-! ### A block changed byte by byte -/
def setB (b : Bk) (j : Nat) (u : UInt8) : Bk := ⟨b.1.set j u, by rw [List.length_set]; exact b.2⟩
theorem bks_cell {l : List Bk} {r : List Value} {i j : Nat} (h : i < l.length) (hj : j < 32) (u : UInt8) : (bksV l ++ r).set (i * 32 + j) (byteV u) = bksV (l.set i (setB (bkAt l i) j u)) ++ r := by
  induction l generalizing i with
  | nil => cases h
  | cons b l ih =>
    have hb := bk_len b
    cases i with
    | zero =>
      show ((bkV b ++ bksV l) ++ r).set (0 * 32 + j) (byteV u) = (bkV (setB b j u) ++ bksV l) ++ r
      rw [Nat.zero_mul, Nat.zero_add, List.append_assoc, List.append_assoc, List.set_append_left _ _ (by omega)]
      congr 1
      unfold bkV setB
      exact (List.map_set ..).symm
    | succ i =>
      show ((bkV b ++ bksV l) ++ r).set ((i + 1) * 32 + j) (byteV u) = (bkV b ++ bksV (l.set i (setB (bkAt (b :: l) (i + 1)) j u))) ++ r
      rw [List.append_assoc, List.append_assoc, List.set_append_right _ _ (by omega), hb, show (i + 1) * 32 + j - 32 = i * 32 + j from by omega, ih (by simpa using h)]
      rfl
/-- A block of which the first i bytes are new. -/
def mixB (b : Bk) (d : List UInt8) (i : Nat) : Bk := mkB (d.take i ++ b.1.drop i)
theorem mix_len {b : Bk} {d : List UInt8} {i : Nat} (hd : d.length = 32) : (d.take i ++ b.1.drop i).length = 32 := by rw [List.length_append, List.length_take, List.length_drop, hd, b.2]; omega
theorem mix_val {b : Bk} {d : List UInt8} {i : Nat} (hd : d.length = 32) : (mixB b d i).1 = d.take i ++ b.1.drop i := by unfold mixB mkB; rw [dif_pos (mix_len hd)]
theorem mix_zero {b : Bk} {d : List UInt8} (hd : d.length = 32) : mixB b d 0 = b := Subtype.ext (by rw [mix_val hd]; simp)
theorem mix_all {b : Bk} {d : List UInt8} (hd : d.length = 32) : mixB b d 32 = mkB d := by
  unfold mixB; congr 1
  rw [List.take_of_length_le (by omega), List.drop_eq_nil_of_le (by rw [b.2]; exact Nat.le_refl _), List.append_nil]
theorem mix_step {b : Bk} {d : List UInt8} {i : Nat} (hd : d.length = 32) (hi : i < 32) : setB (mixB b d i) i (d.getD i 0) = mixB b d (i + 1) := Subtype.ext (by
  rw [mix_val hd]
  show (mixB b d i).1.set i (d.getD i 0) = _
  rw [mix_val hd]
  have hb := b.2
  rw [List.set_append_right _ _ (by rw [List.length_take]; omega), List.length_take, hd, show i - min i 32 = 0 from by omega, List.drop_eq_getElem_cons (by omega : i < b.1.length), List.set_cons_zero, List.take_succ_eq_append_getElem (by omega : i < d.length), List.append_assoc]
  simp [List.getD, show i < d.length from by omega])
theorem set_same {l : List Bk} {i : Nat} (h : i < l.length) : l.set i (bkAt l i) = l := by
  unfold bkAt
  rw [List.getD_eq_getElem?_getD, List.getElem?_eq_getElem h]
  exact List.set_getElem_self h
theorem bkAt_set {l : List Bk} {i : Nat} (h : i < l.length) (b : Bk) : bkAt (l.set i b) i = b := by unfold bkAt; simp [List.getD, h]
theorem bks_mix {l : List Bk} {r : List Value} {d : List UInt8} {i j : Nat} (h : i < l.length) (hd : d.length = 32) (hj : j < 32) : (bksV (l.set i (mixB (bkAt l i) d j)) ++ r).set (i * 32 + j) (byteV (d.getD j 0)) = bksV (l.set i (mixB (bkAt l i) d (j + 1))) ++ r := by
  rw [bks_cell (by rw [List.length_set]; exact h) hj, bkAt_set h, mix_step hd hj, List.set_set]
/-! ### One row named where it is made -/
section
variable {P : Program} {n B : Nat} {ops : Array Oper} {E : Env}
theorem eff_name1 {o : Oper} {d k sz : Nat} {e : TypeId} {m : Nat} {ys : List Value} (ht : o.dst = some d) (hg : o.guard = none) (hok : ∀ B', OpOk P B' o E (ownP B' e sz m ys)) (h2 : 0 < m) (hdn : d < n) (hnv : n ≤ vbase) :
    EffG P n B ops o E (fun p : Nat × Nat × List Value => B ≤ p.1 ∧ m ≤ p.2.1 ∧ ∀ s b' e xs, E.look s = some (blk b' e xs) → b' < p.1) (fun p => (d, .v (.slice (some ⟨p.1, 0, none⟩) m p.2.1)) :: (k, blk p.1 e (ys ++ p.2.2)) :: E) := by
  intro κ ac w K Q h hK
  rw [if_pos (by simp [Region.wanted, hg])]
  refine wp_of_out ht ((hok w.heap.size ac.eval w (Nat.le_refl _) (h.virt hnv) fun x _ u hu => h.at_ x _ hu).mono ?_)
  rintro x w' ⟨hgr, ⟨hl, hc⟩, hlt⟩
  rcases hc with ⟨_, h0⟩ | ⟨g, cap, cur, rfl, hgb, hh, hcap, _, _, htk⟩
  · omega
  have hg2 : g < w'.heap.size := hlt g rfl
  have e2 : cur = (ys ++ cur.toList.drop (m * sz)).toArray := by
    rw [← htk, List.take_append_drop]
  rw [e2] at hh
  refine hK (g, cap, cur.toList.drop (m * sz)) _ _ ⟨Nat.le_trans h.base hgb, hcap, fun s b' e ys hs => Nat.lt_of_lt_of_le (h.of s _ hs).1 hgb⟩ (Below.mono hgr h.base) (St.put ?_ hdn rfl)
  exact (h.grow hgr).push (t := k) (d := blk g e (ys ++ cur.toList.drop (m * sz))) ⟨hg2, hh⟩
end
theorem End.packAr {n : Nat} {w₀ : World} {E : Env} {Q : Act → World → Prop} {k k₁ k₂ b b₁ b₂ q₁ q₂ n₁ n₂ lo : Nat} {T tB : TypeId} (a : Ar) {r₁ r₂ : List Value} (hk : E.look k = some (blk b T [.slice (some ⟨b₁, 0, none⟩) n₁ q₁, .slice (some ⟨b₂, 0, none⟩) n₂ q₂])) (hn₁ : n₁ = a.now.length) (hn₂ : n₂ = a.dur.length)
    (h1 : E.look k₁ = some (blk b₁ tB (bksV a.now ++ r₁))) (h2 : E.look k₂ = some (blk b₂ tB (bksV a.dur ++ r₂))) (hl₁ : lo ≤ b₁) (hl₂ : lo ≤ b₂) (hq₁ : n₁ ≤ q₁) (hq₂ : n₂ ≤ q₂) (h : End κ w₀ n ((k, varK b T 2 (arrZ (zOwn tB lo) false a)) :: E) Q) : End κ w₀ n E Q := fun ac w g hs => by
  subst hn₁; subst hn₂
  obtain ⟨m1, m2⟩ := hs.of k _ hk
  obtain ⟨m3, m4⟩ := hs.of k₁ _ h1
  obtain ⟨m5, m6⟩ := hs.of k₂ _ h2
  exact h ac w g (hs.push (t := k) (d := varK b T 2 (arrZ (zOwn tB lo) false a)) ⟨m1, _, rfl, rfl, m2, _, _, rfl, ⟨_, _, rfl, hq₁, nofun, RowZ.blk m3 m4 ⟨rfl, hl₁⟩ app_get⟩, ⟨_, _, rfl, hq₂, nofun, RowZ.blk m5 m6 ⟨rfl, hl₂⟩ app_get⟩⟩)
/-! ### Operations that are made -/
/-- Where the data of an operation stands: a variable or a row of bytes. -/
abbrev zDat (tB t8 : TypeId) (lo : Nat) : TypeId → Nat → Prop := fun e b => (e = tB ∨ e = t8) ∧ lo ≤ b
theorem zDat_mono {tB t8 : TypeId} {B B' : Nat} (h : B ≤ B') : ∀ e b, zDat tB t8 B' e b → zDat tB t8 B e b := fun _ _ hz => ⟨hz.1, by have := hz.2; omega⟩
theorem op_nil {Z : TypeId → Nat → Prop} {k : UInt8} {i : Int} : Le (.v (aggV [byteV k, .int .i64 i, .slice none 0 0])) (opZ Z ⟨k, i, []⟩) := fun B w x hx => ⟨.slice none 0 0, rfl, hx, none, 0, rfl, Nat.le_refl _, nofun, fun j u hu => by cases hu⟩
theorem own_sli {base n : Nat} {e : TypeId} {xs : List Value} {Z : TypeId → Nat → Prop} (hz : ∀ b, base ≤ b → Z e b) : Le (own base e n xs) (sliZ Z false n xs) := fun B w x ⟨⟨hl, h2⟩, hlt⟩ => by
  rcases h2 with ⟨rfl, rfl⟩ | ⟨g, cap, cur, rfl, hgb, hh, hnc, _, _, htk⟩
  · exact ⟨none, 0, rfl, Nat.le_refl _, nofun, fun j u hu => by
      have : xs = [] := List.length_eq_zero_iff.1 (by omega)
      subst this; cases hu⟩
  · refine ⟨_, _, rfl, hnc, nofun, RowZ.blk (cs := cur.toList) (hlt g rfl) (by simpa using hh) (hz g hgb) fun j u hu => ?_⟩
    rw [← htk, List.getElem?_take] at hu
    split at hu
    · exact hu
    · cases hu
section
variable {P : Program} {B : Nat} {E : Env} {o : Oper}
/-- A slice of a variable's bytes. -/
theorem OpOk.slB {Z : TypeId → Nat → Prop} {b T k n q : Nat} {xs ys : List Value} (h : OpOk P B o E (.v (.slice (some ⟨b, 0, none⟩) n q))) (hq : n ≤ q) (hk : vbase ≤ k) (hl : E.look k = some (blk b T xs)) (hz : Z T b) (hy : ∀ (j : Nat) (u : Value), ys[j]? = some u → xs[j]? = some u) : OpOk P B o E (sliZ Z false n ys) := fun ρ w hB hv hρ => by
  refine (h ρ w hB hv hρ).mono fun x w' hx => ⟨hx.1, ?_⟩
  have g1 : (blk b T xs).Of w' undef := D.Of.grow (hv k _ hk hl) hx.1
  exact ⟨_, _, hx.2, hq, nofun, RowZ.blk g1.1 g1.2 hz hy⟩
theorem OpOk.byB {b T k q : Nat} {l : List UInt8} (h : OpOk P B o E (.v (.slice (some ⟨b, 0, none⟩) l.length q))) (hq : l.length ≤ q) (hm : q ≤ maxLen) (hk : vbase ≤ k) (hl : E.look k = some (blk b T (l.map byteV))) : OpOk P B o E (bytes l q) := fun ρ w hB hv hρ => by
  refine (h ρ w hB hv hρ).mono fun x w' hx => ⟨hx.1, ?_⟩
  have g1 : (blk b T (l.map byteV)).Of w' undef := D.Of.grow (hv k _ hk hl) hx.1
  rw [show x = _ from hx.2]
  exact slice_bytes l rfl hq hm (by rw [List.drop_zero]; exact List.take_of_length_le (by rw [List.length_map]; exact Nat.le_refl _)) _ _ g1.1 g1.2
end
section
variable {P : Program} {B : Nat} {E : Env} {dst : Option Tmp} {ty : TypeId} {pos : String} {after : Array Edge} {guard : Option (Nat × Bool)}
/-- A literal of an operation whose data is told by a fact. -/
theorem ok_buildOp {Z : TypeId → Nat → Prop} {t : TypeId} {ps : Array (Nat × Operand)} {x y z : Operand} {p : OpA} {f : D} (hps : ps.toList = [(0, x), (1, y), (2, z)]) (hb : ∀ (k : UInt8) (i : Int) (A₁ : Option Addr) (n₁ q₁ : Nat), P.built t [(0, byteV k), (1, .int .i64 i), (2, .slice A₁ n₁ q₁)] = some #[byteV k, .int .i64 i, .slice A₁ n₁ q₁])
    (hx : E.at x = some (.v (byteV p.k))) (hy : E.at y = some (.v (.int .i64 p.i))) (hz : E.at z = some f) (hf : Le f (sliZ Z false p.d.length (p.d.map byteV))) : OpOk P B ⟨dst, .build t ps, ty, pos, after, guard⟩ E (opZ Z p) := fun ρ w _ _ hρ => by
  have h1 : ρ x = byteV p.k := hρ x (by simp [Op.operands, hps]) _ hx
  have h2 : ρ y = .int .i64 p.i := hρ y (by simp [Op.operands, hps]) _ hy
  have h3 := hf.of (hρ z (by simp [Op.operands, hps]) _ hz)
  obtain ⟨A₁, q₁, e1, k1⟩ := id h3
  have hus : (ps.map fun (i, x) => (i, ρ x)).toList = [(0, byteV p.k), (1, .int .i64 p.i), (2, .slice A₁ p.d.length q₁)] := by
    rw [Array.toList_map, hps]; simp [e1, h1, h2]
  have hr := run_build (P := P) w t (ps.map fun (i, x) => (i, ρ x)) #[byteV p.k, .int .i64 p.i, .slice A₁ p.d.length q₁] (by rw [hus]; exact hb _ _ _ _ _)
  exact out_val (x := aggV [byteV p.k, .int .i64 p.i, .slice A₁ p.d.length q₁]) (w' := w) (by simp [execOp, hr, aggV]) ⟨Grow.refl w, _, rfl, rfl, by rw [← e1]; exact h3⟩
end
/-- The parts of a literal, each of sz cells as a fact says. -/
def PartsF (E : Env) (sz : Nat) : List D → List (Nat × Operand) → Nat → Prop
  | [], [], _ => True
  | d :: ds, (i, x) :: ps, k => i = k ∧ (∃ f, E.at x = some f ∧ Le f d) ∧ Agg sz d ∧ PartsF E sz ds ps (k + 1)
  | _, _, _ => False
theorem fill_at {at_ : Nat} : ∀ (cs pre mid zs : List Value), pre.length = at_ → cs.length ≤ zs.length → (cs.zipIdx mid.length).foldl (fun ds (x : Value × Nat) => ds.setIfInBounds (at_ + x.2) x.1) (pre ++ mid ++ zs).toArray = (pre ++ mid ++ cs ++ zs.drop cs.length).toArray
  | [], pre, mid, zs, _, _ => by simp
  | c :: cs, pre, mid, [], _, h => by simp at h
  | c :: cs, pre, mid, z :: zs, hp, h => by
    rw [List.zipIdx_cons, List.foldl_cons]
    have h1 : ((pre ++ mid ++ z :: zs).toArray.setIfInBounds (at_ + mid.length) c) = (pre ++ (mid ++ [c]) ++ zs).toArray := by
      rw [List.setIfInBounds_toArray, List.set_append_right _ _ (by rw [List.length_append, hp]; exact Nat.le_refl _), List.length_append, hp, Nat.sub_self, List.set_cons_zero]
      simp
    have h2 := fill_at cs pre (mid ++ [c]) zs hp (by simpa using h)
    rw [List.length_append, List.length_singleton] at h2
    show (cs.zipIdx (mid.length + 1)).foldl _ ((pre ++ mid ++ z :: zs).toArray.setIfInBounds (at_ + mid.length) c) = _
    rw [h1, h2]
    simp
theorem fill_parts {sz : Nat} {w : World} {E : Env} {ρ : Operand → Value} : ∀ {ds : List D} {ps : List (Nat × Operand)} {k : Nat} {pre zs : List Value}, PartsF E sz ds ps k → (∀ x ∈ ps.map (·.2), ∀ e, E.at x = some e → e.Of w (ρ x)) → pre.length = k * sz → zs.length = ds.length * sz →
    ∃ us : List Value, us.length = ds.length * sz ∧ Instr.fill (fun j => some (j * sz, sz)) (pre ++ zs).toArray (ps.map fun p => (p.1, ρ p.2)) = some (pre ++ us).toArray ∧ us.all (·.oneCell') = true ∧ ∀ (j : Nat) (d : D), ds[j]? = some d → d.Of w (aggV ((us.drop (j * sz)).take sz))
  | [], [], k, pre, zs, _, _, hp, hz => by
    have : zs = [] := List.length_eq_zero_iff.1 (by simpa using hz)
    subst this
    exact ⟨[], by simp, by simp [Instr.fill], rfl, fun j d hd => by simp at hd⟩
  | [], _ :: _, _, _, _, h, _, _, _ => h.elim
  | _ :: _, [], _, _, _, h, _, _, _ => h.elim
  | d :: ds, (i, x) :: ps, k, pre, zs, ⟨hi, ⟨f, hf, hle⟩, hag, hr⟩, hρ, hp, hz => by
    subst hi
    have hd := hle.of (hρ x (by simp) f hf)
    obtain ⟨cs, hx, hc, h1⟩ := hag _ _ _ hd
    have hz' : sz ≤ zs.length := by rw [hz, List.length_cons, Nat.succ_mul]; omega
    obtain ⟨us, hu1, hu2, hu3, hu4⟩ := fill_parts (pre := pre ++ cs) (zs := zs.drop sz) hr (fun y hy => hρ y (by simp only [List.map_cons, List.mem_cons]; exact .inr hy)) (by rw [List.length_append, hp, hc, Nat.succ_mul]) (by rw [List.length_drop, hz, List.length_cons, Nat.succ_mul]; omega)
    refine ⟨cs ++ us, by rw [List.length_append, hc, hu1, List.length_cons, Nat.succ_mul, Nat.add_comm], ?_, by rw [List.all_append, h1, hu3]; rfl, fun j d' hd' => ?_⟩
    · simp only [List.map_cons]
      have hcc : (aggV cs).cells = cs.toArray := rfl
      unfold Instr.fill
      rw [hx, hcc]
      simp only [List.size_toArray, hc, beq_self_eq_true]
      have hf := fill_at cs pre [] zs hp (by rw [hc]; exact hz')
      rw [List.append_nil, List.length_nil] at hf
      rw [if_neg (by rw [List.length_append, hp]; simp; omega), ← Array.foldl_toList, Array.toList_zipIdx, hf, hc, ← List.append_assoc]
      exact hu2
    · cases j with
      | zero =>
        simp only [List.getElem?_cons_zero, Option.some.injEq] at hd'; subst hd'
        rw [Nat.zero_mul, List.drop_zero, List.take_left' hc, ← hx]; exact hd
      | succ j =>
        rw [List.getElem?_cons_succ] at hd'
        have := hu4 j d' hd'
        rwa [show ((cs ++ us).drop ((j + 1) * sz)) = us.drop (j * sz) from by rw [Nat.succ_mul, Nat.add_comm, ← List.drop_drop, List.drop_left' hc]]
section
variable {P : Program} {B : Nat} {E : Env} {dst : Option Tmp} {ty : TypeId} {pos : String} {after : Array Edge} {guard : Option (Nat × Bool)}
/-- A literal of structs, each told by a fact. -/
theorem ok_buildK {t e : TypeId} {z : Value} {nb sz n : Nat} {ps : Array (Nat × Operand)} (ds : List D) (ht : P.underlying t = some (.slice e)) (hs : InfoP P e z sz nb) (hz : z.cells.size = sz) (hl : ds.length = n) (h0 : n * sz ≤ 65536) (hsz : 0 < n * sz) (hp : PartsF E sz ds ps.toList 0) :
    OpOk P B ⟨dst, .buildSlice t n ps, ty, pos, after, guard⟩ E (lstK sz ds) := fun ρ w hB hv hρ => by
  obtain ⟨i, hi, hzv, hsize, _⟩ := hs.get
  subst hl
  subst hsize
  obtain ⟨us, hu1, hu2, hu3, hu4⟩ := fill_parts (w := w) (ρ := ρ) (pre := []) (zs := ((Array.range (ds.length * i.size)).map (z.cells[· % z.cells.size]!)).toList) hp (fun x hx e he => hρ x (by simpa [Op.operands] using hx) e he) (by simp) (by simp)
  have hr := run_buildSlice (P := P) w t e ds.length (ps.map fun (i, x) => (i, ρ x)) us.toArray i z ht hi hzv (by omega) (by omega) (by
    rw [List.nil_append, Array.toArray_toList, List.nil_append] at hu2
    rw [Array.toList_map]
    exact hu2)
  have hgr : Grow w (w.alloc (.cells us.toArray e)) := Grow.alloc w _
  have hh : (w.alloc (.cells us.toArray e)).heap[w.heap.size]? = some (.cells us.toArray e (0, 0)) := heap_alloc_new w _
  refine out_val (x := .slice (some ⟨w.heap.size, 0, none⟩) ds.length ds.length) (w' := w.alloc (.cells us.toArray e)) (by simp [execOp, hr]) ⟨hgr, _, _, rfl, fun j d hd => ?_⟩
  have hj : j < ds.length := (List.getElem?_eq_some_iff.1 hd).1
  refine ⟨_, _, rfl, by simp, part_get hu1 hj, fun k u hk => ?_, D.Of.grow (hu4 j d hd) hgr⟩
  rw [List.getElem?_take] at hk
  split at hk
  · rw [List.getElem?_drop] at hk
    rw [add_lit0, Nat.zero_add]
    simp only [World.cell?, hh]
    simpa using hk
  · cases hk
end
theorem lstE_le {e : TypeId} {m : Nat} {ds ds' : List D} (hl : ds.length = ds'.length) (h : ∀ (i : Nat) (d d' : D), ds[i]? = some d → ds'[i]? = some d' → Le d d') : Le (lstE e m ds) (lstE e m ds') := fun B w x ⟨A, q, xs, h1, h2, h3, h4, h5⟩ => ⟨A, q, xs, by rw [← hl]; exact h1, by omega, by rw [← hl]; exact h3, h4, fun i d' hd' => by
  have hi : i < ds.length := by have := (List.getElem?_eq_some_iff.1 hd').1; omega
  exact h i _ d' (List.getElem?_eq_getElem hi) hd' _ _ _ (h5 i _ (List.getElem?_eq_getElem hi))⟩
theorem lstK_le {m : Nat} {ds ds' : List D} (hl : ds.length = ds'.length) (h : ∀ (i : Nat) (d d' : D), ds[i]? = some d → ds'[i]? = some d' → Le d d') : Le (lstK m ds) (lstK m ds') := fun B w x ⟨A, q, h1, h2⟩ => ⟨A, q, by rw [← hl]; exact h1, fun i d' hd' => by
  have hi : i < ds.length := by have := (List.getElem?_eq_some_iff.1 hd').1; omega
  obtain ⟨ad, cs, k1, k2, k3, k4, k5⟩ := h2 i _ (List.getElem?_eq_getElem hi)
  exact ⟨ad, cs, k1, k2, k3, k4, h i _ d' (List.getElem?_eq_getElem hi) hd' _ _ _ k5⟩⟩
theorem map_le {L : List OpA} {f g : OpA → D} (h : ∀ o, Le (f o) (g o)) : ∀ (i : Nat) (d d' : D), (L.map f)[i]? = some d → (L.map g)[i]? = some d' → Le d d' := fun i d d' hd hd' => by
  rw [List.getElem?_map] at hd hd'
  cases hx : L[i]? with
  | none => rw [hx] at hd; cases hd
  | some o =>
    rw [hx] at hd hd'
    injection hd with hd; injection hd' with hd'
    subst hd; subst hd'; exact h o
/-- A list of operations, as a call asks for it. -/
theorem ops_any {e : TypeId} {Z : TypeId → Nat → Prop} {L : List OpA} : Le (lstE e 3 (L.map (opZ Z))) (lstK 3 (L.map opG)) := (lstE_lstK (by decide)).trans (lstK_le (by simp) (map_le fun o => op_any))
theorem Surv.ops {B T g : Nat} {e : TypeId} {Z : TypeId → Nat → Prop} {L : List OpA} (h : e ≠ T) (hz : ¬ Z T g) : Surv B T g (Go.Proofs.Ytggijkmlmklneaa.lstE e 3 (L.map (opZ Z))) := Surv.lstE h fun d hd => by
  obtain ⟨o, _, rfl⟩ := List.mem_map.1 hd
  exact Surv.opz hz
theorem ops_mono {e : TypeId} {Z Z' : TypeId → Nat → Prop} {L : List OpA} (h : ∀ e b, Z e b → Z' e b) : Le (lstE e 3 (L.map (opZ Z))) (lstE e 3 (L.map (opZ Z'))) := lstE_le (by simp) (map_le fun o => op_mono h)
theorem ops_cut {e : TypeId} {Z : TypeId → Nat → Prop} {L : List OpA} {w : World} {x : Value} (h : (lstE e 3 (L.map (opZ Z))).Of w x) : (lstE e 3 (L.map (opZ (zCut Z w.heap.size)))).Of w x := by
  obtain ⟨A, q, xs, h1, h2, h3, h4, h5⟩ := h
  refine ⟨A, q, xs, by rw [List.length_map] at h1 ⊢; exact h1, by simpa using h2, by simpa using h3, h4, fun i d hd => ?_⟩
  rw [List.getElem?_map] at hd
  cases hx : L[i]? with
  | none => rw [hx] at hd; cases hd
  | some o =>
    rw [hx] at hd; injection hd with hd; subst hd
    exact op_cut (h5 i (opZ Z o) (by rw [List.getElem?_map, hx]; rfl))
section
variable {P : Program} {w₀ : World} {n : Nat} {c : Code} {E : Env} {Q : Exit → Act → World → Prop}
/-- A struct whose last field is a slice gets names. -/
theorem A.nameTG {t k B' m : Nat} {ex : Bool} {pre xs : List Value} (ht : E.look t = some (old B' (tlD pre (rowG ex m xs)))) (h : ∀ (A₁ : Option Addr) (q₁ : Nat), m ≤ q₁ → A κ P w₀ n c ((t, .v (aggV (pre ++ [.slice A₁ m q₁]))) :: (k, old B' (memR A₁ xs)) :: E) Q) : A κ P w₀ n c E Q := fun ac w g hs => by
  obtain ⟨hB, v, h0, h1, A₁, q₁, rfl, h2, h3, h4⟩ := hs.of t _ ht
  exact h A₁ q₁ h2 ac w g ((hs.push (t := k) (d := old B' (memR A₁ xs)) ⟨hB, h4⟩).push (t := t) (d := .v _) h1)
end
end Go.Proofs.Ytggijkmlmklneaa
namespace Go.Proofs.Ytggijkmlmklneaa
open Go Go.RowKit
set_option linter.unusedVariables false
set_option maxRecDepth 20000
set_option linter.unusedSimpArgs false
theorem buildA (A₁ : Option Addr) (n₁ q₁ : Nat) (A₂ : Option Addr) (n₂ q₂ : Nat) : Try.prog.built 35 [(0, .slice A₁ n₁ q₁), (1, .slice A₂ n₂ q₂)] = some #[.slice A₁ n₁ q₁, .slice A₂ n₂ q₂] := by kernel_rfl
def plaB (s : UInt8) : List UInt8 := (List.range 32).map fun i => UInt8.ofNat (s.toNat * (i + 1))
theorem plaB_len (s : UInt8) : (plaB s).length = 32 := by simp [plaB]
theorem plaB_get {s : UInt8} {i : Nat} (h : i < 32) : (plaB s)[i]? = some (UInt8.ofNat (s.toNat * (i + 1))) := by simp [plaB, h]
def plain (s : UInt8) : Bk := ⟨plaB s, plaB_len s⟩
theorem wrap_mul8 (s : UInt8) (k : Nat) : Value.int .u8 (IntKind.u8.wrap ((s.toNat : Int) * ((UInt8.ofNat k).toNat : Int))) = byteV (UInt8.ofNat (s.toNat * k)) := by
 show _ = Value.int .u8 _
 congr 1
 rw [show IntKind.u8.wrap ((s.toNat : Int) * ((UInt8.ofNat k).toNat : Int)) = ((s.toNat : Int) * ((UInt8.ofNat k).toNat : Int)) % 256 from rfl]
 simp only [UInt8.toNat_ofNat']
 rw [← Int.natCast_mul, show (256 : Int) = ((256 : Nat) : Int) from rfl, ← Int.natCast_emod, Nat.mul_mod, Nat.mod_mod, ← Nat.mul_mod]

theorem infoU : InfoP Try.prog 5 (.int .u8 0) 1 1 := by unfold InfoP; kernel_rfl
theorem byt_at {l : List UInt8} {i : Nat} (h : i < l.length) : ((l.map byteV).drop (i * 1)).take 1 = [byteV (l.getD i 0)] := by
 rw [Nat.mul_one, List.drop_eq_getElem_cons (by rw [List.length_map]; exact h)]
 simp [List.getD, h]
theorem A.memA {P : Program} {n : Nat} {w₀ : World} {E : Env} {κ : Cx} {c : Code} {Q : Exit → Act → World → Prop} {k k' b : Nat} {e : TypeId} {xs r : List Value} (hk : E.look k = some (blk b e (xs ++ r))) (h : A κ P w₀ n c ((k', old (b + 1) (memR (some ⟨b, 0, none⟩) xs)) :: E) Q) : A κ P w₀ n c E Q := fun ac w g hs => by
 obtain ⟨m1, m2⟩ := hs.of k _ hk
 exact h ac w g (hs.push (t := k') (d := old (b + 1) (memR (some ⟨b, 0, none⟩) xs)) ⟨m1, fun j u hu => blk_rowIn (Nat.lt_succ_self b) m2 j u (app_get j u hu)⟩)
set_option maxHeartbeats 1000000 in
theorem Plain_fn (s : UInt8) : Fn Try.prog 29 [.v (byteV s)] (.v (aggV (bkV (plain s)))) := by
 refine FV Try.func29 rfl Try.ntmps29 rfl fun w₀ => ?_
 refine GS ?_
 refine TN 0 ?_
 refine RN ?_
 refine ZN 1000002 zero41 fun b2 ⟨hBb2, hb2⟩ => ?_
 refine TL ?_
 refine RN ?_
 refine GS ?_
 refine TN 0 ?_
 refine RN ?_
 refine ZN 1000003 zero41 fun b3 ⟨hBb3, hb3⟩ => ?_
 have hlt_b2_b3 := hb3 1000002 b2 _ _ rfl
 refine TL ?_
 refine RN ?_
 refine QS ?_
 refine GV rfl ?_
 refine A.block ?_
 refine A.loop (ι := Nat) (fun i => i ≤ 32) (fun i => [(0, .v (byteV s)), (2, .v (ptr b2)), (3, .v (ptr b3)), (4, .v (nI (i))), (1000002, blk b2 41 (bkV zB)), (1000003, blk b3 41 (((plaB s).take i).map byteV ++ List.replicate ((plaB s).length - i) (.int .u8 0)))]) (fun i => 32 - i) 0 ?_ ?_ ?_
 ·exact Nat.zero_le _
 ·exact (KC 0 rfl (KC 2 rfl (KC 3 rfl (KE 4 rfl (by rfl) (KC 1000002 rfl (KE 1000003 rfl (by rw [plaB_len]; rfl) KN))))))
 intro i hG
 refine QS ?_
 refine GV rfl ?_
 refine A.cond rfl (fun hc6 => ?_) (fun hc6 => ?_)
 ·have hi : i < 32 := by simp at hc6; omega
  refine QK ?_
  refine QSB ?_
  refine GE ?_
  refine TF 7 ?_
  refine RV 4 rfl ?_
  refine RZ (nI (i + 1)) (wrap_eq (by omega) (by omega)) ?_
  refine RS (ok_conv Try.underlying3 Try.underlying5 rfl) ?_; refine RZ (byteV (UInt8.ofNat (i + 1))) (by rw [wrap_u8_nat]; rfl) ?_
  refine RB rfl rfl rfl ?_
  refine RZ (byteV (UInt8.ofNat (s.toNat * (i + 1)))) (wrap_mul8 s (i + 1)) ?_
  refine RS (ok_index0 (i) Try.underlying41 info5 rfl rfl (rfl) (hi)) ?_
  refine RN ?_
  refine ⟨_, eff_storeS (n := 17) (s := 1000003) info5 rfl rfl rfl hBb3 rfl (by simp [plaB_len]; omega) (LB 1000002 rfl (LW [0, 2, 3, 4] rfl)), ?_⟩
  refine TL ?_
  refine RN ?_
  refine End.normal_block ?_
  refine EN ?_
  refine GTE ?_
  refine RV 2 rfl ?_
  refine RZ (nI (i + 1)) (wrap_eq (by omega) (by omega)) ?_
  refine RVN 1 rfl ?_
  refine End.normal_then ?_
  refine End.again (i + 1) ?_ ?_ ?_
  ·show _ ≤ _; omega
  ·show _ - _ < _ - _; omega
  ·exact (KC 0 rfl (KC 2 rfl (KC 3 rfl (KC 4 rfl (KC 1000002 rfl (KE 1000003 rfl (congrArg _ (fill_step (plaB_get hi))) KN))))))
 ·have hi2 : i = 32 := by simp at hc6; omega
  refine A.exit ?_
  refine End.exit_then ?_
  refine End.exit_then ?_
  refine End.exit_here ?_
  refine EN ?_
  refine GS ?_
  refine TF 1 ?_
  refine RS (ok_loadA (s := 1000003) (by decide) Try.underlying41 rfl (size41.of (by rw [List.length_append, List.length_map, List.length_take, List.length_replicate, plaB_len]; omega)) rfl rfl) ?_; refine RZ (aggV (bkV (plain s))) (by subst hi2; rw [plaB_len, Nat.sub_self, List.replicate_zero, List.append_nil, List.take_of_length_le (by rw [plaB_len]; exact Nat.le_refl _)]; rfl) ?_
  refine RN ?_
  refine ⟨_, eff_storeA (n := 17) (s := 1000002) (size41.of (bk_len _)) rfl rfl (bk_one _) hBb2 rfl (by rw [bk_len]; rfl) (LV 2 rfl (LB 1000003 rfl LN)), ?_⟩
  refine TL ?_
  refine RN ?_
  refine A.ret ?_
  exact End.cell1 (s := 1000002) rfl Try.underlying41 rfl (size41.of (bk_len _)) rfl rfl (Le.refl _)
theorem rNew_fn (n : Nat) (h2 : n ≤ 4096) : FnB Try.prog 11 [.v (nI (n))] (fun B => arrZ (zOwn 41 B) true (zA n)) := by
 refine FnB.of Try.func11 rfl (by kernel_rfl) Try.ntmps11 (by simp) (fun w => [(0, .v (nI (n)))]) (fun w => (Start.v rfl Start.nil)) fun w₀ => ?_
 refine GS ?_
 refine TN 0 ?_
 refine RN ?_
 refine ZN 1000002 zero35 fun b2 ⟨hBb2, hb2⟩ => ?_
 refine TL ?_
 refine RN ?_
 refine GD ?_
 refine TD 5 ?_
 refine RM rfl ?_
 refine RS ((ok_makeB n Try.underlying28 infoB (by decide) rfl rfl rfl (by omega))) ?_
 refine RM rfl ?_
 refine RS ((ok_makeB n Try.underlying28 infoB (by decide) rfl rfl rfl (by omega))) ?_
 refine RS (ok_buildAr (Z := zOwn 41 w₀.heap.size) (ex := true) (a := zA n) rfl buildA rfl newD_z rfl newD_z') ?_
 refine RN ?_
 refine ⟨_, eff_storeK (n := 8) (s := 1000002) size35 rfl rfl (Le.refl _) (Agg.arr) hBb2 rfl (rfl) (Surv.arr (fun h => absurd h.1 (by decide))) (LV 2 rfl LN), ?_⟩
 refine TL ?_
 refine RN ?_
 refine A.ret ?_
 exact End.varK1 (s := 1000002) rfl Try.underlying35 rfl size35 rfl rfl (Le.refl _)
set_option maxHeartbeats 2000000 in
theorem Copy_fn (a : Ar) (p1 : 0 < a.now.length) (p2 : 0 < a.dur.length) (h1 : a.now.length ≤ 4096) (h2 : a.dur.length ≤ 4096)  : FnB Try.prog 33 [arrD false a] (fun B => newA B 41 false a) := by
 refine FnB.of Try.func33 rfl (by kernel_rfl) Try.ntmps33 (by simp) (fun w => [(0, old w.heap.size (arrD false a))]) (fun w => (Start.old rfl Start.nil)) fun w₀ => ?_
 refine A.nameAr (t := 0) (k₁ := 1000201) (k₂ := 1000202) rfl fun A₁ q₁ A₂ q₂ hq₁ hq₂ he₁ he₂ => ?_
 refine GS ?_
 refine TN 0 ?_
 refine RN ?_
 refine ZB 1000001 rfl fun b1 ⟨hBb1, hb1⟩ => ?_
 refine TN 1 ?_
 refine RN ?_
 refine ZN 1000002 zero35 fun b2 ⟨hBb2, hb2⟩ => ?_
 have hlt_b1_b2 := hb2 1000001 b1 _ _ rfl
 refine TL ?_
 refine RN ?_
 refine GD ?_
 refine RunTK.newG 5 (by decide) rfl (.inr (by kernel_rfl)) ?_
 refine RS (ok_field field35_0 (by decide) rfl) ?_
 refine RS (OpOk.slO (ex := false) (k₁ := 1000201) (ok_loadV (s := 1000001) (by decide) Try.underlying28 rfl rfl rfl (rfl)) hq₁ nofun (by decide) rfl) ?_
 refine RS ((ok_appendNil Try.underlying28 infoB (by decide) (by decide) (by kernel_rfl) rfl ((Le.old _ _).trans rowG_rowD) (bks_one _) (bks_len _) (by omega))) ?_
 refine RS (ok_field field35_1 (by decide) rfl) ?_
 refine RS (OpOk.slO (ex := false) (k₁ := 1000202) (ok_loadV (s := 1000001) (by decide) Try.underlying28 rfl rfl rfl (rfl)) hq₂ nofun (by decide) rfl) ?_
 refine RN ?_
 refine ⟨_, _, _, eff_two (n := 10) (d := 8) (r := 5) (sz := 32) (k₁ := 1000301) (k₂ := 1000302) rfl rfl rfl p1 (fun B' => ok_appendNil Try.underlying28 infoB (by decide) (by decide) (by kernel_rfl) rfl ((Le.old _ _).trans rowG_rowD) (bks_one _) (bks_len _) (by omega)) p2 (by decide) (by decide) (by decide) (by decide) (by decide) (by decide), fun ⟨c1, c2, u1, u2, r1, r2⟩ hc => ?_⟩
 have hBc1 := hc.1
 have hBc2 := hc.2.1
 have hne : c1 ≠ c2 := hc.2.2.1
 have hu1 := hc.2.2.2.1
 have hu2 := hc.2.2.2.2
 dsimp only at hBc1 hBc2 hu1 hu2
 refine TD 7 ?_
 refine RS (ok_litS [(0, .slice (some ⟨c1, 0, none⟩) a.now.length u1), (1, .slice (some ⟨c2, 0, none⟩) a.dur.length u2)] [.slice (some ⟨c1, 0, none⟩) a.now.length u1, .slice (some ⟨c2, 0, none⟩) a.dur.length u2] ⟨rfl, rfl, rfl, rfl, trivial⟩ (buildA _ _ _ _ _ _)) ?_
 refine RN ?_
 refine ZA 1000002 (size35.of rfl) hBb2 rfl rfl rfl (LV 2 rfl (LB 1000001 rfl (LO 1000201 rfl (LO 1000202 rfl (LT 1000301 rfl (LT 1000302 rfl LN)))))) ?_
 refine TL ?_
 refine RN ?_
 refine A.ret ?_
 exact End.newA (s := 1000002) (k₁ := 1000301) (k₂ := 1000302) rfl Try.underlying35 rfl size35 rfl rfl rfl rfl hBc1 hBc2 hne hu1 hu2 nofun
theorem rBad_f (n : Int) (o : OpA) (hk : o.k.toNat = 3) : Fn Try.prog 24 [.v (.int .i64 (n)), opG o] (.v (.bool false)) := by
 refine Fn.of Try.func24 rfl (by kernel_rfl) Try.ntmps24 (by simp) (fun w => [(0, .v (.int .i64 (n))), (1, old w.heap.size (opG o))]) (fun w => (Start.v rfl (Start.old rfl Start.nil))) fun w₀ => ?_
 refine A.nameOp (t := 1) (k := 1000203) rfl fun A₁ q₁ hq₁ => ?_
 refine GS ?_
 refine TN 0 ?_
 refine RN ?_
 refine ZB 1000003 rfl fun b3 ⟨hBb3, hb3⟩ => ?_
 refine TL ?_
 refine RVN 1 rfl ?_
 refine QS ?_
 refine GT ?_
 refine RS (ok_field field47_0 (by decide) rfl) ?_
 refine RLV 1000003 Try.underlying44 rfl rfl rfl ?_
 refine RB rfl rfl rfl ?_
 refine RT ?_
 refine RN ?_
 refine A.yes rfl ?_
 refine GV rfl ?_
 refine A.ret ?_
 refine End.ret_then ?_
 exact ER rfl rfl
theorem rBad_o (n : Int) (o : OpA) (h1 : o.k.toNat ≠ 1) (h2 : o.k.toNat ≠ 2) (h3 : o.k.toNat ≠ 3) : Fn Try.prog 24 [.v (.int .i64 (n)), opG o] (.v (.bool true)) := by
 refine Fn.of Try.func24 rfl (by kernel_rfl) Try.ntmps24 (by simp) (fun w => [(0, .v (.int .i64 (n))), (1, old w.heap.size (opG o))]) (fun w => (Start.v rfl (Start.old rfl Start.nil))) fun w₀ => ?_
 refine A.nameOp (t := 1) (k := 1000203) rfl fun A₁ q₁ hq₁ => ?_
 refine GS ?_
 refine TN 0 ?_
 refine RN ?_
 refine ZB 1000003 rfl fun b3 ⟨hBb3, hb3⟩ => ?_
 refine TL ?_
 refine RVN 1 rfl ?_
 refine QS ?_
 refine GT ?_
 refine RS (ok_field field47_0 (by decide) rfl) ?_
 refine RLV 1000003 Try.underlying44 rfl rfl rfl ?_
 refine RB rfl rfl rfl ?_
 refine RF ?_
 refine RN ?_
 refine A.no rfl ?_
 refine QK ?_
 refine QS ?_
 refine GT ?_
 refine RS (ok_field field47_0 (by decide) rfl) ?_
 refine RLV 1000003 Try.underlying44 rfl rfl rfl ?_
 refine RB rfl rfl rfl ?_
 refine RT ?_
 refine RM rfl ?_
 refine RQ (ok_field field47_0 (by decide) rfl) ?_
 refine RQ (ok_loadV (s := 1000003) (by decide) Try.underlying44 rfl rfl rfl (rfl)) ?_
 refine RQ (ok_bin rfl rfl rfl) ?_
 refine RT ?_
 refine RVN 12 rfl ?_
 refine A.yes rfl ?_
 refine GV rfl ?_
 refine A.sub (Sv [4, 1000003, 1000203] rfl) ?_
 refine A.ret ?_
 refine End.ret_then ?_
 exact ER rfl rfl
theorem rBad_r1 (n : Int) (o : OpA) (hk : o.k.toNat = 1) (hi : o.i < 0) : Fn Try.prog 24 [.v (.int .i64 (n)), opG o] (.v (.bool true)) := by
 refine Fn.of Try.func24 rfl (by kernel_rfl) Try.ntmps24 (by simp) (fun w => [(0, .v (.int .i64 (n))), (1, old w.heap.size (opG o))]) (fun w => (Start.v rfl (Start.old rfl Start.nil))) fun w₀ => ?_
 refine A.nameOp (t := 1) (k := 1000203) rfl fun A₁ q₁ hq₁ => ?_
 refine GS ?_
 refine TN 0 ?_
 refine RN ?_
 refine ZB 1000003 rfl fun b3 ⟨hBb3, hb3⟩ => ?_
 refine TL ?_
 refine RVN 1 rfl ?_
 refine QS ?_
 refine GT ?_
 refine RS (ok_field field47_0 (by decide) rfl) ?_
 refine RLV 1000003 Try.underlying44 rfl rfl rfl ?_
 refine RB rfl rfl rfl ?_
 refine RF ?_
 refine RN ?_
 refine A.no rfl ?_
 refine QK ?_
 refine QS ?_
 refine GT ?_
 refine RS (ok_field field47_0 (by decide) rfl) ?_
 refine RLV 1000003 Try.underlying44 rfl rfl rfl ?_
 refine RB rfl rfl rfl ?_
 refine RF ?_
 refine RV 6 rfl ?_
 refine RQ (ok_field field47_1 (by decide) rfl) ?_
 refine RQ (ok_loadV (s := 1000003) (by decide) Try.underlying3 rfl rfl rfl (rfl)) ?_
 refine RQ (ok_bin rfl rfl rfl) ?_
 refine RT ?_
 refine RVN 7 rfl ?_
 refine A.yes rfl ?_
 refine GV rfl ?_
 refine A.sub (Sv [4, 1000003, 1000203] rfl) ?_
 refine A.ret ?_
 refine End.ret_then ?_
 exact ER rfl rfl
theorem rBad_r2 (n : Int) (o : OpA) (hk : o.k.toNat = 1) (hi : ¬ o.i < 0) (hj : n ≤ o.i) : Fn Try.prog 24 [.v (.int .i64 (n)), opG o] (.v (.bool true)) := by
 refine Fn.of Try.func24 rfl (by kernel_rfl) Try.ntmps24 (by simp) (fun w => [(0, .v (.int .i64 (n))), (1, old w.heap.size (opG o))]) (fun w => (Start.v rfl (Start.old rfl Start.nil))) fun w₀ => ?_
 refine A.nameOp (t := 1) (k := 1000203) rfl fun A₁ q₁ hq₁ => ?_
 refine GS ?_
 refine TN 0 ?_
 refine RN ?_
 refine ZB 1000003 rfl fun b3 ⟨hBb3, hb3⟩ => ?_
 refine TL ?_
 refine RVN 1 rfl ?_
 refine QS ?_
 refine GT ?_
 refine RS (ok_field field47_0 (by decide) rfl) ?_
 refine RLV 1000003 Try.underlying44 rfl rfl rfl ?_
 refine RB rfl rfl rfl ?_
 refine RF ?_
 refine RN ?_
 refine A.no rfl ?_
 refine QK ?_
 refine QS ?_
 refine GT ?_
 refine RS (ok_field field47_0 (by decide) rfl) ?_
 refine RLV 1000003 Try.underlying44 rfl rfl rfl ?_
 refine RB rfl rfl rfl ?_
 refine RF ?_
 refine RV 6 rfl ?_
 refine RQ (ok_field field47_1 (by decide) rfl) ?_
 refine RQ (ok_loadV (s := 1000003) (by decide) Try.underlying3 rfl rfl rfl (rfl)) ?_
 refine RQ (ok_bin rfl rfl rfl) ?_
 refine RF ?_
 refine RV 2 rfl ?_
 refine RQ (ok_field field47_1 (by decide) rfl) ?_
 refine RQ (ok_loadV (s := 1000003) (by decide) Try.underlying3 rfl rfl rfl (rfl)) ?_
 refine RV 2 rfl ?_
 refine RT ?_
 refine RVN 1 rfl ?_
 refine A.yes rfl ?_
 refine GV rfl ?_
 refine A.sub (Sv [4, 1000003, 1000203] rfl) ?_
 refine A.ret ?_
 refine End.ret_then ?_
 exact ER rfl rfl
theorem rBad_r3 (n : Int) (o : OpA) (hk : o.k.toNat = 1) (hi : ¬ o.i < 0) (hj : ¬ n ≤ o.i) : Fn Try.prog 24 [.v (.int .i64 (n)), opG o] (.v (.bool false)) := by
 refine Fn.of Try.func24 rfl (by kernel_rfl) Try.ntmps24 (by simp) (fun w => [(0, .v (.int .i64 (n))), (1, old w.heap.size (opG o))]) (fun w => (Start.v rfl (Start.old rfl Start.nil))) fun w₀ => ?_
 refine A.nameOp (t := 1) (k := 1000203) rfl fun A₁ q₁ hq₁ => ?_
 refine GS ?_
 refine TN 0 ?_
 refine RN ?_
 refine ZB 1000003 rfl fun b3 ⟨hBb3, hb3⟩ => ?_
 refine TL ?_
 refine RVN 1 rfl ?_
 refine QS ?_
 refine GT ?_
 refine RS (ok_field field47_0 (by decide) rfl) ?_
 refine RLV 1000003 Try.underlying44 rfl rfl rfl ?_
 refine RB rfl rfl rfl ?_
 refine RF ?_
 refine RN ?_
 refine A.no rfl ?_
 refine QK ?_
 refine QS ?_
 refine GT ?_
 refine RS (ok_field field47_0 (by decide) rfl) ?_
 refine RLV 1000003 Try.underlying44 rfl rfl rfl ?_
 refine RB rfl rfl rfl ?_
 refine RF ?_
 refine RV 6 rfl ?_
 refine RQ (ok_field field47_1 (by decide) rfl) ?_
 refine RQ (ok_loadV (s := 1000003) (by decide) Try.underlying3 rfl rfl rfl (rfl)) ?_
 refine RQ (ok_bin rfl rfl rfl) ?_
 refine RF ?_
 refine RV 2 rfl ?_
 refine RQ (ok_field field47_1 (by decide) rfl) ?_
 refine RQ (ok_loadV (s := 1000003) (by decide) Try.underlying3 rfl rfl rfl (rfl)) ?_
 refine RV 2 rfl ?_
 refine RF ?_
 refine RVN 1 rfl ?_
 refine A.no rfl ?_
 refine QK ?_
 refine GT ?_
 refine RS (ok_field field47_0 (by decide) rfl) ?_
 refine RLV 1000003 Try.underlying44 rfl rfl rfl ?_
 refine RB rfl rfl rfl ?_
 refine RF ?_
 refine RVN 7 rfl ?_
 refine A.sub (Sv [4, 1000003, 1000203] rfl) ?_
 refine A.ret ?_
 exact ER rfl rfl
theorem rBad_w1 (n : Int) (o : OpA) (hk : o.k.toNat = 2) (hi : o.i < 0) : Fn Try.prog 24 [.v (.int .i64 (n)), opG o] (.v (.bool true)) := by
 refine Fn.of Try.func24 rfl (by kernel_rfl) Try.ntmps24 (by simp) (fun w => [(0, .v (.int .i64 (n))), (1, old w.heap.size (opG o))]) (fun w => (Start.v rfl (Start.old rfl Start.nil))) fun w₀ => ?_
 refine A.nameOp (t := 1) (k := 1000203) rfl fun A₁ q₁ hq₁ => ?_
 refine GS ?_
 refine TN 0 ?_
 refine RN ?_
 refine ZB 1000003 rfl fun b3 ⟨hBb3, hb3⟩ => ?_
 refine TL ?_
 refine RVN 1 rfl ?_
 refine QS ?_
 refine GT ?_
 refine RS (ok_field field47_0 (by decide) rfl) ?_
 refine RLV 1000003 Try.underlying44 rfl rfl rfl ?_
 refine RB rfl rfl rfl ?_
 refine RF ?_
 refine RN ?_
 refine A.no rfl ?_
 refine QK ?_
 refine QS ?_
 refine GT ?_
 refine RS (ok_field field47_0 (by decide) rfl) ?_
 refine RLV 1000003 Try.underlying44 rfl rfl rfl ?_
 refine RB rfl rfl rfl ?_
 refine RT ?_
 refine RM rfl ?_
 refine RQ (ok_field field47_0 (by decide) rfl) ?_
 refine RQ (ok_loadV (s := 1000003) (by decide) Try.underlying44 rfl rfl rfl (rfl)) ?_
 refine RQ (ok_bin rfl rfl rfl) ?_
 refine RF ?_
 refine RV 2 rfl ?_
 refine RQ (ok_field field47_1 (by decide) rfl) ?_
 refine RQ (ok_loadV (s := 1000003) (by decide) Try.underlying3 rfl rfl rfl (rfl)) ?_
 refine RQ (ok_bin rfl rfl rfl) ?_
 refine RT ?_
 refine RVN 7 rfl ?_
 refine A.yes rfl ?_
 refine GV rfl ?_
 refine A.sub (Sv [4, 1000003, 1000203] rfl) ?_
 refine A.ret ?_
 refine End.ret_then ?_
 exact ER rfl rfl
theorem rBad_w2 (n : Int) (o : OpA) (hk : o.k.toNat = 2) (hi : ¬ o.i < 0) (hj : n ≤ o.i) : Fn Try.prog 24 [.v (.int .i64 (n)), opG o] (.v (.bool true)) := by
 refine Fn.of Try.func24 rfl (by kernel_rfl) Try.ntmps24 (by simp) (fun w => [(0, .v (.int .i64 (n))), (1, old w.heap.size (opG o))]) (fun w => (Start.v rfl (Start.old rfl Start.nil))) fun w₀ => ?_
 refine A.nameOp (t := 1) (k := 1000203) rfl fun A₁ q₁ hq₁ => ?_
 refine GS ?_
 refine TN 0 ?_
 refine RN ?_
 refine ZB 1000003 rfl fun b3 ⟨hBb3, hb3⟩ => ?_
 refine TL ?_
 refine RVN 1 rfl ?_
 refine QS ?_
 refine GT ?_
 refine RS (ok_field field47_0 (by decide) rfl) ?_
 refine RLV 1000003 Try.underlying44 rfl rfl rfl ?_
 refine RB rfl rfl rfl ?_
 refine RF ?_
 refine RN ?_
 refine A.no rfl ?_
 refine QK ?_
 refine QS ?_
 refine GT ?_
 refine RS (ok_field field47_0 (by decide) rfl) ?_
 refine RLV 1000003 Try.underlying44 rfl rfl rfl ?_
 refine RB rfl rfl rfl ?_
 refine RT ?_
 refine RM rfl ?_
 refine RQ (ok_field field47_0 (by decide) rfl) ?_
 refine RQ (ok_loadV (s := 1000003) (by decide) Try.underlying44 rfl rfl rfl (rfl)) ?_
 refine RQ (ok_bin rfl rfl rfl) ?_
 refine RF ?_
 refine RV 2 rfl ?_
 refine RQ (ok_field field47_1 (by decide) rfl) ?_
 refine RQ (ok_loadV (s := 1000003) (by decide) Try.underlying3 rfl rfl rfl (rfl)) ?_
 refine RQ (ok_bin rfl rfl rfl) ?_
 refine RF ?_
 refine RV 2 rfl ?_
 refine RQ (ok_field field47_1 (by decide) rfl) ?_
 refine RQ (ok_loadV (s := 1000003) (by decide) Try.underlying3 rfl rfl rfl (rfl)) ?_
 refine RV 2 rfl ?_
 refine RT ?_
 refine RVN 1 rfl ?_
 refine A.yes rfl ?_
 refine GV rfl ?_
 refine A.sub (Sv [4, 1000003, 1000203] rfl) ?_
 refine A.ret ?_
 refine End.ret_then ?_
 exact ER rfl rfl
theorem rBad_w3 (n : Int) (o : OpA) (hk : o.k.toNat = 2) (hi : ¬ o.i < 0) (hj : ¬ n ≤ o.i) : Fn Try.prog 24 [.v (.int .i64 (n)), opG o] (.v (.bool (decide (o.d.length ≠ 32)))) := by
 refine Fn.of Try.func24 rfl (by kernel_rfl) Try.ntmps24 (by simp) (fun w => [(0, .v (.int .i64 (n))), (1, old w.heap.size (opG o))]) (fun w => (Start.v rfl (Start.old rfl Start.nil))) fun w₀ => ?_
 refine A.nameOp (t := 1) (k := 1000203) rfl fun A₁ q₁ hq₁ => ?_
 refine GS ?_
 refine TN 0 ?_
 refine RN ?_
 refine ZB 1000003 rfl fun b3 ⟨hBb3, hb3⟩ => ?_
 refine TL ?_
 refine RVN 1 rfl ?_
 refine QS ?_
 refine GT ?_
 refine RS (ok_field field47_0 (by decide) rfl) ?_
 refine RLV 1000003 Try.underlying44 rfl rfl rfl ?_
 refine RB rfl rfl rfl ?_
 refine RF ?_
 refine RN ?_
 refine A.no rfl ?_
 refine QK ?_
 refine QS ?_
 refine GT ?_
 refine RS (ok_field field47_0 (by decide) rfl) ?_
 refine RLV 1000003 Try.underlying44 rfl rfl rfl ?_
 refine RB rfl rfl rfl ?_
 refine RT ?_
 refine RM rfl ?_
 refine RQ (ok_field field47_0 (by decide) rfl) ?_
 refine RQ (ok_loadV (s := 1000003) (by decide) Try.underlying44 rfl rfl rfl (rfl)) ?_
 refine RQ (ok_bin rfl rfl rfl) ?_
 refine RF ?_
 refine RV 2 rfl ?_
 refine RQ (ok_field field47_1 (by decide) rfl) ?_
 refine RQ (ok_loadV (s := 1000003) (by decide) Try.underlying3 rfl rfl rfl (rfl)) ?_
 refine RQ (ok_bin rfl rfl rfl) ?_
 refine RF ?_
 refine RV 2 rfl ?_
 refine RQ (ok_field field47_1 (by decide) rfl) ?_
 refine RQ (ok_loadV (s := 1000003) (by decide) Try.underlying3 rfl rfl rfl (rfl)) ?_
 refine RV 2 rfl ?_
 refine RF ?_
 refine RVN 1 rfl ?_
 refine A.no rfl ?_
 refine QK ?_
 refine GT ?_
 refine RS (ok_field field47_0 (by decide) rfl) ?_
 refine RLV 1000003 Try.underlying44 rfl rfl rfl ?_
 refine RB rfl rfl rfl ?_
 refine RT ?_
 refine RM rfl ?_
 refine RQ (ok_field field47_2 (by decide) rfl) ?_
 refine RQ (ok_loadV (s := 1000003) (by decide) Try.underlying45 rfl rfl rfl (rfl)) ?_
 refine RQ (ok_lenV Try.underlying45 rfl) ?_
 refine RQ (ok_bin rfl rfl rfl) ?_
 refine RZ (.bool (decide (o.d.length ≠ 32))) (by by_cases h : o.d.length = 32 <;> simp [h] <;> omega) ?_
 refine RVN 2 rfl ?_
 refine A.sub (Sv [4, 1000003, 1000203] rfl) ?_
 refine A.ret ?_
 exact ER rfl rfl
theorem rBad_fn (n : Int) (o : OpA) : Fn Try.prog 24 [.v (.int .i64 (n)), opG o] (.v (.bool (badA n o))) := by
 unfold badA
 by_cases h3 : o.k.toNat = 3
 ·rw [if_pos h3]; exact rBad_f n o h3
 rw [if_neg h3]
 by_cases h2 : o.k.toNat = 2
 ·by_cases hi : o.i < 0
  ·rw [if_pos (by omega)]; exact rBad_w1 n o h2 hi
  by_cases hj : n ≤ o.i
  ·rw [if_pos (by omega)]; exact rBad_w2 n o h2 hi hj
  ·rw [if_neg (by omega)]
   have := rBad_w3 n o h2 hi hj
   simpa [h2] using this
 by_cases h1 : o.k.toNat = 1
 ·by_cases hi : o.i < 0
  ·rw [if_pos (by omega)]; exact rBad_r1 n o h1 hi
  by_cases hj : n ≤ o.i
  ·rw [if_pos (by omega)]; exact rBad_r2 n o h1 hi hj
  ·rw [if_neg (by omega), decide_eq_false (by omega)]; exact rBad_r3 n o h1 hi hj
 ·rw [if_pos (by omega)]; exact rBad_o n o h1 h2 h3
theorem rSame_ne (x y : List Bk) (h : x.length ≠ y.length) : Fn Try.prog 28 [rowG false x.length (bksV x), rowG false y.length (bksV y)] (.v (.bool false)) := by
 refine Fn.of Try.func28 rfl (by kernel_rfl) Try.ntmps28 (by simp) (fun w => [(0, old w.heap.size (rowG false x.length (bksV x))), (1, old w.heap.size (rowG false y.length (bksV y)))]) (fun w => (Start.old rfl (Start.old rfl Start.nil))) fun w₀ => ?_
 refine A.nameSl (t := 0) (k := 1000201) rfl fun A₁ q₁ hq₁ _ => ?_
 refine A.nameSl (t := 1) (k := 1000204) rfl fun A₂ q₂ hq₂ _ => ?_
 refine GV rfl ?_
 refine QS ?_
 refine GT ?_
 refine RM rfl ?_
 refine RS (ok_lenV Try.underlying28 rfl) ?_
 refine RM rfl ?_
 refine RS (ok_lenV Try.underlying28 rfl) ?_
 refine RB rfl rfl rfl ?_
 refine RT ?_
 refine RN ?_
 refine A.yes rfl ?_
 refine GV rfl ?_
 refine A.ret ?_
 refine End.ret_then ?_
 exact ER rfl rfl
set_option maxHeartbeats 2000000 in
theorem rSame_eq (x y : List Bk) (h4 : x.length ≤ 4096) (hl : x.length = y.length) : Fn Try.prog 28 [rowG false x.length (bksV x), rowG false y.length (bksV y)] (.v (.bool (decide (x = y)))) := by
 refine Fn.of Try.func28 rfl (by kernel_rfl) Try.ntmps28 (by simp) (fun w => [(0, old w.heap.size (rowG false x.length (bksV x))), (1, old w.heap.size (rowG false y.length (bksV y)))]) (fun w => (Start.old rfl (Start.old rfl Start.nil))) fun w₀ => ?_
 refine A.nameSl (t := 0) (k := 1000201) rfl fun A₁ q₁ hq₁ _ => ?_
 refine A.nameSl (t := 1) (k := 1000204) rfl fun A₂ q₂ hq₂ _ => ?_
 refine GV rfl ?_
 refine QS ?_
 refine GT ?_
 refine RM rfl ?_
 refine RS (ok_lenV Try.underlying28 rfl) ?_
 refine RM rfl ?_
 refine RS (ok_lenV Try.underlying28 rfl) ?_
 refine RB rfl rfl rfl ?_
 refine RF ?_
 refine RN ?_
 refine A.no rfl ?_
 refine QK ?_
 refine QS ?_
 refine GV rfl ?_
 refine A.block ?_
 refine A.loop (ι := Nat) (fun i => i ≤ x.length ∧ ∀ k, k < i → bkAt x k = bkAt y k) (fun i => [(0, .v (.slice A₁ x.length q₁)), (1, .v (.slice A₂ y.length q₂)), (1000201, old w₀.heap.size (memR A₁ (bksV x))), (1000204, old w₀.heap.size (memR A₂ (bksV y))), (5, .v (nI (i)))]) (fun i => x.length - i) 0 ?_ ?_ ?_
 ·exact ⟨Nat.zero_le _, fun k h => absurd h (Nat.not_lt_zero _)⟩
 ·exact (KC 0 rfl (KC 1 rfl (KC 1000201 rfl (KC 1000204 rfl (KE 5 rfl (by rfl) KN)))))
 intro i hG
 refine QS ?_
 refine GT ?_
 refine RV 2 rfl ?_
 refine RS (ok_lenV Try.underlying28 rfl) ?_
 refine RVN 1 rfl ?_
 refine A.cond rfl (fun hc14 => ?_) (fun hc14 => ?_)
 ·have hlt : i < x.length := by simp at hc14; omega
  refine QK ?_
  refine QSB ?_
  refine GTD ?_
  refine RV 2 rfl ?_
  refine RS ((ok_indexR (s := 1000201) i Try.underlying28 infoB rfl rfl (by decide) rfl (by omega) (by rw [bks_len]; omega))) ?_
  refine RS (ok_loadElemT 32 Try.underlying41 rfl size41 (by rw [bks_at (by omega), bk_len]; exact Nat.le_refl _) rfl) ?_; refine RZ (aggV (bkV (bkAt x i))) (congrArg aggV (by rw [bks_at (by omega)]; exact List.take_of_length_le (Nat.le_of_eq (bk_len _)))) ?_
  refine RV 2 rfl ?_
  refine RS ((ok_indexR (s := 1000204) i Try.underlying28 infoB rfl rfl (by decide) rfl (by omega) (by rw [bks_len]; omega))) ?_
  refine RS (ok_loadElemT 32 Try.underlying41 rfl size41 (by rw [bks_at (by omega), bk_len]; exact Nat.le_refl _) rfl) ?_; refine RZ (aggV (bkV (bkAt y i))) (congrArg aggV (by rw [bks_at (by omega)]; exact List.take_of_length_le (Nat.le_of_eq (bk_len _)))) ?_
  refine RS (ok_neqT (n := 4) (decide (bkAt x i = bkAt y i)) flat41 (by decide) (by kernel_rfl) (by kernel_rfl) rfl rfl (kinBk _) (kinBk _) (by rw [decide_eq_true_iff]; exact ⟨fun h => congrArg bkV h, bk_inj⟩)) ?_
  refine RN ?_
  refine A.cond rfl (fun hc25 => ?_) (fun hc25 => ?_)
  ·have hne : bkAt x i ≠ bkAt y i := by simpa using hc25
   refine GV rfl ?_
   refine A.ret ?_
   refine End.ret_block ?_
   refine End.ret_then ?_
   refine End.ret_then ?_
   refine End.ret_block ?_
   refine End.ret_then ?_
   first | exact End.ret1 rfl rfl (Le.v (congrArg Value.bool (decide_eq_false (fun h => hne (by rw [h]))).symm)) | exact End.ret1 rfl rfl (Le.v (congrArg Value.bool (decide_eq_true (bks_eq hl fun k hk => hG.2 k (by omega))).symm))
  ·have heq : bkAt x i = bkAt y i := by simpa using hc25
   refine A.skip ?_
   refine End.normal_block ?_
   refine EN ?_
   refine GTE ?_
   refine RV 2 rfl ?_
   refine RZ (nI (i + 1)) (wrap_eq (by omega) (by omega)) ?_
   refine RVN 1 rfl ?_
   refine End.normal_then ?_
   refine End.again (i + 1) ?_ ?_ ?_
   ·exact ⟨by omega, fun k h => (Nat.lt_or_ge k i).elim (hG.2 k) fun h => by rw [show k = i from by omega]; exact heq⟩
   ·show _ - _ < _ - _; omega
   ·exact (Sv [0, 1, 1000201, 1000204, 5] rfl)
 ·have hge : ¬ i < x.length := by simp at hc14; omega
  refine A.exit ?_
  refine End.exit_then ?_
  refine End.exit_then ?_
  refine End.exit_here ?_
  refine EN ?_
  refine GV rfl ?_
  refine A.ret ?_
  first | exact End.ret1 rfl rfl (Le.v (congrArg Value.bool (decide_eq_false (fun h => hne (by rw [h]))).symm)) | exact End.ret1 rfl rfl (Le.v (congrArg Value.bool (decide_eq_true (bks_eq hl fun k hk => hG.2 k (by omega))).symm))
theorem rSame_fn (x y : List Bk) (h4 : x.length ≤ 4096) : Fn Try.prog 28 [rowG false x.length (bksV x), rowG false y.length (bksV y)] (.v (.bool (decide (x = y)))) := by
 by_cases hl : x.length = y.length
 ·exact rSame_eq x y h4 hl
 ·rw [decide_eq_false (fun h => hl (by rw [h]))]; exact rSame_ne x y hl
set_option maxHeartbeats 1000000 in
theorem same_fn (a : Ar) (h1 : a.now.length ≤ 4096) (h2 : a.dur.length ≤ 4096) : Fn Try.prog 10 [arrD true a, arrD false a] (.v (nI (1))) := by
 refine Fn.of Try.func10 rfl (by kernel_rfl) Try.ntmps10 (by simp) (fun w => [(0, old w.heap.size (arrD true a)), (1, old w.heap.size (arrD false a))]) (fun w => (Start.old rfl (Start.old rfl Start.nil))) fun w₀ => ?_
 refine A.nameAr (t := 0) (k₁ := 1000201) (k₂ := 1000202) rfl fun A₁ q₁ A₂ q₂ hq₁ hq₂ he₁ he₂ => ?_
 refine A.nameAr (t := 1) (k₁ := 1000204) (k₂ := 1000205) rfl fun A₁' q₁' A₂' q₂' hq₁' hq₂' he₁' he₂' => ?_
 have e1 := he₁ rfl
 have e2 := he₂ rfl
 subst e1
 subst e2
 refine GS ?_
 refine TN 0 ?_
 refine RN ?_
 refine ZB 1000002 rfl fun b2 ⟨hBb2, hb2⟩ => ?_
 refine TN 1 ?_
 refine RN ?_
 refine ZB 1000003 rfl fun b3 ⟨hBb3, hb3⟩ => ?_
 refine TL ?_
 refine RVN 1 rfl ?_
 refine QS ?_
 refine GT ?_
 refine RS (ok_field field30_0 (by decide) rfl) ?_
 refine RS (OpOk.slO (ex := false) (k₁ := 1000201) (ok_loadV (s := 1000002) (by decide) Try.underlying28 rfl rfl rfl (rfl)) (Nat.le_refl _) nofun (by decide) rfl) ?_
 refine RS (ok_field field35_0 (by decide) rfl) ?_
 refine RS (OpOk.slO (ex := false) (k₁ := 1000204) (ok_loadV (s := 1000003) (by decide) Try.underlying28 rfl rfl rfl (rfl)) hq₁' nofun (by decide) rfl) ?_
 refine RS (ok_call (rSame_fn a.now a.now h1) (Args.cons rfl (by first | exact Le.refl _ | exact Le.old _ _ | exact arr_any | exact arr_ex | exact arrD_any | exact op_any | exact (Le.old _ _).trans arrD_any | exact (Le.old _ _).trans arr_any) (Args.cons rfl (by first | exact Le.refl _ | exact Le.old _ _ | exact arr_any | exact arr_ex | exact arrD_any | exact op_any | exact (Le.old _ _).trans arrD_any | exact (Le.old _ _).trans arr_any) Args.nil))) ?_; refine RZ (.bool true) (by first | rfl | (simp; done) | (simp; omega) | (simp [*]; done) | (simp [*]; omega)) ?_
 refine RV 2 rfl ?_
 refine RQ (ok_field field30_1 (by decide) rfl) ?_
 refine RQ (OpOk.slO (ex := false) (k₁ := 1000202) (ok_loadV (s := 1000002) (by decide) Try.underlying28 rfl rfl rfl (rfl)) (Nat.le_refl _) nofun (by decide) rfl) ?_
 refine RQ (ok_field field35_1 (by decide) rfl) ?_
 refine RQ (OpOk.slO (ex := false) (k₁ := 1000205) (ok_loadV (s := 1000003) (by decide) Try.underlying28 rfl rfl rfl (rfl)) hq₂' nofun (by decide) rfl) ?_
 refine RQ (ok_call (rSame_fn a.dur a.dur h2) (Args.cons rfl (by first | exact Le.refl _ | exact Le.old _ _ | exact arr_any | exact arr_ex | exact arrD_any | exact op_any | exact (Le.old _ _).trans arrD_any | exact (Le.old _ _).trans arr_any) (Args.cons rfl (by first | exact Le.refl _ | exact Le.old _ _ | exact arr_any | exact arr_ex | exact arrD_any | exact op_any | exact (Le.old _ _).trans arrD_any | exact (Le.old _ _).trans arr_any) Args.nil))) ?_; refine RZ (.bool true) (by first | rfl | (simp; done) | (simp; omega) | (simp [*]; done) | (simp [*]; omega)) ?_
 refine RV 3 rfl ?_
 refine RQ (ok_field field30_0 (by decide) rfl) ?_
 refine RQ (ok_loadV (s := 1000002) (by decide) Try.underlying28 rfl rfl rfl (rfl)) ?_
 refine RQ (ok_capV Try.underlying28 rfl) ?_
 refine RQ (ok_field field30_0 (by decide) rfl) ?_
 refine RQ (ok_loadV (s := 1000002) (by decide) Try.underlying28 rfl rfl rfl (rfl)) ?_
 refine RQ (ok_lenV Try.underlying28 rfl) ?_
 refine RQ (ok_bin rfl rfl rfl) ?_
 refine RF ?_
 refine RV 2 rfl ?_
 refine RQ (ok_field field30_1 (by decide) rfl) ?_
 refine RQ (ok_loadV (s := 1000002) (by decide) Try.underlying28 rfl rfl rfl (rfl)) ?_
 refine RQ (ok_capV Try.underlying28 rfl) ?_
 refine RQ (ok_field field30_1 (by decide) rfl) ?_
 refine RQ (ok_loadV (s := 1000002) (by decide) Try.underlying28 rfl rfl rfl (rfl)) ?_
 refine RQ (ok_lenV Try.underlying28 rfl) ?_
 refine RQ (ok_bin rfl rfl rfl) ?_
 refine RF ?_
 refine RVN 1 rfl ?_
 refine A.sub (Sv [36, 1000002, 1000003, 1000201, 1000202, 1000204, 1000205] rfl) ?_
 refine A.no rfl ?_
 refine QK ?_
 refine GV rfl ?_
 refine A.ret ?_
 exact ER rfl rfl
set_option maxHeartbeats 4000000 in
theorem rDo_b (a : Ar) (o : OpA) (he : a.now.length = a.dur.length) (p1 : 0 < a.now.length) (h1 : a.now.length ≤ 4096) (hb : badA a.now.length o = true) : FnB Try.prog 13 [arrD false a, opG o] (fun B => tup [arrZ (zOwn 41 B) false a, .v (aggV (bkV zB)), .v (.int .i64 1)]) := by
 refine FnB.of Try.func13 rfl (by kernel_rfl) Try.ntmps13 (by simp) (fun w => [(0, old w.heap.size (arrD false a)), (1, old w.heap.size (opG o))]) (fun w => (Start.old rfl (Start.old rfl Start.nil))) fun w₀ => ?_
 refine A.nameAr (t := 0) (k₁ := 1000201) (k₂ := 1000202) rfl fun A₃ q₃ A₂ q₂ hq₃ hq₂ he₁ he₂ => ?_
 refine A.nameOp (t := 1) (k := 1000303) rfl fun A₁ q hq => ?_
 have p2 : 0 < a.dur.length := by omega
 have h2 : a.dur.length ≤ 4096 := by omega
 refine GS ?_
 refine TN 0 ?_
 refine RN ?_
 refine ZB 1000002 rfl fun b2 ⟨hBb2, hb2⟩ => ?_
 refine TN 1 ?_
 refine RN ?_
 refine ZB 1000003 rfl fun b3 ⟨hBb3, hb3⟩ => ?_
 refine TN 2 ?_
 refine RN ?_
 refine ZN 1000004 zero35 fun b4 ⟨hBb4, hb4⟩ => ?_
 have hlt_b2_b4 := hb4 1000002 b2 _ _ rfl
 refine TN 3 ?_
 refine RN ?_
 refine ZN 1000005 zero41 fun b5 ⟨hBb5, hb5⟩ => ?_
 refine TL ?_
 refine RVN 1 rfl ?_
 refine GS ?_
 refine RunTK.newG 1 (by decide) rfl (.inl rfl) ?_
 refine RS (OpOk.arO (k₁ := 1000201) (k₂ := 1000202) (ok_loadA (s := 1000002) (by decide) Try.underlying35 rfl (size35.of (rfl)) rfl rfl) hq₃ hq₂ (by decide) (by decide) rfl rfl) ?_
 refine RN ?_
 refine ⟨_, _, _, eff_nameA (n := 55) (d := 10) (k₁ := 1000301) (k₂ := 1000302) rfl rfl (fun B' => ok_callB (Copy_fn a p1 p2 h1 h2) newA_mono (Args.cons rfl (by first | exact Le.refl _ | exact Le.old _ _ | exact arr_any | exact arr_ex | exact arrD_any | exact op_any | exact (Le.old _ _).trans arrD_any | exact (Le.old _ _).trans arr_any) Args.nil)) (by decide) (by decide), fun ⟨c1, c2, u1, u2, r1, r2⟩ hc => ?_⟩
 have hBc1 := hc.1
 have hBc2 := hc.2.1
 have hne : c1 ≠ c2 := hc.2.2.1
 have hu1 := hc.2.2.2.1
 have hu2 := hc.2.2.2.2.1
 dsimp only at hBc1 hBc2 hu1 hu2
 dsimp only
 have hlt_b5_c1 : b5 < c1 := hc.2.2.2.2.2.1 1000005 _ _ _ rfl
 have hlt_b5_c2 : b5 < c2 := hc.2.2.2.2.2.2 1000005 _ _ _ rfl
 refine TN 2 ?_
 refine RN ?_
 refine ZN 1000007 zero35 fun b7 ⟨hBb7, hb7⟩ => ?_
 have hlt_b2_b7 := hb7 1000002 b2 _ _ rfl
 have hlt_b4_b7 := hb7 1000004 b4 _ _ rfl
 refine TF 3 ?_
 refine RN ?_
 refine ZA 1000007 (size35.of rfl) hBb7 rfl rfl rfl (LB 1000002 rfl (LT 1000003 rfl (LB 1000004 rfl (LT 1000005 rfl (LO 1000201 rfl (LO 1000202 rfl (LT 1000301 rfl (LT 1000302 rfl (LO 1000303 rfl (LW [2, 3, 4, 5, 7] rfl)))))))))) ?_
 refine TL ?_
 refine RN ?_
 refine QS ?_
 refine GT ?_
 refine RS (ok_field field35_0 (by decide) rfl) ?_
 refine RLV 1000002 Try.underlying28 rfl rfl rfl ?_
 refine RS (ok_lenV Try.underlying28 rfl) ?_
 refine RS (OpOk.opO (k₁ := 1000303) (p := o) (ok_loadA (s := 1000003) (by decide) Try.underlying47 rfl (size47.of (rfl)) rfl rfl) hq (by decide) rfl) ?_
 refine RS (ok_call (rBad_fn (a.now.length : Int) o) (Args.cons rfl (by first | exact Le.refl _ | exact Le.old _ _ | exact arr_any | exact arr_ex | exact arrD_any | exact op_any | exact (Le.old _ _).trans arrD_any | exact (Le.old _ _).trans arr_any) (Args.cons rfl (by first | exact Le.refl _ | exact Le.old _ _ | exact arr_any | exact arr_ex | exact arrD_any | exact op_any | exact (Le.old _ _).trans arrD_any | exact (Le.old _ _).trans arr_any) Args.nil))) ?_; refine RZ (.bool true) (by rw [hb]) ?_
 refine RN ?_
 refine A.yes rfl ?_
 refine GS ?_
 refine TF 2 ?_
 refine RL 1000007 Try.underlying35 rfl rfl (size35.of rfl) ?_
 refine RS (ok_litP [] Try.underlying41 info5 zero41 (by decide) trivial rfl) ?_; refine RZ (aggV (bkV zB)) (by rfl) ?_
 refine RN ?_
 refine ZA 1000004 (size35.of rfl) hBb4 rfl rfl rfl (LB 1000002 rfl (LT 1000003 rfl (LT 1000005 rfl (LB 1000007 rfl (LO 1000201 rfl (LO 1000202 rfl (LT 1000301 rfl (LT 1000302 rfl (LO 1000303 rfl (LW [4, 5, 17] rfl)))))))))) ?_
 refine TF 3 ?_
 refine RN ?_
 refine ⟨_, eff_storeA (n := 55) (s := 1000005) (size41.of (bk_len _)) rfl rfl (bk_one _) hBb5 rfl (by simp only [bk_len]) (LT 1000002 rfl (LT 1000003 rfl (LT 1000004 rfl (LT 1000007 rfl (LO 1000201 rfl (LO 1000202 rfl (LB 1000301 rfl (LB 1000302 rfl (LO 1000303 rfl (LW [4, 5] rfl)))))))))), ?_⟩
 refine TL ?_
 refine RVN 1 rfl ?_
 refine A.ret ?_
 refine End.ret_then ?_
 refine End.packAr (k := 1000004) (k₁ := 1000301) (k₂ := 1000302) (lo := w₀.heap.size) a rfl rfl rfl rfl rfl hBc1 hBc2 hu1 hu2 ?_
 exact End.cellKV (s := 1000004) (s₂ := 1000005) rfl Try.underlying35 rfl size35 rfl rfl (Le.refl _) Try.underlying41 rfl (size41.of (bk_len _)) rfl rfl rfl (Le.refl _)
set_option maxHeartbeats 4000000 in
theorem rDo_r (a : Ar) (o : OpA) (he : a.now.length = a.dur.length) (p1 : 0 < a.now.length) (h1 : a.now.length ≤ 4096) (hb : badA a.now.length o = false) (hk : o.k.toNat = 1) (i : Nat) (hii : o.i = (i : Int)) (hi : i < a.now.length) : FnB Try.prog 13 [arrD false a, opG o] (fun B => tup [arrZ (zOwn 41 B) false a, .v (aggV (bkV (bkAt a.now i))), .v (.int .i64 0)]) := by
 refine FnB.of Try.func13 rfl (by kernel_rfl) Try.ntmps13 (by simp) (fun w => [(0, old w.heap.size (arrD false a)), (1, old w.heap.size (opG o))]) (fun w => (Start.old rfl (Start.old rfl Start.nil))) fun w₀ => ?_
 refine A.nameAr (t := 0) (k₁ := 1000201) (k₂ := 1000202) rfl fun A₃ q₃ A₂ q₂ hq₃ hq₂ he₁ he₂ => ?_
 refine A.nameOp (t := 1) (k := 1000303) rfl fun A₁ q hq => ?_
 have p2 : 0 < a.dur.length := by omega
 have h2 : a.dur.length ≤ 4096 := by omega
 refine GS ?_
 refine TN 0 ?_
 refine RN ?_
 refine ZB 1000002 rfl fun b2 ⟨hBb2, hb2⟩ => ?_
 refine TN 1 ?_
 refine RN ?_
 refine ZB 1000003 rfl fun b3 ⟨hBb3, hb3⟩ => ?_
 have hlt_b2_b3 := hb3 1000002 b2 _ _ rfl
 refine TN 2 ?_
 refine RN ?_
 refine ZN 1000004 zero35 fun b4 ⟨hBb4, hb4⟩ => ?_
 have hlt_b2_b4 := hb4 1000002 b2 _ _ rfl
 have hlt_b3_b4 := hb4 1000003 b3 _ _ rfl
 refine TN 3 ?_
 refine RN ?_
 refine ZN 1000005 zero41 fun b5 ⟨hBb5, hb5⟩ => ?_
 have hlt_b2_b5 := hb5 1000002 b2 _ _ rfl
 have hlt_b3_b5 := hb5 1000003 b3 _ _ rfl
 have hlt_b4_b5 := hb5 1000004 b4 _ _ rfl
 refine TL ?_
 refine RVN 1 rfl ?_
 refine GS ?_
 refine RunTK.newG 1 (by decide) rfl (.inl rfl) ?_
 refine RS (OpOk.arO (k₁ := 1000201) (k₂ := 1000202) (ok_loadA (s := 1000002) (by decide) Try.underlying35 rfl (size35.of (rfl)) rfl rfl) hq₃ hq₂ (by decide) (by decide) rfl rfl) ?_
 refine RN ?_
 refine ⟨_, _, _, eff_nameA (n := 55) (d := 10) (k₁ := 1000301) (k₂ := 1000302) rfl rfl (fun B' => ok_callB (Copy_fn a p1 p2 h1 h2) newA_mono (Args.cons rfl (by first | exact Le.refl _ | exact Le.old _ _ | exact arr_any | exact arr_ex | exact arrD_any | exact op_any | exact (Le.old _ _).trans arrD_any | exact (Le.old _ _).trans arr_any) Args.nil)) (by decide) (by decide), fun ⟨c1, c2, u1, u2, r1, r2⟩ hc => ?_⟩
 have hBc1 := hc.1
 have hBc2 := hc.2.1
 have hne : c1 ≠ c2 := hc.2.2.1
 have hu1 := hc.2.2.2.1
 have hu2 := hc.2.2.2.2.1
 dsimp only at hBc1 hBc2 hu1 hu2
 dsimp only
 have hlt_b5_c1 : b5 < c1 := hc.2.2.2.2.2.1 1000005 _ _ _ rfl
 have hlt_b5_c2 : b5 < c2 := hc.2.2.2.2.2.2 1000005 _ _ _ rfl
 refine TN 2 ?_
 refine RN ?_
 refine ZN 1000007 zero35 fun b7 ⟨hBb7, hb7⟩ => ?_
 have hlt_b2_b7 := hb7 1000002 b2 _ _ rfl
 have hlt_b3_b7 := hb7 1000003 b3 _ _ rfl
 have hlt_b4_b7 := hb7 1000004 b4 _ _ rfl
 have hlt_b5_b7 := hb7 1000005 b5 _ _ rfl
 have hlt_c1_b7 := hb7 1000301 c1 _ _ rfl
 have hlt_c2_b7 := hb7 1000302 c2 _ _ rfl
 refine TF 3 ?_
 refine RN ?_
 refine ZA 1000007 (size35.of rfl) hBb7 rfl rfl rfl (LB 1000002 rfl (LT 1000003 rfl (LB 1000004 rfl (LT 1000005 rfl (LO 1000201 rfl (LO 1000202 rfl (LT 1000301 rfl (LT 1000302 rfl (LO 1000303 rfl (LW [2, 3, 4, 5, 7] rfl)))))))))) ?_
 refine TL ?_
 refine RN ?_
 refine QS ?_
 refine GT ?_
 refine RS (ok_field field35_0 (by decide) rfl) ?_
 refine RLV 1000002 Try.underlying28 rfl rfl rfl ?_
 refine RS (ok_lenV Try.underlying28 rfl) ?_
 refine RS (OpOk.opO (k₁ := 1000303) (p := o) (ok_loadA (s := 1000003) (by decide) Try.underlying47 rfl (size47.of (rfl)) rfl rfl) hq (by decide) rfl) ?_
 refine RS (ok_call (rBad_fn (a.now.length : Int) o) (Args.cons rfl (by first | exact Le.refl _ | exact Le.old _ _ | exact arr_any | exact arr_ex | exact arrD_any | exact op_any | exact (Le.old _ _).trans arrD_any | exact (Le.old _ _).trans arr_any) (Args.cons rfl (by first | exact Le.refl _ | exact Le.old _ _ | exact arr_any | exact arr_ex | exact arrD_any | exact op_any | exact (Le.old _ _).trans arrD_any | exact (Le.old _ _).trans arr_any) Args.nil))) ?_; refine RZ (.bool false) (by rw [hb]) ?_
 refine RN ?_
 refine A.no rfl ?_
 refine QK ?_
 refine QS ?_
 refine GT ?_
 refine RS (ok_field field47_0 (by decide) rfl) ?_
 refine RLV 1000003 Try.underlying44 rfl rfl rfl ?_
 refine RN ?_
 refine A.block ?_
 refine GT ?_
 refine RB rfl rfl rfl ?_
 refine RT ?_
 refine RVN 1 rfl ?_
 refine A.yes rfl ?_
 refine A.regsMK [⟨7, b4, 1000004, 35, [.slice none 0 0] ++ [.slice none 0 0], [.slice (some ⟨c1, 0, none⟩) a.now.length u1, .slice (some ⟨c2, 0, none⟩) a.dur.length u2], aggV ([.slice (some ⟨c1, 0, none⟩) a.now.length u1, .slice (some ⟨c2, 0, none⟩) a.dur.length u2])⟩, ⟨8, b5, 1000005, 41, bkV zB, bkV (bkAt a.now i), aggV (bkV (bkAt a.now i))⟩] [_, _, _, _, _, _, _, undef, undef, _] (by kernel_rfl) (by kernel_rfl) (by kernel_rfl) (by kernel_rfl) (Sv [3, 4, 5, 7, 19, 20, 1000002, 1000003, 1000007, 1000201, 1000202, 1000301, 1000302, 1000303] rfl)
  (Many.next (_) rfl rfl rfl (.inl rfl) FromN.all (ok_loadA (s := 1000007) (by decide) Try.underlying35 rfl (size35.of (rfl)) rfl rfl)
   (Many.next (_) rfl rfl rfl (.inl rfl) FromN.all (ok_field field35_0 (by decide) rfl)
   (Many.next ((23, .v _) :: _) rfl rfl rfl (.inl rfl) (FromN.op 1 (by kernel_rfl) rfl rfl FromN.all) (ok_loadV (s := 1000007) (by decide) Try.underlying28 rfl rfl rfl (rfl))
   (Many.next (_) rfl rfl rfl (.inl rfl) FromN.all (ok_field field47_1 (by decide) rfl)
   (Many.next ((25, .v _) :: _) rfl rfl rfl (.inl rfl) (FromN.op 3 (by kernel_rfl) rfl rfl FromN.all) (OpOk.asV (nI (i)) (congrArg (Value.int .i64) hii) (ok_loadV (s := 1000003) (by decide) Try.underlying3 rfl rfl rfl (rfl)))
   (Many.next ((24, .v _) :: (26, .v _) :: _) rfl rfl rfl (.inl rfl) (FromN.op 2 (by kernel_rfl) rfl rfl (FromN.op 4 (by kernel_rfl) rfl rfl FromN.all)) (ok_indexVK i Try.underlying28 infoB rfl rfl hi)
   (Many.next ((27, .v _) :: _) rfl rfl rfl (.inl rfl) (FromN.op 5 (by kernel_rfl) rfl rfl FromN.all) (ok_loadP (s := 1000301) (by decide) Try.underlying41 rfl size41 rfl rfl (by rw [List.length_append, bks_len]; omega) (bks_atR hi))
   (Many.store ⟨7, b4, 1000004, 35, [.slice none 0 0] ++ [.slice none 0 0], [.slice (some ⟨c1, 0, none⟩) a.now.length u1, .slice (some ⟨c2, 0, none⟩) a.dur.length u2], aggV ([.slice (some ⟨c1, 0, none⟩) a.now.length u1, .slice (some ⟨c2, 0, none⟩) a.dur.length u2])⟩ List.mem_cons_self rfl ((22, .v _) :: _) rfl (FromN.op 0 (by kernel_rfl) rfl rfl FromN.all) rfl rfl
   (Many.store ⟨8, b5, 1000005, 41, bkV zB, bkV (bkAt a.now i), aggV (bkV (bkAt a.now i))⟩ (List.mem_cons_of_mem _ List.mem_cons_self) rfl ((28, .v _) :: _) rfl (FromN.op 6 (by kernel_rfl) rfl rfl FromN.all) rfl rfl
   (Many.next (_) rfl rfl rfl (.inl rfl) FromN.all (ok_assign rfl)
   Many.nil))))))))))
  (FromE.op (t := 6) 9 rfl rfl FromE.all) (fun s hs => by simp only [List.mem_cons, List.not_mem_nil, or_false] at hs; rcases hs with rfl | rfl <;> rfl) (fun s hs => by simp only [List.mem_cons, List.not_mem_nil, or_false] at hs; rcases hs with rfl | rfl <;> first | exact hBb4 | exact hBb5)
  (fun s hs s' hs' => by simp only [List.mem_cons, List.not_mem_nil, or_false] at hs hs'; rcases hs with rfl | rfl <;> rcases hs' with rfl | rfl <;> first | exact .inl rfl | exact .inr ⟨fun h => by simp at h, fun h => by dsimp only at h; omega⟩)
  (fun s hs => by simp only [List.mem_cons, List.not_mem_nil, or_false] at hs; rcases hs with rfl | rfl <;> first | exact SV.whole (size35.of (rfl)) (rfl) (rfl) | exact SV.whole (size41.of (bk_len _)) (by simp only [bk_len]) (bk_one _)) (fun s hs => by simp only [List.mem_cons, List.not_mem_nil, or_false] at hs; rcases hs with rfl | rfl <;> (dsimp only; exact (LV 3 rfl (LV 4 rfl (LV 5 rfl (LV 7 rfl (LV 19 rfl (LV 20 rfl (LB 1000002 rfl (LT 1000003 rfl (LB 1000007 rfl (LO 1000201 rfl (LO 1000202 rfl (LB 1000301 rfl (LB 1000302 rfl (LO 1000303 rfl LN)))))))))))))))) ?_
 refine A.sub (Sv [4, 5, 6, 1000002, 1000003, 1000004, 1000005, 1000007, 1000201, 1000202, 1000301, 1000302, 1000303] rfl) ?_
 refine A.ret ?_
 refine End.ret_block ?_
 refine End.ret_then ?_
 refine End.packAr (k := 1000004) (k₁ := 1000301) (k₂ := 1000302) (lo := w₀.heap.size) a rfl rfl rfl rfl rfl hBc1 hBc2 hu1 hu2 ?_
 exact End.cellKV (s := 1000004) (s₂ := 1000005) rfl Try.underlying35 rfl size35 rfl rfl (Le.refl _) Try.underlying41 rfl (size41.of (bk_len _)) rfl rfl rfl (Le.refl _)
set_option maxHeartbeats 4000000 in
theorem rDo_w (a : Ar) (o : OpA) (he : a.now.length = a.dur.length) (p1 : 0 < a.now.length) (h1 : a.now.length ≤ 4096) (hb : badA a.now.length o = false) (hk : o.k.toNat = 2) (i : Nat) (hii : o.i = (i : Int)) (hi : i < a.now.length) (hd : o.d.length = 32) : FnB Try.prog 13 [arrD false a, opG o] (fun B => tup [arrZ (zOwn 41 B) false ⟨a.now.set i (mkB o.d), a.dur⟩, .v (aggV (bkV zB)), .v (.int .i64 0)]) := by
 refine FnB.of Try.func13 rfl (by kernel_rfl) Try.ntmps13 (by simp) (fun w => [(0, old w.heap.size (arrD false a)), (1, old w.heap.size (opG o))]) (fun w => (Start.old rfl (Start.old rfl Start.nil))) fun w₀ => ?_
 refine A.nameAr (t := 0) (k₁ := 1000201) (k₂ := 1000202) rfl fun A₃ q₃ A₂ q₂ hq₃ hq₂ he₁ he₂ => ?_
 refine A.nameOp (t := 1) (k := 1000303) rfl fun A₁ q hq => ?_
 have p2 : 0 < a.dur.length := by omega
 have h2 : a.dur.length ≤ 4096 := by omega
 refine GS ?_
 refine TN 0 ?_
 refine RN ?_
 refine ZB 1000002 rfl fun b2 ⟨hBb2, hb2⟩ => ?_
 refine TN 1 ?_
 refine RN ?_
 refine ZB 1000003 rfl fun b3 ⟨hBb3, hb3⟩ => ?_
 refine TN 2 ?_
 refine RN ?_
 refine ZN 1000004 zero35 fun b4 ⟨hBb4, hb4⟩ => ?_
 have hlt_b2_b4 := hb4 1000002 b2 _ _ rfl
 refine TN 3 ?_
 refine RN ?_
 refine ZN 1000005 zero41 fun b5 ⟨hBb5, hb5⟩ => ?_
 refine TL ?_
 refine RVN 1 rfl ?_
 refine GS ?_
 refine RunTK.newG 1 (by decide) rfl (.inl rfl) ?_
 refine RS (OpOk.arO (k₁ := 1000201) (k₂ := 1000202) (ok_loadA (s := 1000002) (by decide) Try.underlying35 rfl (size35.of (rfl)) rfl rfl) hq₃ hq₂ (by decide) (by decide) rfl rfl) ?_
 refine RN ?_
 refine ⟨_, _, _, eff_nameA (n := 55) (d := 10) (k₁ := 1000301) (k₂ := 1000302) rfl rfl (fun B' => ok_callB (Copy_fn a p1 p2 h1 h2) newA_mono (Args.cons rfl (by first | exact Le.refl _ | exact Le.old _ _ | exact arr_any | exact arr_ex | exact arrD_any | exact op_any | exact (Le.old _ _).trans arrD_any | exact (Le.old _ _).trans arr_any) Args.nil)) (by decide) (by decide), fun ⟨c1, c2, u1, u2, r1, r2⟩ hc => ?_⟩
 have hBc1 := hc.1
 have hBc2 := hc.2.1
 have hne : c1 ≠ c2 := hc.2.2.1
 have hu1 := hc.2.2.2.1
 have hu2 := hc.2.2.2.2.1
 dsimp only at hBc1 hBc2 hu1 hu2
 dsimp only
 have hlt_b5_c1 : b5 < c1 := hc.2.2.2.2.2.1 1000005 _ _ _ rfl
 have hlt_b5_c2 : b5 < c2 := hc.2.2.2.2.2.2 1000005 _ _ _ rfl
 refine TN 2 ?_
 refine RN ?_
 refine ZN 1000007 zero35 fun b7 ⟨hBb7, hb7⟩ => ?_
 have hlt_b2_b7 := hb7 1000002 b2 _ _ rfl
 have hlt_b4_b7 := hb7 1000004 b4 _ _ rfl
 refine TF 3 ?_
 refine RN ?_
 refine ZA 1000007 (size35.of rfl) hBb7 rfl rfl rfl (LB 1000002 rfl (LT 1000003 rfl (LB 1000004 rfl (LT 1000005 rfl (LO 1000201 rfl (LO 1000202 rfl (LT 1000301 rfl (LT 1000302 rfl (LO 1000303 rfl (LW [2, 3, 4, 5, 7] rfl)))))))))) ?_
 refine TL ?_
 refine RN ?_
 refine QS ?_
 refine GT ?_
 refine RS (ok_field field35_0 (by decide) rfl) ?_
 refine RLV 1000002 Try.underlying28 rfl rfl rfl ?_
 refine RS (ok_lenV Try.underlying28 rfl) ?_
 refine RS (OpOk.opO (k₁ := 1000303) (p := o) (ok_loadA (s := 1000003) (by decide) Try.underlying47 rfl (size47.of (rfl)) rfl rfl) hq (by decide) rfl) ?_
 refine RS (ok_call (rBad_fn (a.now.length : Int) o) (Args.cons rfl (by first | exact Le.refl _ | exact Le.old _ _ | exact arr_any | exact arr_ex | exact arrD_any | exact op_any | exact (Le.old _ _).trans arrD_any | exact (Le.old _ _).trans arr_any) (Args.cons rfl (by first | exact Le.refl _ | exact Le.old _ _ | exact arr_any | exact arr_ex | exact arrD_any | exact op_any | exact (Le.old _ _).trans arrD_any | exact (Le.old _ _).trans arr_any) Args.nil))) ?_; refine RZ (.bool false) (by rw [hb]) ?_
 refine RN ?_
 refine A.no rfl ?_
 refine QK ?_
 refine QS ?_
 refine GT ?_
 refine RS (ok_field field47_0 (by decide) rfl) ?_
 refine RLV 1000003 Try.underlying44 rfl rfl rfl ?_
 refine RN ?_
 refine A.block ?_
 refine GT ?_
 refine RB rfl rfl rfl ?_
 refine RF ?_
 refine RVN 1 rfl ?_
 refine A.no rfl ?_
 refine GT ?_
 refine RB rfl rfl rfl ?_
 refine RT ?_
 refine RVN 1 rfl ?_
 refine A.yes rfl ?_
 refine GV rfl ?_
 refine A.block ?_
 refine A.loop (ι := Nat) (fun j => j ≤ 32) (fun j => [(3, .v (ptr b3)), (4, .v (ptr b4)), (5, .v (ptr b5)), (7, .v (ptr b7)), (8, .v (nI (j))), (1000003, blk b3 47 [byteV o.k, .int .i64 o.i, .slice A₁ o.d.length q]), (1000004, blk b4 35 ([.slice none 0 0] ++ [.slice none 0 0])), (1000005, blk b5 41 (bkV zB)), (1000007, blk b7 35 [.slice (some ⟨c1, 0, none⟩) a.now.length u1, .slice (some ⟨c2, 0, none⟩) a.dur.length u2]), (1000301, blk c1 41 (bksV (a.now.set i (mixB (bkAt a.now i) o.d j)) ++ r1)), (1000302, blk c2 41 (bksV a.dur ++ r2)), (1000303, old w₀.heap.size (memR A₁ (o.d.map byteV)))]) (fun j => 32 - j) 0 ?_ ?_ ?_
 ·exact Nat.zero_le _
 ·exact (KC 3 rfl (KC 4 rfl (KC 5 rfl (KC 7 rfl (KE 8 rfl (by rfl) (KC 1000003 rfl (KC 1000004 rfl (KC 1000005 rfl (KC 1000007 rfl (KE 1000301 rfl (congrArg (fun x => blk c1 41 (bksV x ++ r1)) (by rw [mix_zero hd, set_same hi])) (KC 1000302 rfl (KC 1000303 rfl KN))))))))))))
 intro j hG
 refine QS ?_
 refine GV rfl ?_
 refine A.cond rfl (fun hc32 => ?_) (fun hc32 => ?_)
 ·have hlt : j < 32 := by simp at hc32; omega
  refine QK ?_
  refine QSB ?_
  refine A.reg (by kernel_rfl) (by kernel_rfl) (.inr (by kernel_rfl)) ?_
  refine TD 12 ?_
  refine RS (ok_field field35_0 (by decide) rfl) ?_
  refine RLV 1000007 Try.underlying28 rfl rfl rfl ?_
  refine RS (ok_field field47_1 (by decide) rfl) ?_
  refine RS (ok_loadV (s := 1000003) (by decide) Try.underlying3 rfl rfl rfl (rfl)) ?_; refine RZ (nI (i)) (congrArg (Value.int .i64) hii) ?_
  refine RM rfl ?_
  refine RS (ok_field field47_2 (by decide) rfl) ?_
  refine RLV 1000003 Try.underlying45 rfl rfl rfl ?_
  refine RM rfl ?_
  refine RS ((ok_indexR (s := 1000303) j Try.underlying45 infoU rfl rfl (by decide) rfl (by omega) (by rw [List.length_map]; omega))) ?_
  refine RS (ok_loadP1 (u := byteV (o.d.getD j 0)) (us := []) Try.underlying5 rfl (by show some (elemP _) = _; rw [byt_at (by omega)])) ?_
  refine RS (ok_indexVK i Try.underlying28 infoB rfl rfl hi) ?_
  refine RS (ok_indexA (j) Try.underlying41 info5 rfl rfl (rfl) (hlt)) ?_
  refine RN ?_
  refine ⟨_, eff_storeS (n := 55) (s := 1000301) info5 rfl rfl rfl hBc1 rfl (by rw [List.length_append, bks_len, List.length_set]; omega) (LT 1000003 rfl (LT 1000004 rfl (LB 1000005 rfl (LT 1000007 rfl (LB 1000302 rfl (LO 1000303 rfl (LW [3, 4, 5, 7, 8] rfl))))))), ?_⟩
  refine TL ?_
  refine RN ?_
  refine End.sub (KC 3 rfl (KC 4 rfl (KC 5 rfl (KC 7 rfl (KC 8 rfl (KC 1000003 rfl (KC 1000004 rfl (KC 1000005 rfl (KC 1000007 rfl (KE 1000301 rfl (show _ = blk c1 41 (bksV (a.now.set i (mixB (bkAt a.now i) o.d (j + 1))) ++ r1) from congrArg _ (bks_mix hi hd hlt)) (KC 1000302 rfl (KC 1000303 rfl KN)))))))))))) ?_
  refine End.normal_block ?_
  refine EN ?_
  refine GTE ?_
  refine RV 2 rfl ?_
  refine RZ (nI (j + 1)) (wrap_eq (by omega) (by omega)) ?_
  refine RVN 1 rfl ?_
  refine End.normal_then ?_
  refine End.again (j + 1) ?_ ?_ ?_
  ·show _ ≤ _; omega
  ·show _ - _ < _ - _; omega
  ·exact (Sv [3, 4, 5, 7, 8, 1000003, 1000004, 1000005, 1000007, 1000301, 1000302, 1000303] rfl)
 ·have hge : j = 32 := by simp at hc32; omega
  refine A.exit ?_
  refine End.exit_then ?_
  refine End.exit_then ?_
  refine End.exit_here ?_
  refine End.normal_block ?_
  refine EN ?_
  refine GS ?_
  refine TF 2 ?_
  refine RL 1000007 Try.underlying35 rfl rfl (size35.of rfl) ?_
  refine RS (ok_litP [] Try.underlying41 info5 zero41 (by decide) trivial rfl) ?_; refine RZ (aggV (bkV zB)) (by rfl) ?_
  refine RN ?_
  refine ZA 1000004 (size35.of rfl) hBb4 rfl rfl rfl (LT 1000003 rfl (LT 1000005 rfl (LB 1000007 rfl (LT 1000301 rfl (LT 1000302 rfl (LO 1000303 rfl (LW [4, 5, 54] rfl))))))) ?_
  refine TF 3 ?_
  refine RN ?_
  refine ⟨_, eff_storeA (n := 55) (s := 1000005) (size41.of (bk_len _)) rfl rfl (bk_one _) hBb5 rfl (by simp only [bk_len]) (LT 1000003 rfl (LT 1000004 rfl (LT 1000007 rfl (LB 1000301 rfl (LB 1000302 rfl (LO 1000303 rfl (LW [4, 5] rfl))))))), ?_⟩
  refine TL ?_
  refine RVN 1 rfl ?_
  refine A.ret ?_
  subst hge
  refine End.packAr (k := 1000004) (k₁ := 1000301) (k₂ := 1000302) (lo := w₀.heap.size) ⟨a.now.set i (mkB o.d), a.dur⟩ rfl (List.length_set ..).symm rfl (by rw [mix_all hd]; rfl) rfl hBc1 hBc2 hu1 hu2 ?_
  exact End.cellKV (s := 1000004) (s₂ := 1000005) rfl Try.underlying35 rfl size35 rfl rfl (Le.refl _) Try.underlying41 rfl (size41.of (bk_len _)) rfl rfl rfl (Le.refl _)
set_option maxHeartbeats 4000000 in
theorem rDo_f (a : Ar) (o : OpA) (he : a.now.length = a.dur.length) (p1 : 0 < a.now.length) (h1 : a.now.length ≤ 4096) (hb : badA a.now.length o = false) (hk : o.k.toNat = 3) : FnB Try.prog 13 [arrD false a, opG o] (fun B => tup [arrZ (zOwn 41 B) false ⟨a.now, a.now⟩, .v (aggV (bkV zB)), .v (.int .i64 0)]) := by
 refine FnB.of Try.func13 rfl (by kernel_rfl) Try.ntmps13 (by simp) (fun w => [(0, old w.heap.size (arrD false a)), (1, old w.heap.size (opG o))]) (fun w => (Start.old rfl (Start.old rfl Start.nil))) fun w₀ => ?_
 refine A.nameAr (t := 0) (k₁ := 1000201) (k₂ := 1000202) rfl fun A₃ q₃ A₂ q₂ hq₃ hq₂ he₁ he₂ => ?_
 refine A.nameOp (t := 1) (k := 1000303) rfl fun A₁ q hq => ?_
 have p2 : 0 < a.dur.length := by omega
 have h2 : a.dur.length ≤ 4096 := by omega
 refine GS ?_
 refine TN 0 ?_
 refine RN ?_
 refine ZB 1000002 rfl fun b2 ⟨hBb2, hb2⟩ => ?_
 refine TN 1 ?_
 refine RN ?_
 refine ZB 1000003 rfl fun b3 ⟨hBb3, hb3⟩ => ?_
 refine TN 2 ?_
 refine RN ?_
 refine ZN 1000004 zero35 fun b4 ⟨hBb4, hb4⟩ => ?_
 have hlt_b2_b4 := hb4 1000002 b2 _ _ rfl
 refine TN 3 ?_
 refine RN ?_
 refine ZN 1000005 zero41 fun b5 ⟨hBb5, hb5⟩ => ?_
 refine TL ?_
 refine RVN 1 rfl ?_
 refine GS ?_
 refine RunTK.newG 1 (by decide) rfl (.inl rfl) ?_
 refine RS (OpOk.arO (k₁ := 1000201) (k₂ := 1000202) (ok_loadA (s := 1000002) (by decide) Try.underlying35 rfl (size35.of (rfl)) rfl rfl) hq₃ hq₂ (by decide) (by decide) rfl rfl) ?_
 refine RN ?_
 refine ⟨_, _, _, eff_nameA (n := 55) (d := 10) (k₁ := 1000301) (k₂ := 1000302) rfl rfl (fun B' => ok_callB (Copy_fn a p1 p2 h1 h2) newA_mono (Args.cons rfl (by first | exact Le.refl _ | exact Le.old _ _ | exact arr_any | exact arr_ex | exact arrD_any | exact op_any | exact (Le.old _ _).trans arrD_any | exact (Le.old _ _).trans arr_any) Args.nil)) (by decide) (by decide), fun ⟨c1, c2, u1, u2, r1, r2⟩ hc => ?_⟩
 have hBc1 := hc.1
 have hBc2 := hc.2.1
 have hne : c1 ≠ c2 := hc.2.2.1
 have hu1 := hc.2.2.2.1
 have hu2 := hc.2.2.2.2.1
 dsimp only at hBc1 hBc2 hu1 hu2
 dsimp only
 have hlt_b5_c1 : b5 < c1 := hc.2.2.2.2.2.1 1000005 _ _ _ rfl
 have hlt_b5_c2 : b5 < c2 := hc.2.2.2.2.2.2 1000005 _ _ _ rfl
 refine TN 2 ?_
 refine RN ?_
 refine ZN 1000007 zero35 fun b7 ⟨hBb7, hb7⟩ => ?_
 have hlt_b2_b7 := hb7 1000002 b2 _ _ rfl
 have hlt_b4_b7 := hb7 1000004 b4 _ _ rfl
 refine TF 3 ?_
 refine RN ?_
 refine ZA 1000007 (size35.of rfl) hBb7 rfl rfl rfl (LB 1000002 rfl (LT 1000003 rfl (LB 1000004 rfl (LT 1000005 rfl (LO 1000201 rfl (LO 1000202 rfl (LT 1000301 rfl (LT 1000302 rfl (LO 1000303 rfl (LW [2, 3, 4, 5, 7] rfl)))))))))) ?_
 refine TL ?_
 refine RN ?_
 refine QS ?_
 refine GT ?_
 refine RS (ok_field field35_0 (by decide) rfl) ?_
 refine RLV 1000002 Try.underlying28 rfl rfl rfl ?_
 refine RS (ok_lenV Try.underlying28 rfl) ?_
 refine RS (OpOk.opO (k₁ := 1000303) (p := o) (ok_loadA (s := 1000003) (by decide) Try.underlying47 rfl (size47.of (rfl)) rfl rfl) hq (by decide) rfl) ?_
 refine RS (ok_call (rBad_fn (a.now.length : Int) o) (Args.cons rfl (by first | exact Le.refl _ | exact Le.old _ _ | exact arr_any | exact arr_ex | exact arrD_any | exact op_any | exact (Le.old _ _).trans arrD_any | exact (Le.old _ _).trans arr_any) (Args.cons rfl (by first | exact Le.refl _ | exact Le.old _ _ | exact arr_any | exact arr_ex | exact arrD_any | exact op_any | exact (Le.old _ _).trans arrD_any | exact (Le.old _ _).trans arr_any) Args.nil))) ?_; refine RZ (.bool false) (by rw [hb]) ?_
 refine RN ?_
 refine A.no rfl ?_
 refine QK ?_
 refine QS ?_
 refine GT ?_
 refine RS (ok_field field47_0 (by decide) rfl) ?_
 refine RLV 1000003 Try.underlying44 rfl rfl rfl ?_
 refine RN ?_
 refine A.block ?_
 refine GT ?_
 refine RB rfl rfl rfl ?_
 refine RF ?_
 refine RVN 1 rfl ?_
 refine A.no rfl ?_
 refine GT ?_
 refine RB rfl rfl rfl ?_
 refine RF ?_
 refine RVN 1 rfl ?_
 refine A.no rfl ?_
 refine GT ?_
 refine RB rfl rfl rfl ?_
 refine RT ?_
 refine RVN 1 rfl ?_
 refine A.yes rfl ?_
 refine A.memA (k := 1000301) (k' := 1000401) rfl ?_
 refine GE ?_
 refine RunTK.newG 2 (by decide) rfl (.inl rfl) ?_
 refine RS (ok_field field35_0 (by decide) rfl) ?_
 refine RS ((OpOk.slO (ex := false) (k₁ := 1000401) (ok_loadV (s := 1000007) (by decide) Try.underlying28 rfl rfl rfl (rfl)) hu1 nofun (by decide) rfl).le ((Le.old _ _).trans rowG_rowD)) ?_
 refine RN ?_
 refine ⟨_, _, _, eff_name1 (n := 55) (d := 51) (k := 1000305) (sz := 32) rfl rfl (fun B' => ok_appendNil Try.underlying28 infoB (by decide) (by decide) (by kernel_rfl) rfl (Le.refl _) (bks_one _) (bks_len _) (by omega)) p1 (by decide) (by decide), fun ⟨c3, u3, r3⟩ hc3 => ?_⟩
 have hBc3 := hc3.1
 have hu3 := hc3.2.1
 have hlt_b5_c3 : b5 < c3 := hc3.2.2 1000005 _ _ _ rfl
 dsimp only at hBc3 hu3
 dsimp only
 refine TF 4 ?_
 refine RS (ok_field field35_1 (by decide) rfl) ?_
 refine RN ?_
 refine ⟨_, eff_storeS (n := 55) (s := 1000007) info28 rfl rfl rfl hBb7 rfl (by simp) (LB 1000002 rfl (LT 1000003 rfl (LB 1000004 rfl (LT 1000005 rfl (LO 1000201 rfl (LO 1000202 rfl (LT 1000301 rfl (LT 1000302 rfl (LO 1000303 rfl (LT 1000305 rfl (LW [4, 5, 7] rfl))))))))))), ?_⟩
 refine TL ?_
 refine RN ?_
 refine End.sub (KC 4 rfl (KC 5 rfl (KC 7 rfl (KC 1000002 rfl (KC 1000003 rfl (KC 1000004 rfl (KC 1000005 rfl (KE 1000007 rfl (by rfl) (KC 1000201 rfl (KC 1000202 rfl (KC 1000301 rfl (KC 1000302 rfl (KC 1000303 rfl (KC 1000305 rfl KN)))))))))))))) ?_
 refine End.normal_block ?_
 refine EN ?_
 refine GS ?_
 refine TF 2 ?_
 refine RL 1000007 Try.underlying35 rfl rfl (size35.of rfl) ?_
 refine RS (ok_litP [] Try.underlying41 info5 zero41 (by decide) trivial rfl) ?_; refine RZ (aggV (bkV zB)) (by rfl) ?_
 refine RN ?_
 refine ZA 1000004 (size35.of rfl) hBb4 rfl rfl rfl (LB 1000002 rfl (LT 1000003 rfl (LT 1000005 rfl (LB 1000007 rfl (LO 1000201 rfl (LO 1000202 rfl (LT 1000301 rfl (LT 1000302 rfl (LO 1000303 rfl (LT 1000305 rfl (LW [4, 5, 54] rfl))))))))))) ?_
 refine TF 3 ?_
 refine RN ?_
 refine ⟨_, eff_storeA (n := 55) (s := 1000005) (size41.of (bk_len _)) rfl rfl (bk_one _) hBb5 rfl (by simp only [bk_len]) (LT 1000002 rfl (LT 1000003 rfl (LT 1000004 rfl (LT 1000007 rfl (LO 1000201 rfl (LO 1000202 rfl (LB 1000301 rfl (LB 1000302 rfl (LO 1000303 rfl (LB 1000305 rfl (LW [4, 5] rfl))))))))))), ?_⟩
 refine TL ?_
 refine RVN 1 rfl ?_
 refine A.ret ?_
 refine End.packAr (k := 1000004) (k₁ := 1000301) (k₂ := 1000305) (lo := w₀.heap.size) ⟨a.now, a.now⟩ rfl rfl rfl rfl rfl hBc1 hBc3 hu1 hu3 ?_
 exact End.cellKV (s := 1000004) (s₂ := 1000005) rfl Try.underlying35 rfl size35 rfl rfl (Le.refl _) Try.underlying41 rfl (size41.of (bk_len _)) rfl rfl rfl (Le.refl _)
theorem rDo_fn (a : Ar) (o : OpA) (he : a.now.length = a.dur.length) (p1 : 0 < a.now.length) (h1 : a.now.length ≤ 4096) : FnB Try.prog 13 [arrD false a, opG o] (fun B => tup [arrZ (zOwn 41 B) false (stepA a o).1, .v (aggV (bkV (stepA a o).2.1)), .v (.int .i64 (stepA a o).2.2)]) := by
 cases hb : badA a.now.length o with
 | true => rw [step_bad hb]; exact rDo_b a o he p1 h1 hb
 | false =>
  rcases bad_not hb with ⟨hk, h0, hi⟩ | ⟨hk, h0, hi, hd⟩ | hk
  ·rw [step_read hb hk]; exact rDo_r a o he p1 h1 hb hk o.i.toNat (by omega) (by omega)
  ·rw [step_write hb hk]; exact rDo_w a o he p1 h1 hb hk o.i.toNat (by omega) (by omega) hd
  ·rw [step_flush hb hk]; exact rDo_f a o he p1 h1 hb hk
end Go.Proofs.Ytggijkmlmklneaa
namespace Go.Proofs.Ytggijkmlmklneaa
open Go Go.RowKit
set_option linter.unusedVariables false
set_option linter.unusedSimpArgs false
variable {κ : Cx}
section
variable {P : Program} {n B : Nat} {ops : Array Oper} {E : Env} {ty : TypeId} {pos : String} {after : Array Edge}
theorem St.pushE {a : Act} {w : World} : ∀ {F : Env}, (∀ q ∈ F, q.2.Of w (a.tmps.getD q.1 undef)) → St κ n B E a w → St κ n B (F ++ E) a w
  | [], _, h => h
  | q :: F, hF, h => (St.pushE (F := F) (fun p hp => hF p (List.mem_cons_of_mem _ hp)) h).push (t := q.1) (d := q.2) (hF q List.mem_cons_self)
/-- A new variable; what is known of rows says that they were made before it. -/
theorem eff_allocF {T : TypeId} {zs : List Value} {d k : Nat} (rs : List (Nat × D × (Nat → D))) (hz : ZeroIs P T zs) (hdn : d < n) (hr : ∀ p ∈ rs, E.look p.1 = some p.2.1 ∧ p.1 ≠ d ∧ ∀ w x, p.2.1.Of w x → (p.2.2 w.heap.size).Of w x) :
    EffG P n B ops ⟨some d, .alloc T, ty, pos, after, none⟩ E (NewK B E) (fun b => (k, blk b T zs) :: (rs.map fun p => (p.1, p.2.2 b)) ++ ((d, .v (.pointer (some ⟨b, 0, none⟩))) :: E)) := by
  intro κ a w K Q h hK
  obtain ⟨i, z, hi, hz, hc⟩ := hz.get
  have hrun : (execOp a.eval ⟨some d, .alloc T, ty, pos, after, none⟩).run P w = .ok (.value (.pointer (some ⟨w.heap.size, 0, none⟩))) (w.alloc (.cells zs.toArray T)) := by
    simp [execOp, Instr.alloc, zeroValue, typeInfo, hi, hz, newVar, newRow, hc]
  rw [if_pos (by simp [Region.wanted])]
  refine opR (not_defer hrun) ?_
  unfold Oper.wp
  rw [hrun, Oper.upon_value]
  refine hK w.heap.size _ _ ⟨h.base, fun s b' e ys hs => (h.of s _ hs).1, fun s b' e m d hs => (h.of s _ hs).1⟩ ((Below.refl B w).alloc h.base _) ?_
  have hg : Grow w (w.alloc (.cells zs.toArray T)) := Grow.alloc w _
  have h1 := (h.grow hg).put (d := .v (.pointer (some ⟨w.heap.size, 0, none⟩))) hdn rfl
  have h2 := h1.pushE (F := rs.map fun p => (p.1, p.2.2 w.heap.size)) fun q hq => by
    obtain ⟨p, hp, rfl⟩ := List.mem_map.1 hq
    obtain ⟨k1, k2, k3⟩ := hr p hp
    have k4 := D.Of.grow (k3 _ _ (h.of p.1 _ k1)) hg
    have hne : d ≠ p.1 := fun e => k2 e.symm
    show (p.2.2 w.heap.size).Of _ ((a.put (some d) _).tmps.getD p.1 undef)
    rw [getD_put_past _ _ hne]; exact k4
  exact h2.push (t := k) (d := blk w.heap.size T zs) ⟨by simp, heap_alloc_new w _⟩
end
theorem varK_arr_cut {b m : Nat} {T : TypeId} {Z : TypeId → Nat → Prop} {ex : Bool} {a : Ar} {w : World} {x : Value} (h : (varK b T m (arrZ Z ex a)).Of w x) : (varK b T m (arrZ (zCut Z w.heap.size) ex a)).Of w x := by
  obtain ⟨h1, cs, h2, h3, h4, h5⟩ := h
  exact ⟨h1, cs, h2, h3, h4, arr_cut h5⟩
theorem arr_unex {Z : TypeId → Nat → Prop} {ex : Bool} {a : Ar} : Le (arrZ Z ex a) (arrZ Z false a) := fun _ _ _ ⟨u, v, h1, ⟨A, q, k1, k2, _, k4⟩, ⟨A', q', l1, l2, _, l4⟩⟩ => ⟨u, v, h1, ⟨A, q, k1, k2, nofun, k4⟩, ⟨A', q', l1, l2, nofun, l4⟩⟩
theorem zCut_le {Z : TypeId → Nat → Prop} {hi : Nat} : ∀ e b, zCut Z hi e b → Z e b := fun _ _ h => h.1
section
variable {P : Program} {B : Nat} {E : Env} {o : Oper}
theorem OpOk.tgO {A₁ : Option Addr} {m q₁ k₁ B' : Nat} {pre xs cs : List Value} (h : OpOk P B o E (.v (aggV cs))) (hcs : cs = pre ++ [.slice A₁ m q₁]) (hq₁ : m ≤ q₁) (hk₁ : vbase ≤ k₁) (h1 : E.look k₁ = some (old B' (memR A₁ xs))) : OpOk P B o E (old B' (tlD pre (rowG false m xs))) := fun ρ w hB hv hρ => by
  subst hcs
  refine (h ρ w hB hv hρ).mono fun x w' hx => ⟨hx.1, ?_⟩
  have g1 : (old B' (memR A₁ xs)).Of w' undef := D.Of.grow (hv k₁ _ hk₁ h1) hx.1
  exact ⟨g1.1, _, rfl, hx.2, _, _, rfl, hq₁, nofun, g1.2⟩
end
theorem Agg.val {m : Nat} {cs : List Value} (hl : cs.length = m) (h1 : cs.all (·.oneCell') = true) : Agg m (.v (aggV cs)) := fun B w x hx => ⟨cs, hx, hl, h1⟩
/-- A variable whose value is known. -/
theorem A.unK {P : Program} {w₀ : World} {n : Nat} {c : Code} {E : Env} {Q : Exit → Act → World → Prop} {k b m : Nat} {T : TypeId} {cs : List Value} (hk : E.look k = some (varK b T m (.v (aggV cs)))) (h : A κ P w₀ n c ((k, blk b T cs) :: E) Q) : A κ P w₀ n c E Q := fun a w g hs => by
  obtain ⟨h1, cs', _, _, h4, h5⟩ := hs.of k _ hk
  have := aggV_inj h5; subst this
  exact h a w g (hs.push (t := k) (d := blk b T cs') ⟨h1, h4⟩)
section
variable {P : Program} {B : Nat} {E : Env} {dst : Option Tmp} {ty : TypeId} {pos : String} {after : Array Edge} {guard : Option (Nat × Bool)}
theorem run_cell {T : TypeId} {td : TypeDesc} {w : World} {b j : Nat} {e : TypeId} {cs : List Value} {u : Value} (ht : P.underlying T = some td) (hp : plainTD td = true) (hh : w.heap[b]? = some (.cells cs.toArray e (0, 0))) (hu : cs[j]? = some u) : (Instr.loadAt T (.pointer (some ⟨b, j, none⟩))).run P w = .ok u w :=
  run_load_plain ht hp (by simp [World.cell?, hh, hu])
/-- A field of a variable that holds an array. -/
theorem ok_loadA0 {Z : TypeId → Nat → Prop} {T : TypeId} {td : TypeDesc} {x : Operand} {b s : Nat} {e : TypeId} {ex : Bool} {a : Ar} (hsl : vbase ≤ s) (ht : P.underlying T = some td) (hp : plainTD td = true) (hx : E.at x = some (.v (.pointer (some ⟨b, 0, none⟩)))) (hblk : E.look s = some (varK b e 2 (arrZ Z ex a))) :
    OpOk P B ⟨dst, .load T x, ty, pos, after, guard⟩ E (sliZ Z ex a.now.length (bksV a.now)) := fun ρ w _ hv hρ => by
  have h1 : ρ x = _ := hρ x (by simp [Op.operands]) _ hx
  obtain ⟨hlt, cs, h2, h3, hh, u, v, h5, h6, h7⟩ := hv s _ hsl hblk
  have := aggV_inj h5; subst this
  exact out_val (x := u) (w' := w) (by simp [execOp, h1, run_cell ht hp hh (rfl : [u, v][0]? = some u)]) ⟨Grow.refl w, h6⟩
theorem ok_loadA1 {Z : TypeId → Nat → Prop} {T : TypeId} {td : TypeDesc} {x : Operand} {b s : Nat} {e : TypeId} {ex : Bool} {a : Ar} (hsl : vbase ≤ s) (ht : P.underlying T = some td) (hp : plainTD td = true) (hx : E.at x = some (.v (.pointer (some ⟨b, 1, none⟩)))) (hblk : E.look s = some (varK b e 2 (arrZ Z ex a))) :
    OpOk P B ⟨dst, .load T x, ty, pos, after, guard⟩ E (sliZ Z ex a.dur.length (bksV a.dur)) := fun ρ w _ hv hρ => by
  have h1 : ρ x = _ := hρ x (by simp [Op.operands]) _ hx
  obtain ⟨hlt, cs, h2, h3, hh, u, v, h5, h6, h7⟩ := hv s _ hsl hblk
  have := aggV_inj h5; subst this
  exact out_val (x := v) (w' := w) (by simp [execOp, h1, run_cell ht hp hh (rfl : [u, v][1]? = some v)]) ⟨Grow.refl w, h7⟩
/-- A field of a variable that holds an operation. -/
theorem ok_loadOp {Z : TypeId → Nat → Prop} {T : TypeId} {td : TypeDesc} {x : Operand} {b j s : Nat} {e : TypeId} {p : OpA} {u : Value} (hsl : vbase ≤ s) (ht : P.underlying T = some td) (hp : plainTD td = true) (hx : E.at x = some (.v (.pointer (some ⟨b, j, none⟩)))) (hblk : E.look s = some (varK b e 3 (opZ Z p))) (hu : (opH p)[j]? = some u) :
    OpOk P B ⟨dst, .load T x, ty, pos, after, guard⟩ E (.v u) := fun ρ w _ hv hρ => by
  have h1 : ρ x = _ := hρ x (by simp [Op.operands]) _ hx
  obtain ⟨hlt, cs, h2, h3, hh, v, h5, h6, h7⟩ := hv s _ hsl hblk
  have := aggV_inj h6; subst this
  exact out_val (x := u) (w' := w) (by simp [execOp, h1, run_cell ht hp hh (app_get j u hu)]) ⟨Grow.refl w, rfl⟩
end
theorem ownK_cut {base : Nat} {e : TypeId} {Z : TypeId → Nat → Prop} {L : List OpA} {w : World} {x : Value} (h : (ownK base e 3 (L.map (opZ Z))).Of w x) : (ownK base e 3 (L.map (opZ (zCut Z w.heap.size)))).Of w x := by
  obtain ⟨xs, h1, h2⟩ := h
  refine ⟨xs, by simpa using h1, fun i d hd => ?_⟩
  rw [List.getElem?_map] at hd
  cases hx : L[i]? with
  | none => rw [hx] at hd; cases hd
  | some o =>
    rw [hx] at hd; injection hd with hd; subst hd
    exact op_cut (h2 i (opZ Z o) (by rw [List.getElem?_map, hx]; rfl))
theorem Surv.ownO {B T g base : Nat} {e : TypeId} {Z : TypeId → Nat → Prop} {L : List OpA} (h : e ≠ T) (hz : ¬ Z T g) : Surv B T g (Go.Proofs.Ytggijkmlmklneaa.ownK base e 3 (L.map (opZ Z))) := Surv.ownK h fun d hd => by
  obtain ⟨o, _, rfl⟩ := List.mem_map.1 hd
  exact Surv.opz hz
/-! ### What operations do to each other -/
theorem bkAt_ne {l : List Bk} {i j : Nat} (h : i ≠ j) (b : Bk) : bkAt (l.set i b) j = bkAt l j := by
  unfold bkAt
  rw [List.getD_eq_getElem?_getD, List.getD_eq_getElem?_getD, List.getElem?_set_ne h]
theorem ord_swap {n : Nat} {a : Ar} (ha : a.Ok n) {p q : OpA} (hp : p.k.toNat ≠ 3) (hq : q.k.toNat ≠ 3) (hne : p.i ≠ q.i) :
    (stepA (stepA a p).1 q).1 = (stepA (stepA a q).1 p).1 ∧ (stepA a p).2 = (stepA (stepA a q).1 p).2 ∧ (stepA (stepA a p).1 q).2 = (stepA a q).2 := by
  have l1 := (step_ok p ha).1
  have l2 := (step_ok q ha).1
  have h0 := ha.1
  cases hbp : badA n p with
  | true =>
    have e1 : ∀ b : Ar, b.now.length = n → stepA b p = (b, (zB, 1)) := fun b hb => step_bad (by rw [hb]; exact hbp)
    rw [e1 a h0, e1 _ l2]; exact ⟨rfl, rfl, rfl⟩
  | false =>
    cases hbq : badA n q with
    | true =>
      have e1 : ∀ b : Ar, b.now.length = n → stepA b q = (b, (zB, 1)) := fun b hb => step_bad (by rw [hb]; exact hbq)
      rw [e1 a h0, e1 _ l1]; exact ⟨rfl, rfl, rfl⟩
    | false =>
      rcases bad_not hbp with ⟨kp, p0, _⟩ | ⟨kp, p0, _, _⟩ | kp
      · rcases bad_not hbq with ⟨kq, q0, _⟩ | ⟨kq, q0, _, _⟩ | kq
        · rw [step_read (a := a) (by rw [h0]; exact hbp) kp, step_read (a := a) (by rw [h0]; exact hbq) kq, step_read (by rw [h0]; exact hbp) kp]; exact ⟨rfl, rfl, rfl⟩
        · rw [step_read (a := a) (by rw [h0]; exact hbp) kp, step_write (a := a) (by rw [h0]; exact hbq) kq, step_read (by dsimp only; rw [List.length_set, h0]; exact hbp) kp]
          exact ⟨rfl, by dsimp only; rw [bkAt_ne (by omega)], rfl⟩
        · exact absurd kq hq
      · rcases bad_not hbq with ⟨kq, q0, _⟩ | ⟨kq, q0, _, _⟩ | kq
        · rw [step_write (a := a) (by rw [h0]; exact hbp) kp, step_read (a := a) (by rw [h0]; exact hbq) kq, step_read (by dsimp only; rw [List.length_set, h0]; exact hbq) kq, step_write (by rw [h0]; exact hbp) kp]
          exact ⟨rfl, rfl, by dsimp only; rw [bkAt_ne (by omega)]⟩
        · rw [step_write (a := a) (by rw [h0]; exact hbp) kp, step_write (a := a) (by rw [h0]; exact hbq) kq, step_write (by dsimp only; rw [List.length_set, h0]; exact hbq) kq, step_write (by dsimp only; rw [List.length_set, h0]; exact hbp) kp]
          exact ⟨by dsimp only; rw [List.set_comm _ _ (by omega)], rfl, rfl⟩
        · exact absurd kq hq
      · exact absurd kp hp
theorem ord_same {n : Nat} {a : Ar} (ha : a.Ok n) {p q : OpA} (hp : p.k.toNat = 2) (hq : q.k.toNat = 2) (hi : p.i = q.i) (bp : badA n p = false) (bq : badA n q = false) : (stepA a q).1 = (stepA (stepA a p).1 q).1 := by
  have h0 := ha.1
  rw [step_write (a := a) (by rw [h0]; exact bp) hp, step_write (a := a) (by rw [h0]; exact bq) hq, step_write (by dsimp only; rw [List.length_set, h0]; exact bq) hq]
  dsimp only
  rw [hi, List.set_set]
theorem dif_prefix {x y : List Bk} {i n : Nat} (h : i ≤ n) : ∃ r, difP x y n = difP x y i ++ r := by
  induction n with
  | zero => obtain rfl : i = 0 := by omega
            exact ⟨[], by simp⟩
  | succ n ih =>
    rcases Nat.lt_or_ge n i with hi | hi
    · obtain rfl : i = n + 1 := by omega
      exact ⟨[], by simp⟩
    · obtain ⟨r, hr⟩ := ih hi
      by_cases hd : bkAt x n = bkAt y n
      · exact ⟨r, by rw [dif_no hd, hr]⟩
      · exact ⟨r ++ [n], by rw [dif_yes hd, hr, List.append_assoc]⟩
theorem dif_at {x y : List Bk} {i n : Nat} (h : i < n) (hd : bkAt x i ≠ bkAt y i) : (difP x y i).length < (difP x y n).length ∧ (difP x y n)[(difP x y i).length]? = some i := by
  obtain ⟨r, hr⟩ := dif_prefix (x := x) (y := y) (show i + 1 ≤ n from h)
  rw [hr, dif_yes hd]
  constructor
  · simp
  · rw [List.append_assoc, List.getElem?_append_right (Nat.le_refl _), Nat.sub_self]; rfl
theorem OpOk.opB {Z : TypeId → Nat → Prop} {P : Program} {B : Nat} {E : Env} {o : Oper} {b T k q : Nat} {p : OpA} {xs : List Value} (h : OpOk P B o E (.v (aggV [byteV p.k, .int .i64 p.i, .slice (some ⟨b, 0, none⟩) p.d.length q]))) (hq : p.d.length ≤ q) (hk : vbase ≤ k) (hl : E.look k = some (blk b T xs)) (hz : Z T b) (hy : ∀ (j : Nat) (u : Value), (p.d.map byteV)[j]? = some u → xs[j]? = some u) : OpOk P B o E (opZ Z p) := fun ρ w hB hv hρ => by
  refine (h ρ w hB hv hρ).mono fun x w' hx => ⟨hx.1, ?_⟩
  have g1 : (blk b T xs).Of w' undef := D.Of.grow (hv k _ hk hl) hx.1
  exact ⟨_, rfl, hx.2, _, _, rfl, hq, nofun, RowZ.blk g1.1 g1.2 hz hy⟩
theorem res_getD {a : Ar} {L : List OpA} {i : Nat} (h : i < L.length) : (resA a L).getD i zR = (stepA (runA a (L.take i)) (nthO L i)).2 := by
  have h1 := res_snoc (a := a) h
  have h2 : resA a L = resA a (L.take (i + 1)) ++ resA (runA a (L.take (i + 1))) (L.drop (i + 1)) := by rw [← res_app, List.take_append_drop]
  rw [h2, ← h1, List.getD_eq_getElem?_getD, List.append_assoc, List.getElem?_append_right (by rw [res_len, List.length_take]; omega), res_len, List.length_take, Nat.min_eq_left (by omega), Nat.sub_self]
  rfl
theorem step_err (a : Ar) (o : OpA) : (stepA a o).2.2 = if badA a.now.length o = true then 1 else 0 := by
  unfold stepA
  split
  · rfl
  · split
    · rfl
    · split <;> rfl
theorem rs_val {r : Rs} : (rsV r).take 32 = bkV r.1 := List.take_left' (bk_len _)
theorem rs_err {r : Rs} : (rsV r)[32]? = some (.int .i64 r.2) := by unfold rsV; rw [List.getElem?_append_right (by rw [bk_len]; exact Nat.le_refl _), bk_len]; rfl
end Go.Proofs.Ytggijkmlmklneaa
namespace Go.Proofs.Ytggijkmlmklneaa
open Go Go.RowKit
set_option linter.unusedVariables false
set_option maxRecDepth 20000
set_option linter.unusedSimpArgs false

theorem tup_le3 {d₁ d₂ d₃ e₁ e₂ e₃ : D} (h₁ : Le d₁ e₁) (h₂ : Le d₂ e₂) (h₃ : Le d₃ e₃) : Le (tup [d₁, d₂, d₃]) (tup [e₁, e₂, e₃]) := by
 rintro B w x ⟨xs, rfl, hl, h⟩
 refine ⟨xs, rfl, hl, fun j e u he hu => ?_⟩
 match j, he with
 | 0, he => simp at he; subst he; exact h₁ _ _ _ (h 0 d₁ u rfl hu)
 | 1, he => simp at he; subst he; exact h₂ _ _ _ (h 1 d₂ u rfl hu)
 | 2, he => simp at he; subst he; exact h₃ _ _ _ (h 2 d₃ u rfl hu)
 | j + 3, he => simp at he
theorem size56 : SizeIs Try.prog 56 3 := by unfold SizeIs; kernel_rfl
theorem size24 : SizeIs Try.prog 24 2 := by unfold SizeIs; kernel_rfl
theorem field24_0 : FieldIs Try.prog 24 0 0 1 := by unfold FieldIs; kernel_rfl
theorem field24_1 : FieldIs Try.prog 24 1 1 1 := by unfold FieldIs; kernel_rfl
theorem buildO2 (k : UInt8) (i : Int) : Try.prog.built 47 [(0, byteV k), (1, .int .i64 i)] = some #[byteV k, .int .i64 i, .slice none 0 0] := by kernel_rfl
theorem buildO1 (k : UInt8) : Try.prog.built 47 [(0, byteV k)] = some #[byteV k, .int .i64 0, .slice none 0 0] := by kernel_rfl
theorem buildO3 (k : UInt8) (i : Int) (A₁ : Option Addr) (n₁ q₁ : Nat) : Try.prog.built 47 [(0, byteV k), (1, .int .i64 i), (2, .slice A₁ n₁ q₁)] = some #[byteV k, .int .i64 i, .slice A₁ n₁ q₁] := by kernel_rfl
theorem infoZ : InfoP Try.prog 56 (.agg #[.int .u8 0, .int .u8 0, .int .u8 0]) 3 3 := by unfold InfoP; kernel_rfl
abbrev Z3 := UInt8 × UInt8 × UInt8
def z3V (z : Z3) : List Value := [byteV z.1, byteV z.2.1, byteV z.2.2]
theorem z3_lens (q : List Z3) : ∀ x ∈ q, (z3V x).length = 3 := fun _ _ => rfl
def z3R (q : List Z3) : List Value := q.flatMap z3V
theorem z3R_len (q : List Z3) : (z3R q).length = q.length * 3 := flat_length (z3_lens q)
def z3At (q : List Z3) (i : Nat) : Z3 := q.getD i (0, 0, 0)
theorem z3R_at {q : List Z3} {i : Nat} (hi : i < q.length) : ((z3R q).drop (i * 3)).take 3 = z3V (z3At q i) := flat_getD (z3_lens q) hi _
/-- The bad operations. -/
def badO (n i : Nat) (b : Bk) : Nat → OpA
 | 0 => ⟨1, n, []⟩
 | 1 => ⟨2, -1, b.1⟩
 | 2 => ⟨2, i, b.1.take 31⟩
 | 3 => ⟨0, 0, []⟩
 | 4 => ⟨4, 0, []⟩
 | _ => ⟨2, i, b.1 ++ [0]⟩
/-- An operation on n blocks. -/
def opN (n : Nat) (z : Z3) : OpA :=
 if z.1.toNat % 16 < 6 then ⟨1, (z.2.1.toNat % n : Nat), []⟩ else if z.1.toNat % 16 < 13 then ⟨2, (z.2.1.toNat % n : Nat), (plain z.2.2).1⟩ else if z.1.toNat % 16 < 15 then ⟨3, 0, []⟩ else badO n (z.2.1.toNat % n) (plain z.2.2) (z.2.1.toNat % 6)
def badL (Z : TypeId → Nat → Prop) (n i : Nat) (b : Bk) : List D := [opZ Z (badO n i b 0), opZ Z (badO n i b 1), opZ Z (badO n i b 2), opZ Z (badO n i b 3), opZ Z (badO n i b 4), opZ Z (badO n i b 5)]
theorem badL_get {Z : TypeId → Nat → Prop} {n i : Nat} {b : Bk} {j : Nat} (h : j < 6) : (badL Z n i b)[j]? = some (opZ Z (badO n i b j)) := by
 match j, h with
 | 0, _ => rfl
 | 1, _ => rfl
 | 2, _ => rfl
 | 3, _ => rfl
 | 4, _ => rfl
 | 5, _ => rfl
theorem sli_lenE {Z : TypeId → Nat → Prop} {m n : Nat} {xs : List Value} (h : m = n) : Le (sliZ Z false m xs) (sliZ Z false n xs) := Le.eq (by rw [h])
/-- The operations that a law is about. -/
def opsP (n : Nat) (q : List Z3) (i : Nat) : List OpA := (q.take i).map (opN n)
def nO (k : UInt8) : Nat := 1 + k.toNat % 20
def opsO (k : UInt8) (q : List Z3) : List OpA := opsP (nO k) q 30
theorem nO_le (k : UInt8) : 1 ≤ nO k ∧ nO k ≤ 20 := by unfold nO; omega
theorem opsO_len (k : UInt8) (q : List Z3) : (opsO k q).length ≤ 30 := by unfold opsO opsP; rw [List.length_map, List.length_take]; omega
theorem opsP_len (n : Nat) (q : List Z3) (i : Nat) : (opsP n q i).length = min i q.length := by unfold opsP; rw [List.length_map, List.length_take]
theorem opsP_succ {n : Nat} {q : List Z3} {i : Nat} (h : i < q.length) : opsP n q i ++ [opN n (z3At q i)] = opsP n q (i + 1) := by
 unfold opsP z3At
 rw [List.take_succ_eq_append_getElem h, List.map_append]
 simp [List.getD, h]
theorem opsP_end {n : Nat} {q : List Z3} {i : Nat} (h : i = min q.length 30) : opsP n q i = opsP n q 30 := by
 subst h; unfold opsP
 rcases Nat.lt_or_ge 30 q.length with h | h
 ·rw [Nat.min_eq_right (by omega)]
 ·rw [Nat.min_eq_left h, List.take_of_length_le (Nat.le_refl _), List.take_of_length_le h]

set_option maxHeartbeats 4000000 in
theorem Op_r (n : Nat) (h1 : 1 ≤ n) (h2 : n ≤ 4096) (z : Z3) (hk : z.1.toNat % 16 < 6) : FnB Try.prog 20 [.v (nI (n)), .v (aggV [byteV z.1, byteV z.2.1, byteV z.2.2])] (fun B => opZ (zDat 41 5 B) ⟨1, (z.2.1.toNat % n : Nat), []⟩) := by
 refine FnB.of Try.func20 rfl (by kernel_rfl) Try.ntmps20 (by simp) (fun w => [(0, .v (nI (n))), (1, .v (aggV [byteV z.1, byteV z.2.1, byteV z.2.2]))]) (fun w => (Start.v rfl (Start.v rfl Start.nil))) fun w₀ => ?_
 refine GS ?_
 refine TN 0 ?_
 refine RN ?_
 refine ZB 1000003 rfl fun b3 ⟨hBb3, hb3⟩ => ?_
 refine TN 1 ?_
 refine RN ?_
 refine ZN 1000004 zero47 fun b4 ⟨hBb4, hb4⟩ => ?_
 refine TL ?_
 refine RN ?_
 refine GS ?_
 refine TN 3 ?_
 refine RS (ok_index0 (2) Try.underlying56 info5 rfl rfl (rfl) (by decide)) ?_
 refine RLV 1000003 Try.underlying5 rfl rfl rfl ?_
 refine RS (ok_call (Plain_fn z.2.2) (A1 rfl)) ?_
 refine RN ?_
 refine ZN 1000005 zero41 fun b5 ⟨hBb5, hb5⟩ => ?_
 refine TF 4 ?_
 refine RN ?_
 refine ⟨_, eff_storeA (n := 54) (s := 1000005) (size41.of (bk_len _)) rfl rfl (bk_one _) hBb5 rfl (by simp only [bk_len]) (LT 1000003 rfl (LT 1000004 rfl (LW [0, 3, 4, 5] rfl))), ?_⟩
 refine TL ?_
 refine RN ?_
 refine GT ?_
 refine RS (ok_index0 (1) Try.underlying56 info5 rfl rfl (rfl) (by decide)) ?_
 refine RLV 1000003 Try.underlying5 rfl rfl rfl ?_
 refine RS (ok_conv Try.underlying5 Try.underlying3 rfl) ?_; refine RZ (nI (z.2.1.toNat)) (wrap_eq rfl (by have := z.2.1.toNat_lt; omega)) ?_
 refine RM rfl ?_
 refine RS (ok_rem rfl rfl (by omega)) ?_; refine RZ (nI (z.2.1.toNat % n)) (by rfl) ?_
 refine RVN 1 rfl ?_
 refine GT ?_
 refine RS (ok_index0 (0) Try.underlying56 info5 rfl rfl (rfl) (by decide)) ?_
 refine RLV 1000003 Try.underlying5 rfl rfl rfl ?_
 refine RS (ok_rem rfl rfl (by decide)) ?_; refine RZ (nB (z.1.toNat % 16)) (by rw [tmod_lit _ (by decide)]; rfl) ?_
 refine RVN 1 rfl ?_
 refine QSB ?_
 refine GT ?_
 refine RV 2 rfl ?_
 refine RT ?_
 refine RVN 1 rfl ?_
 refine A.yes rfl ?_
 refine GS ?_
 refine TF 2 ?_
 refine RM rfl ?_
 refine RS ((OpOk.le (ok_litS [(0, byteV 1), (1, nI (z.2.1.toNat % n))] [byteV 1, nI (z.2.1.toNat % n), .slice none 0 0] ⟨rfl, rfl, rfl, rfl, trivial⟩ (buildO2 1 ((z.2.1.toNat % n : Nat) : Int))) (op_nil (Z := (zDat 41 5 w₀.heap.size))))) ?_
 refine RN ?_
 refine ⟨_, eff_storeK (n := 54) (s := 1000004) size47 rfl rfl (Le.refl _) (Agg.opz) hBb4 rfl (rfl) (Surv.opz (fun h => absurd h.1 (by decide))) (LV 4 rfl (LT 1000003 rfl (LT 1000005 rfl LN))), ?_⟩
 refine TL ?_
 refine RN ?_
 refine A.ret ?_
 refine End.ret_block ?_
 refine End.ret_then ?_
 exact End.varK1 (s := 1000004) rfl Try.underlying47 rfl size47 rfl rfl (by first | exact Le.refl _ | exact Le.old _ _)
set_option maxHeartbeats 4000000 in
theorem Op_w (n : Nat) (h1 : 1 ≤ n) (h2 : n ≤ 4096) (z : Z3) (hk : ¬ z.1.toNat % 16 < 6) (hk' : z.1.toNat % 16 < 13) : FnB Try.prog 20 [.v (nI (n)), .v (aggV [byteV z.1, byteV z.2.1, byteV z.2.2])] (fun B => opZ (zDat 41 5 B) ⟨2, (z.2.1.toNat % n : Nat), (plain z.2.2).1⟩) := by
 refine FnB.of Try.func20 rfl (by kernel_rfl) Try.ntmps20 (by simp) (fun w => [(0, .v (nI (n))), (1, .v (aggV [byteV z.1, byteV z.2.1, byteV z.2.2]))]) (fun w => (Start.v rfl (Start.v rfl Start.nil))) fun w₀ => ?_
 refine GS ?_
 refine TN 0 ?_
 refine RN ?_
 refine ZB 1000003 rfl fun b3 ⟨hBb3, hb3⟩ => ?_
 refine TN 1 ?_
 refine RN ?_
 refine ZN 1000004 zero47 fun b4 ⟨hBb4, hb4⟩ => ?_
 refine TL ?_
 refine RN ?_
 refine GS ?_
 refine TN 3 ?_
 refine RS (ok_index0 (2) Try.underlying56 info5 rfl rfl (rfl) (by decide)) ?_
 refine RLV 1000003 Try.underlying5 rfl rfl rfl ?_
 refine RS (ok_call (Plain_fn z.2.2) (A1 rfl)) ?_
 refine RN ?_
 refine ZN 1000005 zero41 fun b5 ⟨hBb5, hb5⟩ => ?_
 refine TF 4 ?_
 refine RN ?_
 refine ⟨_, eff_storeA (n := 54) (s := 1000005) (size41.of (bk_len _)) rfl rfl (bk_one _) hBb5 rfl (by simp only [bk_len]) (LT 1000003 rfl (LT 1000004 rfl (LW [0, 3, 4, 5] rfl))), ?_⟩
 refine TL ?_
 refine RN ?_
 refine GT ?_
 refine RS (ok_index0 (1) Try.underlying56 info5 rfl rfl (rfl) (by decide)) ?_
 refine RLV 1000003 Try.underlying5 rfl rfl rfl ?_
 refine RS (ok_conv Try.underlying5 Try.underlying3 rfl) ?_; refine RZ (nI (z.2.1.toNat)) (wrap_eq rfl (by have := z.2.1.toNat_lt; omega)) ?_
 refine RM rfl ?_
 refine RS (ok_rem rfl rfl (by omega)) ?_; refine RZ (nI (z.2.1.toNat % n)) (by rfl) ?_
 refine RVN 1 rfl ?_
 refine GT ?_
 refine RS (ok_index0 (0) Try.underlying56 info5 rfl rfl (rfl) (by decide)) ?_
 refine RLV 1000003 Try.underlying5 rfl rfl rfl ?_
 refine RS (ok_rem rfl rfl (by decide)) ?_; refine RZ (nB (z.1.toNat % 16)) (by rw [tmod_lit _ (by decide)]; rfl) ?_
 refine RVN 1 rfl ?_
 refine QSB ?_
 refine GT ?_
 refine RV 2 rfl ?_
 refine RF ?_
 refine RVN 1 rfl ?_
 refine A.no rfl ?_
 refine GT ?_
 refine RV 2 rfl ?_
 refine RT ?_
 refine RVN 1 rfl ?_
 refine A.yes rfl ?_
 refine GS ?_
 refine TF 3 ?_
 refine RM rfl ?_
 refine RS ((OpOk.slB (Z := (zDat 41 5 w₀.heap.size)) (k := 1000005) (ys := ((plain z.2.2).1).map byteV) (ok_sliceX (l := 0) (h := 32) (m := 32) Try.underlying41 info5 rfl (.inr ⟨rfl, rfl⟩) (.inr ⟨rfl, rfl, rfl⟩) (.inr ⟨rfl, rfl⟩) (by decide) (by decide) (by decide) (.inr rfl)) (by decide) (by decide) rfl ⟨.inl rfl, hBb5⟩ (fun _ _ h => h))) ?_
 refine RS (ok_buildOp (Z := (zDat 41 5 w₀.heap.size)) (p := ⟨2, (z.2.1.toNat % n : Nat), (plain z.2.2).1⟩) rfl buildO3 rfl rfl rfl (sli_lenE (plain z.2.2).2.symm)) ?_
 refine RN ?_
 refine ⟨_, eff_storeK (n := 54) (s := 1000004) size47 rfl rfl (Le.refl _) (Agg.opz) hBb4 rfl (rfl) (Surv.opz (fun h => absurd h.1 (by decide))) (LV 4 rfl (LT 1000003 rfl (LT 1000005 rfl LN))), ?_⟩
 refine TL ?_
 refine RN ?_
 refine A.sub (Sv [4, 1000003, 1000004, 1000005] rfl) ?_
 refine A.ret ?_
 refine End.ret_block ?_
 refine End.ret_then ?_
 exact End.varK1 (s := 1000004) rfl Try.underlying47 rfl size47 rfl rfl (by first | exact Le.refl _ | exact Le.old _ _)
set_option maxHeartbeats 4000000 in
theorem Op_f (n : Nat) (h1 : 1 ≤ n) (h2 : n ≤ 4096) (z : Z3) (hk : ¬ z.1.toNat % 16 < 13) (hk' : z.1.toNat % 16 < 15) : FnB Try.prog 20 [.v (nI (n)), .v (aggV [byteV z.1, byteV z.2.1, byteV z.2.2])] (fun B => opZ (zDat 41 5 B) ⟨3, 0, []⟩) := by
 refine FnB.of Try.func20 rfl (by kernel_rfl) Try.ntmps20 (by simp) (fun w => [(0, .v (nI (n))), (1, .v (aggV [byteV z.1, byteV z.2.1, byteV z.2.2]))]) (fun w => (Start.v rfl (Start.v rfl Start.nil))) fun w₀ => ?_
 refine GS ?_
 refine TN 0 ?_
 refine RN ?_
 refine ZB 1000003 rfl fun b3 ⟨hBb3, hb3⟩ => ?_
 refine TN 1 ?_
 refine RN ?_
 refine ZN 1000004 zero47 fun b4 ⟨hBb4, hb4⟩ => ?_
 refine TL ?_
 refine RN ?_
 refine GS ?_
 refine TN 3 ?_
 refine RS (ok_index0 (2) Try.underlying56 info5 rfl rfl (rfl) (by decide)) ?_
 refine RLV 1000003 Try.underlying5 rfl rfl rfl ?_
 refine RS (ok_call (Plain_fn z.2.2) (A1 rfl)) ?_
 refine RN ?_
 refine ZN 1000005 zero41 fun b5 ⟨hBb5, hb5⟩ => ?_
 refine TF 4 ?_
 refine RN ?_
 refine ⟨_, eff_storeA (n := 54) (s := 1000005) (size41.of (bk_len _)) rfl rfl (bk_one _) hBb5 rfl (by simp only [bk_len]) (LT 1000003 rfl (LT 1000004 rfl (LW [0, 3, 4, 5] rfl))), ?_⟩
 refine TL ?_
 refine RN ?_
 refine GT ?_
 refine RS (ok_index0 (1) Try.underlying56 info5 rfl rfl (rfl) (by decide)) ?_
 refine RLV 1000003 Try.underlying5 rfl rfl rfl ?_
 refine RS (ok_conv Try.underlying5 Try.underlying3 rfl) ?_; refine RZ (nI (z.2.1.toNat)) (wrap_eq rfl (by have := z.2.1.toNat_lt; omega)) ?_
 refine RM rfl ?_
 refine RS (ok_rem rfl rfl (by omega)) ?_; refine RZ (nI (z.2.1.toNat % n)) (by rfl) ?_
 refine RVN 1 rfl ?_
 refine GT ?_
 refine RS (ok_index0 (0) Try.underlying56 info5 rfl rfl (rfl) (by decide)) ?_
 refine RLV 1000003 Try.underlying5 rfl rfl rfl ?_
 refine RS (ok_rem rfl rfl (by decide)) ?_; refine RZ (nB (z.1.toNat % 16)) (by rw [tmod_lit _ (by decide)]; rfl) ?_
 refine RVN 1 rfl ?_
 refine QSB ?_
 refine GT ?_
 refine RV 2 rfl ?_
 refine RF ?_
 refine RVN 1 rfl ?_
 refine A.no rfl ?_
 refine GT ?_
 refine RV 2 rfl ?_
 refine RF ?_
 refine RVN 1 rfl ?_
 refine A.no rfl ?_
 refine GT ?_
 refine RV 2 rfl ?_
 refine RT ?_
 refine RVN 1 rfl ?_
 refine A.sub (Sv [0, 3, 4, 5, 6, 30, 1000003, 1000004, 1000005] rfl) ?_
 refine A.yes rfl ?_
 refine GS ?_
 refine TF 1 ?_
 refine RS ((OpOk.le (ok_litS [(0, byteV 3)] [byteV 3, .int .i64 0, .slice none 0 0] ⟨rfl, rfl, trivial⟩ (buildO1 3)) (op_nil (Z := (zDat 41 5 w₀.heap.size))))) ?_
 refine RN ?_
 refine ⟨_, eff_storeK (n := 54) (s := 1000004) size47 rfl rfl (Le.refl _) (Agg.opz) hBb4 rfl (rfl) (Surv.opz (fun h => absurd h.1 (by decide))) (LV 4 rfl (LT 1000003 rfl (LT 1000005 rfl LN))), ?_⟩
 refine TL ?_
 refine RN ?_
 refine A.ret ?_
 refine End.ret_block ?_
 refine End.ret_then ?_
 exact End.varK1 (s := 1000004) rfl Try.underlying47 rfl size47 rfl rfl (by first | exact Le.refl _ | exact Le.old _ _)
set_option maxHeartbeats 4000000 in
theorem Op_b (n : Nat) (h1 : 1 ≤ n) (h2 : n ≤ 4096) (z : Z3) (hk : ¬ z.1.toNat % 16 < 15) : FnB Try.prog 20 [.v (nI (n)), .v (aggV [byteV z.1, byteV z.2.1, byteV z.2.2])] (fun B => opZ (zDat 41 5 B) (badO n (z.2.1.toNat % n) (plain z.2.2) (z.2.1.toNat % 6))) := by
 refine FnB.of Try.func20 rfl (by kernel_rfl) Try.ntmps20 (by simp) (fun w => [(0, .v (nI (n))), (1, .v (aggV [byteV z.1, byteV z.2.1, byteV z.2.2]))]) (fun w => (Start.v rfl (Start.v rfl Start.nil))) fun w₀ => ?_
 refine GS ?_
 refine TN 0 ?_
 refine RN ?_
 refine ZB 1000003 rfl fun b3 ⟨hBb3, hb3⟩ => ?_
 refine TN 1 ?_
 refine RN ?_
 refine ZN 1000004 zero47 fun b4 ⟨hBb4, hb4⟩ => ?_
 refine TL ?_
 refine RN ?_
 refine GS ?_
 refine TN 3 ?_
 refine RS (ok_index0 (2) Try.underlying56 info5 rfl rfl (rfl) (by decide)) ?_
 refine RLV 1000003 Try.underlying5 rfl rfl rfl ?_
 refine RS (ok_call (Plain_fn z.2.2) (A1 rfl)) ?_
 refine RN ?_
 refine ZN 1000005 zero41 fun b5 ⟨hBb5, hb5⟩ => ?_
 refine TF 4 ?_
 refine RN ?_
 refine ⟨_, eff_storeA (n := 54) (s := 1000005) (size41.of (bk_len _)) rfl rfl (bk_one _) hBb5 rfl (by simp only [bk_len]) (LT 1000003 rfl (LT 1000004 rfl (LW [0, 3, 4, 5] rfl))), ?_⟩
 refine TL ?_
 refine RN ?_
 refine GT ?_
 refine RS (ok_index0 (1) Try.underlying56 info5 rfl rfl (rfl) (by decide)) ?_
 refine RLV 1000003 Try.underlying5 rfl rfl rfl ?_
 refine RS (ok_conv Try.underlying5 Try.underlying3 rfl) ?_; refine RZ (nI (z.2.1.toNat)) (wrap_eq rfl (by have := z.2.1.toNat_lt; omega)) ?_
 refine RM rfl ?_
 refine RS (ok_rem rfl rfl (by omega)) ?_; refine RZ (nI (z.2.1.toNat % n)) (by rfl) ?_
 refine RVN 1 rfl ?_
 refine GT ?_
 refine RS (ok_index0 (0) Try.underlying56 info5 rfl rfl (rfl) (by decide)) ?_
 refine RLV 1000003 Try.underlying5 rfl rfl rfl ?_
 refine RS (ok_rem rfl rfl (by decide)) ?_; refine RZ (nB (z.1.toNat % 16)) (by rw [tmod_lit _ (by decide)]; rfl) ?_
 refine RVN 1 rfl ?_
 refine QSB ?_
 refine GT ?_
 refine RV 2 rfl ?_
 refine RF ?_
 refine RVN 1 rfl ?_
 refine A.no rfl ?_
 refine GT ?_
 refine RV 2 rfl ?_
 refine RF ?_
 refine RVN 1 rfl ?_
 refine A.no rfl ?_
 refine GT ?_
 refine RV 2 rfl ?_
 refine RF ?_
 refine RVN 1 rfl ?_
 refine A.sub (Sv [0, 3, 4, 5, 6, 30, 1000003, 1000004, 1000005] rfl) ?_
 refine A.no rfl ?_
 refine A.skip ?_
 refine End.normal_block ?_
 refine EN ?_
 refine GD ?_
 refine TD 20 ?_
 refine RM rfl ?_
 refine RS ((OpOk.le (ok_litS [(0, byteV 1), (1, .int .i64 (n : Int))] [byteV 1, .int .i64 (n : Int), .slice none 0 0] ⟨rfl, rfl, rfl, rfl, trivial⟩ (buildO2 1 (n : Int))) (op_nil (Z := (zDat 41 5 w₀.heap.size))))) ?_
 refine RS ((OpOk.slB (Z := (zDat 41 5 w₀.heap.size)) (k := 1000005) (ys := ((plain z.2.2).1).map byteV) (ok_sliceX (l := 0) (h := 32) (m := 32) Try.underlying41 info5 rfl (.inr ⟨rfl, rfl⟩) (.inr ⟨rfl, rfl, rfl⟩) (.inr ⟨rfl, rfl⟩) (by decide) (by decide) (by decide) (.inr rfl)) (by decide) (by decide) rfl ⟨.inl rfl, hBb5⟩ (fun _ _ h => h))) ?_
 refine RS (ok_buildOp (Z := (zDat 41 5 w₀.heap.size)) (p := (badO n (z.2.1.toNat % n) (plain z.2.2) 1)) rfl buildO3 rfl rfl rfl (sli_lenE (plain z.2.2).2.symm)) ?_
 refine RM rfl ?_
 refine RS ((OpOk.slB (Z := (zDat 41 5 w₀.heap.size)) (k := 1000005) (ys := ((plain z.2.2).1.take 31).map byteV) (ok_sliceX (l := 0) (h := 31) (m := 32) Try.underlying41 info5 rfl (.inr ⟨rfl, rfl⟩) (.inl ⟨_, _, rfl, rfl⟩) (.inr ⟨rfl, rfl⟩) (by decide) (by decide) (by decide) (.inr rfl)) (by decide) (by decide) rfl ⟨.inl rfl, hBb5⟩ (fun j u h => by rw [List.map_take, List.getElem?_take] at h; split at h; exact h; cases h))) ?_
 refine RS (ok_buildOp (Z := (zDat 41 5 w₀.heap.size)) (p := (badO n (z.2.1.toNat % n) (plain z.2.2) 2)) rfl buildO3 rfl rfl rfl (sli_lenE (by show 31 = (List.take 31 _).length; rw [List.length_take, (plain z.2.2).2]; rfl))) ?_
 refine RS ((OpOk.le (ok_litS [(0, byteV 0)] [byteV 0, .int .i64 0, .slice none 0 0] ⟨rfl, rfl, trivial⟩ (buildO1 0)) (op_nil (Z := (zDat 41 5 w₀.heap.size))))) ?_
 refine RS ((OpOk.le (ok_litS [(0, byteV 4)] [byteV 4, .int .i64 0, .slice none 0 0] ⟨rfl, rfl, trivial⟩ (buildO1 4)) (op_nil (Z := (zDat 41 5 w₀.heap.size))))) ?_
 refine RM rfl ?_
 refine RS (OpOk.byB (k := 1000005) (l := (plain z.2.2).1) (q := 32) (OpOk.asV' (ok_sliceX (l := 0) (h := 32) (m := 32) Try.underlying41 info5 rfl (.inr ⟨rfl, rfl⟩) (.inr ⟨rfl, rfl, rfl⟩) (.inr ⟨rfl, rfl⟩) (by decide) (by decide) (by decide) (.inr rfl)) (show (.slice (some ⟨b5, 0, none⟩) 32 32 : Value) = .slice (some ⟨b5, 0, none⟩) (plain z.2.2).1.length 32 from by rw [(plain z.2.2).2])) (by rw [(plain z.2.2).2]; decide) (by decide) (by decide) rfl) ?_
 refine RS (ok_build [byteD 0] Try.underlying45 info5 rfl (by decide) (by decide) rfl ⟨rfl, rfl, trivial⟩ (fun d hd w x h => by simp only [List.mem_cons, List.not_mem_nil, or_false] at hd; subst hd; exact v_one rfl h)) ?_
 refine RS (ok_appendFull (l := (plain z.2.2).1) (m := [0]) Try.underlying45 info5 (by decide) rfl rfl (Le.eq (by rw [(plain z.2.2).2])) rfl (le_lst _ _) (by rw [(plain z.2.2).2]; decide) (by decide) (by rw [(plain z.2.2).2]; decide)) ?_
 refine RS (ok_buildOp (Z := (zDat 41 5 w₀.heap.size)) (p := (badO n (z.2.1.toNat % n) (plain z.2.2) 5)) rfl buildO3 rfl rfl rfl ((own_sli (Z := (zDat 41 5 w₀.heap.size)) fun b hb => ⟨.inr rfl, hb⟩).trans (sli_lenE (by show (plain z.2.2).1.length + 1 = (_ ++ [0]).length; rw [List.length_append]; rfl)))) ?_
 refine RS (ok_buildK (badL (zDat 41 5 w₀.heap.size) n (z.2.1.toNat % n) (plain z.2.2)) Try.underlying25 infoO rfl rfl (by decide) (by decide) ⟨rfl, ⟨_, rfl, Le.refl _⟩, Agg.opz, rfl, ⟨_, rfl, Le.refl _⟩, Agg.opz, rfl, ⟨_, rfl, Le.refl _⟩, Agg.opz, rfl, ⟨_, rfl, Le.refl _⟩, Agg.opz, rfl, ⟨_, rfl, Le.refl _⟩, Agg.opz, rfl, ⟨_, rfl, Le.refl _⟩, Agg.opz, trivial⟩) ?_
 refine RS (ok_index0 (1) Try.underlying56 info5 rfl rfl (rfl) (by decide)) ?_
 refine RLV 1000003 Try.underlying5 rfl rfl rfl ?_
 refine RS (ok_rem rfl rfl (by decide)) ?_; refine RZ (nB (z.2.1.toNat % 6)) (by rw [tmod_lit _ (by decide)]; rfl) ?_
 refine RS (ok_indexK (z.2.1.toNat % 6) Try.underlying25 size47 rfl (Le.refl _) rfl (badL_get (Nat.mod_lt _ (by decide)))) ?_
 refine RS (ok_loadK Try.underlying47 rfl size47 rfl (Le.refl _)) ?_
 refine RN ?_
 refine ⟨_, eff_storeK (n := 54) (s := 1000004) size47 rfl rfl (Le.refl _) (Agg.opz) hBb4 rfl (rfl) (Surv.opz (fun h => absurd h.1 (by decide))) (LV 4 rfl (LT 1000003 rfl (LT 1000005 rfl LN))), ?_⟩
 refine TL ?_
 refine RN ?_
 refine A.ret ?_
 exact End.varK1 (s := 1000004) rfl Try.underlying47 rfl size47 rfl rfl (by first | exact Le.refl _ | exact Le.old _ _)
theorem Op_fn (n : Nat) (h1 : 1 ≤ n) (h2 : n ≤ 4096) (z : Z3) : FnB Try.prog 20 [.v (nI (n)), .v (aggV [byteV z.1, byteV z.2.1, byteV z.2.2])] (fun B => opZ (zDat 41 5 B) (opN n z)) := by
 unfold opN
 by_cases k1 : z.1.toNat % 16 < 6
 ·simp only [if_pos k1]; exact Op_r n h1 h2 z k1
 by_cases k2 : z.1.toNat % 16 < 13
 ·simp only [if_neg k1, if_pos k2]; exact Op_w n h1 h2 z k1 k2
 by_cases k3 : z.1.toNat % 16 < 15
 ·simp only [if_neg k1, if_neg k2, if_pos k3]; exact Op_f n h1 h2 z k2 k3
 ·simp only [if_neg k1, if_neg k2, if_neg k3]; exact Op_b n h1 h2 z k3
set_option maxHeartbeats 4000000 in
theorem Of_fn (k : UInt8) (q : List Z3)  : FnB Try.prog 8 [tlD [byteV k] (rowG false q.length (z3R q))] (fun B => tup [.v (nI (nO k)), lstE 47 3 ((opsO k q).map (opZ (zDat 41 5 B)))]) := by
 refine FnB.of Try.func8 rfl (by kernel_rfl) Try.ntmps8 (by simp) (fun w => [(0, old w.heap.size (tlD [byteV k] (rowG false q.length (z3R q))))]) (fun w => (Start.old rfl Start.nil)) fun w₀ => ?_
 refine A.nameTG (t := 0) (k := 1000201) rfl fun A₁ m hm => ?_
 obtain ⟨n, hn⟩ : ∃ n, n = nO k := ⟨_, rfl⟩
 have h1 : 1 ≤ n := hn ▸ (nO_le k).1
 have h2 : n ≤ 20 := hn ▸ (nO_le k).2
 unfold opsO
 rw [← hn]
 refine GS ?_
 refine TN 0 ?_
 refine RN ?_
 refine ZB 1000001 rfl fun b1 ⟨hBb1, hb1⟩ => ?_
 refine TL ?_
 refine RVN 2 rfl ?_
 refine GT ?_
 refine RS (ok_field field24_0 (by decide) rfl) ?_
 refine RLV 1000001 Try.underlying5 rfl rfl rfl ?_
 refine RS (ok_conv Try.underlying5 Try.underlying3 rfl) ?_; refine RZ (nI (k.toNat)) (wrap_eq rfl (by have := k.toNat_lt; omega)) ?_
 refine RS (ok_rem rfl rfl (by decide)) ?_; refine RZ (nI (k.toNat % 20)) (by rw [tmod_lit _ (by decide)]; rfl) ?_
 refine RB rfl rfl rfl ?_
 refine RZ (nI (n)) (by rw [hn]; exact wrap_eq (by unfold nO; omega) (by unfold nO; omega)) ?_
 refine RVN 1 rfl ?_
 refine GV rfl ?_
 refine QS ?_
 refine GV rfl ?_
 refine A.block ?_
 refine A.subL (SubL.cons (t := 1) rfl (Le.refl _) (SubL.cons (t := 4) rfl (Le.refl _) (SubL.cons (t := 5) rfl (ownK_nil (base := w₀.heap.size) (m := 3) (e := 47)) (SubL.cons (t := 6) rfl (Le.refl _) (SubL.cons (t := 1000001) rfl (Le.refl _) (SubL.cons (t := 1000201) rfl (Le.refl _) SubL.nil)))))) ?_
 refine A.loop (ι := Nat) (fun i => i ≤ min q.length 30) (fun i => [(1, .v (ptr b1)), (4, .v (nI (n))), (5, ownK w₀.heap.size 47 3 ((opsP n q i).map (opZ (zDat 41 5 w₀.heap.size)))), (6, .v (nI (i))), (1000001, blk b1 24 [byteV k, .slice A₁ q.length m]), (1000201, old w₀.heap.size (memR A₁ (z3R q)))]) (fun i => 30 - i) 0 ?_ ?_ ?_
 ·exact Nat.zero_le _
 ·exact (KC 1 rfl (KC 4 rfl (KE 5 rfl (by rfl) (KE 6 rfl (by rfl) (KC 1000001 rfl (KC 1000201 rfl KN))))))
 intro i hG
 replace hG : i ≤ min q.length 30 := hG
 refine QS ?_
 rcases Bool.eq_false_or_eq_true (decide (i < q.length)) with hsp | hsp
 ·refine GT ?_
  refine RM rfl ?_
  refine RS (ok_field field24_1 (by decide) rfl) ?_
  refine RLV 1000001 Try.underlying22 rfl rfl rfl ?_
  refine RS (ok_lenV Try.underlying22 rfl) ?_
  refine RB rfl rfl rfl ?_
  refine RZ (.bool true) (congrArg Value.bool (by simpa using hsp)) ?_
  refine RVN 4 rfl ?_
  refine A.cond rfl (fun hc20 => ?_) (fun hc20 => ?_)
  ·have hi : i < q.length ∧ i < 30 := ⟨of_decide_eq_true hsp, by simp at hc20; omega⟩
   refine QK ?_
   refine QSB ?_
   refine GE ?_
   refine TF 9 ?_
   refine RV 2 rfl ?_
   refine RS (ok_field field24_1 (by decide) rfl) ?_
   refine RLV 1000001 Try.underlying22 rfl rfl rfl ?_
   refine RM rfl ?_
   refine RS ((ok_indexR (s := 1000201) i Try.underlying22 infoZ rfl rfl (by decide) rfl hi.1 (by rw [z3R_len]; have := hi.1; omega))) ?_
   refine RS (ok_loadElemT 3 Try.underlying56 rfl size56 (by rw [z3R_at hi.1]; exact Nat.le_refl _) rfl) ?_; refine RZ (aggV [byteV (z3At q i).1, byteV (z3At q i).2.1, byteV (z3At q i).2.2]) (congrArg aggV (by rw [z3R_at hi.1]; rfl)) ?_
   refine RS (ok_callB (Op_fn n h1 (by omega) (z3At q i)) (fun _ _ h => op_mono (zDat_mono h)) (A2 rfl rfl)) ?_
   refine RS (ok_build1D Try.underlying25 infoO rfl (by decide) (by decide) rfl (Le.refl _) Agg.opz) ?_
   refine RN ?_
   refine ⟨_, eff_appendK Try.underlying25 infoO (by decide) rfl (by decide) rfl (Le.refl _) rfl (Le.refl _) Agg.opz (fun g d hd => by obtain ⟨o, _, rfl⟩ := List.mem_map.1 hd; exact Surv.opz (fun h => absurd h.1 (by decide))) (fun g => Surv.opz (fun h => absurd h.1 (by decide))) (by rw [List.length_map, opsP_len]; omega) (by decide) (fun g hg => (LT 1000001 rfl (LO 1000201 rfl (LW [1, 4, 6] rfl)))), ?_⟩
   refine TL ?_
   refine RVN 1 rfl ?_
   refine End.normal_block ?_
   refine EN ?_
   refine GTE ?_
   refine RV 2 rfl ?_
   refine RZ (nI (i + 1)) (wrap_eq (by omega) (by omega)) ?_
   refine RVN 1 rfl ?_
   refine End.normal_then ?_
   refine End.again (i + 1) ?_ ?_ ?_
   ·show _ ≤ _; omega
   ·show _ - _ < _ - _; omega
   ·exact (KC 1 rfl (KC 4 rfl (KE 5 rfl (by first | rw [← opsP_succ hi.1, List.map_append]; rfl | (rw [← opsP_succ hi.1, List.map_append])) (KC 6 rfl (KC 1000001 rfl (KC 1000201 rfl KN))))))
  ·have hi2 : i = min q.length 30 := by have h9 := of_decide_eq_true hsp; simp at hc20; omega
   refine A.exit ?_
   refine End.exit_then ?_
   refine End.exit_then ?_
   refine End.exit_here ?_
   refine EN ?_
   refine GV rfl ?_
   refine A.ret ?_
   have hi3 : i = min q.length 30 := by first | exact hi2 | (have h9 := of_decide_eq_false hsp; omega)
   exact End.ret2 rfl rfl (Le.eq (by rw [hn])) rfl (ownK_lstE.trans (Le.eq (by rw [opsP_end hi3])))
 ·refine GT ?_
  refine RM rfl ?_
  refine RS (ok_field field24_1 (by decide) rfl) ?_
  refine RLV 1000001 Try.underlying22 rfl rfl rfl ?_
  refine RS (ok_lenV Try.underlying22 rfl) ?_
  refine RB rfl rfl rfl ?_
  refine RZ (.bool false) (congrArg Value.bool (by simpa using hsp)) ?_
  refine RVN 4 rfl ?_
  refine A.no rfl ?_
  refine A.exit ?_
  refine End.exit_then ?_
  refine End.exit_then ?_
  refine End.exit_here ?_
  refine EN ?_
  refine GV rfl ?_
  refine A.ret ?_
  have hi3 : i = min q.length 30 := by first | exact hi2 | (have h9 := of_decide_eq_false hsp; omega)
  exact End.ret2 rfl rfl (Le.eq (by rw [hn])) rfl (ownK_lstE.trans (Le.eq (by rw [opsP_end hi3])))
set_option maxHeartbeats 4000000 in
theorem ref_fn (k : UInt8) (q : List Z3)  : FnB Try.prog 19 [tlD [byteV k] (rowG false q.length (z3R q))] (fun B => arrZ (zOwn 41 B) false (runA (zA (nO k)) (opsO k q))) := by
 refine FnB.of Try.func19 rfl (by kernel_rfl) Try.ntmps19 (by simp) (fun w => [(0, old w.heap.size (tlD [byteV k] (rowG false q.length (z3R q))))]) (fun w => (Start.old rfl Start.nil)) fun w₀ => ?_
 refine A.nameTG (t := 0) (k := 1000201) rfl fun A₁ m hm => ?_
 obtain ⟨n, hn⟩ : ∃ n, n = nO k := ⟨_, rfl⟩
 obtain ⟨L, hL⟩ : ∃ L, L = opsO k q := ⟨_, rfl⟩
 have h1 : 1 ≤ n := hn ▸ (nO_le k).1
 have h2 : n ≤ 20 := hn ▸ (nO_le k).2
 have hl : L.length ≤ 30 := hL ▸ opsO_len k q
 rw [← hn, ← hL]
 refine GS ?_
 refine TN 0 ?_
 refine RN ?_
 refine ZB 1000001 rfl fun b1 ⟨hBb1, hb1⟩ => ?_
 refine TN 1 ?_
 refine RN ?_
 refine ZN 1000002 zero35 fun b2 ⟨hBb2, hb2⟩ => ?_
 refine TL ?_
 refine RN ?_
 refine GT ?_
 refine RS (OpOk.tgO (k₁ := 1000201) (pre := [byteV k]) (ok_loadA (s := 1000001) (by decide) Try.underlying24 rfl (size24.of (rfl)) rfl rfl) rfl hm (by decide) rfl) ?_
 refine RS (ok_callB (Of_fn k q) (fun _ _ h => tup_le2 (Le.refl _) (ops_mono (zDat_mono h))) (Args.cons rfl (by first | exact Le.refl _ | exact Le.old _ _ | exact arr_any | exact arr_ex | exact arrD_any | exact op_any | exact (Le.old _ _).trans arrD_any | exact (Le.old _ _).trans arr_any) Args.nil)) ?_
 refine RM rfl ?_
 refine RS (ok_extract rfl rfl) ?_; refine RZ (nI (n)) (by rw [hn]) ?_
 refine RS ((OpOk.le (d' := lstE 47 3 (L.map (opZ (zDat 41 5 w₀.heap.size)))) (ok_extract rfl rfl) (Le.eq (by rw [hL])))) ?_
 refine RVN 2 rfl ?_
 refine GS ?_
 refine TN 2 ?_
 refine RM rfl ?_
 refine RS (ok_callB (rNew_fn n (by omega)) (fun _ _ h => arr_mono (own_monoT h)) (A1 rfl)) ?_
 refine RN ?_
 refine ZN 1000005 zero35 fun b5 ⟨hBb5, hb5⟩ => ?_
 have hlt_b2_b5 := hb5 1000002 b2 _ _ rfl
 refine TF 3 ?_
 refine RN ?_
 refine ⟨_, eff_storeK (n := 31) (s := 1000005) size35 rfl rfl ((arr_unex : Le (arrZ (zOwn 41 w₀.heap.size) _ _) (arrZ (zOwn 41 w₀.heap.size) false _))) (Agg.arr) hBb5 rfl (rfl) (Surv.arr (fun h => absurd h.1 (by decide))) (LeftS.cons (t := 4) rfl (Surv.ops (by decide) (fun h => absurd h.1 (by decide))) (LT 1000001 rfl (LB 1000002 rfl (LO 1000201 rfl (LW [2, 5] rfl))))), ?_⟩
 refine TL ?_
 refine RN ?_
 refine QS ?_
 refine GV rfl ?_
 refine A.block ?_
 refine A.loop (ι := Nat) (fun i => i ≤ L.length) (fun i => [(2, .v (ptr b2)), (4, lstE 47 3 (L.map (opZ (zDat 41 5 w₀.heap.size)))), (5, .v (ptr b5)), (6, .v (nI (i))), (1000002, blk b2 35 ([.slice none 0 0] ++ [.slice none 0 0])), (1000005, varK b5 35 2 (arrZ (zOwn 41 w₀.heap.size) false (runA (zA n) (L.take i))))]) (fun i => L.length - i) 0 ?_ ?_ ?_
 ·exact Nat.zero_le _
 ·exact (KC 2 rfl (KC 4 rfl (KC 5 rfl (KE 6 rfl (by rfl) (KC 1000002 rfl (KE 1000005 rfl (by rfl) KN))))))
 intro i hG
 refine QS ?_
 refine GT ?_
 refine RV 2 rfl ?_
 refine RS ((ok_lenK Try.underlying25 rfl ops_any).asV' (show _ = .int .i64 (L.length : Int) by rw [List.length_map])) ?_
 refine RVN 1 rfl ?_
 refine A.cond rfl (fun hc17 => ?_) (fun hc17 => ?_)
 ·have hlt : i < L.length := by simp at hc17; omega
  refine QK ?_
  refine QSB ?_
  refine A.regL0 10 [8, 9] (by kernel_rfl) (by kernel_rfl) (by kernel_rfl) (by kernel_rfl) [(2, .v (ptr b2)), (4, lstE 47 3 (L.map (opZ (zDat 41 5 w₀.heap.size)))), (5, .v (ptr b5)), (6, .v (nI (i))), (1000002, blk b2 35 ([.slice none 0 0] ++ [.slice none 0 0])), (1000005, varK b5 35 2 (arrZ (zOwn 41 w₀.heap.size) false (stepA (runA (zA n) (L.take i)) (nthO L i)).1))] ?_ ?_
  ·refine RS (ok_loadVK (s := 1000005) (by decide) Try.underlying35 rfl size35 rfl rfl) ?_
   refine RV 2 rfl ?_
   refine RS (ok_indexK i Try.underlying25 size47 rfl ops_any rfl (map_nthO opG hlt)) ?_
   refine RS (ok_loadK Try.underlying47 rfl size47 rfl (Le.refl _)) ?_
   refine RS (ok_callB (rDo_fn (runA (zA n) (L.take i)) (nthO L i) (by rw [(run_ok (L := L.take i) (zA_ok n)).1, (run_ok (L := L.take i) (zA_ok n)).2]) (by rw [(run_ok (L := L.take i) (zA_ok n)).1]; omega) (by rw [(run_ok (L := L.take i) (zA_ok n)).1]; omega)) (fun _ _ h => tup_le3 (arr_mono (own_monoT h)) (Le.refl _) (Le.refl _)) (Args.cons rfl (by first | exact Le.refl _ | exact Le.old _ _ | exact arr_any | exact arr_ex | exact arrD_any | exact op_any | exact (Le.old _ _).trans arrD_any | exact (Le.old _ _).trans arr_any) (Args.cons rfl (by first | exact Le.refl _ | exact Le.old _ _ | exact arr_any | exact arr_ex | exact arrD_any | exact op_any | exact (Le.old _ _).trans arrD_any | exact (Le.old _ _).trans arr_any) Args.nil))) ?_
   refine RM rfl ?_
   refine RS (ok_extract rfl rfl) ?_
   refine RS (ok_extract rfl rfl) ?_
   refine RS (ok_extract rfl rfl) ?_
   refine RN ?_
   intro S hS
   simp only [subs, List.map_cons, List.map_nil, List.cons_append, List.nil_append, List.mem_cons, List.not_mem_nil, or_false] at hS
   rcases hS with rfl | rfl | rfl | rfl
   ·refine ⟨0, Nat.le_of_ble_eq_true (by kernel_rfl), _, (Sv [2, 4, 5, 6, 17, 20, 21, 22, 23, 24, 25, 26, 27, 28, 29, 1000002, 1000005] rfl), by kernel_rfl, _, rfl, _, eff_storeKK (n := 31) (s := 1000005) size35 rfl rfl ((arr_unex : Le (arrZ (zOwn 41 w₀.heap.size) _ _) (arrZ (zOwn 41 w₀.heap.size) false _))) (Agg.arr) hBb5 rfl (Surv.arr (fun h => absurd h.1 (by decide))) (LV 2 rfl (LeftS.cons (t := 4) rfl (Surv.ops (by decide) (fun h => absurd h.1 (by decide))) (LV 5 rfl (LV 6 rfl (LV 17 rfl (LeftS.cons (t := 20) rfl (Surv.tup3 (Surv.arr (fun h => absurd h.1 (by decide))) (Surv.v _) (Surv.v _)) (LeftS.cons (t := 21) rfl (Surv.arr (fun h => absurd h.1 (by decide))) (LeftS.cons (t := 22) rfl (Surv.ops (by decide) (fun h => absurd h.1 (by decide))) (LV 23 rfl (LeftS.cons (t := 26) rfl (Surv.tup3 (Surv.arr (fun h => absurd h.1 (by decide))) (Surv.v _) (Surv.v _)) (LeftS.cons (t := 27) rfl (Surv.arr (fun h => absurd h.1 (by decide))) (LV 28 rfl (LV 29 rfl (LB 1000002 rfl LN)))))))))))))), ?_⟩
    refine AnyT.last (by kernel_rfl) ?_
    exact (SubL.cons (t := 2) rfl (Le.refl _) (SubL.cons (t := 4) rfl (Le.refl _) (SubL.cons (t := 5) rfl (Le.refl _) (SubL.cons (t := 6) rfl (Le.refl _) (SubL.cons (t := 1000002) rfl (Le.refl _) (SubL.cons (t := 1000005) rfl (Le.refl _) SubL.nil))))))
   ·refine ⟨1, Nat.le_of_ble_eq_true (by kernel_rfl), _, (Sv [2, 4, 5, 6, 17, 20, 21, 22, 23, 24, 25, 26, 27, 28, 1000002, 1000005] rfl), by kernel_rfl, _, rfl, _, eff_storeKK (n := 31) (s := 1000005) size35 rfl rfl ((arr_unex : Le (arrZ (zOwn 41 w₀.heap.size) _ _) (arrZ (zOwn 41 w₀.heap.size) false _))) (Agg.arr) hBb5 rfl (Surv.arr (fun h => absurd h.1 (by decide))) (LV 2 rfl (LeftS.cons (t := 4) rfl (Surv.ops (by decide) (fun h => absurd h.1 (by decide))) (LV 5 rfl (LV 6 rfl (LV 17 rfl (LeftS.cons (t := 20) rfl (Surv.tup3 (Surv.arr (fun h => absurd h.1 (by decide))) (Surv.v _) (Surv.v _)) (LeftS.cons (t := 21) rfl (Surv.arr (fun h => absurd h.1 (by decide))) (LeftS.cons (t := 22) rfl (Surv.ops (by decide) (fun h => absurd h.1 (by decide))) (LV 23 rfl (LeftS.cons (t := 26) rfl (Surv.tup3 (Surv.arr (fun h => absurd h.1 (by decide))) (Surv.v _) (Surv.v _)) (LeftS.cons (t := 27) rfl (Surv.arr (fun h => absurd h.1 (by decide))) (LV 28 rfl (LB 1000002 rfl LN))))))))))))), ?_⟩
    refine AnyT.step 9 [] (by kernel_rfl) ?_
    refine NextT.pure (by kernel_rfl) rfl rfl rfl (ok_extract rfl rfl) ?_ ?_
    ·refine AnyT.last (by kernel_rfl) ?_
     exact (SubL.cons (t := 2) rfl (Le.refl _) (SubL.cons (t := 4) rfl (Le.refl _) (SubL.cons (t := 5) rfl (Le.refl _) (SubL.cons (t := 6) rfl (Le.refl _) (SubL.cons (t := 1000002) rfl (Le.refl _) (SubL.cons (t := 1000005) rfl (Le.refl _) SubL.nil))))))
    exact trivial
   ·refine ⟨1, Nat.le_of_ble_eq_true (by kernel_rfl), _, (Sv [2, 4, 5, 6, 17, 20, 21, 22, 23, 24, 25, 26, 27, 29, 1000002, 1000005] rfl), by kernel_rfl, _, rfl, _, eff_storeKK (n := 31) (s := 1000005) size35 rfl rfl ((arr_unex : Le (arrZ (zOwn 41 w₀.heap.size) _ _) (arrZ (zOwn 41 w₀.heap.size) false _))) (Agg.arr) hBb5 rfl (Surv.arr (fun h => absurd h.1 (by decide))) (LV 2 rfl (LeftS.cons (t := 4) rfl (Surv.ops (by decide) (fun h => absurd h.1 (by decide))) (LV 5 rfl (LV 6 rfl (LV 17 rfl (LeftS.cons (t := 20) rfl (Surv.tup3 (Surv.arr (fun h => absurd h.1 (by decide))) (Surv.v _) (Surv.v _)) (LeftS.cons (t := 21) rfl (Surv.arr (fun h => absurd h.1 (by decide))) (LeftS.cons (t := 22) rfl (Surv.ops (by decide) (fun h => absurd h.1 (by decide))) (LV 23 rfl (LeftS.cons (t := 26) rfl (Surv.tup3 (Surv.arr (fun h => absurd h.1 (by decide))) (Surv.v _) (Surv.v _)) (LeftS.cons (t := 27) rfl (Surv.arr (fun h => absurd h.1 (by decide))) (LV 29 rfl (LB 1000002 rfl LN))))))))))))), ?_⟩
    refine AnyT.step 8 [] (by kernel_rfl) ?_
    refine NextT.pure (by kernel_rfl) rfl rfl rfl (ok_extract rfl rfl) ?_ ?_
    ·refine AnyT.last (by kernel_rfl) ?_
     exact (SubL.cons (t := 2) rfl (Le.refl _) (SubL.cons (t := 4) rfl (Le.refl _) (SubL.cons (t := 5) rfl (Le.refl _) (SubL.cons (t := 6) rfl (Le.refl _) (SubL.cons (t := 1000002) rfl (Le.refl _) (SubL.cons (t := 1000005) rfl (Le.refl _) SubL.nil))))))
    exact trivial
   ·refine ⟨2, Nat.le_of_ble_eq_true (by kernel_rfl), _, (Sv [2, 4, 5, 6, 17, 20, 21, 22, 23, 24, 25, 26, 27, 1000002, 1000005] rfl), by kernel_rfl, _, rfl, _, eff_storeKK (n := 31) (s := 1000005) size35 rfl rfl ((arr_unex : Le (arrZ (zOwn 41 w₀.heap.size) _ _) (arrZ (zOwn 41 w₀.heap.size) false _))) (Agg.arr) hBb5 rfl (Surv.arr (fun h => absurd h.1 (by decide))) (LV 2 rfl (LeftS.cons (t := 4) rfl (Surv.ops (by decide) (fun h => absurd h.1 (by decide))) (LV 5 rfl (LV 6 rfl (LV 17 rfl (LeftS.cons (t := 20) rfl (Surv.tup3 (Surv.arr (fun h => absurd h.1 (by decide))) (Surv.v _) (Surv.v _)) (LeftS.cons (t := 21) rfl (Surv.arr (fun h => absurd h.1 (by decide))) (LeftS.cons (t := 22) rfl (Surv.ops (by decide) (fun h => absurd h.1 (by decide))) (LV 23 rfl (LeftS.cons (t := 26) rfl (Surv.tup3 (Surv.arr (fun h => absurd h.1 (by decide))) (Surv.v _) (Surv.v _)) (LeftS.cons (t := 27) rfl (Surv.arr (fun h => absurd h.1 (by decide))) (LB 1000002 rfl LN)))))))))))), ?_⟩
    refine AnyT.step 8 [9] (by kernel_rfl) ?_
    refine NextT.pure (by kernel_rfl) rfl rfl rfl (ok_extract rfl rfl) ?_ ?_
    ·refine AnyT.step 9 [] (by kernel_rfl) ?_
     refine NextT.pure (by kernel_rfl) rfl rfl rfl (ok_extract rfl rfl) ?_ ?_
     ·refine AnyT.last (by kernel_rfl) ?_
      exact (SubL.cons (t := 2) rfl (Le.refl _) (SubL.cons (t := 4) rfl (Le.refl _) (SubL.cons (t := 5) rfl (Le.refl _) (SubL.cons (t := 6) rfl (Le.refl _) (SubL.cons (t := 1000002) rfl (Le.refl _) (SubL.cons (t := 1000005) rfl (Le.refl _) SubL.nil))))))
     exact trivial
    refine NextT.pure (by kernel_rfl) rfl rfl rfl (ok_extract rfl rfl) ?_ ?_
    ·refine AnyT.step 8 [] (by kernel_rfl) ?_
     refine NextT.pure (by kernel_rfl) rfl rfl rfl (ok_extract rfl rfl) ?_ ?_
     ·refine AnyT.last (by kernel_rfl) ?_
      exact (SubL.cons (t := 2) rfl (Le.refl _) (SubL.cons (t := 4) rfl (Le.refl _) (SubL.cons (t := 5) rfl (Le.refl _) (SubL.cons (t := 6) rfl (Le.refl _) (SubL.cons (t := 1000002) rfl (Le.refl _) (SubL.cons (t := 1000005) rfl (Le.refl _) SubL.nil))))))
     exact trivial
    exact trivial
  ·refine End.normal_block ?_
   refine EN ?_
   refine GTE ?_
   refine RV 2 rfl ?_
   refine RZ (nI (i + 1)) (wrap_eq (by omega) (by omega)) ?_
   refine RVN 1 rfl ?_
   refine End.normal_then ?_
   refine End.again (i + 1) ?_ ?_ ?_
   ·show _ ≤ _; omega
   ·show _ - _ < _ - _; omega
   ·exact (KC 2 rfl (KC 4 rfl (KC 5 rfl (KC 6 rfl (KC 1000002 rfl (KE 1000005 rfl (congrArg (fun x => varK b5 35 2 (arrZ (zOwn 41 w₀.heap.size) false x)) (run_snoc hlt)) KN))))))
 ·have hge : i = L.length := by simp at hc17; omega
  refine A.exit ?_
  refine End.exit_then ?_
  refine End.exit_then ?_
  refine End.exit_here ?_
  refine EN ?_
  refine GS ?_
  refine TF 1 ?_
  refine RS (ok_loadVK (s := 1000005) (by decide) Try.underlying35 rfl size35 rfl rfl) ?_
  refine RN ?_
  refine ⟨_, eff_storeK (n := 31) (s := 1000002) size35 rfl rfl (Le.refl _) (Agg.arr) hBb2 rfl (rfl) (Surv.arr (fun h => absurd h.1 (by decide))) (LV 2 rfl (LeftS.cons (t := 1000005) rfl (Surv.varK (by omega) (Surv.arr (fun h => absurd h.1 (by decide)))) LN)), ?_⟩
  refine TL ?_
  refine RN ?_
  refine A.ret ?_
  exact End.varK1 (s := 1000002) rfl Try.underlying35 rfl size35 rfl rfl (Le.eq (by rw [hge, List.take_length]))
theorem array_fn (a : Ar) (p1 : 0 < a.now.length) (p2 : 0 < a.dur.length) (h1 : a.now.length ≤ 4096) (h2 : a.dur.length ≤ 4096) : FnB Try.prog 18 [arrD false a] (fun B => arrZ (zOwn 41 B) false a) := by
 refine FnB.of Try.func18 rfl (by kernel_rfl) Try.ntmps18 (by simp) (fun w => [(0, old w.heap.size (arrD false a))]) (fun w => (Start.old rfl Start.nil)) fun w₀ => ?_
 refine A.nameAr (t := 0) (k₁ := 1000201) (k₂ := 1000202) rfl fun A₃ q₃ A₂ q₂ hq₃ hq₂ he₁ he₂ => ?_
 refine GS ?_
 refine TN 0 ?_
 refine RN ?_
 refine ZB 1000001 rfl fun b1 ⟨hBb1, hb1⟩ => ?_
 refine TN 1 ?_
 refine RN ?_
 refine ZN 1000002 zero30 fun b2 ⟨hBb2, hb2⟩ => ?_
 refine TL ?_
 refine RN ?_
 refine GS ?_
 refine RunTK.newG 1 (by decide) rfl (.inl rfl) ?_
 refine RS (OpOk.arO (k₁ := 1000201) (k₂ := 1000202) (ok_loadA (s := 1000001) (by decide) Try.underlying35 rfl (size35.of (rfl)) rfl rfl) hq₃ hq₂ (by decide) (by decide) rfl rfl) ?_
 refine RN ?_
 refine ⟨_, _, _, eff_nameA (n := 11) (d := 5) (k₁ := 1000301) (k₂ := 1000302) rfl rfl (fun B' => ok_callB (Copy_fn a p1 p2 h1 h2) newA_mono (Args.cons rfl (by first | exact Le.refl _ | exact Le.old _ _ | exact arr_any | exact arr_ex | exact arrD_any | exact op_any | exact (Le.old _ _).trans arrD_any | exact (Le.old _ _).trans arr_any) Args.nil)) (by decide) (by decide), fun ⟨c1, c2, u1, u2, r1, r2⟩ hc => ?_⟩
 have hBc1 := hc.1
 have hBc2 := hc.2.1
 have hne : c1 ≠ c2 := hc.2.2.1
 have hu1 := hc.2.2.2.1
 have hu2 := hc.2.2.2.2.1
 dsimp only at hBc1 hBc2 hu1 hu2
 dsimp only
 refine TN 2 ?_
 refine RN ?_
 refine ZN 1000003 zero35 fun b3 ⟨hBb3, hb3⟩ => ?_
 have hlt_b1_b3 := hb3 1000001 b1 _ _ rfl
 refine TF 3 ?_
 refine RN ?_
 refine ZA 1000003 (size35.of rfl) hBb3 rfl rfl rfl (LB 1000001 rfl (LT 1000002 rfl (LO 1000201 rfl (LO 1000202 rfl (LT 1000301 rfl (LT 1000302 rfl (LW [2, 3] rfl))))))) ?_
 refine TL ?_
 refine RN ?_
 refine GS ?_
 refine TF 5 ?_
 refine RS (ok_field field35_0 (by decide) rfl) ?_
 refine RLV 1000003 Try.underlying28 rfl rfl rfl ?_
 refine RS (ok_field field35_1 (by decide) rfl) ?_
 refine RLV 1000003 Try.underlying28 rfl rfl rfl ?_
 refine RS (ok_litS [(0, .slice (some ⟨c1, 0, none⟩) a.now.length u1), (1, .slice (some ⟨c2, 0, none⟩) a.dur.length u2)] [.slice (some ⟨c1, 0, none⟩) a.now.length u1, .slice (some ⟨c2, 0, none⟩) a.dur.length u2] ⟨rfl, rfl, rfl, rfl, trivial⟩ (buildD _ _ _ _ _ _)) ?_
 refine RN ?_
 refine ZA 1000002 (size30.of rfl) hBb2 rfl rfl rfl (LV 2 rfl (LT 1000001 rfl (LT 1000003 rfl (LO 1000201 rfl (LO 1000202 rfl (LT 1000301 rfl (LT 1000302 rfl LN))))))) ?_
 refine TL ?_
 refine RN ?_
 refine A.packAr (k := 1000002) (k₁ := 1000301) (k₂ := 1000302) (ex := false) (lo := w₀.heap.size) rfl rfl rfl hBc1 hBc2 hu1 hu2 nofun ?_
 refine A.ret ?_
 exact End.varK1 (s := 1000002) rfl Try.underlying30 rfl size30 rfl rfl (Le.refl _)
end Go.Proofs.Ytggijkmlmklneaa
namespace Go.Proofs.Ytggijkmlmklneaa
open Go Go.RowKit
set_option linter.unusedVariables false
set_option linter.unusedSimpArgs false
variable {κ : Cx}
section
variable {P : Program} {n : Nat} {w₀ : World} {ops : Array Oper} {E : Env} {ty : TypeId} {pos : String} {after : Array Edge}
/-- What yield does at each round: it goes on where 'ok' says so, else the round has left. -/
structure SeqsE (P : Program) (w₀ : World) (N : Nat) (l : Nat) (arg₁ arg₂ : Nat → D) (ok : Nat → Bool) (V : Nat → Env) (J Jx : Nat → World → Prop) : Prop where
  grow : ∀ i a b, J i a → Grow a b → J i b
  growx : ∀ i a b, Jx i a → Grow a b → Jx i b
  holds : ∀ i W, J i W → Holds w₀ (V i) W
  holdsx : ∀ i W, Jx i W → Holds w₀ [] W
  yields : ∀ (i : Nat) (W : World) (u v : Value), i < N → (∀ k, k < i → ok k = true) → J i W → (arg₁ i).Of W u → (arg₂ i).Of W v →
    YieldAt (FR none) 0 P l #[u, v] W fun e W' => e = .returned (.bool (ok i)) ∧ (ok i = true → J (i + 1) W') ∧ (ok i = false → Jx i W') ∧ W.heap.size ≤ W'.heap.size
/-! ### The statement -/
theorem SeqsE.sub {N l : Nat} {arg₁ arg₂ : Nat → D} {ok : Nat → Bool} {V V' : Nat → Env} {J Jx : Nat → World → Prop} (h : SeqsE P w₀ N l arg₁ arg₂ ok V J Jx) (hs : ∀ i, ∀ p ∈ V' i, p ∈ V i) : SeqsE P w₀ N l arg₁ arg₂ ok V' J Jx :=
  ⟨h.grow, h.growx, fun i W hJ => ⟨(h.holds i W hJ).1, (h.holds i W hJ).2.1, fun p hp => (h.holds i W hJ).2.2 p (hs i p hp)⟩, h.holdsx, h.yields⟩
end
/-! ### Results in variables of one cell -/
section
variable {P : Program} {n : Nat} {w₀ : World} {E : Env}
end
end Go.Proofs.Ytggijkmlmklneaa
namespace Go.Proofs.Ytggijkmlmklneaa
open Go Go.RowKit
set_option linter.unusedVariables false
set_option linter.unusedSimpArgs false
structure CelT where
  t : List UInt8
  e : Nat
  m : Nat
namespace CelT
def zero : CelT := ⟨zD, 0, 0⟩
def v (c : CelT) : List Value := celV c.t c.e c.m
structure Fit (c : CelT) : Prop where
  t : c.t.length = 32
  e : c.e < 18446744073709551616
  m : c.m < 18446744073709551616
theorem zero_fit : zero.Fit := ⟨rfl, by decide, by decide⟩
theorem Fit.len {c : CelT} (h : c.Fit) : c.v.length = 34 := cel_len h.t _ _
theorem one (c : CelT) : c.v.all (·.oneCell') = true := cel_one _ _ _
instance : DecidableEq CelT := fun a b => if h : a.t = b.t ∧ a.e = b.e ∧ a.m = b.m then .isTrue (by obtain ⟨t, e, m⟩ := a; obtain ⟨t', e', m'⟩ := b; obtain ⟨h1, h2, h3⟩ := h; simp only at h1 h2 h3; subst h1; subst h2; subst h3; rfl) else .isFalse fun hab => h (by subst hab; exact ⟨rfl, rfl, rfl⟩)
end CelT
end Go.Proofs.Ytggijkmlmklneaa
namespace Go.Proofs.Ytggijkmlmklneaa
open Go Go.RowKit
set_option linter.unusedVariables false
set_option linter.unusedSimpArgs false
variable {κ : Cx}
section
variable {P : Program} {n : Nat} {E : Env} {w₀ : World} {c : Code} {Q : Exit → Act → World → Prop}
end
section
variable {P : Program} {B : Nat} {E : Env} {dst : Option Tmp} {ty : TypeId} {pos : String} {after : Array Edge} {guard : Option (Nat × Bool)}
end
section
variable {P : Program} {B : Nat} {E : Env} {dst : Option Tmp} {ty : TypeId} {pos : String} {after : Array Edge} {guard : Option (Nat × Bool)}
end
/-- A base behind a block that is known. -/
theorem OpOk.raise {P : Program} {B : Nat} {E : Env} {o : Oper} {d : D} {k b : Nat} {T : TypeId} {xs : List Value} (hk : vbase ≤ k) (hl : E.look k = some (blk b T xs)) (h : OpOk P (b + 1) o E d) : OpOk P B o E d := fun ρ w hB hv hρ =>
  h ρ w (hv k _ hk hl).1 hv hρ
theorem Eff.raise {P : Program} {n B : Nat} {ops : Array Oper} {E E' : Env} {o : Oper} {k b : Nat} {T : TypeId} {xs : List Value} (hl : E.look k = some (blk b T xs)) (hB : B ≤ b) (h : Eff P n (b + 1) ops o E E') : Eff P n B ops o E E' := fun κ a w K Q hs hK =>
  h κ a w K Q ⟨(hs.of k _ hl).1, hs.defers, hs.size, hs.of⟩ fun a' w' hb hs' => hK a' w' (hb.mono (by omega)) ⟨Nat.le_trans hs.base hb.size, hs'.defers, hs'.size, hs'.of⟩
/-- The part of a log. -/
def cut (l : List CelT) (i j : Nat) : List CelT := (l.take j).drop i
end Go.Proofs.Ytggijkmlmklneaa
