/-
  OWN TEXTS of this seat, put together, part 5: C14k, C14j.
-/
import Derived.Test.YtdhbhcbkhkopbaaM1
import Derived.Test.YtdhbhcbkhkopbaaM4
import Derived.Test.YtdhbhcbkhkopbaaM3
namespace Go.Proofs.Ytdhbhcbkhkopbaa
open Go Go.RowKit
set_option linter.unusedVariables false
set_option maxRecDepth 20000
set_option linter.unusedSimpArgs false

set_option maxHeartbeats 2000000 in
theorem DisksValues_fn (z : UInt8) (L : List OpT) (o o' : OpT) (hl : o.l.length ≤ 140737488355328) : Fn Try.prog 4 [xD z L, opD o, opD o'] (.v (.bool true)) := by
 have hn : (xS z L).length ≤ 10922 := by rw [xS_len]; have := nOf_le z; omega
 have ht : totC (xS z L) ≤ 1000000 := Nat.le_trans (xS_tot z L) (by decide)
 have hS : 0 < (xS z L).length := by rw [xS_len]; exact nOf_pos z
 have hs8 := o.s.toNat_lt
 have ht3 : totC (xS z L) ≤ 1000 := Nat.le_trans (xS_tot z L) (by decide)
 have hl1 : (opStep o (xS z L)).1.length = (xS z L).length := opStep_len o _
 have hl2 : (opStep o' (xS z L)).1.length = (xS z L).length := opStep_len o' _
 have hn1 : (opStep o (xS z L)).1.length ≤ 10922 := by rw [hl1]; exact hn
 have hn2 : (opStep o' (xS z L)).1.length ≤ 10922 := by rw [hl2]; exact hn
 have ht1 : totC (opStep o (xS z L)).1 ≤ 1000000 := Nat.le_trans (opStep_tot o _ hS) (by omega)
 have ht2 : totC (opStep o' (xS z L)).1 ≤ 1000000 := Nat.le_trans (opStep_tot o' _ hS) (by omega)
 have hk : opAt o (xS z L).length < (xS z L).length := Nat.mod_lt _ hS
 have hk1 : opAt o (xS z L).length < (opStep o (xS z L)).1.length := by rw [hl1]; exact hk
 refine Fn.of Try.func4 rfl (by kernel_rfl) Try.ntmps4 (by simp) (fun w => [(0, old w.heap.size (xD z L)), (1, old w.heap.size (opD o)), (2, old w.heap.size (opD o'))]) (fun w => (Start.old rfl (Start.old rfl (Start.old rfl Start.nil)))) fun w₀ => ?_
 refine A.nameTl (t := 0) (k := 1000200) rfl fun v hv1 => ?_
 refine A.nameTl (t := 1) (k := 1000201) rfl fun v' hv'1 => ?_
 refine A.nameTl (t := 2) (k := 1000202) rfl fun v'' hv''1 => ?_
 refine GS ?_
 refine TN 0 ?_
 refine RN ?_
 refine ⟨_, _, eff_box (n := 118) (d := 3) (k := 1000003) rfl (by decide), fun b3 hb3 => ?_⟩
 have hBb3 := hb3.1
 refine TN 1 ?_
 refine RN ?_
 refine ⟨_, _, eff_box (n := 118) (d := 4) (k := 1000004) rfl (by decide), fun b4 hb4 => ?_⟩
 have hBb4 := hb4.1
 refine TN 2 ?_
 refine RN ?_
 refine ⟨_, _, eff_box (n := 118) (d := 5) (k := 1000005) rfl (by decide), fun b5 hb5 => ?_⟩
 have hBb5 := hb5.1
 have hlt_b4_b5 : b4 < b5 := hb5.2 1000004 _ _ _ rfl
 refine TL ?_
 refine RA rfl ?_
 refine RN ?_
 refine GS ?_
 refine TN 2 ?_
 refine RS (OpOk.tlO (k := 1000200) [byteV z] (ok_loadA (s := 1000003) (by decide) Try.underlying24 rfl (size24.of (rfl)) rfl rfl) rfl hv1 (by decide) rfl) ?_
 refine RS (ok_call (xOf_fn z L) (Args.cons rfl (Le.old _ _) Args.nil)) ?_
 refine RN ?_
 refine ⟨_, _, eff_alloc (n := 118) (d := 7) (k := 1000007) zero27 (by decide), fun b7 hb7 => ?_⟩
 have hBb7 := hb7.1
 refine TF 3 ?_
 refine RN ?_
 refine ⟨_, eff_storeK (n := 118) (s := 1000007) size27 rfl rfl (Le.refl _) (Agg.disk) hBb7 rfl (rfl) (Surv.disk (.inl (by decide))) (LV 3 rfl (LV 4 rfl (LV 5 rfl (LV 7 rfl (LT 1000003 rfl (LT 1000004 rfl (LT 1000005 rfl (LO 1000200 rfl (LO 1000201 rfl (LO 1000202 rfl LN)))))))))), ?_⟩
 refine TL ?_
 refine RN ?_
 refine A.dup (k := 1000007) (k' := 1000507) rfl (fun _ _ _ _ h => h) ?_
 refine A.raise _ (fun w => (UpTo.same (t := 3) rfl (UpTo.same (t := 4) rfl (UpTo.same (t := 5) rfl (UpTo.same (t := 7) rfl (UpTo.same (t := 1000003) rfl (UpTo.same (t := 1000004) rfl (UpTo.same (t := 1000005) rfl (UpTo.same (t := 1000007) rfl (UpTo.same (t := 1000200) rfl (UpTo.same (t := 1000201) rfl (UpTo.same (t := 1000202) rfl (UpTo.new (t := 1000507) rfl UpTo.nil))))))))))))) fun w₁ hg₁ => ?_
 have hgs₁ := hg₁.size
 refine GS ?_
 refine TL ?_
 refine RS (ok_field field39_3 (by decide) rfl) ?_
 refine RS (OpOk.valO (k := 1000201) (ok_loadV (s := 1000004) (by decide) Try.underlying37 rfl rfl rfl (rfl)) (by decide) rfl) ?_
 refine RS (ok_appendNilB Try.underlying37 info5 rfl rfl ((Le.old _ _).trans byt_rowD) (by rw [List.all_map]; exact List.all_eq_true.2 fun _ _ => rfl) (by rw [List.length_map]) hl) ?_
 refine RA rfl ?_
 refine RN ?_
 refine A.openV (t := 8) (k := 1000308) rfl fun mv => ?_
 refine A.excludeV (k := 1000507) (kv := 1000308) (k' := 1000007) rfl rfl ?_
 refine A.oneM (k := 1000308) rfl fun hmv1 => ?_
 refine A.lower hg₁ ?_
 refine GS ?_
 refine TF 2 ?_
 refine RM rfl ?_
 refine RS (ok_field field39_3 (by decide) rfl) ?_
 refine RN ?_
 refine ⟨_, eff_storeS (n := 118) (s := 1000004) info37 rfl rfl hmv1 hBb4 rfl (by simp) (LV 3 rfl (LV 4 rfl (LV 5 rfl (LV 7 rfl (LV 8 rfl (LT 1000003 rfl (LB 1000005 rfl (LeftS.cons (t := 1000007) rfl (Surv.varKT (by decide) (Surv.disk (by first | exact .inl (by decide) | exact .inr hX))) (LO 1000200 rfl (LO 1000201 rfl (LO 1000202 rfl (LeftS.cons (t := 1000308) rfl (Surv.ownMT (by decide)) LN)))))))))))), ?_⟩
 refine TL ?_
 refine RN ?_
 refine A.valOwn (k := 1000308) (k' := 1000608) (l := o.l) rfl rfl ?_
 refine A.regsF [⟨8, 9, 27, [.int .i64 0] ++ [.int .i64 0] ++ [.slice none 0 0], 9, 3, diskD dT (ownX mv) ((opStep o (xS z L)).1)⟩] (by kernel_rfl) (by kernel_rfl) (by kernel_rfl) (SurvF.cons (SurvF.cons (fun B' g hg => (show Surv B' 27 g _ from Surv.disk (by first | exact .inl (by decide) | exact .inr hX))) (SurvF.nil rfl)) (SurvF.nil rfl)) ?_
 refine KofsK.pure (_) rfl rfl FromF.all (ok_loadA (s := 1000004) (by decide) Try.underlying39 rfl (size39.of (rfl)) rfl rfl) (SurvF.cons (fun B' g hg => (show Surv B' 27 g _ from Surv.v _)) (SurvF.nil rfl)) ?_
 refine KofsK.pure (_) rfl rfl FromF.all (ok_loadVK (s := 1000007) (by decide) Try.underlying27 rfl size27 rfl rfl) (SurvF.cons (fun B' g hg => (show Surv B' 27 g _ from Surv.disk (by first | exact .inl (by decide) | exact .inr hX))) (SurvF.nil rfl)) ?_
 refine KofsK.pure (_) rfl rfl FromF.all (OpOk.tlO (k := 1000200) [byteV z] (ok_loadA (s := 1000003) (by decide) Try.underlying24 rfl (size24.of (rfl)) rfl rfl) rfl hv1 (by decide) rfl) (SurvF.cons (fun B' g hg => (show Surv B' 27 g _ from Surv.old hg)) (SurvF.nil rfl)) ?_
 refine KofsK.pure ((33, _) :: _) rfl rfl (FromF.op 2 (by kernel_rfl) rfl rfl FromF.all) (ok_call (xSize_fn z L) (Args.cons rfl (Le.old _ _) Args.nil)) (SurvF.cons (fun B' g hg => (show Surv B' 27 g _ from Surv.v _)) (SurvF.nil rfl)) ?_
 refine KofsK.pure ((31, _) :: (32, _) :: (34, _) :: _) rfl rfl (FromF.op 0 (by kernel_rfl) rfl rfl (FromF.op 1 (by kernel_rfl) rfl rfl (FromF.op 3 (by kernel_rfl) rfl rfl FromF.all))) (OpOk.tell (t := 31) (k := 1000608) (pre := [byteV o.k, byteV o.s, byteV o.b]) (by decide) rfl rfl hmv1 (by decide) rfl (ok_call (do_fn (ownX mv) o (xS z L) hS hn ht3) (Args.cons rfl LA (Args.cons rfl LA (Args.cons rfl (Le.v (by rw [xS_len])) Args.nil))))) (SurvF.cons (fun B' g hg => (show Surv B' 27 g _ from Surv.tup2 (Surv.disk (by first | exact .inl (by decide) | exact .inr hX)) (Surv.v _))) (SurvF.nil rfl)) ?_
 refine KofsK.pure ((35, _) :: _) rfl rfl (FromF.op 4 (by kernel_rfl) rfl rfl FromF.all) (ok_move rfl) (SurvF.cons (fun B' g hg => (show Surv B' 27 g _ from Surv.tup2 (Surv.disk (by first | exact .inl (by decide) | exact .inr hX)) (Surv.v _))) (SurvF.nil rfl)) ?_
 refine KofsK.pure ((30, _) :: _) rfl rfl (FromF.op 5 (by kernel_rfl) rfl rfl FromF.all) (ok_extract rfl rfl) (SurvF.cons (fun B' g hg => (show Surv B' 27 g _ from Surv.disk (by first | exact .inl (by decide) | exact .inr hX))) (SurvF.nil rfl)) ?_
 refine KofsK.pure ((30, _) :: _) rfl rfl (FromF.op 5 (by kernel_rfl) rfl rfl FromF.all) (ok_extract rfl rfl) (SurvF.cons (fun B' g hg => (show Surv B' 27 g _ from Surv.v _)) (SurvF.nil rfl)) ?_
 refine KofsK.alloc 0 rfl rfl rfl rfl zero27 rfl ?_
 refine KofsK.store 0 ((36, _) :: _) rfl rfl rfl rfl (by kernel_rfl) (FromF.op 6 (by kernel_rfl) rfl rfl FromF.all) rfl (Le.refl _) size27 rfl (Agg.disk) ?_
 refine KofsK.pure ((37, _) :: _) rfl rfl (FromF.op 7 (by kernel_rfl) rfl rfl FromF.all) (ok_assign rfl) (SurvF.cons (fun B' g hg => (show Surv B' 27 g _ from Surv.v _)) (SurvF.nil rfl)) ?_
 refine KofsK.nil ⟨by kernel_rfl, _, FromFW.all, fun bs hbs hds => ?_⟩
 have hb9 := hbs 0 (by simp)
 dsimp only [varEnvF]
 generalize bs 0 = b9 at *
 have hBb9 := hb9.1
 have hlt_b3_b9 : b3 < b9 := hb9.2.1 1000003 _ _ _ rfl
 have hlt_b4_b9 : b4 < b9 := hb9.2.1 1000004 _ _ _ rfl
 have hlt_b5_b9 : b5 < b9 := hb9.2.1 1000005 _ _ _ rfl
 have hlt_b7_b9 : b7 < b9 := hb9.2.2 1000007 _ _ _ _ rfl
 refine A.sub (KC 3 rfl (KC 4 rfl (KC 5 rfl (KC 7 rfl (KC 8 rfl (KC 9 rfl (KC 1000003 rfl (KC 1000004 rfl (KC 1000005 rfl (KC 1000007 rfl (KC 1000009 rfl (KC 1000200 rfl (KC 1000201 rfl (KC 1000202 rfl (KC 1000308 rfl (KC 1000608 rfl KN)))))))))))))))) ?_
 refine A.regsF [⟨8, 11, 27, [.int .i64 0] ++ [.int .i64 0] ++ [.slice none 0 0], 9, 3, diskD dT (ownX mv) ((opStep o' (xS z L)).1)⟩] (by kernel_rfl) (by kernel_rfl) (by kernel_rfl) (SurvF.cons (SurvF.cons (fun B' g hg => (show Surv B' 27 g _ from Surv.disk (by first | exact .inl (by decide) | exact .inr hX))) (SurvF.nil rfl)) (SurvF.nil rfl)) ?_
 refine KofsK.pure (_) rfl rfl FromF.all (OpOk.tlO (k := 1000202) [byteV o'.k, byteV o'.s, byteV o'.b] (ok_loadA (s := 1000005) (by decide) Try.underlying39 rfl (size39.of (rfl)) rfl rfl) rfl hv''1 (by decide) rfl) (SurvF.cons (fun B' g hg => (show Surv B' 27 g _ from Surv.old hg)) (SurvF.nil rfl)) ?_
 refine KofsK.pure (_) rfl rfl FromF.all (ok_loadVK (s := 1000007) (by decide) Try.underlying27 rfl size27 rfl rfl) (SurvF.cons (fun B' g hg => (show Surv B' 27 g _ from Surv.disk (by first | exact .inl (by decide) | exact .inr hX))) (SurvF.nil rfl)) ?_
 refine KofsK.pure (_) rfl rfl FromF.all (OpOk.tlO (k := 1000200) [byteV z] (ok_loadA (s := 1000003) (by decide) Try.underlying24 rfl (size24.of (rfl)) rfl rfl) rfl hv1 (by decide) rfl) (SurvF.cons (fun B' g hg => (show Surv B' 27 g _ from Surv.old hg)) (SurvF.nil rfl)) ?_
 refine KofsK.pure ((41, _) :: _) rfl rfl (FromF.op 2 (by kernel_rfl) rfl rfl FromF.all) (ok_call (xSize_fn z L) (Args.cons rfl (Le.old _ _) Args.nil)) (SurvF.cons (fun B' g hg => (show Surv B' 27 g _ from Surv.v _)) (SurvF.nil rfl)) ?_
 refine KofsK.pure ((39, _) :: (40, _) :: (42, _) :: _) rfl rfl (FromF.op 0 (by kernel_rfl) rfl rfl (FromF.op 1 (by kernel_rfl) rfl rfl (FromF.op 3 (by kernel_rfl) rfl rfl FromF.all))) (ok_call (do_fn (ownX mv) o' (xS z L) hS hn ht3) (Args.cons rfl (Le.old _ _) (Args.cons rfl LA (Args.cons rfl (Le.v (by rw [xS_len])) Args.nil)))) (SurvF.cons (fun B' g hg => (show Surv B' 27 g _ from Surv.tup2 (Surv.disk (by first | exact .inl (by decide) | exact .inr hX)) (Surv.v _))) (SurvF.nil rfl)) ?_
 refine KofsK.pure ((43, _) :: _) rfl rfl (FromF.op 4 (by kernel_rfl) rfl rfl FromF.all) (ok_move rfl) (SurvF.cons (fun B' g hg => (show Surv B' 27 g _ from Surv.tup2 (Surv.disk (by first | exact .inl (by decide) | exact .inr hX)) (Surv.v _))) (SurvF.nil rfl)) ?_
 refine KofsK.pure ((38, _) :: _) rfl rfl (FromF.op 5 (by kernel_rfl) rfl rfl FromF.all) (ok_extract rfl rfl) (SurvF.cons (fun B' g hg => (show Surv B' 27 g _ from Surv.disk (by first | exact .inl (by decide) | exact .inr hX))) (SurvF.nil rfl)) ?_
 refine KofsK.pure ((38, _) :: _) rfl rfl (FromF.op 5 (by kernel_rfl) rfl rfl FromF.all) (ok_extract rfl rfl) (SurvF.cons (fun B' g hg => (show Surv B' 27 g _ from Surv.v _)) (SurvF.nil rfl)) ?_
 refine KofsK.alloc 0 rfl rfl rfl rfl zero27 rfl ?_
 refine KofsK.store 0 ((44, _) :: _) rfl rfl rfl rfl (by kernel_rfl) (FromF.op 6 (by kernel_rfl) rfl rfl FromF.all) rfl (Le.refl _) size27 rfl (Agg.disk) ?_
 refine KofsK.pure ((45, _) :: _) rfl rfl (FromF.op 7 (by kernel_rfl) rfl rfl FromF.all) (ok_assign rfl) (SurvF.cons (fun B' g hg => (show Surv B' 27 g _ from Surv.v _)) (SurvF.nil rfl)) ?_
 refine KofsK.nil ⟨by kernel_rfl, _, FromFW.all, fun bs hbs hds => ?_⟩
 have hb11 := hbs 0 (by simp)
 dsimp only [varEnvF]
 generalize bs 0 = b11 at *
 have hBb11 := hb11.1
 have hlt_b3_b11 : b3 < b11 := hb11.2.1 1000003 _ _ _ rfl
 have hlt_b4_b11 : b4 < b11 := hb11.2.1 1000004 _ _ _ rfl
 have hlt_b5_b11 : b5 < b11 := hb11.2.1 1000005 _ _ _ rfl
 have hlt_b7_b11 : b7 < b11 := hb11.2.2 1000007 _ _ _ _ rfl
 have hlt_b9_b11 : b9 < b11 := hb11.2.2 1000009 _ _ _ _ rfl
 refine A.sub (KC 3 rfl (KC 4 rfl (KC 5 rfl (KC 7 rfl (KC 8 rfl (KC 9 rfl (KC 11 rfl (KC 1000003 rfl (KC 1000004 rfl (KC 1000005 rfl (KC 1000007 rfl (KC 1000009 rfl (KC 1000011 rfl (KC 1000200 rfl (KC 1000201 rfl (KC 1000202 rfl (KC 1000308 rfl (KC 1000608 rfl KN)))))))))))))))))) ?_
 refine GS ?_
 refine TN 2 ?_
 refine RS (OpOk.tlO (k := 1000200) [byteV z] (ok_loadA (s := 1000003) (by decide) Try.underlying24 rfl (size24.of (rfl)) rfl rfl) rfl hv1 (by decide) rfl) ?_
 refine RS (ok_call (xRef_fn z L) (Args.cons rfl (Le.old _ _) Args.nil)) ?_
 refine RN ?_
 refine ⟨_, _, eff_allocV (n := 118) (d := 13) (k := 1000013) zero34 (by decide), fun b13 hb13 => ?_⟩
 have hBb13 := hb13.1
 refine TF 3 ?_
 refine RN ?_
 refine ⟨_, eff_storeK (n := 118) (s := 1000013) size34 rfl rfl (Le.refl _) (Agg.ref) hBb13 rfl (rfl) (Surv.ref (by decide) (by decide)) (LV 3 rfl (LV 4 rfl (LV 5 rfl (LV 7 rfl (LV 8 rfl (LV 9 rfl (LV 11 rfl (LV 13 rfl (LT 1000003 rfl (LT 1000004 rfl (LT 1000005 rfl (LeftS.cons (t := 1000007) rfl (Surv.varKT (by decide) (Surv.disk (by first | exact .inl (by decide) | exact .inr hX))) (LeftS.cons (t := 1000009) rfl (Surv.varKT (by decide) (Surv.disk (by first | exact .inl (by decide) | exact .inr hX))) (LeftS.cons (t := 1000011) rfl (Surv.varKT (by decide) (Surv.disk (by first | exact .inl (by decide) | exact .inr hX))) (LO 1000200 rfl (LO 1000201 rfl (LO 1000202 rfl (LeftS.cons (t := 1000308) rfl (Surv.ownMT (by decide)) LN)))))))))))))))))), ?_⟩
 refine TL ?_
 refine RN ?_
 refine A.valOwn (k := 1000308) (k' := 1000608) (l := o.l) rfl rfl ?_
 refine GS ?_
 refine TN 6 ?_
 refine RS (ok_loadA (s := 1000004) (by decide) Try.underlying39 rfl (size39.of (rfl)) rfl rfl) ?_
 refine RS (ok_loadVK (s := 1000013) (by decide) Try.underlying34 rfl size34 rfl rfl) ?_
 refine RS (OpOk.tell (t := 49) (k := 1000608) (pre := [byteV o.k, byteV o.s, byteV o.b]) (by decide) rfl rfl hmv1 (by decide) rfl (ok_call (ref_fn o (xS z L) hS hn ht3) (Args.cons rfl LA (Args.cons rfl LA Args.nil)))) ?_
 refine RM rfl ?_
 refine RS (ok_extract rfl rfl) ?_
 refine RS (ok_extract rfl rfl) ?_
 refine RN ?_
 refine ⟨_, _, eff_allocV (n := 118) (d := 14) (k := 1000014) zero34 (by decide), fun b14 hb14 => ?_⟩
 have hBb14 := hb14.1
 have hlt_b13_b14 : b13 < b14 := hb14.2.2 1000013 _ _ _ _ rfl
 refine TF 7 ?_
 refine RN ?_
 refine ⟨_, eff_storeK (n := 118) (s := 1000014) size34 rfl rfl (Le.refl _) (Agg.ref) hBb14 rfl (rfl) (Surv.ref (by decide) (by decide)) (LV 3 rfl (LV 4 rfl (LV 5 rfl (LV 7 rfl (LV 8 rfl (LV 9 rfl (LV 11 rfl (LV 13 rfl (LV 14 rfl (LV 53 rfl (LT 1000003 rfl (LT 1000004 rfl (LT 1000005 rfl (LeftS.cons (t := 1000007) rfl (Surv.varKT (by decide) (Surv.disk (by first | exact .inl (by decide) | exact .inr hX))) (LeftS.cons (t := 1000009) rfl (Surv.varKT (by decide) (Surv.disk (by first | exact .inl (by decide) | exact .inr hX))) (LeftS.cons (t := 1000011) rfl (Surv.varKT (by decide) (Surv.disk (by first | exact .inl (by decide) | exact .inr hX))) (LeftS.cons (t := 1000013) rfl (Surv.varK (by omega) (Surv.ref (by decide) (by decide))) (LO 1000200 rfl (LO 1000201 rfl (LO 1000202 rfl (LeftS.cons (t := 1000308) rfl (Surv.ownMT (by decide)) LN))))))))))))))))))))), ?_⟩
 refine TL ?_
 refine RA rfl ?_
 refine RN ?_
 refine GS ?_
 refine TN 6 ?_
 refine RS (OpOk.tlO (k := 1000202) [byteV o'.k, byteV o'.s, byteV o'.b] (ok_loadA (s := 1000005) (by decide) Try.underlying39 rfl (size39.of (rfl)) rfl rfl) rfl hv''1 (by decide) rfl) ?_
 refine RS (ok_loadVK (s := 1000013) (by decide) Try.underlying34 rfl size34 rfl rfl) ?_
 refine RS (ok_call (ref_fn o' (xS z L) hS hn ht3) (Args.cons rfl (Le.old _ _) (Args.cons rfl LA Args.nil))) ?_
 refine RM rfl ?_
 refine RS (ok_extract rfl rfl) ?_
 refine RS (ok_extract rfl rfl) ?_
 refine RN ?_
 refine ⟨_, _, eff_allocV (n := 118) (d := 16) (k := 1000016) zero34 (by decide), fun b16 hb16 => ?_⟩
 have hBb16 := hb16.1
 have hlt_b13_b16 : b13 < b16 := hb16.2.2 1000013 _ _ _ _ rfl
 have hlt_b14_b16 : b14 < b16 := hb16.2.2 1000014 _ _ _ _ rfl
 refine TF 7 ?_
 refine RN ?_
 refine ⟨_, eff_storeK (n := 118) (s := 1000016) size34 rfl rfl (Le.refl _) (Agg.ref) hBb16 rfl (rfl) (Surv.ref (by decide) (by decide)) (LV 3 rfl (LV 4 rfl (LV 7 rfl (LV 8 rfl (LV 9 rfl (LV 11 rfl (LV 13 rfl (LV 14 rfl (LV 16 rfl (LV 59 rfl (LT 1000003 rfl (LT 1000004 rfl (LT 1000005 rfl (LeftS.cons (t := 1000007) rfl (Surv.varKT (by decide) (Surv.disk (by first | exact .inl (by decide) | exact .inr hX))) (LeftS.cons (t := 1000009) rfl (Surv.varKT (by decide) (Surv.disk (by first | exact .inl (by decide) | exact .inr hX))) (LeftS.cons (t := 1000011) rfl (Surv.varKT (by decide) (Surv.disk (by first | exact .inl (by decide) | exact .inr hX))) (LeftS.cons (t := 1000013) rfl (Surv.varK (by omega) (Surv.ref (by decide) (by decide))) (LeftS.cons (t := 1000014) rfl (Surv.varK (by omega) (Surv.ref (by decide) (by decide))) (LO 1000200 rfl (LO 1000201 rfl (LO 1000202 rfl (LeftS.cons (t := 1000308) rfl (Surv.ownMT (by decide)) LN)))))))))))))))))))))), ?_⟩
 refine TL ?_
 refine RA rfl ?_
 refine RN ?_
 refine A.seq ?_
 refine GS ?_
 refine TL ?_
 refine RA rfl ?_
 refine RN ?_
 refine A.block ?_
 refine A.loop (ι := Nat × List UInt8) (fun p => p.1 ≤ o.l.length ∧ p.2.length = o.l.length) (fun p => [(3, .v (ptr b3)), (4, .v (ptr b4)), (7, .v (ptr b7)), (9, .v (ptr b9)), (11, .v (ptr b11)), (13, .v (ptr b13)), (14, .v (ptr b14)), (16, .v (ptr b16)), (8, .v (mv)), (18, .v (nI (p.1))), (1000003, blk b3 24 [byteV z, v]), (1000004, blk b4 39 [byteV o.k, byteV o.s, byteV o.b, mv]), (1000007, varK b7 27 3 (diskD dT (ownX mv) ((xS z L)))), (1000009, varK b9 27 3 (diskD dT (ownX mv) ((opStep o (xS z L)).1))), (1000011, varK b11 27 3 (diskD dT (ownX mv) ((opStep o' (xS z L)).1))), (1000013, varK b13 34 1 (refD 61 51 (xS z L))), (1000014, varK b14 34 1 (refD 61 51 ((opStep o (xS z L)).1))), (1000016, varK b16 34 1 (refD 61 51 ((opStep o' (xS z L)).1))), (1000200, old w₀.heap.size (valM v (lstK 4 (L.map opD)))), (1000308, ownM w₁.heap.size mv 5 o.l.length (p.2.map byteV))]) (fun p => o.l.length - p.1) (0, o.l) ?_ ?_ ?_
 ·exact ⟨Nat.zero_le _, rfl⟩
 ·exact (KC 3 rfl (KC 4 rfl (KC 7 rfl (KC 9 rfl (KC 11 rfl (KC 13 rfl (KC 14 rfl (KC 16 rfl (KC 8 rfl (KE 18 rfl (by rfl) (KC 1000003 rfl (KC 1000004 rfl (KC 1000007 rfl (KC 1000009 rfl (KC 1000011 rfl (KC 1000013 rfl (KC 1000014 rfl (KC 1000016 rfl (KC 1000200 rfl (KC 1000308 rfl KN))))))))))))))))))))
 intro p hG
 have hG1 := hG.1
 have hG2 := hG.2
 refine A.seq ?_
 refine GS ?_
 refine TL ?_
 refine RM rfl ?_
 refine RM rfl ?_
 refine RS (ok_lenVM Try.underlying37 rfl (by decide) (k := 1000308) rfl) ?_
 refine RB rfl rfl rfl ?_
 refine RN ?_
 refine A.cond rfl (fun hc63 => ?_) (fun hc63 => ?_)
 ·have hi : p.1 < o.l.length := by simp at hc63; omega
  refine A.skip ?_
  refine EN ?_
  refine A.seq ?_
  refine A.block ?_
  refine GE ?_
  refine TF 6 ?_
  refine RM rfl ?_
  refine RM rfl ?_
  refine RS (ok_indexVM p.1 Try.underlying37 info5 rfl rfl (by decide) (k := 1000308) rfl hi) ?_
  refine RS (ok_loadVM (u := byteV (p.2[p.1]'(by omega))) Try.underlying5 rfl rfl (by decide) (k := 1000308) rfl (by rw [List.getElem?_map, List.getElem?_eq_getElem (by omega)]; rfl)) ?_
  refine RBS rfl rfl rfl (byteV (p.2[p.1]'(by omega) + 1)) (bump8 _) ?_
  refine RS (ok_indexVM p.1 Try.underlying37 info5 rfl rfl (by decide) (k := 1000308) rfl hi) ?_
  refine RN ?_
  refine ⟨_, eff_storeVM (n := 118) (k := 1000308) info5 rfl rfl (rfl) (by decide) rfl (hgs₁) (hi) (fun g hg hX => (LV 3 rfl (LV 4 rfl (LV 7 rfl (LV 8 rfl (LV 9 rfl (LV 11 rfl (LV 13 rfl (LV 14 rfl (LV 16 rfl (LV 18 rfl (LT 1000003 rfl (LT 1000004 rfl (LeftS.cons (t := 1000007) rfl (Surv.varKT (by decide) (Surv.disk (by first | exact .inl (by decide) | exact .inr hX))) (LeftS.cons (t := 1000009) rfl (Surv.varKT (by decide) (Surv.disk (by first | exact .inl (by decide) | exact .inr hX))) (LeftS.cons (t := 1000011) rfl (Surv.varKT (by decide) (Surv.disk (by first | exact .inl (by decide) | exact .inr hX))) (LeftS.cons (t := 1000013) rfl (Surv.varKT (by decide) (Surv.ref (by decide) (by decide))) (LeftS.cons (t := 1000014) rfl (Surv.varKT (by decide) (Surv.ref (by decide) (by decide))) (LeftS.cons (t := 1000016) rfl (Surv.varKT (by decide) (Surv.ref (by decide) (by decide))) (LO 1000200 rfl LN)))))))))))))))))))), ?_⟩
  refine TL ?_
  refine RN ?_
  refine End.normal_block ?_
  refine EN ?_
  refine GE ?_
  refine TL ?_
  refine RM rfl ?_
  refine RBS rfl rfl rfl (nI (p.1 + 1)) (wrap_eq (by omega) (by omega)) ?_
  refine RA rfl ?_
  refine RN ?_
  refine End.normal_then ?_
  refine End.again (p.1 + 1, p.2.set p.1 (p.2[p.1]'(by omega) + 1)) ?_ ?_ ?_
  ·exact ⟨by omega, by rw [List.length_set]; exact hG2⟩
  ·show o.l.length - (p.1 + 1) < o.l.length - p.1; omega
  ·exact (KC 3 rfl (KC 4 rfl (KC 7 rfl (KC 9 rfl (KC 11 rfl (KC 13 rfl (KC 14 rfl (KC 16 rfl (KC 8 rfl (KC 18 rfl (KC 1000003 rfl (KC 1000004 rfl (KC 1000007 rfl (KC 1000009 rfl (KC 1000011 rfl (KC 1000013 rfl (KC 1000014 rfl (KC 1000016 rfl (KC 1000200 rfl (KE 1000308 rfl (by rw [map_set8]) KN))))))))))))))))))))
 ·have hi2 : True := trivial
  refine A.exit ?_
  refine End.exit_then ?_
  refine End.exit_then ?_
  refine End.exit_here ?_
  refine EN ?_
  refine GD ?_
  refine TL ?_
  refine RS (ok_field field39_1 (by decide) rfl) ?_
  refine RS (ok_loadV (s := 1000004) (by decide) Try.underlying5 rfl rfl rfl (rfl)) ?_
  refine RS (ok_conv Try.underlying5 Try.underlying3 rfl) ?_; refine RZ (nI (o.s.toNat)) (wrap_eq (by omega) (by omega)) ?_
  refine RS (OpOk.tlO (k := 1000200) [byteV z] (ok_loadA (s := 1000003) (by decide) Try.underlying24 rfl (size24.of (rfl)) rfl rfl) rfl hv1 (by decide) rfl) ?_
  refine RS (ok_call (xSize_fn z L) (Args.cons rfl (Le.old _ _) Args.nil)) ?_
  refine RS (ok_rem rfl rfl (by have := nOf_pos z; omega)) ?_; refine RZ (nI (opAt o (xS z L).length)) ((tmodN _ _).trans (by rw [xS_len]; rfl)) ?_
  refine RA rfl ?_
  refine RN ?_
  refine A.dup (k := 1000007) (k' := 1000707) rfl (fun _ _ _ _ h => h) ?_
  refine A.dup (k := 1000009) (k' := 1000709) rfl (fun _ _ _ _ h => h) ?_
  refine A.dup (k := 1000011) (k' := 1000711) rfl (fun _ _ _ _ h => h) ?_
  refine A.raise _ (fun w => (UpTo.same (t := 7) rfl (UpTo.same (t := 9) rfl (UpTo.same (t := 11) rfl (UpTo.same (t := 13) rfl (UpTo.same (t := 14) rfl (UpTo.same (t := 16) rfl (UpTo.same (t := 19) rfl (UpTo.same (t := 1000003) rfl (UpTo.same (t := 1000004) rfl (UpTo.same (t := 1000007) rfl (UpTo.same (t := 1000009) rfl (UpTo.same (t := 1000011) rfl (UpTo.same (t := 1000013) rfl (UpTo.same (t := 1000014) rfl (UpTo.same (t := 1000016) rfl (UpTo.same (t := 1000200) rfl (UpTo.same (t := 1000308) rfl (UpTo.new (t := 1000707) rfl (UpTo.new (t := 1000709) rfl (UpTo.new (t := 1000711) rfl UpTo.nil))))))))))))))))))))) fun w₂ hg₂ => ?_
  have hgs₂ := hg₂.size
  refine GS ?_
  refine TL ?_
  refine RS (ok_loadVK (s := 1000009) (by decide) Try.underlying27 rfl size27 rfl rfl) ?_
  refine RM rfl ?_
  refine RS (ok_callB (dRead_fn (ownX mv) (opStep o (xS z L)).1 (opAt o (xS z L).length) hk1 hn1) con_tup_mono (Args.cons rfl LA (Args.cons rfl LA Args.nil))) ?_
  refine RM rfl ?_
  refine RS (ok_extract rfl rfl) ?_
  refine RS (ok_extract rfl rfl) ?_
  refine RA rfl ?_
  refine RA rfl ?_
  refine RN ?_
  refine A.seq ?_
  refine GS ?_
  refine TL ?_
  refine RM rfl ?_
  refine RM rfl ?_
  refine RS (ok_loadVK (s := 1000014) (by decide) Try.underlying34 rfl size34 rfl rfl) ?_
  refine RM rfl ?_
  refine RS (ok_call (rLast_fn (opStep o (xS z L)).1 hn1 ht1 (opAt o (xS z L).length) hk1) (Args.cons rfl LA (Args.cons rfl LA Args.nil))) ?_
  refine RS (ok_call (content_fn w₂.heap.size (lastC (hisC (opStep o (xS z L)).1 (opAt o (xS z L).length)))) (Args.cons rfl LA (Args.cons rfl LA (Args.cons rfl LA Args.nil)))) ?_
  refine RBS rfl rfl rfl (.bool false) (rfl) ?_
  refine RN ?_
  refine A.sub (KC 7 rfl (KC 9 rfl (KC 11 rfl (KC 13 rfl (KC 14 rfl (KC 16 rfl (KC 20 rfl (KC 90 rfl (KC 1000003 rfl (KC 1000004 rfl (KC 1000007 rfl (KC 1000009 rfl (KC 1000011 rfl (KC 1000013 rfl (KC 1000014 rfl (KC 1000016 rfl (KC 1000200 rfl (KC 1000308 rfl (KC 1000707 rfl (KC 1000709 rfl (KC 1000711 rfl KN))))))))))))))))))))) ?_
  refine A.no rfl ?_
  refine A.skip ?_
  refine EN ?_
  refine A.seq ?_
  refine A.know (k := 20) (p := (((lastC (hisC (opStep o (xS z L)).1 (opAt o (xS z L).length)))).getD []).length ≤ 256) rfl (fun _ _ _ h => conD_len h) fun hgl => ?_
  refine A.subL (SubL.cons (t := 7) rfl (Le.refl _) (SubL.cons (t := 9) rfl (Le.refl _) (SubL.cons (t := 11) rfl (Le.refl _) (SubL.cons (t := 13) rfl (Le.refl _) (SubL.cons (t := 14) rfl (Le.refl _) (SubL.cons (t := 16) rfl (Le.refl _) (SubL.cons (t := 20) rfl (conD_own) (SubL.cons (t := 90) rfl (Le.refl _) (SubL.cons (t := 1000003) rfl (Le.refl _) (SubL.cons (t := 1000004) rfl (Le.refl _) (SubL.cons (t := 1000007) rfl (Le.refl _) (SubL.cons (t := 1000009) rfl (Le.refl _) (SubL.cons (t := 1000011) rfl (Le.refl _) (SubL.cons (t := 1000013) rfl (Le.refl _) (SubL.cons (t := 1000014) rfl (Le.refl _) (SubL.cons (t := 1000016) rfl (Le.refl _) (SubL.cons (t := 1000200) rfl (Le.refl _) (SubL.cons (t := 1000308) rfl (Le.refl _) (SubL.cons (t := 1000707) rfl (Le.refl _) (SubL.cons (t := 1000709) rfl (Le.refl _) (SubL.cons (t := 1000711) rfl (Le.refl _) SubL.nil))))))))))))))))))))) ?_
  refine A.openV (t := 20) (k := 1000320) rfl fun gv => ?_
  refine GS ?_
  refine TL ?_
  refine RA rfl ?_
  refine RN ?_
  refine A.block ?_
  refine A.loop (ι := Nat × List UInt8) (fun q => q.1 ≤ (((lastC (hisC (opStep o (xS z L)).1 (opAt o (xS z L).length)))).getD []).length ∧ q.2.length = (((lastC (hisC (opStep o (xS z L)).1 (opAt o (xS z L).length)))).getD []).length) (fun q => [(7, .v (ptr b7)), (9, .v (ptr b9)), (11, .v (ptr b11)), (13, .v (ptr b13)), (14, .v (ptr b14)), (16, .v (ptr b16)), (20, .v (gv)), (22, .v (nI (q.1))), (1000013, varK b13 34 1 (refD 61 51 (xS z L))), (1000014, varK b14 34 1 (refD 61 51 ((opStep o (xS z L)).1))), (1000016, varK b16 34 1 (refD 61 51 ((opStep o' (xS z L)).1))), (1000707, old w₂.heap.size (varK b7 27 3 (diskD dT (ownX mv) ((xS z L))))), (1000709, old w₂.heap.size (varK b9 27 3 (diskD dT (ownX mv) ((opStep o (xS z L)).1)))), (1000711, old w₂.heap.size (varK b11 27 3 (diskD dT (ownX mv) ((opStep o' (xS z L)).1)))), (1000320, ownM w₂.heap.size gv 5 (((lastC (hisC (opStep o (xS z L)).1 (opAt o (xS z L).length)))).getD []).length (q.2.map byteV))]) (fun q => (((lastC (hisC (opStep o (xS z L)).1 (opAt o (xS z L).length)))).getD []).length - q.1) (0, (((lastC (hisC (opStep o (xS z L)).1 (opAt o (xS z L).length)))).getD [])) ?_ ?_ ?_
  ·exact ⟨Nat.zero_le _, rfl⟩
  ·exact (KC 7 rfl (KC 9 rfl (KC 11 rfl (KC 13 rfl (KC 14 rfl (KC 16 rfl (KC 20 rfl (KE 22 rfl (by rfl) (KC 1000013 rfl (KC 1000014 rfl (KC 1000016 rfl (KC 1000707 rfl (KC 1000709 rfl (KC 1000711 rfl (KC 1000320 rfl KN)))))))))))))))
  intro q hH
  have hH1 := hH.1
  have hH2 := hH.2
  refine A.seq ?_
  refine GS ?_
  refine TL ?_
  refine RM rfl ?_
  refine RM rfl ?_
  refine RS (ok_lenVM Try.underlying37 rfl (by decide) (k := 1000320) rfl) ?_
  refine RB rfl rfl rfl ?_
  refine RN ?_
  refine A.cond rfl (fun hc94 => ?_) (fun hc94 => ?_)
  ·have hj : q.1 < (((lastC (hisC (opStep o (xS z L)).1 (opAt o (xS z L).length)))).getD []).length := by simp at hc94; omega
   refine A.skip ?_
   refine EN ?_
   refine A.seq ?_
   refine A.block ?_
   refine GE ?_
   refine TF 6 ?_
   refine RM rfl ?_
   refine RM rfl ?_
   refine RS (ok_indexVM q.1 Try.underlying37 info5 rfl rfl (by decide) (k := 1000320) rfl hj) ?_
   refine RS (ok_loadVM (u := byteV (q.2[q.1]'(by omega))) Try.underlying5 rfl rfl (by decide) (k := 1000320) rfl (by rw [List.getElem?_map, List.getElem?_eq_getElem (by omega)]; rfl)) ?_
   refine RBS rfl rfl rfl (byteV (q.2[q.1]'(by omega) + 1)) (bump8 _) ?_
   refine RS (ok_indexVM q.1 Try.underlying37 info5 rfl rfl (by decide) (k := 1000320) rfl hj) ?_
   refine RN ?_
   refine ⟨_, eff_storeVM (n := 118) (k := 1000320) info5 rfl rfl (rfl) (by decide) rfl (Nat.le_refl _) (hj) (fun g hg hX => (LV 7 rfl (LV 9 rfl (LV 11 rfl (LV 13 rfl (LV 14 rfl (LV 16 rfl (LV 20 rfl (LV 22 rfl (LeftS.cons (t := 1000013) rfl (Surv.varKT (by decide) (Surv.ref (by decide) (by decide))) (LeftS.cons (t := 1000014) rfl (Surv.varKT (by decide) (Surv.ref (by decide) (by decide))) (LeftS.cons (t := 1000016) rfl (Surv.varKT (by decide) (Surv.ref (by decide) (by decide))) (LO 1000707 rfl (LO 1000709 rfl (LO 1000711 rfl LN))))))))))))))), ?_⟩
   refine TL ?_
   refine RN ?_
   refine End.normal_block ?_
   refine EN ?_
   refine GE ?_
   refine TL ?_
   refine RM rfl ?_
   refine RBS rfl rfl rfl (nI (q.1 + 1)) (wrap_eq (by omega) (by omega)) ?_
   refine RA rfl ?_
   refine RN ?_
   refine End.normal_then ?_
   refine End.again (q.1 + 1, q.2.set q.1 (q.2[q.1]'(by omega) + 1)) ?_ ?_ ?_
   ·exact ⟨by omega, by rw [List.length_set]; exact hH2⟩
   ·show (((lastC (hisC (opStep o (xS z L)).1 (opAt o (xS z L).length)))).getD []).length - (q.1 + 1) < (((lastC (hisC (opStep o (xS z L)).1 (opAt o (xS z L).length)))).getD []).length - q.1; omega
   ·exact (KC 7 rfl (KC 9 rfl (KC 11 rfl (KC 13 rfl (KC 14 rfl (KC 16 rfl (KC 20 rfl (KC 22 rfl (KC 1000013 rfl (KC 1000014 rfl (KC 1000016 rfl (KC 1000707 rfl (KC 1000709 rfl (KC 1000711 rfl (KE 1000320 rfl (by rw [map_set8]) KN)))))))))))))))
  ·have hj2 : True := trivial
   refine A.exit ?_
   refine End.exit_then ?_
   refine End.exit_then ?_
   refine End.exit_here ?_
   refine EN ?_
   refine A.dup (k := 1000707) (k' := 1000007) rfl (fun _ _ _ _ h => h) ?_
   refine A.dup (k := 1000709) (k' := 1000009) rfl (fun _ _ _ _ h => h) ?_
   refine A.dup (k := 1000711) (k' := 1000011) rfl (fun _ _ _ _ h => h) ?_
   refine A.subL (SubL.cons (t := 7) rfl (Le.refl _) (SubL.cons (t := 9) rfl (Le.refl _) (SubL.cons (t := 11) rfl (Le.refl _) (SubL.cons (t := 13) rfl (Le.refl _) (SubL.cons (t := 14) rfl (Le.refl _) (SubL.cons (t := 16) rfl (Le.refl _) (SubL.cons (t := 20) rfl (Le.refl _) (SubL.cons (t := 22) rfl (Le.refl _) (SubL.cons (t := 94) rfl (Le.refl _) (SubL.cons (t := 1000007) rfl (Le.old _ _) (SubL.cons (t := 1000009) rfl (Le.old _ _) (SubL.cons (t := 1000011) rfl (Le.old _ _) (SubL.cons (t := 1000013) rfl (Le.refl _) (SubL.cons (t := 1000014) rfl (Le.refl _) (SubL.cons (t := 1000016) rfl (Le.refl _) (SubL.cons (t := 1000320) rfl (Le.refl _) SubL.nil)))))))))))))))) ?_
   refine GD ?_
   refine TL ?_
   refine RS (ok_loadVK (s := 1000007) (by decide) Try.underlying27 rfl size27 rfl rfl) ?_
   refine RS (ok_loadVK (s := 1000013) (by decide) Try.underlying34 rfl size34 rfl rfl) ?_
   refine RS (ok_call (equal_fn (ownX mv) (xS z L) hn ht) (Args.cons rfl LA (Args.cons rfl LA Args.nil))) ?_
   refine RS (ok_loadVK (s := 1000009) (by decide) Try.underlying27 rfl size27 rfl rfl) ?_
   refine RS (ok_loadVK (s := 1000014) (by decide) Try.underlying34 rfl size34 rfl rfl) ?_
   refine RS (ok_call (equal_fn (ownX mv) (opStep o (xS z L)).1 hn1 ht1) (Args.cons rfl LA (Args.cons rfl LA Args.nil))) ?_
   refine RBS rfl rfl rfl (nI (1)) (rfl) ?_
   refine RS (ok_loadVK (s := 1000011) (by decide) Try.underlying27 rfl size27 rfl rfl) ?_
   refine RS (ok_loadVK (s := 1000016) (by decide) Try.underlying34 rfl size34 rfl rfl) ?_
   refine RS (ok_call (equal_fn (ownX mv) (opStep o' (xS z L)).1 hn2 ht2) (Args.cons rfl LA (Args.cons rfl LA Args.nil))) ?_
   refine RBS rfl rfl rfl (nI (1)) (rfl) ?_
   refine RBS rfl rfl rfl (.bool true) (rfl) ?_
   refine RM rfl ?_
   refine RQ (ok_call (lives14_fn) Args.nil) ?_
   refine RP rfl rfl ?_
   refine RA rfl ?_
   refine RN ?_
   refine A.ret ?_
   exact End.ret1U hg₂ rfl rfl (Le.refl _)
end Go.Proofs.Ytdhbhcbkhkopbaa
namespace Go.Proofs.Ytdhbhcbkhkopbaa
open Go Go.RowKit
set_option linter.unusedVariables false
set_option maxRecDepth 20000
set_option linter.unusedSimpArgs false

def K0 : Dk := List.replicate 10922 []
def K1 : Dk := putC K0 10921 (some (List.replicate 256 0))
def K2 : Dk := putC K1 0 (some [])
def K3 : Dk := putC K2 5000 none
def kfc (j : Nat) : Con := some [UInt8.ofNat j, UInt8.ofNat (j / 256)]
def KS : Nat → Dk
 | 0 => K3
 | n + 1 => putC (KS n) 64 (kfc n)
theorem KS_zero : KS 0 = K3 := rfl
theorem KS_succ (n : Nat) : KS (n + 1) = putC (KS n) 64 (kfc n) := rfl
theorem K0_def : List.replicate 10922 [] = K0 := rfl
theorem K1_def : K1 = putC K0 10921 (some (List.replicate 256 0)) := rfl
theorem K2_def : K2 = putC K1 0 (some []) := rfl
theorem K3_def : K3 = putC K2 5000 none := rfl
theorem K0_len : K0.length = 10922 := List.length_replicate
theorem K1_len : K1.length = 10922 := (putC_length _ _ _).trans K0_len
theorem K2_len : K2.length = 10922 := (putC_length _ _ _).trans K1_len
theorem K3_len : K3.length = 10922 := (putC_length _ _ _).trans K2_len
theorem KS_len : ∀ n, (KS n).length = 10922
 | 0 => K3_len
 | n + 1 => (putC_length _ _ _).trans (KS_len n)
theorem K0_tot : totC K0 = 0 := totC_rep _
theorem K1_tot : totC K1 = 1 := (totC_put _ (by rw [K0_len]; decide)).trans (by rw [K0_tot])
theorem K2_tot : totC K2 = 2 := (totC_put _ (by rw [K1_len]; decide)).trans (by rw [K1_tot])
theorem K3_tot : totC K3 = 3 := (totC_put _ (by rw [K2_len]; decide)).trans (by rw [K2_tot])
theorem KS_tot : ∀ n, totC (KS n) = n + 3
 | 0 => K3_tot
 | n + 1 => (totC_put _ (by rw [KS_len]; decide)).trans (by rw [KS_tot n])
theorem K0_his (i : Nat) : hisC K0 i = [] := his_rep _ _
theorem K3_z : hisC K3 0 = [some []] := by rw [K3_def, his_put_ne _ (by decide), K2_def, his_put _ (by rw [K1_len]; decide), K1_def, his_put_ne _ (by decide), K0_his]
theorem K3_g : hisC K3 10921 = [some (List.replicate 256 0)] := by rw [K3_def, his_put_ne _ (by decide), K2_def, his_put_ne _ (by decide), K1_def, his_put _ (by rw [K0_len]; decide), K0_his]
theorem K3_e : hisC K3 5000 = [none] := by rw [K3_def, his_put _ (by rw [K2_len]; decide), K2_def, his_put_ne _ (by decide), K1_def, his_put_ne _ (by decide), K0_his]
theorem K3_no {i : Nat} (h0 : i ≠ 0) (h1 : i ≠ 10921) : (lastC (hisC K3 i)).isSome = false := by
 by_cases h : i = 5000
 ·subst h; rw [K3_e]; rfl
 ·rw [K3_def, his_put_ne _ (fun e => h e.symm), K2_def, his_put_ne _ (fun e => h0 e.symm), K1_def, his_put_ne _ (fun e => h1 e.symm), K0_his]; rfl
theorem K3_pres : ∀ i, i < 10921 → presU K3 (i + 1) = [nI 0]
 | 0, _ => by
  rw [← presU_y (by rw [K3_z]; rfl)]
  rfl
 | i + 1, h => by rw [← presU_n (K3_no (by omega) (by omega)), K3_pres i (by omega)]
theorem K3_presV : presV K3 = [nI 0, nI 10921] := by
 rw [presV_U, K3_len, show 10922 = 10921 + 1 from rfl, ← presU_y (by rw [K3_g]; rfl), K3_pres 10920 (by omega)]; rfl
theorem KS_his : ∀ n, hisC (KS n) 64 = ((List.range n).map kfc).reverse
 | 0 => by rw [KS_zero, K3_def, his_put_ne _ (by decide), K2_def, his_put_ne _ (by decide), K1_def, his_put_ne _ (by decide), K0_his]; rfl
 | n + 1 => by rw [KS_succ, his_put _ (by rw [KS_len]; decide), KS_his n, List.range_succ, List.map_append, List.reverse_append]; rfl
theorem KS_hlen (n : Nat) : (hisC (KS n) 64).length = n := by rw [KS_his]; simp
theorem KS_at {n j : Nat} (h : j < n) : atC (hisC (KS n) 64) (j + 1) = kfc j := by
 unfold atC
 rw [KS_his, List.reverse_reverse, List.getD_cons_succ, List.getD_eq_getElem?_getD, List.getElem?_map, List.getElem?_range h]; rfl
theorem KS_drop {n j : Nat} (h : j < n) : lastC ((hisC (KS n) 64).drop (n - (j + 1))) = kfc j := by
 have h1 := atC_drop (h := hisC (KS n) 64) (j := j + 1) (by rw [KS_hlen]; omega)
 rw [KS_hlen] at h1
 rw [← h1, KS_at h]
def KR : Dk := putC (KS 1000) 64 (some [0, 0])
theorem KR_def : KR = putC (KS 1000) 64 (some [0, 0]) := rfl
theorem KR_len : KR.length = 10922 := (putC_length _ _ _).trans (KS_len 1000)
theorem KR_last : lastC (hisC KR 64) = some [0, 0] := by rw [KR_def, his_put _ (by rw [KS_len]; decide)]; rfl
theorem wrapB (n : Nat) : Value.int .u8 (IntKind.u8.wrap (n : Int)) = byteV (UInt8.ofNat n) := congrArg (Value.int .u8) (wrap_u8_nat n)
theorem shr8 (n : Nat) : Value.int .i64 (((n : Nat) : Int).fdiv (2 ^ min (8 : Int).toNat IntKind.i64.bits)) = nI (n / 256) := by
 rw [show min (8 : Int).toNat IntKind.i64.bits = 8 from rfl, Int.fdiv_eq_ediv_of_nonneg _ (by decide)]; congr 1
attribute [irreducible] K0 K1 K2 K3 KS KR

set_option maxHeartbeats 4000000 in
theorem DisksKnown_fn  : Fn Try.prog 8 [] (.v (.bool true)) := by
 refine Fn.of Try.func8 rfl (by kernel_rfl) Try.ntmps8 (by simp) (fun w => []) (fun w => Start.nil) fun w₀ => ?_
 refine GS ?_
 refine TL ?_
 refine RA rfl ?_
 refine RN ?_
 refine GS ?_
 refine TN 4 ?_
 refine RS (ok_call (dNew_ok 10922 (by decide) (by decide)) (Args.cons rfl LA Args.nil)) ?_
 refine RM rfl ?_
 refine RS (OpOk.le (d' := diskD dT X0 K0) (ok_extract rfl rfl) (Le.eq (by rw [K0_def]))) ?_
 refine RS (ok_extract rfl rfl) ?_
 refine RN ?_
 refine ⟨_, _, eff_alloc (n := 190) (d := 1) (k := 1000001) zero27 (by decide), fun b1 hb1 => ?_⟩
 have hBb1 := hb1.1
 refine TF 5 ?_
 refine RN ?_
 refine ⟨_, eff_storeK (n := 190) (s := 1000001) size27 rfl rfl (Le.refl _) (Agg.disk) hBb1 rfl (rfl) (Surv.disk (.inl (by decide))) (LV 1 rfl (LV 19 rfl LN)), ?_⟩
 refine TL ?_
 refine RA rfl ?_
 refine RN ?_
 refine A.seq ?_
 refine A.regL0 6 [5] (by kernel_rfl) (by kernel_rfl) (by kernel_rfl) (by kernel_rfl) [(1, .v (ptr b1)), (2, .v (.int .i64 (0))), (3, .v (.int .i64 (0))), (1000001, varK b1 27 3 (diskD dT X0 K1))] ?_ ?_
 ·refine RS (ok_loadVK (s := 1000001) (by decide) Try.underlying27 rfl size27 rfl rfl) ?_
  refine RS (ok_make 256 Try.underlying37 info5 (by decide) rfl rfl rfl rfl rfl (by decide)) ?_
  refine RS (ok_call (dWrite_at X0 K0 10921 (by rw [K0_len]; decide) (by rw [K0_len]; decide) (List.replicate 256 0) K1 (by rw [List.length_replicate]; decide) (by rw [K0_tot]; decide) K1_def) (Args.cons rfl LA (Args.cons rfl LA (Args.cons rfl (fresh_zeros (by decide)) Args.nil)))) ?_
  refine RM rfl ?_
  refine RS (ok_extract rfl rfl) ?_
  refine RS (ok_extract rfl rfl) ?_
  refine RN ?_
  intro S hS
  simp only [subs, List.map_cons, List.map_nil, List.cons_append, List.nil_append, List.mem_cons, List.not_mem_nil, or_false] at hS
  rcases hS with rfl | rfl
  ·refine ⟨1, Nat.le_of_ble_eq_true (by kernel_rfl), _, (KC 1 rfl (KC 2 rfl (KC 20 rfl (KC 21 rfl (KC 22 rfl (KC 23 rfl (KC 24 rfl (KC 25 rfl (KC 1000001 rfl KN))))))))), by kernel_rfl, _, rfl, _, eff_storeKK (n := 190) (s := 1000001) size27 rfl rfl (Le.refl _) (Agg.disk) hBb1 rfl (Surv.disk (.inl (by decide))) (LV 1 rfl (LV 2 rfl (LeftS.cons (t := 20) rfl (Surv.tup2 (Surv.disk (.inl (by decide))) (Surv.v _)) (LeftS.cons (t := 21) rfl (Surv.disk (.inl (by decide))) (LeftS.cons (t := 23) rfl (Surv.tup2 (Surv.disk (.inl (by decide))) (Surv.v _)) (LeftS.cons (t := 24) rfl (Surv.disk (.inl (by decide))) (LV 25 rfl LN))))))), ?_⟩
   refine AnyT.step 7 [] (by kernel_rfl) ?_
   refine NextT.pure (by kernel_rfl) rfl rfl rfl (ok_assign rfl) ?_ ?_
   ·refine AnyT.last (by kernel_rfl) ?_
    exact (SubL.cons (t := 1) rfl (Le.refl _) (SubL.cons (t := 2) rfl (Le.refl _) (SubL.cons (t := 3) rfl (Le.refl _) (SubL.cons (t := 1000001) rfl (Le.refl _) SubL.nil))))
   exact trivial
  ·refine ⟨2, Nat.le_of_ble_eq_true (by kernel_rfl), _, (KC 1 rfl (KC 2 rfl (KC 20 rfl (KC 21 rfl (KC 22 rfl (KC 23 rfl (KC 24 rfl (KC 1000001 rfl KN)))))))), by kernel_rfl, _, rfl, _, eff_storeKK (n := 190) (s := 1000001) size27 rfl rfl (Le.refl _) (Agg.disk) hBb1 rfl (Surv.disk (.inl (by decide))) (LV 1 rfl (LV 2 rfl (LeftS.cons (t := 20) rfl (Surv.tup2 (Surv.disk (.inl (by decide))) (Surv.v _)) (LeftS.cons (t := 21) rfl (Surv.disk (.inl (by decide))) (LeftS.cons (t := 23) rfl (Surv.tup2 (Surv.disk (.inl (by decide))) (Surv.v _)) (LeftS.cons (t := 24) rfl (Surv.disk (.inl (by decide))) LN)))))), ?_⟩
   refine AnyT.step 5 [] (by kernel_rfl) ?_
   refine NextT.pure (by kernel_rfl) rfl rfl rfl (ok_extract rfl rfl) ?_ ?_
   ·refine AnyT.step 7 [] (by kernel_rfl) ?_
    refine NextT.pure (by kernel_rfl) rfl rfl rfl (ok_assign rfl) ?_ ?_
    ·refine AnyT.last (by kernel_rfl) ?_
     exact (SubL.cons (t := 1) rfl (Le.refl _) (SubL.cons (t := 2) rfl (Le.refl _) (SubL.cons (t := 3) rfl (Le.refl _) (SubL.cons (t := 1000001) rfl (Le.refl _) SubL.nil))))
    exact trivial
   exact trivial
 ·refine EN ?_
  refine GS ?_
  refine TF 5 ?_
  refine RS (ok_loadVK (s := 1000001) (by decide) Try.underlying27 rfl size27 rfl rfl) ?_
  refine RS (ok_call (dWrite_at X0 K1 0 (by rw [K1_len]; decide) (by rw [K1_len]; decide) [] K2 (by decide) (by rw [K1_tot]; decide) K2_def) (Args.cons rfl LA (Args.cons rfl LA (Args.cons rfl (byt_nil_le) Args.nil)))) ?_
  refine RM rfl ?_
  refine RS (ok_extract rfl rfl) ?_
  refine RS (ok_extract rfl rfl) ?_
  refine RN ?_
  refine ⟨_, eff_storeKK (n := 190) (s := 1000001) size27 rfl rfl (Le.refl _) (Agg.disk) hBb1 rfl (Surv.disk (.inl (by decide))) (LV 1 rfl (LV 2 rfl (LV 3 rfl (LV 30 rfl LN)))), ?_⟩
  refine TL ?_
  refine RA rfl ?_
  refine RN ?_
  refine GS ?_
  refine TF 5 ?_
  refine RS (ok_loadVK (s := 1000001) (by decide) Try.underlying27 rfl size27 rfl rfl) ?_
  refine RS (ok_call (dErase_at X0 K2 5000 (by rw [K2_len]; decide) (by rw [K2_len]; decide) K3 (by rw [K2_tot]; decide) K3_def) (Args.cons rfl LA (Args.cons rfl LA Args.nil))) ?_
  refine RM rfl ?_
  refine RS (ok_extract rfl rfl) ?_
  refine RS (ok_extract rfl rfl) ?_
  refine RN ?_
  refine ⟨_, eff_storeKK (n := 190) (s := 1000001) size27 rfl rfl (Le.refl _) (Agg.disk) hBb1 rfl (Surv.disk (.inl (by decide))) (LV 1 rfl (LV 2 rfl (LV 3 rfl (LV 4 rfl (LV 35 rfl LN))))), ?_⟩
  refine TL ?_
  refine RA rfl ?_
  refine RN ?_
  refine GS ?_
  refine TL ?_
  refine RS (ok_loadVK (s := 1000001) (by decide) Try.underlying27 rfl size27 rfl rfl) ?_
  refine RS (ok_callB (dRead_at X0 K3 10921 (by rw [K3_len]; decide) (by rw [K3_len]; decide) (some (List.replicate 256 0)) 0 (by rw [K3_g]; rfl) rfl) con_tup_mono (Args.cons rfl LA (Args.cons rfl LA Args.nil))) ?_
  refine RM rfl ?_
  refine RS (ok_extract rfl rfl) ?_
  refine RS (ok_extract rfl rfl) ?_
  refine RA rfl ?_
  refine RA rfl ?_
  refine RN ?_
  refine A.sub (KC 1 rfl (KC 2 rfl (KC 3 rfl (KC 4 rfl (KC 5 rfl (KC 6 rfl (KC 7 rfl (KC 1000001 rfl KN)))))))) ?_
  refine GS ?_
  refine TL ?_
  refine RS (ok_loadVK (s := 1000001) (by decide) Try.underlying27 rfl size27 rfl rfl) ?_
  refine RS (ok_callB (dRead_at X0 K3 0 (by rw [K3_len]; decide) (by rw [K3_len]; decide) (some []) 0 (by rw [K3_z]; rfl) rfl) con_tup_mono (Args.cons rfl LA (Args.cons rfl LA Args.nil))) ?_
  refine RM rfl ?_
  refine RS (ok_extract rfl rfl) ?_
  refine RS (ok_extract rfl rfl) ?_
  refine RA rfl ?_
  refine RA rfl ?_
  refine RN ?_
  refine GS ?_
  refine TL ?_
  refine RS (ok_loadVK (s := 1000001) (by decide) Try.underlying27 rfl size27 rfl rfl) ?_
  refine RS (ok_callB (dRead_at X0 K3 5000 (by rw [K3_len]; decide) (by rw [K3_len]; decide) none 11 (by rw [K3_e]; rfl) rfl) con_tup_mono (Args.cons rfl LA (Args.cons rfl LA Args.nil))) ?_
  refine RM rfl ?_
  refine RS (ok_extract rfl rfl) ?_
  refine RS (ok_extract rfl rfl) ?_
  refine RA rfl ?_
  refine RA rfl ?_
  refine RN ?_
  refine GS ?_
  refine TL ?_
  refine RS (ok_loadVK (s := 1000001) (by decide) Try.underlying27 rfl size27 rfl rfl) ?_
  refine RS (ok_call (dPresent_fn X0 K3 (by rw [K3_len]; decide)) (Args.cons rfl LA Args.nil)) ?_
  refine RA rfl ?_
  refine RN ?_
  refine A.seq ?_
  refine GS ?_
  refine TL ?_
  refine RM rfl ?_
  refine RM rfl ?_
  refine RB rfl rfl rfl ?_
  refine RM rfl ?_
  refine RB rfl rfl rfl ?_
  refine RM rfl ?_
  refine RB rfl rfl rfl ?_
  refine RM rfl ?_
  refine RB rfl rfl rfl ?_
  refine RM rfl ?_
  refine RB rfl rfl rfl ?_
  refine RBS rfl rfl rfl (.bool false) (rfl) ?_
  refine RM rfl ?_
  refine RQ (ok_move rfl) ?_
  refine RQ (ok_lenB Try.underlying37 rfl conD_byt) ?_; refine RZ (nI (256)) (by rw [show (some (List.replicate 256 (0 : UInt8))).getD [] = List.replicate 256 0 from rfl, List.length_replicate]) ?_
  refine RQ (ok_bin rfl rfl rfl) ?_; refine RZ (.bool false) (rfl) ?_
  refine RP rfl rfl ?_
  refine RM rfl ?_
  refine RQ (ok_move rfl) ?_
  refine RQ (ok_lenB Try.underlying37 rfl conD_byt) ?_
  refine RQ (ok_bin rfl rfl rfl) ?_; refine RZ (.bool false) (rfl) ?_
  refine RP rfl rfl ?_
  refine RM rfl ?_
  refine RQ (ok_move rfl) ?_
  refine RQ (ok_bin rfl rfl rfl) ?_; refine RZ (.bool false) (rfl) ?_
  refine RP rfl rfl ?_
  refine RM rfl ?_
  refine RQ (ok_move rfl) ?_
  refine RQ (ok_lenU 2 Try.underlying67 rfl (le_vlst _ _) (by rw [K3_presV]; rfl)) ?_
  refine RQ (ok_bin rfl rfl rfl) ?_; refine RZ (.bool false) (rfl) ?_
  refine RP rfl rfl ?_
  refine RM rfl ?_
  refine RQ (ok_move rfl) ?_
  refine RQ (ok_indexU 0 Try.underlying67 info3 rfl (le_vlst _ _) rfl (by rw [K3_presV]; rfl)) ?_
  refine RQ (ok_load Try.underlying3 rfl rfl) ?_
  refine RQ (ok_bin rfl rfl rfl) ?_; refine RZ (.bool false) (rfl) ?_
  refine RP rfl rfl ?_
  refine RM rfl ?_
  refine RQ (ok_move rfl) ?_
  refine RQ (ok_indexU 1 Try.underlying67 info3 rfl (le_vlst _ _) rfl (by rw [K3_presV]; rfl)) ?_
  refine RQ (ok_load Try.underlying3 rfl rfl) ?_
  refine RQ (ok_bin rfl rfl rfl) ?_; refine RZ (.bool false) (rfl) ?_
  refine RP rfl rfl ?_
  refine RM rfl ?_
  refine RQ (ok_loadVK (s := 1000001) (by decide) Try.underlying27 rfl size27 rfl rfl) ?_
  refine RQ (ok_call (dChanges_fn X0 K3) (Args.cons rfl LA Args.nil)) ?_; refine RZ (nI (3)) (by rw [K3_tot]) ?_
  refine RQ (ok_bin rfl rfl rfl) ?_; refine RZ (.bool false) (rfl) ?_
  refine RP rfl rfl ?_
  refine RN ?_
  refine A.sub (KC 1 rfl (KC 100 rfl (KC 1000001 rfl KN))) ?_
  refine A.no rfl ?_
  refine A.skip ?_
  refine EN ?_
  refine A.seq ?_
  refine GS ?_
  refine TL ?_
  refine RA rfl ?_
  refine RN ?_
  refine A.block ?_
  refine A.loop (ι := Nat) (fun n => n ≤ 1000) (fun n => [(1, .v (ptr b1)), (13, .v (nI (n))), (1000001, varK b1 27 3 (diskD dT X0 (KS n)))]) (fun n => 1000 - n) 0 ?_ ?_ ?_
  ·exact Nat.zero_le _
  ·exact (KC 1 rfl (KE 13 rfl (by rfl) (KE 1000001 rfl (by rw [KS_zero]) KN)))
  intro n hG
  replace hG : n ≤ 1000 := hG
  refine A.seq ?_
  refine GS ?_
  refine TL ?_
  refine RM rfl ?_
  refine RB rfl rfl rfl ?_
  refine RN ?_
  refine A.cond rfl (fun hc102 => ?_) (fun hc102 => ?_)
  ·have hn9 : n < 1000 := by simp at hc102; omega
   refine A.skip ?_
   refine EN ?_
   refine A.seq ?_
   refine A.block ?_
   refine GS ?_
   refine TF 11 ?_
   refine RS (ok_loadVK (s := 1000001) (by decide) Try.underlying27 rfl size27 rfl rfl) ?_
   refine RM rfl ?_
   refine RS (ok_conv Try.underlying3 Try.underlying5 rfl) ?_; refine RZ (byteV (UInt8.ofNat n)) (wrapB n) ?_
   refine RM rfl ?_
   refine RS (ok_shr rfl rfl (by decide)) ?_; refine RZ (nI (n / 256)) (shr8 n) ?_
   refine RS (ok_conv Try.underlying3 Try.underlying5 rfl) ?_; refine RZ (byteV (UInt8.ofNat (n / 256))) (wrapB (n / 256)) ?_
   refine RS (ok_build [_, _] Try.underlying37 info5 rfl (by decide) (by decide) rfl ⟨rfl, rfl, rfl, rfl, trivial⟩ (fun d hd w x h => by simp only [List.mem_cons, List.not_mem_nil, or_false] at hd; rcases hd with rfl | rfl <;> exact v_one rfl h)) ?_
   refine RS (ok_call (dWrite_at X0 (KS n) 64 (by rw [KS_len]; decide) (by rw [KS_len]; decide) [UInt8.ofNat n, UInt8.ofNat (n / 256)] (KS (n + 1)) (by simp) (by rw [KS_tot]; omega) (KS_succ n)) (Args.cons rfl LA (Args.cons rfl LA (Args.cons rfl (list_lst2 (Le.refl _) (Le.refl _)) Args.nil)))) ?_
   refine RM rfl ?_
   refine RS (ok_extract rfl rfl) ?_
   refine RS (ok_extract rfl rfl) ?_
   refine RN ?_
   refine ⟨_, eff_storeKK (n := 190) (s := 1000001) size27 rfl rfl (Le.refl _) (Agg.disk) hBb1 rfl (Surv.disk (.inl (by decide))) (LV 1 rfl (LV 13 rfl (LV 115 rfl LN))), ?_⟩
   refine TL ?_
   refine RA rfl ?_
   refine RN ?_
   refine GS ?_
   refine TL ?_
   refine RM rfl ?_
   refine RBS rfl rfl rfl (.bool false) (rfl) ?_
   refine RN ?_
   refine A.no rfl ?_
   refine A.skip ?_
   refine End.normal_block ?_
   refine EN ?_
   refine GE ?_
   refine TL ?_
   refine RM rfl ?_
   refine RBS rfl rfl rfl (nI (n + 1)) (wrap_eq (by omega) (by omega)) ?_
   refine RA rfl ?_
   refine RN ?_
   refine End.normal_then ?_
   refine End.again (n + 1) ?_ ?_ ?_
   ·show _ ≤ _; omega
   ·show _ - _ < _ - _; omega
   ·exact (KC 1 rfl (KC 13 rfl (KC 1000001 rfl KN)))
  ·have hi2 : n = 1000 := by have h8 := hG; simp at hc102; omega
   subst hi2
   refine A.exit ?_
   refine End.exit_then ?_
   refine End.exit_then ?_
   refine End.exit_here ?_
   refine EN ?_
   refine GS ?_
   refine TL ?_
   refine RS (ok_loadVK (s := 1000001) (by decide) Try.underlying27 rfl size27 rfl rfl) ?_
   refine RS (ok_callB (dVersion_at X0 (KS 1000) 64 (by rw [KS_len]; decide) (by rw [KS_len]; decide) 600 (some [87, 2]) 0 (by rw [KS_hlen]; decide) (by rw [KS_tot]; decide) (by rw [KS_at (by decide)]; rfl) rfl) con_tup_mono (Args.cons rfl LA (Args.cons rfl LA (Args.cons rfl LA Args.nil)))) ?_
   refine RM rfl ?_
   refine RS (ok_extract rfl rfl) ?_
   refine RS (ok_extract rfl rfl) ?_
   refine RA rfl ?_
   refine RA rfl ?_
   refine RN ?_
   refine GS ?_
   refine TN 5 ?_
   refine RS (ok_loadVK (s := 1000001) (by decide) Try.underlying27 rfl size27 rfl rfl) ?_
   refine RS (ok_call (dReplay_at X0 (KS 1000) 64 (by rw [KS_len]; decide) (by rw [KS_len]; decide) 999 KR (by rw [KS_hlen]; decide) (by rw [KS_tot]; decide) (by rw [KR_def, show (999 : Nat) = 1000 - (0 + 1) from rfl, KS_drop (by decide)]; rfl)) (Args.cons rfl LA (Args.cons rfl LA (Args.cons rfl LA Args.nil)))) ?_
   refine RM rfl ?_
   refine RS (ok_extract rfl rfl) ?_
   refine RS (ok_extract rfl rfl) ?_
   refine RN ?_
   refine ⟨_, _, eff_allocV (n := 190) (d := 14) (k := 1000014) zero27 (by decide), fun b14 hb14 => ?_⟩
   have hBb14 := hb14.1
   have hlt_b1_b14 : b1 < b14 := hb14.2.2 1000001 _ _ _ _ rfl
   refine TF 6 ?_
   refine RN ?_
   refine ⟨_, eff_storeK (n := 190) (s := 1000014) size27 rfl rfl (Le.refl _) (Agg.disk) hBb14 rfl (rfl) (Surv.disk (.inl (by decide))) (LV 1 rfl (LV 2 rfl (LeftS.cons (t := 6) rfl (Surv.con (by decide)) (LV 14 rfl (LV 127 rfl (LeftS.cons (t := 1000001) rfl (Surv.varK (by omega) (Surv.disk (.inl (by decide)))) LN)))))), ?_⟩
   refine TL ?_
   refine RA rfl ?_
   refine RN ?_
   refine GS ?_
   refine TL ?_
   refine RS (ok_loadVK (s := 1000014) (by decide) Try.underlying27 rfl size27 rfl rfl) ?_
   refine RS (ok_callB (dRead_at X0 KR 64 (by rw [KR_len]; decide) (by rw [KR_len]; decide) (some [0, 0]) 0 KR_last.symm rfl) con_tup_mono (Args.cons rfl LA (Args.cons rfl LA Args.nil))) ?_
   refine RM rfl ?_
   refine RS (ok_extract rfl rfl) ?_
   refine RS (ok_extract rfl rfl) ?_
   refine RA rfl ?_
   refine RA rfl ?_
   refine RN ?_
   refine A.seq ?_
   refine GS ?_
   refine TL ?_
   refine RM rfl ?_
   refine RM rfl ?_
   refine RB rfl rfl rfl ?_
   refine RM rfl ?_
   refine RB rfl rfl rfl ?_
   refine RBS rfl rfl rfl (.bool false) (rfl) ?_
   refine RM rfl ?_
   refine RQ (ok_move rfl) ?_
   refine RQ (ok_str (l := [87, 2]) Try.underlying37 Try.underlying5 Try.underlying9 rfl conD_byt) ?_
   refine RQ (ok_sne (a := [87, 2]) (b := [87, 2]) rfl rfl) ?_; refine RZ (.bool false) (by simp) ?_
   refine RP rfl rfl ?_
   refine RM rfl ?_
   refine RQ (ok_move rfl) ?_
   refine RQ (ok_str (l := [0, 0]) Try.underlying37 Try.underlying5 Try.underlying9 rfl conD_byt) ?_
   refine RQ (ok_sne (a := [0, 0]) (b := [0, 0]) rfl rfl) ?_; refine RZ (.bool false) (by simp) ?_
   refine RP rfl rfl ?_
   refine RN ?_
   refine A.sub (KC 1 rfl (KC 148 rfl (KC 1000001 rfl (KC 1000014 rfl KN)))) ?_
   refine A.no rfl ?_
   refine A.skip ?_
   refine EN ?_
   refine GS ?_
   refine TN 0 ?_
   refine RN ?_
   refine ⟨_, _, eff_allocV (n := 190) (d := 15) (k := 1000015) zero27 (by decide), fun b15 hb15 => ?_⟩
   have hBb15 := hb15.1
   have hlt_b1_b15 : b1 < b15 := hb15.2.2 1000001 _ _ _ _ rfl
   have hlt_b14_b15 : b14 < b15 := hb15.2.2 1000014 _ _ _ _ rfl
   refine TL ?_
   refine RN ?_
   refine GS ?_
   refine TL ?_
   refine RS (ok_loadA (s := 1000015) (by decide) Try.underlying27 rfl (size27.of (rfl)) rfl rfl) ?_
   refine RS (ok_call (dRead_bad 0 0 (by decide)) (Args.cons rfl (zero_sz) (Args.cons rfl LA Args.nil))) ?_
   refine RM rfl ?_
   refine RS (ok_extractV rfl rfl) ?_
   refine RS (ok_extractV rfl rfl) ?_
   refine RA rfl ?_
   refine RN ?_
   refine GS ?_
   refine TL ?_
   refine RS (ok_loadA (s := 1000015) (by decide) Try.underlying27 rfl (size27.of (rfl)) rfl rfl) ?_
   refine RS (ok_call (dWrite_bad 0 0 (by decide) []) (Args.cons rfl (zero_sz) (Args.cons rfl LA (Args.cons rfl (byt_nil_le) Args.nil)))) ?_
   refine RM rfl ?_
   refine RS (ok_extractV rfl rfl) ?_
   refine RS (ok_extractV rfl rfl) ?_
   refine RA rfl ?_
   refine RN ?_
   refine GS ?_
   refine TL ?_
   refine RM rfl ?_
   refine RBS rfl rfl rfl (.bool true) (rfl) ?_
   refine RM rfl ?_
   refine RQ (ok_move rfl) ?_
   refine RQ (ok_bin rfl rfl rfl) ?_; refine RZ (.bool true) (rfl) ?_
   refine RP rfl rfl ?_
   refine RM rfl ?_
   refine RQ (ok_loadA (s := 1000015) (by decide) Try.underlying27 rfl (size27.of (rfl)) rfl rfl) ?_
   refine RQ (ok_call (dSize_fn 0) (Args.cons rfl (zero_sz) Args.nil)) ?_
   refine RQ (ok_bin rfl rfl rfl) ?_; refine RZ (.bool true) (rfl) ?_
   refine RP rfl rfl ?_
   refine RM rfl ?_
   refine RQ (ok_loadA (s := 1000015) (by decide) Try.underlying27 rfl (size27.of (rfl)) rfl rfl) ?_
   refine RQ (ok_call (dPresent_fn X0 [] (by decide)) (Args.cons rfl (zero_disk) Args.nil)) ?_
   refine RQ (ok_lenU 0 Try.underlying67 rfl (le_vlst _ _) rfl) ?_
   refine RQ (ok_bin rfl rfl rfl) ?_; refine RZ (.bool true) (rfl) ?_
   refine RP rfl rfl ?_
   refine RM rfl ?_
   refine RQ (ok_loadA (s := 1000015) (by decide) Try.underlying27 rfl (size27.of (rfl)) rfl rfl) ?_
   refine RQ (ok_lit [] ([.int .i64 0] ++ [.int .i64 0] ++ [.slice none 0 0]) (fun _ _ => rfl) (by kernel_rfl)) ?_
   refine RQ (ok_call (dSame_fn X0 X0 [] [] (by decide) (by decide)) (Args.cons rfl (zero_disk) (Args.cons rfl (zero_disk) Args.nil))) ?_; refine RZ (.bool true) (congrArg Value.bool (sameB_t ⟨rfl, fun i h => absurd h (Nat.not_lt_zero _)⟩)) ?_
   refine RP rfl rfl ?_
   refine RM rfl ?_
   refine RQ (ok_loadA (s := 1000015) (by decide) Try.underlying27 rfl (size27.of (rfl)) rfl rfl) ?_
   refine RQ (ok_loadVK (s := 1000001) (by decide) Try.underlying27 rfl size27 rfl rfl) ?_
   refine RQ (ok_call (dSame_fn X0 X0 [] (KS 1000) (by decide) (by rw [KS_len]; decide)) (Args.cons rfl (zero_disk) (Args.cons rfl LA Args.nil))) ?_; refine RZ (.bool false) (congrArg Value.bool (sameB_f fun h => by have h1 := h.1; rw [KS_len] at h1; simp at h1)) ?_
   refine RQ (ok_not rfl) ?_; refine RZ (.bool true) (rfl) ?_
   refine RP rfl rfl ?_
   refine RM rfl ?_
   refine RQ (ok_call (lives14_fn) Args.nil) ?_
   refine RP rfl rfl ?_
   refine RA rfl ?_
   refine RN ?_
   refine A.sub (KC 0 rfl (KC 1000001 rfl (KC 1000014 rfl (KC 1000015 rfl KN)))) ?_
   refine A.ret ?_
   exact End.ret1 rfl rfl (by first | exact Le.refl _ | exact Le.old _ _)
end Go.Proofs.Ytdhbhcbkhkopbaa
