/-
  OWN TEXTS of this seat, put together, part 5: C06b, Stream, Calls, Flat, More, C07a, C07b, Hold, Nonce, C08a, Acts, Seal.
-/
import Derived.Test.YthadcgkcgpinhaaGreatDoorKA1
import Derived.Test.YthadcgkcgpinhaaGreatDoorKA4
import Derived.Test.YthadcgkcgpinhaaGreatDoorKA3
import Derived.Test.YthadcgkcgpinhaaGreatDoorKA2
import Derived.Lib.SliceRun
namespace Go.Proofs.YthadcgkcgpinhaaGreatDoor
open Go Go.RowKit
set_option linter.unusedVariables false
set_option maxRecDepth 20000

theorem info1 : InfoIs Tryz.prog 1 (.nilFunc) 8 := by unfold InfoIs; kernel_rfl
theorem add_fnW (g : Nat) (f k : Nat → Nat) (hf : By f) (hk : By k) : FnW Tryz.prog 66 [] 115 g (rowV 16 (f)) (rowV 16 (addS f k)) ([ptr g, aggV (rowV 16 k)].map D.v) := by
 refine FnW.of (n := 21) (kb := 1000080) (kw := 1000081) Tryz.func66 rfl (by kernel_rfl) Tryz.ntmps66 (by simp) (by decide) (fun p hp => by cases hp) (by decide) (by decide) [(0, .v (ptr g)), (1, .v (aggV (rowV 16 k)))]
  (fun p hp => by simp only [List.mem_cons, List.not_mem_nil, or_false] at hp; rcases hp with rfl | rfl <;> exact ⟨_, rfl, rfl⟩) fun w₀ w₁ hw hM => ?_
 have hBg : w₀.heap.size ≤ g := Nat.le_of_eq hw
 refine GS ?_
 refine TN 0 ?_
 refine RN ?_
 refine ⟨_, _, eff_box (n := 21) (d := 3) (k := 1000003) rfl (by decide), fun b3 hb3 => ?_⟩
 have hBb3 := hb3.1
 refine TL ?_
 refine RN ?_
 refine GS ?_
 refine TL ?_
 refine RS (ok_loadA (s := 1000003) (by decide) Tryz.underlying22 rfl (size22.of (rfl)) rfl rfl) ?_
 refine RM rfl ?_
 refine RN ?_
 refine A.block ?_
 refine A.loop (ι := Nat) (fun i => i ≤ 16) (fun i => [(0, .v (ptr g)), (6, .v (aggV (rowV 16 k))), (7, .v (nI i)), (1000080, blk g 115 (rowV 16 (mid f (addS f k) i))), (1000081, wroteD 115 g w₁)]) (fun i => 16 - i) 0 ?_ ?_ ?_
 ·exact Nat.zero_le _
 ·exact (KC 0 rfl (KC 6 rfl (KC 7 rfl (KE 1000080 rfl (congrArg _ (mid_zero 16 f _)) (KC 1000081 rfl KN)))))
 intro i hi'
 refine GS ?_
 refine TL ?_
 refine RB rfl rfl rfl ?_
 refine RN ?_
 refine A.seq ?_
 refine A.cond rfl (fun hc8 => ?_) (fun hc8 => ?_)
 ·have hi : i < 16 := by simp at hc8; omega
  refine A.skip ?_
  refine EN ?_
  refine A.seq ?_
  refine A.block ?_
  refine GS ?_
  refine TL ?_
  refine RM rfl ?_
  refine RS (ok_indexV1 i Tryz.underlying22 Tryz.underlying5 rfl info5 rfl rfl rfl (by omega) (rowV_get (by omega))) ?_
  refine RA rfl ?_
  refine RA rfl ?_
  refine RN ?_
  refine A.reg (by kernel_rfl) (by kernel_rfl) (.inr (by kernel_rfl)) ?_
  refine TD 9 ?_
  refine RM rfl ?_
  refine RM rfl ?_
  refine RS (ok_nilCheck rfl) ?_
  refine RS (ok_index0 _ Tryz.underlying115 info5 rfl rfl (rfl) (by omega)) ?_
  refine RS (ok_loadV (s := 1000080) (by decide) Tryz.underlying5 rfl rfl rfl (rowV_get (by omega))) ?_; refine RZ (nB (f i)) (v8 (mid_at f _ i)) ?_
  refine RM rfl ?_
  refine RBS rfl rfl rfl (nB (addS f k i)) (by rw [show IntKind.u8.bits = 8 from rfl, xor_u8N (hf _) (hk _), show f i ^^^ k i = addS f k i from rfl]) ?_
  refine RS (ok_nilCheck rfl) ?_
  refine RS (ok_index0 _ Tryz.underlying115 info5 rfl rfl (rfl) (by omega)) ?_
  refine RN ?_
  refine ⟨_, eff_storeS (n := 21) (s := 1000080) info5 rfl rfl rfl hBg rfl (by simp only [rowV_length]; omega) (LV 0 rfl (LV 6 rfl (LV 7 rfl (LeftS.cons (t := 1000081) rfl (Surv.wrote) LN)))), ?_⟩
  refine TL ?_
  refine RN ?_
  refine End.normal_block ?_
  refine EN ?_
  refine GE ?_
  refine TL ?_
  refine RBS rfl rfl rfl (nI (i + 1)) (by rw [wrap_i64 (by omega) (by omega)]; exact congrArg (Value.int .i64) (by omega)) ?_
  refine RM rfl ?_
  refine RN ?_
  refine End.normal_then ?_
  refine End.again (i + 1) ?_ ?_ ?_
  ·show _ ≤ _; omega
  ·show _ - _ < _ - _; omega
  ·exact (KC 0 rfl (KC 6 rfl (KC 7 rfl (KE 1000080 rfl (congrArg _ (mid_set rfl rfl)) (KC 1000081 rfl KN)))))
 ·obtain rfl : i = 16 := by simp at hc8; omega
  refine A.exit ?_
  refine End.exit_then ?_
  refine End.exit_then ?_
  refine End.exit_here ?_
  exact End.wrote (kb := 1000080) (kw := 1000081) rfl rfl (mid_full 16 _ _) rfl
theorem substitute_fnW (g : Nat) (f : Nat → Nat) (hf : By f) : FnW Tryz.prog 68 [] 115 g (rowV 16 (f)) (rowV 16 (subS f)) ([ptr g].map D.v) := by
 refine FnW.of (n := 18) (kb := 1000080) (kw := 1000081) Tryz.func68 rfl (by kernel_rfl) Tryz.ntmps68 (by simp) (by decide) (fun p hp => by cases hp) (by decide) (by decide) [(0, .v (ptr g))]
  (fun p hp => by simp only [List.mem_cons, List.not_mem_nil, or_false] at hp; rcases hp with rfl <;> exact ⟨_, rfl, rfl⟩) fun w₀ w₁ hw hM => ?_
 have hBg : w₀.heap.size ≤ g := Nat.le_of_eq hw
 refine GS ?_
 refine TL ?_
 refine RM rfl ?_
 refine RM rfl ?_
 refine RN ?_
 refine A.block ?_
 refine A.loop (ι := Nat) (fun i => i ≤ 16) (fun i => [(0, .v (ptr g)), (4, .v (ptr g)), (5, .v (nI i)), (1000080, blk g 115 (rowV 16 (mid f (subS f) i))), (1000081, wroteD 115 g w₁)]) (fun i => 16 - i) 0 ?_ ?_ ?_
 ·exact Nat.zero_le _
 ·exact (KC 0 rfl (KC 4 rfl (KC 5 rfl (KE 1000080 rfl (congrArg _ (mid_zero 16 f _)) (KC 1000081 rfl KN)))))
 intro i hi'
 refine GS ?_
 refine TL ?_
 refine RB rfl rfl rfl ?_
 refine RN ?_
 refine A.seq ?_
 refine A.cond rfl (fun hc6 => ?_) (fun hc6 => ?_)
 ·have hi : i < 16 := by simp at hc6; omega
  refine A.skip ?_
  refine EN ?_
  refine A.seq ?_
  refine A.block ?_
  refine GD ?_
  refine TL ?_
  refine RM rfl ?_
  refine RS (ok_nilCheck rfl) ?_
  refine RS (ok_index0 _ Tryz.underlying115 info5 rfl rfl (rfl) (by omega)) ?_
  refine RS (ok_loadV (s := 1000080) (by decide) Tryz.underlying5 rfl rfl rfl (rowV_get (by omega))) ?_; refine RZ (nB (f i)) (v8 (mid_at f _ i)) ?_
  refine RA rfl ?_
  refine RA rfl ?_
  refine RN ?_
  refine A.reg (by kernel_rfl) (by kernel_rfl) (.inr (by kernel_rfl)) ?_
  refine TD 6 ?_
  refine RM rfl ?_
  refine RM rfl ?_
  refine RM rfl ?_
  refine RS (ok_call (Sub_fn (f i) (hf _)) (A1 rfl)) ?_; refine RZ (nB (subS f i)) (v8 (by rfl)) ?_
  refine RS (ok_nilCheck rfl) ?_
  refine RS (ok_index0 _ Tryz.underlying115 info5 rfl rfl (rfl) (by omega)) ?_
  refine RN ?_
  refine ⟨_, eff_storeS (n := 18) (s := 1000080) info5 rfl rfl rfl hBg rfl (by simp only [rowV_length]; omega) (LV 0 rfl (LV 4 rfl (LV 5 rfl (LeftS.cons (t := 1000081) rfl (Surv.wrote) LN)))), ?_⟩
  refine TL ?_
  refine RN ?_
  refine End.normal_block ?_
  refine EN ?_
  refine GE ?_
  refine TL ?_
  refine RBS rfl rfl rfl (nI (i + 1)) (by rw [wrap_i64 (by omega) (by omega)]; exact congrArg (Value.int .i64) (by omega)) ?_
  refine RM rfl ?_
  refine RN ?_
  refine End.normal_then ?_
  refine End.again (i + 1) ?_ ?_ ?_
  ·show _ ≤ _; omega
  ·show _ - _ < _ - _; omega
  ·exact (KC 0 rfl (KC 4 rfl (KC 5 rfl (KE 1000080 rfl (congrArg _ (mid_set rfl rfl)) (KC 1000081 rfl KN)))))
 ·obtain rfl : i = 16 := by simp at hc6; omega
  refine A.exit ?_
  refine End.exit_then ?_
  refine End.exit_then ?_
  refine End.exit_here ?_
  exact End.wrote (kb := 1000080) (kw := 1000081) rfl rfl (mid_full 16 _ _) rfl
set_option maxHeartbeats 1000000 in
theorem rotate_fnW (g : Nat) (f : Nat → Nat) : FnW Tryz.prog 69 [] 115 g (rowV 16 (f)) (rowV 16 (rotS f)) ([ptr g].map D.v) := by
 refine FnW.of (n := 32) (kb := 1000080) (kw := 1000081) Tryz.func69 rfl (by kernel_rfl) Tryz.ntmps69 (by simp) (by decide) (fun p hp => by cases hp) (by decide) (by decide) [(0, .v (ptr g))]
  (fun p hp => by simp only [List.mem_cons, List.not_mem_nil, or_false] at hp; rcases hp with rfl <;> exact ⟨_, rfl, rfl⟩) fun w₀ w₁ hw hM => ?_
 have hBg : w₀.heap.size ≤ g := Nat.le_of_eq hw
 refine GS ?_
 refine TN 3 ?_
 refine RM rfl ?_
 refine RS (ok_nilCheck rfl) ?_
 refine RS (ok_loadA (s := 1000080) (by decide) Tryz.underlying115 rfl (size115.of (rowV_length _ _)) rfl rfl) ?_
 refine RN ?_
 refine ⟨_, _, eff_allocW (n := 32) (d := 2) (k := 1000002) zero115 (by decide), fun b2 hb2 => ?_⟩
 have hBb2 := hb2.1
 have hlt_g_b2 : g < b2 := hb2.2.1 1000080 _ _ _ rfl
 have hw_b2 := hb2.2.2 1000081 _ _ _ rfl
 refine TF 4 ?_
 refine RN ?_
 refine ⟨_, eff_storeA (n := 32) (s := 1000002) (size115.of (rowV_length _ _)) rfl rfl (rowV_one _ _) hBb2 rfl (by first | (simp only [rowV_length]; done) | simp only [rowV_length, List.length_replicate]) (LV 0 rfl (LV 2 rfl (LB 1000080 rfl (LeftS.cons (t := 1000081) rfl (Surv.wroteN hw_b2) LN)))), ?_⟩
 refine TL ?_
 refine RN ?_
 refine GS ?_
 refine TL ?_
 refine RM rfl ?_
 refine RN ?_
 refine A.block ?_
 refine A.loop (ι := Nat) (fun c => c ≤ 4) (fun c => [(0, .v (ptr g)), (2, .v (.pointer (some ⟨b2, 0, none⟩))), (8, .v (nI c)), (1000002, blk b2 115 (rowV 16 (f))), (1000080, blk g 115 (rowV 16 (mid f (rotS f) (4 * c)))), (1000081, wroteD 115 g w₁)]) (fun c => 4 - c) 0 ?_ ?_ ?_
 ·exact Nat.zero_le _
 ·exact (KC 0 rfl (KC 2 rfl (KC 8 rfl (KC 1000002 rfl (KE 1000080 rfl (congrArg _ (mid_zero 16 f _)) (KC 1000081 rfl KN))))))
 intro c hc
 refine GS ?_
 refine TL ?_
 refine RB rfl rfl rfl ?_
 refine RN ?_
 refine A.seq ?_
 refine A.cond rfl (fun hc9 => ?_) (fun hc9 => ?_)
 ·have hc4 : c < 4 := by simp at hc9; omega
  refine A.skip ?_
  refine EN ?_
  refine A.seq ?_
  refine A.block ?_
  refine GS ?_
  refine TL ?_
  refine RM rfl ?_
  refine RA rfl ?_
  refine RN ?_
  refine GS ?_
  refine TL ?_
  refine RM rfl ?_
  refine RN ?_
  refine A.block ?_
  refine A.loop (ι := Nat) (fun r => r ≤ 4) (fun r => [(0, .v (ptr g)), (2, .v (.pointer (some ⟨b2, 0, none⟩))), (3, .v (nI c)), (8, .v (nI c)), (11, .v (nI r)), (1000002, blk b2 115 (rowV 16 (f))), (1000080, blk g 115 (rowV 16 (mid f (rotS f) (4 * c + r)))), (1000081, wroteD 115 g w₁)]) (fun r => 4 - r) 0 ?_ ?_ ?_
  ·exact Nat.zero_le _
  ·exact (KC 0 rfl (KC 2 rfl (KC 3 rfl (KC 8 rfl (KC 11 rfl (KC 1000002 rfl (KC 1000080 rfl (KC 1000081 rfl KN))))))))
  intro r hr
  refine GS ?_
  refine TL ?_
  refine RB rfl rfl rfl ?_
  refine RN ?_
  refine A.seq ?_
  refine A.cond rfl (fun hc12 => ?_) (fun hc12 => ?_)
  ·have hr4 : r < 4 := by simp at hc12; omega
   refine A.skip ?_
   refine EN ?_
   refine A.seq ?_
   refine A.block ?_
   refine GS ?_
   refine TL ?_
   refine RM rfl ?_
   refine RA rfl ?_
   refine RN ?_
   refine A.reg (by kernel_rfl) (by kernel_rfl) (.inr (by kernel_rfl)) ?_
   refine TD 16 ?_
   refine RM rfl ?_
   refine RM rfl ?_
   refine RBS rfl rfl rfl (nI (4 * c)) (by rw [wrap_i64 (by omega) (by omega)]; exact congrArg (Value.int .i64) (by omega)) ?_
   refine RM rfl ?_
   refine RBS rfl rfl rfl (nI (4 * c + r)) (by rw [wrap_i64 (by omega) (by omega)]; exact congrArg (Value.int .i64) (by omega)) ?_
   refine RM rfl ?_
   refine RM rfl ?_
   refine RBS rfl rfl rfl (nI (c + r)) (by rw [wrap_i64 (by omega) (by omega)]; exact congrArg (Value.int .i64) (by omega)) ?_
   refine RS (ok_rem rfl rfl (by decide)) ?_; refine RZ (nI ((c + r) % 4)) (by rw [tmod_lit _ (by decide)]; rfl) ?_
   refine RBS rfl rfl rfl (nI (4 * ((c + r) % 4))) (by rw [wrap_i64 (by omega) (by omega)]; exact congrArg (Value.int .i64) (by omega)) ?_
   refine RM rfl ?_
   refine RBS rfl rfl rfl (nI (4 * ((c + r) % 4) + r)) (by rw [wrap_i64 (by omega) (by omega)]; exact congrArg (Value.int .i64) (by omega)) ?_
   refine RS (ok_index0 _ Tryz.underlying115 info5 rfl rfl (rfl) (by omega)) ?_
   refine RS (ok_loadV (s := 1000002) (by decide) Tryz.underlying5 rfl rfl rfl (rowV_get (by omega))) ?_; refine RZ (nB (rotS f (4 * c + r))) (v8 (congrArg f (by omega))) ?_
   refine RS (ok_nilCheck rfl) ?_
   refine RS (ok_index0 _ Tryz.underlying115 info5 rfl rfl (rfl) (by omega)) ?_
   refine RN ?_
   refine ⟨_, eff_storeS (n := 32) (s := 1000080) info5 rfl rfl rfl hBg rfl (by simp only [rowV_length]; omega) (LV 0 rfl (LV 2 rfl (LV 3 rfl (LV 8 rfl (LV 11 rfl (LB 1000002 rfl (LeftS.cons (t := 1000081) rfl (Surv.wrote) LN))))))), ?_⟩
   refine TL ?_
   refine RN ?_
   refine End.normal_block ?_
   refine EN ?_
   refine GE ?_
   refine TL ?_
   refine RBS rfl rfl rfl (nI (r + 1)) (by rw [wrap_i64 (by omega) (by omega)]; exact congrArg (Value.int .i64) (by omega)) ?_
   refine RM rfl ?_
   refine RN ?_
   refine End.normal_then ?_
   refine End.again (r + 1) ?_ ?_ ?_
   ·show _ ≤ _; omega
   ·show _ - _ < _ - _; omega
   ·exact (KC 0 rfl (KC 2 rfl (KC 3 rfl (KC 8 rfl (KC 11 rfl (KC 1000002 rfl (KE 1000080 rfl (congrArg _ (mid_set rfl rfl)) (KC 1000081 rfl KN))))))))
  ·obtain rfl : r = 4 := by simp at hc12; omega
   refine A.exit ?_
   refine End.exit_then ?_
   refine End.exit_then ?_
   refine End.exit_here ?_
   refine End.normal_block ?_
   refine EN ?_
   refine GE ?_
   refine TL ?_
   refine RBS rfl rfl rfl (nI (c + 1)) (by rw [wrap_i64 (by omega) (by omega)]; exact congrArg (Value.int .i64) (by omega)) ?_
   refine RM rfl ?_
   refine RN ?_
   refine End.normal_then ?_
   refine End.again (c + 1) ?_ ?_ ?_
   ·show _ ≤ _; omega
   ·show _ - _ < _ - _; omega
   ·exact (KC 0 rfl (KC 2 rfl (KC 8 rfl (KC 1000002 rfl (KE 1000080 rfl (by rw [show 4 * (c + 1) = 4 * c + 4 from by omega]) (KC 1000081 rfl KN))))))
 ·obtain rfl : c = 4 := by simp at hc9; omega
  refine A.exit ?_
  refine End.exit_then ?_
  refine End.exit_then ?_
  refine End.exit_here ?_
  exact End.wrote (kb := 1000080) (kw := 1000081) rfl rfl (mid_full 16 _ _) rfl
theorem mixAt_fn (f : Nat → Nat) (p q c r : Nat) (hc : c < 4) (hr : r < 8) : FnM Tryz.prog 89 [(1000002, blk p 115 (rowV 16 f)), (1000003, blk q 3 [nI c])] [.v (nI r), .v (ptr p), .v (ptr q)] (.v (nB (f (4 * c + r % 4)))) := by
 refine FnM.of (n := 12) Tryz.func89 rfl (by kernel_rfl) Tryz.ntmps89 (by simp) (by decide) (fun w => [(0, .v (nI r)), (1, .v (ptr p)), (2, .v (ptr q)), (1000002, blk p 115 (rowV 16 f)), (1000003, blk q 3 [nI c])])
  (fun w => StartM.v rfl (StartM.v rfl (StartM.v rfl (StartM.m (by simp) (by decide) (StartM.m (by simp) (by decide) StartM.nil))))) fun w₀ hM => ?_
 refine GS ?_
 refine TL ?_
 refine RA rfl ?_
 refine RN ?_
 refine GS ?_
 refine TL ?_
 refine RS (ok_loadV (s := 1000003) (by decide) Tryz.underlying3 rfl rfl rfl (rfl)) ?_
 refine RBS rfl rfl rfl (nI (4 * c)) (by rw [wrap_i64 (by omega) (by omega)]; exact congrArg (Value.int .i64) (by omega)) ?_
 refine RM rfl ?_
 refine RS (ok_rem rfl rfl (by decide)) ?_; refine RZ (nI (r % 4)) (by rw [tmod_lit _ (by decide)]; rfl) ?_
 refine RBS rfl rfl rfl (nI (4 * c + r % 4)) (by rw [wrap_i64 (by omega) (by omega)]; exact congrArg (Value.int .i64) (by omega)) ?_
 refine RS (ok_index0 _ Tryz.underlying115 info5 rfl rfl (rfl) (by omega)) ?_
 refine RS (ok_loadV (s := 1000002) (by decide) Tryz.underlying5 rfl rfl rfl (rowV_get (by omega))) ?_; refine RZ (nB (f (4 * c + r % 4))) (v8 (by rfl)) ?_
 refine RA rfl ?_
 refine RN ?_
 refine A.ret ?_
 exact End.ret1 rfl rfl (by first | exact Le.refl _ | exact Le.old _ _)
theorem mixAt_v {f : Nat → Nat} {p q c : Nat} : ∀ x ∈ ([(1000002, blk p 115 (rowV 16 f)), (1000003, blk q 3 [nI c])] : Env), vbase ≤ x.1 := fun x hx => by
 simp only [List.mem_cons, List.not_mem_nil, or_false] at hx
 rcases hx with rfl | rfl
 ·exact vle rfl
 ·exact vle rfl
theorem zero3 : ZeroIs Tryz.prog 3 [.int .i64 0] := by unfold ZeroIs; kernel_rfl
set_option maxHeartbeats 2000000 in
theorem mix_fnW (g : Nat) (f : Nat → Nat) (hf : By f) : FnW Tryz.prog 70 [] 115 g (rowV 16 (f)) (rowV 16 (mixS f)) ([ptr g].map D.v) := by
 refine FnW.of (n := 49) (kb := 1000080) (kw := 1000081) Tryz.func70 rfl (by kernel_rfl) Tryz.ntmps70 (by simp) (by decide) (fun p hp => by cases hp) (by decide) (by decide) [(0, .v (ptr g))]
  (fun p hp => by simp only [List.mem_cons, List.not_mem_nil, or_false] at hp; rcases hp with rfl <;> exact ⟨_, rfl, rfl⟩) fun w₀ w₁ hw hM => ?_
 have hBg : w₀.heap.size ≤ g := Nat.le_of_eq hw
 refine GS ?_
 refine TN 3 ?_
 refine RM rfl ?_
 refine RS (ok_nilCheck rfl) ?_
 refine RS (ok_loadA (s := 1000080) (by decide) Tryz.underlying115 rfl (size115.of (rowV_length _ _)) rfl rfl) ?_
 refine RN ?_
 refine ⟨_, _, eff_allocW (n := 49) (d := 2) (k := 1000002) zero115 (by decide), fun b2 hb2 => ?_⟩
 have hBb2 := hb2.1
 have hlt_g_b2 : g < b2 := hb2.2.1 1000080 _ _ _ rfl
 have hw_b2 := hb2.2.2 1000081 _ _ _ rfl
 refine TF 4 ?_
 refine RN ?_
 refine ⟨_, eff_storeA (n := 49) (s := 1000002) (size115.of (rowV_length _ _)) rfl rfl (rowV_one _ _) hBb2 rfl (by first | (simp only [rowV_length]; done) | simp only [rowV_length, List.length_replicate]) (LV 0 rfl (LV 2 rfl (LB 1000080 rfl (LeftS.cons (t := 1000081) rfl (Surv.wroteN hw_b2) LN)))), ?_⟩
 refine TL ?_
 refine RN ?_
 refine GS ?_
 refine TL ?_
 refine RM rfl ?_
 refine RN ?_
 refine A.block ?_
 refine A.loop (ι := Nat) (fun c => c ≤ 4) (fun c => [(0, .v (ptr g)), (2, .v (.pointer (some ⟨b2, 0, none⟩))), (9, .v (nI c)), (1000002, blk b2 115 (rowV 16 (f))), (1000080, blk g 115 (rowV 16 (mid f (mixS f) (4 * c)))), (1000081, wroteD 115 g w₁)]) (fun c => 4 - c) 0 ?_ ?_ ?_
 ·exact Nat.zero_le _
 ·exact (KC 0 rfl (KC 2 rfl (KC 9 rfl (KC 1000002 rfl (KE 1000080 rfl (congrArg _ (mid_zero 16 f _)) (KC 1000081 rfl KN))))))
 intro c hc
 refine GS ?_
 refine TL ?_
 refine RB rfl rfl rfl ?_
 refine RN ?_
 refine A.seq ?_
 refine A.cond rfl (fun hc10 => ?_) (fun hc10 => ?_)
 ·have hc4 : c < 4 := by simp at hc10; omega
  refine A.skip ?_
  refine EN ?_
  refine A.seq ?_
  refine A.block ?_
  refine GS ?_
  refine TN 1 ?_
  refine RM rfl ?_
  refine RN ?_
  refine ⟨_, _, eff_allocW (n := 49) (d := 3) (k := 1000003) zero3 (by decide), fun b3 hb3 => ?_⟩
  have hBb3 := hb3.1
  have hw_b3 := hb3.2.2 1000081 _ _ _ rfl
  refine TF 2 ?_
  refine RN ?_
  refine ⟨_, eff_storeS (n := 49) (s := 1000003) info3 rfl rfl rfl hBb3 rfl (by decide) (LV 0 rfl (LV 2 rfl (LV 3 rfl (LV 9 rfl (LT 1000002 rfl (LT 1000080 rfl (LeftS.cons (t := 1000081) rfl (Surv.wroteN hw_b3) LN))))))), ?_⟩
  refine TL ?_
  refine RN ?_
  refine GS ?_
  refine TL ?_
  refine RS (ok_makeFuncN [ptr b2, ptr b3] ⟨rfl, rfl, trivial⟩) ?_
  refine RA rfl ?_
  refine RN ?_
  refine GS ?_
  refine TL ?_
  refine RM rfl ?_
  refine RN ?_
  refine A.block ?_
  refine A.loop (ι := Nat) (fun r => r ≤ 4) (fun r => [(0, .v (ptr g)), (2, .v (.pointer (some ⟨b2, 0, none⟩))), (3, .v (.pointer (some ⟨b3, 0, none⟩))), (4, .v (.func (.func 89) #[] #[ptr b2, ptr b3])), (9, .v (nI c)), (13, .v (nI r)), (1000002, blk b2 115 (rowV 16 (f))), (1000003, blk b3 3 [nI c]), (1000080, blk g 115 (rowV 16 (mid f (mixS f) (4 * c + r)))), (1000081, wroteD 115 g w₁)]) (fun r => 4 - r) 0 ?_ ?_ ?_
  ·exact Nat.zero_le _
  ·exact (KC 0 rfl (KC 2 rfl (KC 3 rfl (KC 4 rfl (KC 9 rfl (KC 13 rfl (KC 1000002 rfl (KC 1000003 rfl (KC 1000080 rfl (KC 1000081 rfl KN))))))))))
  intro r hr
  refine GS ?_
  refine TL ?_
  refine RB rfl rfl rfl ?_
  refine RN ?_
  refine A.seq ?_
  refine A.cond rfl (fun hc14 => ?_) (fun hc14 => ?_)
  ·have hr4 : r < 4 := by simp at hc14; omega
   refine A.skip ?_
   refine EN ?_
   refine A.seq ?_
   refine A.block ?_
   refine GS ?_
   refine TL ?_
   refine RM rfl ?_
   refine RA rfl ?_
   refine RN ?_
   refine A.reg (by kernel_rfl) (by kernel_rfl) (.inr (by kernel_rfl)) ?_
   refine TD 31 ?_
   refine RM rfl ?_
   refine RS (ok_loadV (s := 1000003) (by decide) Tryz.underlying3 rfl rfl rfl (rfl)) ?_
   refine RBS rfl rfl rfl (nI (4 * c)) (by rw [wrap_i64 (by omega) (by omega)]; exact congrArg (Value.int .i64) (by omega)) ?_
   refine RM rfl ?_
   refine RBS rfl rfl rfl (nI (4 * c + r)) (by rw [wrap_i64 (by omega) (by omega)]; exact congrArg (Value.int .i64) (by omega)) ?_
   refine RM rfl ?_
   refine RM rfl ?_
   refine RS (ok_callVM (mixAt_fn f b2 b3 c (r + 0) hc4 (by omega)) (KC 1000002 rfl (KC 1000003 rfl KN)) mixAt_v rfl (A1 rfl)) ?_
   refine RM rfl ?_
   refine RM rfl ?_
   refine RBS rfl rfl rfl (nI (r + 1)) (by rw [wrap_i64 (by omega) (by omega)]; exact congrArg (Value.int .i64) (by omega)) ?_
   refine RS (ok_callVM (mixAt_fn f b2 b3 c (r + 1) hc4 (by omega)) (KC 1000002 rfl (KC 1000003 rfl KN)) mixAt_v rfl (A1 rfl)) ?_
   refine RBS rfl rfl rfl (nB (f (4 * c + (r + 0) % 4) ^^^ f (4 * c + (r + 1) % 4))) (by rw [show IntKind.u8.bits = 8 from rfl, xor_u8N (hf _) (hf _)]) ?_
   refine RS (ok_call (Mul_fn 2 (f (4 * c + (r + 0) % 4) ^^^ f (4 * c + (r + 1) % 4)) (by decide) (xor_lt _ _ (hf _) (hf _))) (A2 rfl rfl)) ?_
   refine RM rfl ?_
   refine RM rfl ?_
   refine RBS rfl rfl rfl (nI (r + 1)) (by rw [wrap_i64 (by omega) (by omega)]; exact congrArg (Value.int .i64) (by omega)) ?_
   refine RS (ok_callVM (mixAt_fn f b2 b3 c (r + 1) hc4 (by omega)) (KC 1000002 rfl (KC 1000003 rfl KN)) mixAt_v rfl (A1 rfl)) ?_
   refine RBS rfl rfl rfl (nB (gm 2 (f (4 * c + (r + 0) % 4) ^^^ f (4 * c + (r + 1) % 4)) ^^^ f (4 * c + (r + 1) % 4))) (by rw [show IntKind.u8.bits = 8 from rfl, xor_u8N (gm_lt _ (by decide)) (hf _)]) ?_
   refine RM rfl ?_
   refine RM rfl ?_
   refine RBS rfl rfl rfl (nI (r + 2)) (by rw [wrap_i64 (by omega) (by omega)]; exact congrArg (Value.int .i64) (by omega)) ?_
   refine RS (ok_callVM (mixAt_fn f b2 b3 c (r + 2) hc4 (by omega)) (KC 1000002 rfl (KC 1000003 rfl KN)) mixAt_v rfl (A1 rfl)) ?_
   refine RBS rfl rfl rfl (nB (gm 2 (f (4 * c + (r + 0) % 4) ^^^ f (4 * c + (r + 1) % 4)) ^^^ f (4 * c + (r + 1) % 4) ^^^ f (4 * c + (r + 2) % 4))) (by rw [show IntKind.u8.bits = 8 from rfl, xor_u8N (xor_lt _ _ (gm_lt _ (by decide)) (hf _)) (hf _)]) ?_
   refine RM rfl ?_
   refine RM rfl ?_
   refine RBS rfl rfl rfl (nI (r + 3)) (by rw [wrap_i64 (by omega) (by omega)]; exact congrArg (Value.int .i64) (by omega)) ?_
   refine RS (ok_callVM (mixAt_fn f b2 b3 c (r + 3) hc4 (by omega)) (KC 1000002 rfl (KC 1000003 rfl KN)) mixAt_v rfl (A1 rfl)) ?_
   refine RBS rfl rfl rfl (nB (mixS f (4 * c + r))) (by rw [show IntKind.u8.bits = 8 from rfl, xor_u8N (xor_lt _ _ (xor_lt _ _ (gm_lt _ (by decide)) (hf _)) (hf _)) (hf _), mixS_at f c hr4]) ?_
   refine RS (ok_nilCheck rfl) ?_
   refine RS (ok_index0 _ Tryz.underlying115 info5 rfl rfl (rfl) (by omega)) ?_
   refine RN ?_
   refine ⟨_, eff_storeS (n := 49) (s := 1000080) info5 rfl rfl rfl hBg rfl (by simp only [rowV_length]; omega) (LV 0 rfl (LV 2 rfl (LV 3 rfl (LV 4 rfl (LV 9 rfl (LV 13 rfl (LB 1000002 rfl (LT 1000003 rfl (LeftS.cons (t := 1000081) rfl (Surv.wrote) LN))))))))), ?_⟩
   refine TL ?_
   refine RN ?_
   refine End.sub (KC 0 rfl (KC 2 rfl (KC 3 rfl (KC 4 rfl (KC 9 rfl (KC 13 rfl (KC 1000002 rfl (KC 1000003 rfl (KC 1000080 rfl (KC 1000081 rfl KN)))))))))) ?_
   refine End.normal_block ?_
   refine EN ?_
   refine GE ?_
   refine TL ?_
   refine RBS rfl rfl rfl (nI (r + 1)) (by rw [wrap_i64 (by omega) (by omega)]; exact congrArg (Value.int .i64) (by omega)) ?_
   refine RM rfl ?_
   refine RN ?_
   refine End.normal_then ?_
   refine End.again (r + 1) ?_ ?_ ?_
   ·show _ ≤ _; omega
   ·show _ - _ < _ - _; omega
   ·exact (KC 0 rfl (KC 2 rfl (KC 3 rfl (KC 4 rfl (KC 9 rfl (KC 13 rfl (KC 1000002 rfl (KC 1000003 rfl (KE 1000080 rfl (congrArg _ (mid_set rfl rfl)) (KC 1000081 rfl KN))))))))))
  ·obtain rfl : r = 4 := by simp at hc14; omega
   refine A.exit ?_
   refine End.exit_then ?_
   refine End.exit_then ?_
   refine End.exit_here ?_
   refine End.normal_block ?_
   refine EN ?_
   refine GE ?_
   refine TL ?_
   refine RBS rfl rfl rfl (nI (c + 1)) (by rw [wrap_i64 (by omega) (by omega)]; exact congrArg (Value.int .i64) (by omega)) ?_
   refine RM rfl ?_
   refine RN ?_
   refine End.normal_then ?_
   refine End.again (c + 1) ?_ ?_ ?_
   ·show _ ≤ _; omega
   ·show _ - _ < _ - _; omega
   ·exact (KC 0 rfl (KC 2 rfl (KC 9 rfl (KC 1000002 rfl (KE 1000080 rfl (by rw [show 4 * (c + 1) = 4 * c + 4 from by omega]) (KC 1000081 rfl KN))))))
 ·obtain rfl : c = 4 := by simp at hc10; omega
  refine A.exit ?_
  refine End.exit_then ?_
  refine End.exit_then ?_
  refine End.exit_here ?_
  exact End.wrote (kb := 1000080) (kw := 1000081) rfl rfl (mid_full 16 _ _) rfl
theorem carryOut_fnW (g : Nat) (us : List Value) (cs : Nat → List Value) (hl : us.length ≤ 1000) (h : ∀ (i : Nat) (u : Value), us[i]? = some u → Does Tryz.prog 115 g u (cs i) (cs (i + 1))) : FnW Tryz.prog 67 [] 115 g (cs 0) (cs us.length) [fresh 0 1 us us.length] := by
 refine FnW.ofD (n := 13) (kb := 1000080) (kw := 1000081) Tryz.func67 rfl (by kernel_rfl) Tryz.ntmps67 (by simp) (by decide) (fun p hp => by cases hp) (by decide) (by decide) [(0, fresh 0 1 us us.length)]
  (fun p hp => by simp only [List.mem_cons, List.not_mem_nil, or_false] at hp; rcases hp with rfl; rfl) fun w₀ w₁ hw hM => ?_
 have hBg : w₀.heap.size ≤ g := Nat.le_of_eq hw
 refine A.openAt (t := 0) (k := 1000070) rfl fun b => ?_
 refine GS ?_
 refine TL ?_
 refine RM rfl ?_
 refine RS (ok_lenV Tryz.underlying142 rfl) ?_
 refine RM rfl ?_
 refine RN ?_
 refine A.block ?_
 refine A.loop (ι := Nat) (fun i => i ≤ us.length) (fun i => [(4, .v (.slice (some ⟨b, 0, none⟩) us.length us.length)), (5, .v (nI (us.length))), (6, .v (nI i)), (1000070, blk b 1 us), (1000080, blk g 115 (cs i)), (1000081, wroteD 115 g w₁)]) (fun i => us.length - i) 0 ?_ ?_ ?_
 ·exact Nat.zero_le _
 ·exact (KC 4 rfl (KC 5 rfl (KC 6 rfl (KC 1000070 rfl (KC 1000080 rfl (KC 1000081 rfl KN))))))
 intro i hi'
 refine GS ?_
 refine TL ?_
 refine RB rfl rfl rfl ?_
 refine RN ?_
 refine A.seq ?_
 refine A.cond rfl (fun hc7 => ?_) (fun hc7 => ?_)
 ·have hi : i < us.length := by simp at hc7; omega
  obtain ⟨u, hu⟩ : ∃ u, us[i]? = some u := ⟨_, List.getElem?_eq_getElem hi⟩
  refine A.skip ?_
  refine EN ?_
  refine A.seq ?_
  refine A.block ?_
  refine GS ?_
  refine TL ?_
  refine RS (ok_indexV i Tryz.underlying142 info1 rfl rfl rfl hi) ?_
  refine RS (ok_loadV (s := 1000070) (by decide) Tryz.underlying1 rfl rfl rfl (by rw [Nat.zero_add]; exact hu)) ?_
  refine RA rfl ?_
  refine RN ?_
  refine GE ?_
  refine TF 1 ?_
  refine RM rfl ?_
  refine RN ?_
  refine ⟨_, eff_callF (n := 13) (s := 1000080) (h i u hu) rfl hBg rfl (by decide) (LV 4 rfl (LV 5 rfl (LV 6 rfl (LT 1000070 rfl (LeftS.cons (t := 1000081) rfl (Surv.wrote) LN))))), ?_⟩
  refine TL ?_
  refine RN ?_
  refine End.normal_block ?_
  refine EN ?_
  refine GE ?_
  refine TL ?_
  refine RBS rfl rfl rfl (nI (i + 1)) (by rw [wrap_i64 (by omega) (by omega)]; exact congrArg (Value.int .i64) (by omega)) ?_
  refine RM rfl ?_
  refine RN ?_
  refine End.normal_then ?_
  refine End.again (i + 1) ?_ ?_ ?_
  ·show _ ≤ _; omega
  ·show _ - _ < _ - _; omega
  ·exact (KC 4 rfl (KC 5 rfl (KC 6 rfl (KC 1000070 rfl (KC 1000080 rfl (KC 1000081 rfl KN))))))
 ·obtain rfl : i = us.length := by simp at hc7; omega
  refine A.exit ?_
  refine End.exit_then ?_
  refine End.exit_then ?_
  refine End.exit_here ?_
  exact End.wrote (kb := 1000080) (kw := 1000081) rfl rfl rfl rfl
theorem carry2 (g : Nat) {u₁ u₂ : Value} {x₀ x₁ x₂ : List Value} (h₁ : Does Tryz.prog 115 g u₁ x₀ x₁) (h₂ : Does Tryz.prog 115 g u₂ x₁ x₂) : FnW Tryz.prog 67 [] 115 g x₀ x₂ [fresh 0 1 [u₁, u₂] 2] :=
 carryOut_fnW g [u₁, u₂] (fun i => match i with | 0 => x₀ | 1 => x₁ | _ => x₂) (show 2 ≤ 1000 by decide) fun i u hu => by
  match i, hu with
  | 0, hu => simp at hu; subst hu; exact h₁
  | 1, hu => simp at hu; subst hu; exact h₂
  | i + 2, hu => simp at hu
theorem carry3 (g : Nat) {u₁ u₂ u₃ : Value} {x₀ x₁ x₂ x₃ : List Value} (h₁ : Does Tryz.prog 115 g u₁ x₀ x₁) (h₂ : Does Tryz.prog 115 g u₂ x₁ x₂) (h₃ : Does Tryz.prog 115 g u₃ x₂ x₃) : FnW Tryz.prog 67 [] 115 g x₀ x₃ [fresh 0 1 [u₁, u₂, u₃] 3] :=
 carryOut_fnW g [u₁, u₂, u₃] (fun i => match i with | 0 => x₀ | 1 => x₁ | 2 => x₂ | _ => x₃) (show 3 ≤ 1000 by decide) fun i u hu => by
  match i, hu with
  | 0, hu => simp at hu; subst hu; exact h₁
  | 1, hu => simp at hu; subst hu; exact h₂
  | 2, hu => simp at hu; subst hu; exact h₃
  | i + 3, hu => simp at hu
set_option maxHeartbeats 2000000 in
theorem Encrypt_fn (s f : Nat → Nat) (hs : ∀ i, s i < 256) (hf : By f) : Fn Tryz.prog 44 [.v (aggV (rowV 176 (s))), .v (aggV (rowV 16 (f)))] (.v (aggV (rowV 16 (enc s f)))) := by
 refine Fn.of Tryz.func44 rfl (by kernel_rfl) Tryz.ntmps44 (by simp) (fun w => [(0, .v (aggV (rowV 176 (s)))), (1, .v (aggV (rowV 16 (f))))]) (fun w => (Start.v rfl (Start.v rfl Start.nil))) fun w₀ => ?_
 refine GS ?_
 refine TN 0 ?_
 refine RN ?_
 refine ⟨_, _, eff_box (n := 32) (d := 2) (k := 1000002) rfl (by decide), fun b2 hb2 => ?_⟩
 have hBb2 := hb2.1
 refine TN 1 ?_
 refine RN ?_
 refine ⟨_, _, eff_box (n := 32) (d := 3) (k := 1000003) rfl (by decide), fun b3 hb3 => ?_⟩
 have hBb3 := hb3.1
 refine TN 2 ?_
 refine RN ?_
 refine ⟨_, _, eff_alloc (n := 32) (d := 4) (k := 1000004) zero22 (by decide), fun b4 hb4 => ?_⟩
 have hBb4 := hb4.1
 have hlt_b3_b4 : b3 < b4 := hb4.2 1000003 _ _ _ rfl
 refine TL ?_
 refine RN ?_
 refine GS ?_
 refine TN 1 ?_
 refine RS (ok_loadA (s := 1000003) (by decide) Tryz.underlying22 rfl (size22.of (rowV_length _ _)) rfl rfl) ?_
 refine RN ?_
 refine ⟨_, _, eff_alloc (n := 32) (d := 5) (k := 1000005) zero115 (by decide), fun b5 hb5 => ?_⟩
 have hBb5 := hb5.1
 refine TF 2 ?_
 refine RN ?_
 refine ⟨_, eff_storeA (n := 32) (s := 1000005) (size115.of (rowV_length _ _)) rfl rfl (rowV_one _ _) hBb5 rfl (by first | (simp only [rowV_length]; done) | simp only [rowV_length, List.length_replicate]) (LV 2 rfl (LV 4 rfl (LV 5 rfl (LT 1000002 rfl (LT 1000003 rfl (LT 1000004 rfl LN)))))), ?_⟩
 refine TL ?_
 refine RN ?_
 refine GS ?_
 refine TF 2 ?_
 refine RS (ok_indexN (0) Tryz.underlying81 size22 rfl rfl (rfl) (by decide)) ?_
 refine RS (ok_loadP (s := 1000002) (by decide) Tryz.underlying22 rfl size22 rfl rfl (by simp only [rowV_length]; omega) (rowV_part (g := keyS s (0)) (by omega) (fun i _ => congrArg s (by omega)))) ?_
 refine RN ?_
 refine ⟨_, eff_callW (n := 32) (s := 1000005) (add_fnW b5 (f) (keyS s (0)) hf (keyS_by hs _)) (fun p hp => by cases hp) (A2 rfl rfl) hBb5 rfl (by decide) (LV 2 rfl (LV 4 rfl (LV 5 rfl (LT 1000002 rfl (LT 1000003 rfl (LT 1000004 rfl LN)))))), ?_⟩
 refine TL ?_
 refine RN ?_
 refine A.seq ?_
 refine GS ?_
 refine TL ?_
 refine RA rfl ?_
 refine RN ?_
 refine A.block ?_
 refine A.loop (ι := Nat) (fun q => q ≤ 9) (fun q => [(2, .v (.pointer (some ⟨b2, 0, none⟩))), (4, .v (.pointer (some ⟨b4, 0, none⟩))), (5, .v (.pointer (some ⟨b5, 0, none⟩))), (1000002, blk b2 81 (rowV 176 (s))), (1000004, blk b4 22 (List.replicate 16 (.int .u8 0))), (6, .v (nI (q + 1))), (1000005, blk b5 115 (rowV 16 (encR s f q)))]) (fun q => 9 - q) 0 ?_ ?_ ?_
 ·exact Nat.zero_le _
 ·exact (KC 2 rfl (KC 4 rfl (KC 5 rfl (KC 1000002 rfl (KC 1000004 rfl (KC 6 rfl (KC 1000005 rfl KN)))))))
 intro q hq'
 refine A.seq ?_
 refine GS ?_
 refine TL ?_
 refine RM rfl ?_
 refine RB rfl rfl rfl ?_
 refine RN ?_
 refine A.cond rfl (fun hc12 => ?_) (fun hc12 => ?_)
 ·have hq : q < 9 := by simp at hc12; omega
  refine A.skip ?_
  refine EN ?_
  refine A.seq ?_
  refine A.block ?_
  refine GS ?_
  refine TF 4 ?_
  refine RS (ok_makeFuncM rfl) ?_
  refine RS (ok_makeFuncM rfl) ?_
  refine RS (ok_makeFuncM rfl) ?_
  refine RS (ok_buildF [.func (.func 68) #[ptr b5] #[], .func (.func 69) #[ptr b5] #[], .func (.func 70) #[ptr b5] #[]] Tryz.underlying142 info1 rfl (by decide) (by decide) rfl ⟨rfl, rfl, rfl, rfl, rfl, rfl, trivial⟩ rfl) ?_
  refine RN ?_
  refine ⟨_, eff_callW (n := 32) (s := 1000005) (carry3 b5 (substitute_fnW b5 (encR s f q) (encR_by hs hf q)).does (rotate_fnW b5 (subS (encR s f q))).does (mix_fnW b5 (rotS (subS (encR s f q))) (rotS_by (subS_by _))).does) (fun p hp => by cases hp) (Args.cons rfl (fresh_mono _ _ (Nat.zero_le _)) Args.nil) hBb5 rfl (by decide) (LV 2 rfl (LV 4 rfl (LV 5 rfl (LV 6 rfl (LT 1000002 rfl (LT 1000004 rfl LN)))))), ?_⟩
  refine TL ?_
  refine RN ?_
  refine GE ?_
  refine TF 3 ?_
  refine RM rfl ?_
  refine RS (ok_indexN _ Tryz.underlying81 size22 rfl rfl (rfl) (by omega)) ?_
  refine RS (ok_loadP (s := 1000002) (by decide) Tryz.underlying22 rfl size22 rfl rfl (by simp only [rowV_length]; omega) (rowV_part (g := keyS s (q + 1)) (by omega) (fun i _ => congrArg s (by omega)))) ?_
  refine RN ?_
  refine ⟨_, eff_callW (n := 32) (s := 1000005) (add_fnW b5 (mixS (rotS (subS (encR s f q)))) (keyS s (q + 1)) (mixS_by (rotS_by (subS_by _))) (keyS_by hs _)) (fun p hp => by cases hp) (A2 rfl rfl) hBb5 rfl (by decide) (LV 2 rfl (LV 4 rfl (LV 5 rfl (LV 6 rfl (LT 1000002 rfl (LT 1000004 rfl LN)))))), ?_⟩
  refine TL ?_
  refine RN ?_
  refine End.normal_block ?_
  refine EN ?_
  refine GE ?_
  refine TL ?_
  refine RM rfl ?_
  refine RBS rfl rfl rfl (nI (q + 1 + 1)) (by rw [wrap_i64 (by omega) (by omega)]; exact congrArg (Value.int .i64) (by omega)) ?_
  refine RA rfl ?_
  refine RN ?_
  refine End.normal_then ?_
  refine End.again (q + 1) ?_ ?_ ?_
  ·show _ ≤ _; omega
  ·show _ - _ < _ - _; omega
  ·exact (KC 2 rfl (KC 4 rfl (KC 5 rfl (KC 1000002 rfl (KC 1000004 rfl (KC 6 rfl (KC 1000005 rfl KN)))))))
 ·obtain rfl : q = 9 := by simp at hc12; omega
  refine A.exit ?_
  refine End.exit_then ?_
  refine End.exit_then ?_
  refine End.exit_here ?_
  refine EN ?_
  refine GS ?_
  refine TF 3 ?_
  refine RS (ok_makeFuncM rfl) ?_
  refine RS (ok_makeFuncM rfl) ?_
  refine RS (ok_buildF [.func (.func 68) #[ptr b5] #[], .func (.func 69) #[ptr b5] #[]] Tryz.underlying142 info1 rfl (by decide) (by decide) rfl ⟨rfl, rfl, rfl, rfl, trivial⟩ rfl) ?_
  refine RN ?_
  refine ⟨_, eff_callW (n := 32) (s := 1000005) (carry2 b5 (substitute_fnW b5 (encR s f 9) (encR_by hs hf 9)).does (rotate_fnW b5 (subS (encR s f 9))).does) (fun p hp => by cases hp) (Args.cons rfl (fresh_mono _ _ (Nat.zero_le _)) Args.nil) hBb5 rfl (by decide) (LV 2 rfl (LV 4 rfl (LV 5 rfl (LT 1000002 rfl (LT 1000004 rfl LN))))), ?_⟩
  refine TL ?_
  refine RN ?_
  refine GS ?_
  refine TF 2 ?_
  refine RS (ok_indexN (10) Tryz.underlying81 size22 rfl rfl (rfl) (by decide)) ?_
  refine RS (ok_loadP (s := 1000002) (by decide) Tryz.underlying22 rfl size22 rfl rfl (by simp only [rowV_length]; omega) (rowV_part (g := keyS s (10)) (by omega) (fun i _ => congrArg s (by omega)))) ?_
  refine RN ?_
  refine ⟨_, eff_callW (n := 32) (s := 1000005) (add_fnW b5 (rotS (subS (encR s f 9))) (keyS s (10)) (rotS_by (subS_by _)) (keyS_by hs _)) (fun p hp => by cases hp) (A2 rfl rfl) hBb5 rfl (by decide) (LV 4 rfl (LV 5 rfl (LT 1000002 rfl (LT 1000004 rfl LN)))), ?_⟩
  refine TL ?_
  refine RN ?_
  refine GS ?_
  refine TF 1 ?_
  refine RS (ok_loadA (s := 1000005) (by decide) Tryz.underlying115 rfl (size115.of (rowV_length _ _)) rfl rfl) ?_
  refine RN ?_
  refine ⟨_, eff_storeA (n := 32) (s := 1000004) (size22.of (rowV_length _ _)) rfl rfl (rowV_one _ _) hBb4 rfl (by first | (simp only [rowV_length]; done) | simp only [rowV_length, List.length_replicate]) (LV 4 rfl (LT 1000002 rfl (LT 1000005 rfl LN))), ?_⟩
  refine TL ?_
  refine RN ?_
  refine A.ret ?_
  exact End.cell1 (s := 1000004) rfl Tryz.underlying22 rfl (size22.of (rowV_length _ _)) rfl rfl (Le.refl _)
set_option maxHeartbeats 1000000 in
theorem next_fn (k : Nat → Nat) (p : Nat) (hk : By k) (hp : p < 256) : Fn Tryz.prog 64 [.v (aggV (rowV 16 (k))), .v (nB p)] (.v (aggV (rowV 16 (nextS k p)))) := by
 refine Fn.of Tryz.func64 rfl (by kernel_rfl) Tryz.ntmps64 (by simp) (fun w => [(0, .v (aggV (rowV 16 (k)))), (1, .v (nB p))]) (fun w => (Start.v rfl (Start.v rfl Start.nil))) fun w₀ => ?_
 refine GS ?_
 refine TN 0 ?_
 refine RN ?_
 refine ⟨_, _, eff_box (n := 55) (d := 2) (k := 1000002) rfl (by decide), fun b2 hb2 => ?_⟩
 have hBb2 := hb2.1
 refine TN 1 ?_
 refine RN ?_
 refine ⟨_, _, eff_alloc (n := 55) (d := 4) (k := 1000004) zero22 (by decide), fun b4 hb4 => ?_⟩
 have hBb4 := hb4.1
 have hlt_b2_b4 : b2 < b4 := hb4.2 1000002 _ _ _ rfl
 refine TL ?_
 refine RN ?_
 refine GS ?_
 refine TN 3 ?_
 refine RS (ok_sliceX (l := 12) (h := 16) (m := 16) Tryz.underlying22 info5 rfl (.inl ⟨_, _, rfl, rfl⟩) (.inr ⟨rfl, rfl, rfl⟩) (.inr ⟨rfl, rfl⟩) (by decide) (by decide) (by decide) (.inl (by decide))) ?_
 refine RS (ok_arrayAt Tryz.underlying137 rfl (by decide)) ?_
 refine RS (ok_loadP (s := 1000002) (by decide) Tryz.underlying137 rfl size137 rfl rfl (by simp only [rowV_length]; omega) (rowV_part (g := fun r => k (12 + r)) (by decide) (fun i _ => congrArg k (by omega)))) ?_
 refine RN ?_
 refine ⟨_, _, eff_alloc (n := 55) (d := 5) (k := 1000005) zero137 (by decide), fun b5 hb5 => ?_⟩
 have hBb5 := hb5.1
 refine TF 4 ?_
 refine RN ?_
 refine ⟨_, eff_storeA (n := 55) (s := 1000005) (size137.of (rowV_length _ _)) rfl rfl (rowV_one _ _) hBb5 rfl (by first | (simp only [rowV_length]; done) | simp only [rowV_length, List.length_replicate]) (LV 1 rfl (LV 2 rfl (LV 4 rfl (LV 5 rfl (LT 1000002 rfl (LT 1000004 rfl LN)))))), ?_⟩
 refine TL ?_
 refine RN ?_
 refine GD ?_
 refine RunTK.new 16 (by decide) rfl (.inr (by kernel_rfl)) ?_
 refine RS (ok_index0 (1) Tryz.underlying137 info5 rfl rfl (rfl) (by decide)) ?_
 refine RS (ok_loadV (s := 1000005) (by decide) Tryz.underlying5 rfl rfl rfl (rowV_get (by decide))) ?_; refine RZ (nB (k 13)) (v8 (by rfl)) ?_
 refine RS (ok_call (Sub_fn (k 13) (hk _)) (A1 rfl)) ?_
 refine RM rfl ?_
 refine RBS rfl rfl rfl (nB (sub8 (k 13) ^^^ p)) (by rw [show IntKind.u8.bits = 8 from rfl, xor_u8N (sub8_lt _) hp]) ?_
 refine RS (ok_index0 (2) Tryz.underlying137 info5 rfl rfl (rfl) (by decide)) ?_
 refine RS (ok_loadV (s := 1000005) (by decide) Tryz.underlying5 rfl rfl rfl (rowV_get (by decide))) ?_; refine RZ (nB (k 14)) (v8 (by rfl)) ?_
 refine RS (ok_call (Sub_fn (k 14) (hk _)) (A1 rfl)) ?_
 refine RS (ok_index0 (3) Tryz.underlying137 info5 rfl rfl (rfl) (by decide)) ?_
 refine RS (ok_loadV (s := 1000005) (by decide) Tryz.underlying5 rfl rfl rfl (rowV_get (by decide))) ?_; refine RZ (nB (k 15)) (v8 (by rfl)) ?_
 refine RS (ok_call (Sub_fn (k 15) (hk _)) (A1 rfl)) ?_
 refine RS (ok_index0 (0) Tryz.underlying137 info5 rfl rfl (rfl) (by decide)) ?_
 refine RS (ok_loadV (s := 1000005) (by decide) Tryz.underlying5 rfl rfl rfl (rowV_get (by decide))) ?_; refine RZ (nB (k 12)) (v8 (by rfl)) ?_
 refine RS (ok_call (Sub_fn (k 12) (hk _)) (A1 rfl)) ?_
 refine RS (ok_litA [_, _, _, _] Tryz.underlying137 info5 zero137 rfl ⟨rfl, rfl, rfl, rfl, rfl, rfl, rfl, rfl, trivial⟩ rfl) ?_; refine RZ (aggV (rowV 4 (wordS k p))) (congrArg aggV (word_row k p)) ?_
 refine RS (ok_allocF [b2, b4, b5] zero137 (Named.cons (s := 1000002) (by decide) rfl (Named.cons (s := 1000004) (by decide) rfl (Named.cons (s := 1000005) (by decide) rfl Named.nil)))) ?_
 refine RN ?_
 refine ⟨_, _, eff_storeF (n := 55) (d := 6) (k := 1000006) (size137.of (rowV_length _ _)) rfl rfl (rowV_one _ _) (by first | (simp only [rowV_length]; done) | simp only [rowV_length, List.length_replicate]) (fun b hb => (LV 1 rfl (LV 2 rfl (LV 4 rfl (LV 5 rfl (LV 12 rfl (LV 13 rfl (LV 14 rfl (LV 15 rfl (LV 16 rfl (LV 17 rfl (LV 18 rfl (LV 19 rfl (LV 20 rfl (LV 21 rfl (LV 22 rfl (LV 23 rfl (LV 24 rfl (LV 25 rfl (LV 26 rfl (LT 1000002 rfl (LT 1000004 rfl (LeftS.cons (t := 1000005) rfl (Surv.blk (Nat.ne_of_lt (hb.2 _ (by simp)))) LN))))))))))))))))))))))), fun b6 hb6 => ?_⟩
 have hBb6 := hb6.1
 have hlt_b2_b6 : b2 < b6 := hb6.2 _ (by simp)
 have hlt_b4_b6 : b4 < b6 := hb6.2 _ (by simp)
 have hlt_b5_b6 : b5 < b6 := hb6.2 _ (by simp)
 refine TL ?_
 refine RN ?_
 refine A.seq ?_
 refine GS ?_
 refine TL ?_
 refine RM rfl ?_
 refine RN ?_
 refine A.sub (KC 2 rfl (KC 4 rfl (KC 6 rfl (KC 27 rfl (KC 1000002 rfl (KC 1000004 rfl (KC 1000005 rfl (KC 1000006 rfl KN)))))))) ?_
 refine A.block ?_
 refine A.loop (ι := Nat) (fun c => c ≤ 4) (fun c => [(2, .v (.pointer (some ⟨b2, 0, none⟩))), (4, .v (.pointer (some ⟨b4, 0, none⟩))), (6, .v (.pointer (some ⟨b6, 0, none⟩))), (27, .v (nI c)), (1000004, blk b4 22 (List.replicate 16 (.int .u8 0))), (1000002, blk b2 22 (rowV 16 (mid k (nextS k p) (4 * c)))), (1000006, blk b6 137 (rowV 4 (fun q => accS k p q c)))]) (fun c => 4 - c) 0 ?_ ?_ ?_
 ·exact Nat.zero_le _
 ·exact (KC 2 rfl (KC 4 rfl (KC 6 rfl (KC 27 rfl (KC 1000004 rfl (KE 1000002 rfl (congrArg _ (mid_zero 16 k _)) (KC 1000006 rfl KN)))))))
 intro c hc
 refine GS ?_
 refine TL ?_
 refine RB rfl rfl rfl ?_
 refine RN ?_
 refine A.seq ?_
 refine A.cond rfl (fun hc28 => ?_) (fun hc28 => ?_)
 ·have hc4 : c < 4 := by simp at hc28; omega
  refine A.skip ?_
  refine EN ?_
  refine A.seq ?_
  refine A.block ?_
  refine GS ?_
  refine TL ?_
  refine RM rfl ?_
  refine RA rfl ?_
  refine RN ?_
  refine GS ?_
  refine TL ?_
  refine RM rfl ?_
  refine RN ?_
  refine A.block ?_
  refine A.loop (ι := Nat) (fun r => r ≤ 4) (fun r => [(2, .v (.pointer (some ⟨b2, 0, none⟩))), (4, .v (.pointer (some ⟨b4, 0, none⟩))), (6, .v (.pointer (some ⟨b6, 0, none⟩))), (7, .v (nI c)), (27, .v (nI c)), (30, .v (nI r)), (1000004, blk b4 22 (List.replicate 16 (.int .u8 0))), (1000002, blk b2 22 (rowV 16 (mid k (nextS k p) (4 * c + r)))), (1000006, blk b6 137 (rowV 4 (mid (fun q => accS k p q c) (fun q => accS k p q (c + 1)) r)))]) (fun r => 4 - r) 0 ?_ ?_ ?_
  ·exact Nat.zero_le _
  ·exact (KC 2 rfl (KC 4 rfl (KC 6 rfl (KC 7 rfl (KC 27 rfl (KC 30 rfl (KC 1000004 rfl (KC 1000002 rfl (KE 1000006 rfl (congrArg _ (mid_zero 4 _ _)) KN)))))))))
  intro r hr
  refine GS ?_
  refine TL ?_
  refine RB rfl rfl rfl ?_
  refine RN ?_
  refine A.seq ?_
  refine A.cond rfl (fun hc31 => ?_) (fun hc31 => ?_)
  ·have hr4 : r < 4 := by simp at hc31; omega
   refine A.skip ?_
   refine EN ?_
   refine A.seq ?_
   refine A.block ?_
   refine GS ?_
   refine TL ?_
   refine RM rfl ?_
   refine RA rfl ?_
   refine RN ?_
   refine GD ?_
   refine TD 11 ?_
   refine RM rfl ?_
   refine RBS rfl rfl rfl (nI (4 * c)) (by rw [wrap_i64 (by omega) (by omega)]; exact congrArg (Value.int .i64) (by omega)) ?_
   refine RM rfl ?_
   refine RBS rfl rfl rfl (nI (4 * c + r)) (by rw [wrap_i64 (by omega) (by omega)]; exact congrArg (Value.int .i64) (by omega)) ?_
   refine RS (ok_index0 _ Tryz.underlying22 info5 rfl rfl (rfl) (by omega)) ?_
   refine RS (ok_loadV (s := 1000002) (by decide) Tryz.underlying5 rfl rfl rfl (rowV_get (by omega))) ?_; refine RZ (nB (k (4 * c + r))) (v8 (mid_at k _ _)) ?_
   refine RM rfl ?_
   refine RS (ok_index0 _ Tryz.underlying137 info5 rfl rfl (rfl) (by omega)) ?_
   refine RS (ok_loadV (s := 1000006) (by decide) Tryz.underlying5 rfl rfl rfl (rowV_get (by omega))) ?_; refine RZ (nB (accS k p r c)) (v8 (mid_at (fun q => accS k p q c) _ _)) ?_
   refine RBS rfl rfl rfl (nB (nextS k p (4 * c + r))) (by rw [show IntKind.u8.bits = 8 from rfl, xor_u8N (hk _) (accS_lt hk hp _ _), nextS_col k p hr4]) ?_
   refine RS (ok_index0 _ Tryz.underlying22 info5 rfl rfl (rfl) (by omega)) ?_
   refine RN ?_
   refine ⟨_, eff_storeS (n := 55) (s := 1000002) info5 rfl rfl rfl hBb2 rfl (by simp only [rowV_length]; omega) (LV 2 rfl (LV 4 rfl (LV 6 rfl (LV 7 rfl (LV 8 rfl (LV 27 rfl (LV 30 rfl (LB 1000004 rfl (LT 1000006 rfl LN))))))))), ?_⟩
   refine TL ?_
   refine RN ?_
   refine A.sub (KC 2 rfl (KC 4 rfl (KC 6 rfl (KC 7 rfl (KC 8 rfl (KC 27 rfl (KC 30 rfl (KE 1000002 rfl (show blk b2 22 _ = blk b2 22 (rowV 16 (mid k (nextS k p) (4 * c + r + 1))) from congrArg _ (mid_set rfl rfl)) (KC 1000004 rfl (KC 1000006 rfl KN)))))))))) ?_
   refine GE ?_
   refine TF 8 ?_
   refine RM rfl ?_
   refine RM rfl ?_
   refine RBS rfl rfl rfl (nI (4 * c)) (by rw [wrap_i64 (by omega) (by omega)]; exact congrArg (Value.int .i64) (by omega)) ?_
   refine RM rfl ?_
   refine RBS rfl rfl rfl (nI (4 * c + r)) (by rw [wrap_i64 (by omega) (by omega)]; exact congrArg (Value.int .i64) (by omega)) ?_
   refine RS (ok_index0 _ Tryz.underlying22 info5 rfl rfl (rfl) (by omega)) ?_
   refine RS (ok_loadV (s := 1000002) (by decide) Tryz.underlying5 rfl rfl rfl (rowV_get (by omega))) ?_; refine RZ (nB (nextS k p (4 * c + r))) (v8 (if_pos (Nat.lt_succ_self _))) ?_
   refine RS (ok_index0 _ Tryz.underlying137 info5 rfl rfl (rfl) (by omega)) ?_
   refine RN ?_
   refine ⟨_, eff_storeS (n := 55) (s := 1000006) info5 rfl rfl rfl hBb6 rfl (by simp only [rowV_length]; omega) (LV 2 rfl (LV 4 rfl (LV 6 rfl (LV 7 rfl (LV 27 rfl (LV 30 rfl (LT 1000002 rfl (LT 1000004 rfl LN)))))))), ?_⟩
   refine TL ?_
   refine RN ?_
   refine End.normal_block ?_
   refine EN ?_
   refine GE ?_
   refine TL ?_
   refine RBS rfl rfl rfl (nI (r + 1)) (by rw [wrap_i64 (by omega) (by omega)]; exact congrArg (Value.int .i64) (by omega)) ?_
   refine RM rfl ?_
   refine RN ?_
   refine End.normal_then ?_
   refine End.again (r + 1) ?_ ?_ ?_
   ·show _ ≤ _; omega
   ·show _ - _ < _ - _; omega
   ·exact (KC 2 rfl (KC 4 rfl (KC 6 rfl (KC 7 rfl (KC 27 rfl (KC 30 rfl (KC 1000004 rfl (KC 1000002 rfl (KE 1000006 rfl (congrArg _ (mid_set rfl (nextS_at k p hr4))) KN)))))))))
  ·obtain rfl : r = 4 := by simp at hc31; omega
   refine A.exit ?_
   refine End.exit_then ?_
   refine End.exit_then ?_
   refine End.exit_here ?_
   refine End.normal_block ?_
   refine EN ?_
   refine GE ?_
   refine TL ?_
   refine RBS rfl rfl rfl (nI (c + 1)) (by rw [wrap_i64 (by omega) (by omega)]; exact congrArg (Value.int .i64) (by omega)) ?_
   refine RM rfl ?_
   refine RN ?_
   refine End.normal_then ?_
   refine End.again (c + 1) ?_ ?_ ?_
   ·show _ ≤ _; omega
   ·show _ - _ < _ - _; omega
   ·exact (KC 2 rfl (KC 4 rfl (KC 6 rfl (KC 27 rfl (KC 1000004 rfl (KE 1000002 rfl (by rw [show 4 * (c + 1) = 4 * c + 4 from by omega]) (KE 1000006 rfl (congrArg _ (mid_full 4 _ _)) KN)))))))
 ·obtain rfl : c = 4 := by simp at hc28; omega
  refine A.exit ?_
  refine End.exit_then ?_
  refine End.exit_then ?_
  refine End.exit_here ?_
  refine EN ?_
  refine GS ?_
  refine TF 1 ?_
  refine RS (ok_loadA (s := 1000002) (by decide) Tryz.underlying22 rfl (size22.of (rowV_length _ _)) rfl rfl) ?_
  refine RN ?_
  refine ⟨_, eff_storeA (n := 55) (s := 1000004) (size22.of (rowV_length _ _)) rfl rfl (rowV_one _ _) hBb4 rfl (by first | (simp only [rowV_length]; done) | simp only [rowV_length, List.length_replicate]) (LV 4 rfl (LB 1000002 rfl (LT 1000006 rfl LN))), ?_⟩
  refine TL ?_
  refine RN ?_
  refine A.ret ?_
  exact End.cell1 (s := 1000004) rfl Tryz.underlying22 rfl (size22.of (rowV_length _ _)) rfl rfl (Le.v (congrArg aggV (mid_full 16 _ _)))
theorem build81 (k : Nat → Nat) : Tryz.prog.built 81 (([aggV (rowV 16 k)].zipIdx 0).map fun x => (x.2, x.1)) = some (rowV 176 (fun j => if j < 16 then k j else 0)).toArray := by kernel_rfl
set_option maxHeartbeats 1000000 in
theorem Expand_fn (k : Nat → Nat) (hk : By k) : Fn Tryz.prog 43 [.v (aggV (rowV 16 (k)))] (.v (aggV (rowV 176 (expand k)))) := by
 refine Fn.of Tryz.func43 rfl (by kernel_rfl) Tryz.ntmps43 (by simp) (fun w => [(0, .v (aggV (rowV 16 (k))))]) (fun w => (Start.v rfl Start.nil)) fun w₀ => ?_
 refine GS ?_
 refine TN 0 ?_
 refine RN ?_
 refine ⟨_, _, eff_box (n := 22) (d := 1) (k := 1000001) rfl (by decide), fun b1 hb1 => ?_⟩
 have hBb1 := hb1.1
 refine TN 1 ?_
 refine RN ?_
 refine ⟨_, _, eff_alloc (n := 22) (d := 2) (k := 1000002) zero81 (by decide), fun b2 hb2 => ?_⟩
 have hBb2 := hb2.1
 refine TL ?_
 refine RN ?_
 refine GS ?_
 refine TN 2 ?_
 refine RS (ok_loadA (s := 1000001) (by decide) Tryz.underlying22 rfl (size22.of (rowV_length _ _)) rfl rfl) ?_
 refine RS (ok_litU [aggV (rowV 16 k)] _ ⟨rfl, rfl, trivial⟩ (build81 k)) ?_
 refine RN ?_
 refine ⟨_, _, eff_alloc (n := 22) (d := 3) (k := 1000003) zero81 (by decide), fun b3 hb3 => ?_⟩
 have hBb3 := hb3.1
 have hlt_b2_b3 : b2 < b3 := hb3.2 1000002 _ _ _ rfl
 refine TF 3 ?_
 refine RN ?_
 refine ⟨_, eff_storeA (n := 22) (s := 1000003) (size81.of (rowV_length _ _)) rfl rfl (rowV_one _ _) hBb3 rfl (by first | (simp only [rowV_length]; done) | simp only [rowV_length, List.length_replicate]) (LV 2 rfl (LV 3 rfl (LT 1000001 rfl (LB 1000002 rfl LN)))), ?_⟩
 refine TL ?_
 refine RN ?_
 refine A.seq ?_
 refine GS ?_
 refine TL ?_
 refine RA rfl ?_
 refine RN ?_
 refine A.block ?_
 refine A.loop (ι := Nat) (fun q => q ≤ 10) (fun q => [(2, .v (.pointer (some ⟨b2, 0, none⟩))), (3, .v (.pointer (some ⟨b3, 0, none⟩))), (4, .v (nI (q + 1))), (1000002, blk b2 81 (List.replicate 176 (.int .u8 0))), (1000003, blk b3 81 (rowV 176 (cutF (expand k) (16 * (q + 1)))))]) (fun q => 10 - q) 0 ?_ ?_ ?_
 ·exact Nat.zero_le _
 ·exact (KC 2 rfl (KC 3 rfl (KC 4 rfl (KC 1000002 rfl (KE 1000003 rfl (congrArg _ (expand_start k)) KN)))))
 intro q hq'
 refine A.seq ?_
 refine GS ?_
 refine TL ?_
 refine RM rfl ?_
 refine RB rfl rfl rfl ?_
 refine RN ?_
 refine A.cond rfl (fun hc8 => ?_) (fun hc8 => ?_)
 ·have hq : q < 10 := by simp at hc8; omega
  refine A.skip ?_
  refine EN ?_
  refine A.seq ?_
  refine A.block ?_
  refine A.reg (by kernel_rfl) (by kernel_rfl) (.inr (by kernel_rfl)) ?_
  refine TD 10 ?_
  refine RM rfl ?_
  refine RM rfl ?_
  refine RBS rfl rfl rfl (nI q) (by rw [wrap_i64 (by omega) (by omega)]; exact congrArg (Value.int .i64) (by omega)) ?_
  refine RS (ok_indexN _ Tryz.underlying81 size22 rfl rfl (rfl) (by omega)) ?_
  refine RS (ok_loadP (s := 1000003) (by decide) Tryz.underlying22 rfl size22 rfl rfl (by simp only [rowV_length]; omega) (rowV_part (g := roundK k q) (by omega) (fun i hi => expand_at k (by omega) hi))) ?_
  refine RM rfl ?_
  refine RBS rfl rfl rfl (nI q) (by rw [wrap_i64 (by omega) (by omega)]; exact congrArg (Value.int .i64) (by omega)) ?_
  refine RS (ok_call (Power_fn 2 ((q : Nat) : Int) (by decide)) (A2 rfl rfl)) ?_; refine RZ (nB (gpow 2 q)) (v8 (gpz_nat (by decide) q)) ?_
  refine RS (ok_call (next_fn (roundK k q) (gpow 2 q) (roundK_by hk q) (gpow_lt q)) (A2 rfl rfl)) ?_
  refine RS (ok_indexN _ Tryz.underlying81 size22 rfl rfl (rfl) (by omega)) ?_
  refine RN ?_
  refine ⟨_, eff_storeP (n := 22) (s := 1000003) (size22.of (rowV_length _ _)) rfl rfl (rowV_one _ _) hBb3 rfl (by simp only [rowV_length]; omega) (LV 2 rfl (LV 3 rfl (LV 4 rfl (LB 1000002 rfl LN)))), ?_⟩
  refine TL ?_
  refine RN ?_
  refine End.normal_block ?_
  refine EN ?_
  refine GE ?_
  refine TL ?_
  refine RM rfl ?_
  refine RBS rfl rfl rfl (nI (q + 1 + 1)) (by rw [wrap_i64 (by omega) (by omega)]; exact congrArg (Value.int .i64) (by omega)) ?_
  refine RA rfl ?_
  refine RN ?_
  refine End.normal_then ?_
  refine End.again (q + 1) ?_ ?_ ?_
  ·show _ ≤ _; omega
  ·show _ - _ < _ - _; omega
  ·exact (KC 2 rfl (KC 3 rfl (KC 4 rfl (KC 1000002 rfl (KE 1000003 rfl (congrArg _ (expand_put k (by omega))) KN)))))
 ·obtain rfl : q = 10 := by simp at hc8; omega
  refine A.exit ?_
  refine End.exit_then ?_
  refine End.exit_then ?_
  refine End.exit_here ?_
  refine EN ?_
  refine GS ?_
  refine TF 1 ?_
  refine RS (ok_loadA (s := 1000003) (by decide) Tryz.underlying81 rfl (size81.of (rowV_length _ _)) rfl rfl) ?_
  refine RN ?_
  refine ⟨_, eff_storeA (n := 22) (s := 1000002) (size81.of (rowV_length _ _)) rfl rfl (rowV_one _ _) hBb2 rfl (by first | (simp only [rowV_length]; done) | simp only [rowV_length, List.length_replicate]) (LV 2 rfl (LB 1000003 rfl LN)), ?_⟩
  refine TL ?_
  refine RN ?_
  refine A.ret ?_
  exact End.cell1 (s := 1000002) rfl Tryz.underlying81 rfl (size81.of (rowV_length _ _)) rfl rfl (Le.v (congrArg aggV (cutF_full 176 _)))
end Go.Proofs.YthadcgkcgpinhaaGreatDoor
namespace Go.Proofs.YthadcgkcgpinhaaGreatDoor
open Go Go.RowKit
set_option linter.unusedVariables false

/-- The bytes of a counter's block. -/
def ctrL (s c t : Nat) : List UInt8 := be 4 s ++ be 8 c ++ be 4 t
theorem ctrL_length (s c t : Nat) : (ctrL s c t).length = 16 := by simp [ctrL, be_length]
/-- A block of the key stream. -/
def ksB (k : Sta) (s c t : Nat) : Sta := enc (expand k) (byL (ctrL s c t))
theorem ksB_by {k : Sta} (hk : By k) (s c t : Nat) : By (ksB k s c t) := enc_by (expand_lt hk)
def ksAt (k : Sta) (s c o : Nat) : Nat := ksB k s c (o / 16) (o % 16)
theorem ksAt_lt {k : Sta} (hk : By k) (s c o : Nat) : ksAt k s c o < 256 := ksB_by hk _ _ _ _
def xorG (k : Sta) (s c o : Nat) (F : Nat → Nat) : Nat → Nat := fun i => F i ^^^ ksAt k s c (o + i)
theorem xorG_lt {k : Sta} (hk : By k) (s c o : Nat) {F : Nat → Nat} (hF : ∀ i, F i < 256) (i : Nat) : xorG k s c o F i < 256 := xor_lt _ _ (hF i) (ksB_by hk _ _ _ _)
def xorK (k : Sta) (s c o : Nat) (l : List UInt8) : List UInt8 := (List.range l.length).map fun i => UInt8.ofNat (xorG k s c o (byL l) i)
theorem xorK_length (k : Sta) (s c o : Nat) (l : List UInt8) : (xorK k s c o l).length = l.length := by simp [xorK]
theorem xorK_get {k : Sta} {s c o i : Nat} {l : List UInt8} (h : i < l.length) : (xorK k s c o l)[i]? = some (UInt8.ofNat (xorG k s c o (byL l) i)) := by simp [xorK, h]
theorem ofNat_byte {n : Nat} (h : n < 256) : byteV (UInt8.ofNat n) = .int .u8 ((n : Nat) : Int) := by
  unfold byteV
  rw [UInt8.toNat_ofNat', Nat.mod_eq_of_lt h]
theorem xorK_row {k : Sta} (hk : By k) (s c o : Nat) (l : List UInt8) {n : Nat} (hn : l.length = n) : (xorK k s c o l).map byteV = rowV n (xorG k s c o (byL l)) := by
  subst hn
  unfold xorK rowV
  rw [List.map_map]
  exact List.map_congr_left fun i _ => ofNat_byte (xorG_lt hk s c o (byL_lt l) i)
theorem byL_get {l : List UInt8} {i : Nat} (h : i < l.length) : l[i]? = some (UInt8.ofNat (byL l i)) := by
  rw [List.getElem?_eq_getElem h]
  congr 1
  unfold byL
  rw [List.getD_eq_getElem?_getD, List.getElem?_eq_getElem h, Option.getD_some, UInt8.ofNat_toNat]
theorem byL_xorK {k : Sta} (hk : By k) {s c o i : Nat} {l : List UInt8} (h : i < l.length) : byL (xorK k s c o l) i = xorG k s c o (byL l) i := by
  show ((xorK k s c o l).getD i 0).toNat = _
  rw [List.getD_eq_getElem?_getD, xorK_get h, Option.getD_some, UInt8.toNat_ofNat', Nat.mod_eq_of_lt (xorG_lt hk s c o (byL_lt l) i)]
theorem xorK_xorK {k : Sta} (hk : By k) (s c o : Nat) (l : List UInt8) : xorK k s c o (xorK k s c o l) = l := by
  apply List.ext_getElem?
  intro i
  rcases Nat.lt_or_ge i l.length with h | h
  · rw [xorK_get (by rw [xorK_length]; exact h), byL_get h]
    congr 2
    show byL (xorK k s c o l) i ^^^ ksAt k s c (o + i) = byL l i
    rw [byL_xorK hk h]
    show byL l i ^^^ ksAt k s c (o + i) ^^^ ksAt k s c (o + i) = byL l i
    rw [Nat.xor_assoc, Nat.xor_self, Nat.xor_zero]
  · rw [List.getElem?_eq_none (by rw [xorK_length, xorK_length]; exact h), List.getElem?_eq_none h]
/-! ### In blocks: a bytes of the first block are skipped, m bytes there are -/
def dnS (a m i : Nat) : Nat := min m (16 * i - a)
def skS (a i : Nat) : Nat := if i = 0 then a else 0
def rpS (a m i : Nat) : Nat := if dnS a m i = m then dnS a m (i - 1) else dnS a m i
theorem dnS_zero (a m : Nat) : dnS a m 0 = 0 := by unfold dnS; omega
theorem rpS_zero {a m : Nat} (hm : 0 < m) : rpS a m 0 = 0 := by unfold rpS; rw [dnS_zero, if_neg (by omega)]
theorem dnS_lt {a m i : Nat} (hm : 0 < m) (hi : i < (a + m - 1) / 16 + 1) : dnS a m i < m := by unfold dnS; omega
theorem rpS_lt {a m i : Nat} (hm : 0 < m) (hi : i < (a + m - 1) / 16 + 1) : rpS a m i = dnS a m i := by unfold rpS; rw [if_neg (by have := dnS_lt hm hi; omega)]
theorem skS_lt {a : Nat} (ha : a < 16) (i : Nat) : skS a i < 16 := by unfold skS; split <;> omega
theorem dnS_next {a m i : Nat} (ha : a < 16) (hm : 0 < m) (hi : i < (a + m - 1) / 16 + 1) : dnS a m i + min (m - dnS a m i) (16 - skS a i) = dnS a m (i + 1) := by
  unfold dnS skS
  split <;> omega
theorem dnS_end {a m : Nat} (ha : a < 16) (hm : 0 < m) : dnS a m ((a + m - 1) / 16 + 1) = m := by unfold dnS; omega
theorem rpS_next {a m i : Nat} (ha : a < 16) (hm : 0 < m) (hi : i < (a + m - 1) / 16 + 1) : (if m - dnS a m i = min (m - dnS a m i) (16 - skS a i) then dnS a m i else dnS a m i + min (m - dnS a m i) (16 - skS a i)) = rpS a m (i + 1) := by
  have h1 := dnS_next ha hm hi
  have h2 := dnS_lt hm hi
  unfold rpS
  rw [Nat.add_sub_cancel]
  by_cases h : dnS a m (i + 1) = m
  · rw [if_pos h, if_pos (by omega)]
  · rw [if_neg h, if_neg (by omega)]; exact h1
/-- The bytes of one block. -/
theorem xorG_block {k : Sta} {s c o m i j : Nat} {F : Nat → Nat} (hm : 0 < m) (hi : i < (o % 16 + m - 1) / 16 + 1) (hj : j < min (m - dnS (o % 16) m i) (16 - skS (o % 16) i)) :
    F (dnS (o % 16) m i + j) ^^^ ksB k s c (o / 16 + i) (skS (o % 16) i + j) = xorG k s c o F (dnS (o % 16) m i + j) := by
  have h : o + (dnS (o % 16) m i + j) = 16 * (o / 16 + i) + (skS (o % 16) i + j) ∧ skS (o % 16) i + j < 16 := by
    have h1 := dnS_lt hm hi
    have h2 := Nat.div_add_mod o 16
    have h3 := Nat.mod_lt o (show 0 < 16 by decide)
    generalize o % 16 = a at *
    generalize o / 16 = d at *
    unfold dnS skS at *
    split at hj <;> rename_i h0 <;> (first | rw [if_pos h0] | rw [if_neg h0]) <;> constructor <;> omega
  unfold xorG ksAt
  rw [h.1, show (16 * (o / 16 + i) + (skS (o % 16) i + j)) / 16 = o / 16 + i from by omega, show (16 * (o / 16 + i) + (skS (o % 16) i + j)) % 16 = skS (o % 16) i + j from by omega]
theorem skS_zero (a : Nat) : skS a 0 = a := if_pos rfl
theorem skS_succ (a i : Nat) : skS a (i + 1) = 0 := if_neg (Nat.succ_ne_zero i)
theorem copy_row (l : List UInt8) (xs : List Value) (hx : xs.length = l.length) (G : Nat → Nat) : xs.take 0 ++ (l.take l.length).map byteV ++ xs.drop (0 + min l.length l.length) = rowV l.length (mid (byL l) G 0) := by
  rw [← mid_zero, ← rowV_byL rfl, Nat.min_self, Nat.zero_add, List.take_zero, List.nil_append, List.take_length, List.drop_eq_nil_of_le (by omega), List.append_nil]
theorem ctr_flat (s c t : Nat) : [be 4 s, be 8 c, be 4 t].flatten = ctrL s c t := by simp [ctrL]
theorem eq16_all {f g : Sta} (h : (List.range 16).all (fun i => Nat.beq (f i) (g i)) = true) : Eq16 f g := fun i hi => Nat.eq_of_beq_eq_true (List.all_eq_true.1 h i (List.mem_range.2 hi))
theorem K_key (k : Nat → Nat) (r : List Value) : ((rowV 16 k ++ r).drop 0).take 16 = rowV 16 k := by rw [List.drop_zero]; exact List.take_left' (rowV_length _ _)
/-- Bytes out of a row of numbers. -/
def rowL (f : Nat → Nat) (o m : Nat) : List UInt8 := (List.range m).map fun j => UInt8.ofNat (f (o + j))
theorem rowL_length (f : Nat → Nat) (o m : Nat) : (rowL f o m).length = m := by simp [rowL]
theorem rowL_row {n o m : Nat} {f : Nat → Nat} (hf : ∀ i, f i < 256) (h : o + m ≤ n) : ((rowV n f).drop o).take m = (rowL f o m).map byteV := by
  rw [rowV_part (g := fun j => f (o + j)) h (fun _ _ => rfl)]
  unfold rowL rowV
  rw [List.map_map]
  exact List.map_congr_left fun i _ => (ofNat_byte (hf _)).symm
end Go.Proofs.YthadcgkcgpinhaaGreatDoor
namespace Go.Proofs.YthadcgkcgpinhaaGreatDoor
open Go Go.RowKit
variable {κ : Cx}

theorem tup_le2 {d₁ d₂ e₁ e₂ : D} (h₁ : Le d₁ e₁) (h₂ : Le d₂ e₂) : Le (tup [d₁, d₂]) (tup [e₁, e₂]) := by
  rintro B w x ⟨xs, rfl, hl, h⟩
  refine ⟨xs, rfl, hl, fun j e u he hu => ?_⟩
  match j, he with
  | 0, he => simp at he; subst he; exact h₁ _ _ _ (h 0 d₁ u rfl hu)
  | 1, he => simp at he; subst he; exact h₂ _ _ _ (h 1 d₂ u rfl hu)
  | j + 2, he => simp at he
/-- A contract: block g, whose cells are xs, is left with the cells ys, and u is returned; M tells of other memory. -/
structure FnWR (P : Program) (f : FuncId) (M : Env) (T g : Nat) (xs ys : List Value) (ds : List D) (u : Value) : Prop where
  body : ∃ fn, P.funcs[f]? = some fn ∧ (fn.name == "runtime.NumGoroutine") = false ∧ fn.body.isNone = false
  calls : ∀ (vs : List Value) (w : World), vs.length = ds.length → (∀ (j : Nat) (e : D) (u : Value), ds[j]? = some e → vs[j]? = some u → e.Of w u) → (∀ p ∈ M, p.2.Of w undef) → g < w.heap.size → w.heap[g]? = some (.cells xs.toArray T (0, 0)) →
    Calls P f vs.toArray w fun e w' => e = .returned u ∧ Wrote g T g w w' ∧ w'.heap[g]? = some (.cells ys.toArray T (0, 0))
section
variable {P : Program} {n B : Nat} {ops : Array Oper} {E : Env} {ty : TypeId} {pos : String} {after : Array Edge}
theorem eff_callWR {f : FuncId} {M : Env} {T g s dst : Nat} {xs ys : List Value} {ds : List D} {u : Value} {args : Array Operand} {argTypes : Array TypeId} {E' : Env} (hf : FnWR P f M T g xs ys ds u) (hM : ∀ p ∈ M, ∃ k, vbase ≤ k ∧ E.look k = some p.2) 
    (ha : Args E ds args.toList) (hg : B ≤ g) (hblk : E.look s = some (blk g T xs)) (hn : n ≤ vbase) (hdst : dst < n) (hl : LeftS B T g E' E) :
    Eff P n B ops ⟨some dst, .call { callee := .value (.func f), args := args, argTypes := argTypes }, ty, pos, after, none⟩ E ((dst, .v u) :: (s, blk g T ys) :: E') := by
  intro κ a w K Q h hK
  obtain ⟨fn, h1, h2, h3⟩ := hf.body
  have hfun : a.eval (.func f) = .func (.func f) #[] #[] := h.at_ (.func f) _ rfl
  have hrun : (execOp a.eval ⟨some dst, .call { callee := .value (.func f), args := args, argTypes := argTypes }, ty, pos, after, none⟩).run P w = .ok (.enter f (args.map a.eval)) w := by
    have h2' : ¬ fn.name = "runtime.NumGoroutine" := by simpa using h2
    have h3' : ¬ fn.body = none := by intro h; rw [h] at h3; cases h3
    simp [execOp, resolve, Deferred.ofValue, hfun, invoke, callFunc, h1, h2', h3']
  obtain ⟨hlt, hh⟩ := h.of s _ hblk
  have hcall := hf.calls (args.toList.map a.eval) w (by rw [List.length_map, ha.length]) (fun j e u he hu => by
    rw [List.getElem?_map] at hu
    cases hx : args.toList[j]? with
    | none => rw [hx] at hu; cases hu
    | some x =>
      rw [hx] at hu; injection hu with hu; subst hu
      obtain ⟨e', h4, h5⟩ := ha.nth he hx
      exact h5.of (h.at_ x _ h4)) (fun p hp => by
    obtain ⟨k, h4, h5⟩ := hM p hp
    have h6 := h.of k _ h5
    rwa [show a.tmps.getD k undef = undef from by
      rw [Array.getD_eq_getD_getElem?, Array.getElem?_eq_none (by rw [h.size]; omega)]; rfl] at h6) hlt hh
  have harr : (args.toList.map a.eval).toArray = args.map a.eval := by apply Array.ext'; simp
  rw [harr] at hcall
  rw [if_pos (by simp [Region.wanted])]
  refine opR (by nofun) ?_
  unfold Oper.wp
  rw [hrun, Oper.upon_enter]
  refine Calls.mono hcall ?_
  rintro e w' ⟨rfl, hw, hh'⟩
  have hwr : Wrote B T g w w' := ⟨hg, hw.os, hw.tape, hw.output, hw.size, hw.cel, hw.other⟩
  have hst := hl.st h hwr
  have hlt' : g < w'.heap.size := (Array.getElem?_eq_some_iff.1 hh').1
  exact hK _ _ (hwr.below h.base) (St.put (hst.push (d := blk g T ys) ⟨hlt', hh'⟩) hdst rfl)
theorem FnWR.of {f : FuncId} {fn : Func} {c : Code} {M : Env} {T g kb kw : Nat} {xs ys us : List Value} {u : Value} (hf : P.funcs[f]? = some fn) (hb : fn.body = some c) (hname : (fn.name == "runtime.NumGoroutine") = false) (hn : fn.ntmps = n) (hds : us.length ≤ n) (hnv : n ≤ vbase)
    (hMb : ∀ p ∈ M, vbase ≤ p.1) (hkb : vbase ≤ kb) (hkw : vbase ≤ kw) (args : Env) (hargs : ∀ p ∈ args, ∃ v, p.2 = .v v ∧ us[p.1]? = some v)
    (h : ∀ w₀ w₁ : World, w₀.heap.size = g → A Cx.top P w₀ n c (args ++ ((kb, blk g T xs) :: (kw, wroteD T g w₁) :: M)) (BP P fn fun e w' => e = .returned u ∧ Wrote g T g w₁ w' ∧ w'.heap[g]? = some (.cells ys.toArray T (0, 0)))) :
    FnWR P f M T g xs ys (us.map D.v) u := by
  refine ⟨⟨fn, hf, hname, by rw [hb]; rfl⟩, fun vs w hl hv hM hlt hh => ?_⟩
  have hvs : vs = us := by
    apply List.ext_getElem?
    intro j
    simp only [List.length_map] at hl
    rcases Nat.lt_or_ge j us.length with hj | hj
    · have h1 := hv j (.v us[j]) vs[j] (by simp [hj]) (List.getElem?_eq_getElem (by omega))
      rw [List.getElem?_eq_getElem hj, List.getElem?_eq_getElem (by omega)]
      exact congrArg some h1
    · rw [List.getElem?_eq_none hj, List.getElem?_eq_none (by omega)]
  subst hvs
  have hsz := cutW_size (w := w) (g := g) (Nat.le_of_lt hlt)
  refine callsIn_FR.1 (callsIn_of_wp_marks (F := FR none) (n := 0) hf hb trivial (h (cutW w g) w hsz _ w (cutW_below (Nat.le_of_lt hlt)) ⟨by rw [hsz]; omega, rfl, ?_, fun t e he => ?_⟩))
  · simp [hn]; omega
  · show e.Of w ((vs.toArray ++ Array.replicate (fn.ntmps - vs.toArray.size) undef).getD t undef)
    have hund : vbase ≤ t → (vs.toArray ++ Array.replicate (fn.ntmps - vs.toArray.size) undef).getD t undef = undef := fun ht => by
      rw [Array.getD_eq_getD_getElem?, Array.getElem?_eq_none (by simp [hn]; omega)]; rfl
    rcases List.mem_append.1 (look_mem he) with hm | hm
    · obtain ⟨v, h1, h2⟩ := hargs _ hm
      simp only at h1 h2
      have hj : t < vs.length := (List.getElem?_eq_some_iff.1 h2).1
      rw [Array.getD_eq_getD_getElem?, Array.getElem?_append_left (by simpa using hj)]
      subst h1
      simp [h2]; rfl
    · rcases List.mem_cons.1 hm with h1 | hm
      · injection h1 with h1 h2; subst h1; subst h2
        exact ⟨hlt, hh⟩
      · rcases List.mem_cons.1 hm with h1 | hm
        · injection h1 with h1 h2; subst h1; subst h2
          exact ⟨Nat.le_refl _, Nat.le_refl _, rfl, rfl, rfl, Nat.le_refl _, fun o ho => by rw [hh] at ho; injection ho with ho; exact ⟨_, _, ho.symm⟩, fun _ _ _ => rfl⟩
        · have h1 := hMb _ hm
          rw [hund h1]
          exact hM _ hm
theorem End.wroteR {w₀ w₁ : World} {fn : Func} {T g kb kw r : Nat} {xs ys : List Value} {u : Value} {x : Exit} (hex : x = .ret ∨ x = .normal) (hr : fn.results = #[.tmp r]) (he : E.look r = some (.v u)) (hb : E.look kb = some (blk g T xs)) (hx : xs = ys) (hw : E.look kw = some (wroteD T g w₁)) :
    End Cx.top w₀ n E (BP P fn (fun e w' => e = .returned u ∧ Wrote g T g w₁ w' ∧ w'.heap[g]? = some (.cells ys.toArray T (0, 0))) x) := fun a w _ hs => by
  subst hx
  have key : LeavesInM (FR none) 0 P fn a.tmps (fun e w' => e = .returned u ∧ Wrote g T g w₁ w' ∧ w'.heap[g]? = some (.cells xs.toArray T (0, 0))) a.defers .returning w := by
    rw [show a.defers = [] from hs.defers]
    have h1 : a.tmps.getD r undef = u := hs.of r _ he
    exact ⟨a.tmps.getD r undef, by simp [results, hr], by rw [h1], (hs.of kw _ hw).2, (hs.of kb _ hb).2⟩
  rcases hex with rfl | rfl
  · exact key
  · exact key
end

/-! ### Function values that hold two variables of several cells -/
section
variable {P : Program} {n : Nat} {w₀ : World} {E : Env}
/-- return of a variable's value, and of another value. -/
theorem End.cellT {fn : Func} {r s b r' : Nat} {T e : TypeId} {td : TypeDesc} {xs : List Value} {d d' e' : D} (hr : fn.results = #[.cell r T, .tmp r']) (ht : P.underlying T = some td) (hp : (match td with | .struct _ | .array _ _ => true | _ => false) = true) (hsz : SizeIs P T xs.length)
    (h1 : E.look r = some (.v (.pointer (some ⟨b, 0, none⟩)))) (h2 : E.look s = some (blk b e xs)) (hl : Le (.v (aggV xs)) d) (h1' : E.look r' = some e') (hl' : Le e' d') : End Cx.top w₀ n E (BP P fn (PostOf w₀ (tup [d, d'])) .ret) := fun a w g hs => by
  have h3 : a.tmps[r]?.getD undef = .pointer (some ⟨b, 0, none⟩) := by rw [← Array.getD_eq_getD_getElem?]; exact hs.of r _ h1
  obtain ⟨_, hh⟩ := hs.of s _ h2
  have k1 := run_loadVar_row (P := P) w b e T xs.toArray (0, 0) td hh ht hp (by simpa [SizeIs] using hsz)
  refine BP.ret hs.defers ⟨.tuple #[aggV xs, a.tmps.getD r' undef], by simp [results, hr, h3, asAddr, k1, aggV], _, rfl, g, [aggV xs, a.tmps.getD r' undef], rfl, rfl, fun j e u he hu => ?_⟩
  match j, he, hu with
  | 0, he, hu => simp at he hu; subst he; subst hu; exact hl.of rfl
  | 1, he, hu => simp only [List.getElem?_cons_succ, List.getElem?_cons_zero, Option.some.injEq] at he hu; subst he; subst hu; exact hl'.of (hs.of r' _ h1')
  | j + 2, he, _ => simp at he
def closR (base f : Nat) (e₁ : TypeId) (xs : List Value) (e₂ : TypeId) (ys : List Value) : D :=
  .p (fun B w x => ∃ p q, base ≤ p ∧ base ≤ q ∧ p ≠ q ∧ p < B ∧ q < B ∧ x = .func (.func f) #[] #[ptr p, ptr q] ∧ w.heap[p]? = some (.cells xs.toArray e₁ (0, 0)) ∧ w.heap[q]? = some (.cells ys.toArray e₂ (0, 0)))
    (fun _ _ _ _ g ⟨p, q, h1, h2, h3, h4, h5, h6, h7, h8⟩ => ⟨p, q, h1, h2, h3, h4, h5, h6, (g.block p h4).trans h7, (g.block q h5).trans h8⟩)
    (fun _ _ _ _ g ⟨p, q, h1, h2, h3, h4, h5, h6⟩ => ⟨p, q, h1, h2, h3, by omega, by omega, h6⟩)
theorem closR_mono {f : Nat} {e₁ e₂ : TypeId} {xs ys : List Value} (B B' : Nat) (h : B ≤ B') : Le (closR B' f e₁ xs e₂ ys) (closR B f e₁ xs e₂ ys) := fun _ _ _ ⟨p, q, h1, h2, h3⟩ => ⟨p, q, by omega, by omega, h3⟩
theorem End.closR {fn : Func} {r k₁ k₂ p q f : Nat} {e₁ e₂ : TypeId} {xs ys : List Value} {x : Exit} (hx : x = .ret ∨ x = .normal) (hr : fn.results = #[.tmp r]) (hp : w₀.heap.size ≤ p) (hq : w₀.heap.size ≤ q) (hpq : p ≠ q) (ht : E.look r = some (.v (.func (.func f) #[] #[ptr p, ptr q])))
    (h1 : E.look k₁ = some (blk p e₁ xs)) (h2 : E.look k₂ = some (blk q e₂ ys)) : End Cx.top w₀ n E (BP P fn (PostOf w₀ (Go.Proofs.YthadcgkcgpinhaaGreatDoor.closR w₀.heap.size f e₁ xs e₂ ys)) x) := fun a w g hs => by
  obtain ⟨h3, h4⟩ := hs.of k₁ _ h1
  obtain ⟨h5, h6⟩ := hs.of k₂ _ h2
  have key : ∃ v, (results fn a.tmps).run P w = .ok v w ∧ PostOf w₀ (Go.Proofs.YthadcgkcgpinhaaGreatDoor.closR w₀.heap.size f e₁ xs e₂ ys) (.returned v) w :=
    ⟨a.tmps.getD r undef, by simp [results, hr], _, rfl, g, p, q, hp, hq, hpq, h3, h5, hs.of r _ ht, h4, h6⟩
  rcases hx with rfl | rfl
  · exact BP.ret hs.defers key
  · exact BP.ret hs.defers key
theorem A.openClosR {c : Code} {Q : Exit → Act → World → Prop} {t k₁ k₂ f : Nat} {e₁ e₂ : TypeId} {xs ys : List Value} {B : Nat} (ht : E.look t = some (closR B f e₁ xs e₂ ys))
    (h : ∀ p q, B ≤ p → B ≤ q → p ≠ q → A κ P w₀ n c ((t, .v (.func (.func f) #[] #[ptr p, ptr q])) :: (k₁, blk p e₁ xs) :: (k₂, blk q e₂ ys) :: E) Q) : A κ P w₀ n c E Q := fun a w g hs => by
  obtain ⟨p, q, h1, h2, h3, h4, h5, h6, h7, h8⟩ := hs.of t _ ht
  exact h p q h1 h2 h3 a w g (((hs.push (t := k₂) (d := blk q e₂ ys) ⟨h5, h8⟩).push (t := k₁) (d := blk p e₁ xs) ⟨h4, h7⟩).push (d := .v _) h6)
/-- A slice that came in gets a name: of its value something is known in memory. -/
def valM (v : Value) (d : D) : D := .p (fun B w _ => d.OfB B w v) (fun _ _ _ _ g h => h.keep g) (fun _ _ _ _ g h => h.up g)
end
section
variable {P : Program} {B : Nat} {E : Env} {dst : Option Tmp} {ty : TypeId} {pos : String} {after : Array Edge} {guard : Option (Nat × Bool)}
/-- What a value means in memory that is known. -/
theorem OpOk.fact {o : Oper} {v : Value} {d : D} {s b : Nat} {e : TypeId} {xs : List Value} (h : OpOk P B o E (.v v)) (hs : vbase ≤ s) (hk : E.look s = some (blk b e xs)) (hd : ∀ B w, b < B → w.heap[b]? = some (.cells xs.toArray e (0, 0)) → d.OfB B w v) : OpOk P B o E d := fun ρ w hB hv hρ => by
  refine (h ρ w hB hv hρ).mono fun x w' hx => ⟨hx.1, ?_⟩
  obtain ⟨h1, h2⟩ := (hv s _ hs hk : (blk b e xs).Of w undef)
  have h3 : (blk b e xs).Of w' undef := D.Of.grow (d := blk b e xs) ⟨h1, h2⟩ hx.1
  obtain ⟨h4, h5⟩ := h3
  rw [show x = v from hx.2]
  exact hd _ _ h4 h5
theorem slice_byt {b o n c : Nat} {e : TypeId} {xs : List Value} (l : List UInt8) (hn : n = l.length) (hc : n ≤ c) (hm : c ≤ maxLen) (hl : (xs.drop o).take n = l.map byteV) (B : Nat) (w : World) (hb : b < B) (hh : w.heap[b]? = some (.cells xs.toArray e (0, 0))) : (byt l).OfB B w (.slice (some ⟨b, o, none⟩) n c) := by
  subst hn
  refine ⟨c, bytes_mk hc hm fun j u hu => ?_⟩
  rw [← hl, List.getElem?_take] at hu
  split at hu
  · rw [List.getElem?_drop] at hu
    refine ⟨_, rfl, hb, ?_⟩
    rw [add_lit0]
    simp [World.cell?, hh, hu]
  · cases hu
/-- Two strings, one behind the other. -/
theorem ok_addS {t t' : TypeId} {x y : Operand} {a b : List UInt8} (hx : E.at x = some (str a)) (hy : E.at y = some (str b)) (hl : a.length + b.length ≤ 9223372036854775807) : OpOk P B ⟨dst, .binOp .add t x y t', ty, pos, after, guard⟩ E (str (a ++ b)) := fun ρ w _ _ hρ => by
  have h1 : ρ x = .string ⟨a.toArray⟩ := hρ x (by simp [Op.operands]) _ hx
  have h2 : ρ y = .string ⟨b.toArray⟩ := hρ y (by simp [Op.operands]) _ hy
  have h3 : (⟨a.toArray⟩ ++ ⟨b.toArray⟩ : ByteArray) = ⟨(a ++ b).toArray⟩ := by
    apply ByteArray.ext
    simp [ByteArray.data_append]
  have h4 : ¬ (((⟨a.toArray⟩ : ByteArray).size + (⟨b.toArray⟩ : ByteArray).size : Nat) : Int) > IntKind.i64.max := by
    have e1 : (⟨a.toArray⟩ : ByteArray).size = a.length := by simp [ByteArray.size]
    have e2 : (⟨b.toArray⟩ : ByteArray).size = b.length := by simp [ByteArray.size]
    rw [e1, e2]
    simp only [IntKind.max, IntKind.signed, IntKind.bits]
    simp
    omega
  exact out_val (x := .string ⟨(a ++ b).toArray⟩) (w' := w) (by
    simp only [execOp, h1, h2]
    simp only [binOp, Op.stringOp, if_neg h4, h3, eqGuard, Sem.run_bind, Sem.run_pure]
    simp) ⟨Grow.refl w, rfl⟩
/-- Part of a slice that is told exactly, up to the very end of its room too. -/
theorem ok_sliceE {t e : TypeId} {z : Value} {nb : Nat} {x : Operand} {lo hi mx : Option Operand} {b o len cap l h m : Nat} (ht : P.underlying t = some (.slice e)) (hs : InfoIs P e z nb) (hx : E.at x = some (.v (.slice (some ⟨b, o, none⟩) len cap)))
    (hlo : Bnd E lo l 0) (hhi : (∃ ho k, hi = some ho ∧ E.at ho = some (.v (.int k (h : Int)))) ∨ (hi = none ∧ mx = none ∧ h = len)) (hmx : Bnd E mx m cap) (hlh : l ≤ h) (hhm : h ≤ m) (hml : m ≤ cap) :
    OpOk P B ⟨dst, .slice t x lo hi mx, ty, pos, after, guard⟩ E (.v (.slice (some ⟨b, if m = l then o else o + l, none⟩) (h - l) (m - l))) := fun ρ w _ _ hρ => by
  have h1 : ρ x = _ := hρ x (by simp [Op.operands]) _ hx
  obtain ⟨info, hinfo, _, hsize, _⟩ := hs.get
  have hlo' := hlo.get (ρ := ρ) fun o ho u hu => hρ o (by simp [Op.operands, ho]) _ hu
  have hmx' := hmx.get (ρ := ρ) fun o ho u hu => hρ o (by simp [Op.operands, ho]) _ hu
  have hhi' : (∃ k, hi.map ρ = some (.int k (h : Int))) ∨ (hi.map ρ = none ∧ mx.map ρ = none ∧ h = len) := by
    rcases hhi with ⟨ho, k, rfl, hh⟩ | ⟨rfl, rfl, hh⟩
    · exact .inl ⟨k, by simp [show ρ ho = _ from hρ ho (by simp [Op.operands]) _ hh]⟩
    · exact .inr ⟨rfl, rfl, hh⟩
  have haddr : (if m = l then (⟨b, o, none⟩ : Addr) else (⟨b, o, none⟩ : Addr).add (l * 1)) = ⟨b, if m = l then o else o + l, none⟩ := by
    rw [add_lit0, Nat.mul_one]
    split <;> rfl
  have hr : (Instr.sliceAt t (.slice (some ⟨b, o, none⟩) len cap) (lo.map ρ) (hi.map ρ) (mx.map ρ)).run P w = .ok (.slice (some ⟨b, if m = l then o else o + l, none⟩) (h - l) (m - l)) w := by
    rw [← haddr]
    have hb := sliceBounds_run (P := P) (sl := true) w hlo' hhi' hmx' hlh hhm hml
    simp only [Instr.sliceAt, Instr.slice, Sem.run_bind, run_underlying ht, Result.andThen_ok, hb, sizeOf, typeInfo]
    simp [hinfo, hsize]
    split <;> rfl
  exact out_val (w' := w) (by simp only [execOp, h1, Sem.run_bind, hr, Result.andThen_ok, Sem.run_pure]) ⟨Grow.refl w, rfl⟩
/-- A slice at the head of a block that no one else has, as an array's address. -/
theorem ok_arrayF {t e e' : TypeId} {len m B' : Nat} {x : Operand} {xs : List Value} (ht : P.underlying t = some (.array len e)) (hx : E.at x = some (fresh B' e' xs m)) (hm : len ≤ m) :
    OpOk P B ⟨dst, .sliceToArrayPointer t x, ty, pos, after, guard⟩ E (freshV B' [] e' xs) := fun ρ w _ _ hρ => by
  obtain ⟨b, h1, h2, h3, h4⟩ := hρ x (by simp [Op.operands]) _ hx
  have : ¬ m < len := by omega
  exact out_val (x := .pointer (some ⟨b, 0, none⟩)) (w' := w) (by simp [execOp, h1, Instr.arrayAt, run_underlying ht, this]) ⟨Grow.refl w, b, rfl, h2, (fun _ h => by cases h), h3, h4⟩
/-- A load of the whole of such a block. -/
theorem ok_loadF {T e : TypeId} {td : TypeDesc} {x : Operand} {B' : Nat} {L : List Nat} {xs : List Value} (ht : P.underlying T = some td) (hp : (match td with | .struct _ | .array _ _ => true | _ => false) = true) (hsz : SizeIs P T xs.length)
    (hx : E.at x = some (freshV B' L e xs)) : OpOk P B ⟨dst, .load T x, ty, pos, after, guard⟩ E (.v (aggV xs)) := fun ρ w _ _ hρ => by
  obtain ⟨b, h1, _, _, _, hh⟩ := hρ x (by simp [Op.operands]) _ hx
  have := run_loadVar_row (P := P) w b e T xs.toArray (0, 0) td hh ht hp (by simpa [SizeIs] using hsz)
  exact out_val (w' := w) (by simp [execOp, h1, Instr.loadAt, Instr.sureAddr, this, aggV]) ⟨Grow.refl w, rfl⟩
/-- append to a slice of bytes that has no room: a new row of the call's own. -/
theorem ok_appendFull {t e : TypeId} {z : Value} {nb : Nat} {r x : Operand} {f g : D} {l m : List UInt8} (ht : P.underlying t = some (.slice e)) (hinfo : InfoIs P e z nb) (hnb : nb ≤ 64) (hz1 : z.cells.size = 1)
    (hr : E.at r = some g) (hg : Le g (bytes l l.length)) (hx : E.at x = some f) (hf : Le f (byt m)) (hl : 0 < l.length) (hpos : 0 < m.length) (hk : l.length + m.length ≤ 1099511627776) :
    OpOk P B ⟨dst, .call { callee := .builtin .append, args := #[r, x], argTypes := #[t, t] }, ty, pos, after, guard⟩ E (own B e (l.length + m.length) ((l ++ m).map byteV)) := fun ρ w hB hv hρ => by
  obtain ⟨i, hi, hz, hs, hby⟩ := hinfo.get
  obtain ⟨A1, hre, _, hlm, hrow1⟩ := bytes_open (l := l) (hg.of (hρ r (by simp [Op.operands, Call.operands]) _ hr))
  obtain ⟨c, hb⟩ := hf.of (hρ x (by simp [Op.operands, Call.operands]) _ hx)
  obtain ⟨A2, hxe, hle, hcm, hrow⟩ := bytes_open (l := m) hb
  have h1 : ∃ a1, A1 = some a1 := by
    cases l with
    | nil => simp at hl
    | cons b l => obtain ⟨ad, h, _⟩ := hrow1 0 (byteV b) rfl; exact ⟨ad, h⟩
  have h2 : ∃ a2, A2 = some a2 := by
    cases m with
    | nil => simp at hpos
    | cons b l => obtain ⟨ad, h, _⟩ := hrow 0 (byteV b) rfl; exact ⟨ad, h⟩
  obtain ⟨a1, rfl⟩ := h1
  obtain ⟨a2, rfl⟩ := h2
  have hbb : (l.length + m.length) * i.bytes ≤ (l.length + m.length) * 64 := Nat.mul_le_mul_left _ (by omega)
  obtain ⟨v', w', h2, h3, h4⟩ := run_append_arg_grows (P := P) w t ty e i z 1 i.bytes ht hi hz hs rfl hz1 (by omega) a1 l.length l.length (l.map byteV) (by simp) hrow1.cell a2 m.length c (m.map byteV) (by simp) hrow.cell (by omega) (by simp only [maxLen]; omega) (by omega)
  refine out_val (x := v') (w' := w') (by simp [execOp, resolve, invoke, builtin, hre, hxe, h2]) ⟨(Below.refl w.heap.size w).grown h4 (Nat.le_refl _) (fun g hg => by cases hg), ?_⟩
  rw [List.map_append]
  refine ⟨⟨h3.1, h3.2.imp id ?_⟩, fun g hg => ?_⟩
  · rintro ⟨g, cap, cur, h5, h6, h7⟩; exact ⟨g, cap, cur, h5, by omega, h7⟩
  · rcases h3.2 with ⟨hv', _⟩ | ⟨g', cap, cur, hv', _, hh', _⟩
    · rw [hv'] at hg; simp [Value.ownBlock] at hg
    · rw [hv'] at hg; simp [Value.ownBlock] at hg; subst hg
      rcases Nat.lt_or_ge g' w'.heap.size with h | h
      · exact h
      · rw [Array.getElem?_eq_none h] at hh'; cases hh'
end
end Go.Proofs.YthadcgkcgpinhaaGreatDoor
namespace Go.Proofs.YthadcgkcgpinhaaGreatDoor
open Go Go.RowKit Go.ChangeShapes Go.WideShapes

def flatFs (F : TypeId → Option (List IntKind)) : List Field → Nat → Option (List IntKind)
  | [], _ => some []
  | f :: r, o => match F f.type with
    | none => none
    | some ks => if f.offset = o ∧ f.name ≠ "_" then (flatFs F r (o + ks.length)).map (ks ++ ·) else none
/-- The kinds of a type's cells, where it is made of integers, arrays and structs alone. -/
def flat (P : Program) : Nat → TypeId → Option (List IntKind)
  | 0, _ => none
  | n + 1, t => if P.cellsOf t = 0 then none else match P.underlying t with
    | some (.int k) => if P.cellsOf t = 1 then some [k] else none
    | some (.array len e) => match flat P n e with
      | none => none
      | some ks => if P.cellsOf t = len * ks.length then some (List.replicate len ks).flatten else none
    | some (.struct fs) => match flatFs (flat P n) fs.toList 0 with
      | none => none
      | some ks => if P.cellsOf t = ks.length ∧ P.stoodInHeld t = false then some ks else none
    | _ => none
def isAggT (P : Program) (t : TypeId) : Bool := match P.underlying t with | some (.struct _) => true | some (.array _ _) => true | _ => false
def packT (P : Program) (t : TypeId) (xs : List Value) : Value := if isAggT P t then .agg xs.toArray else xs.headD undef
/-- Cells of these kinds, of whose numbers Q holds. -/
def Kin (Q : IntKind → Int → Prop) (ks : List IntKind) (xs : List Value) : Prop := xs.length = ks.length ∧ ∀ (i : Nat) (k : IntKind), ks[i]? = some k → ∃ n, xs[i]? = some (.int k n) ∧ Q k n
section
variable {Q : IntKind → Int → Prop}
theorem Kin.nil {xs : List Value} (h : Kin Q [] xs) : xs = [] := List.eq_nil_of_length_eq_zero h.1
theorem Kin.one {k : IntKind} {xs : List Value} (h : Kin Q [k] xs) : ∃ n, xs = [.int k n] ∧ Q k n := by
  obtain ⟨n, h1, h2⟩ := h.2 0 k rfl
  refine ⟨n, ?_, h2⟩
  have hl : xs.length = 1 := h.1
  match xs, hl, h1 with
  | [x], _, h1 => simp at h1; rw [h1]
theorem Kin.split {a b : List IntKind} {xs : List Value} (h : Kin Q (a ++ b) xs) : Kin Q a (xs.take a.length) ∧ Kin Q b (xs.drop a.length) := by
  have hl : xs.length = a.length + b.length := by simpa using h.1
  refine ⟨⟨by simp; omega, fun i k hk => ?_⟩, ⟨by simp; omega, fun i k hk => ?_⟩⟩
  · have hi : i < a.length := (List.getElem?_eq_some_iff.1 hk).1
    obtain ⟨n, h1, h2⟩ := h.2 i k (by rw [List.getElem?_append_left hi]; exact hk)
    exact ⟨n, by rw [List.getElem?_take, if_pos hi]; exact h1, h2⟩
  · obtain ⟨n, h1, h2⟩ := h.2 (a.length + i) k (by rw [List.getElem?_append_right (by omega), Nat.add_sub_cancel_left]; exact hk)
    exact ⟨n, by rw [List.getElem?_drop]; exact h1, h2⟩
theorem Kin.join {a b : List IntKind} {xs ys : List Value} (h : Kin Q a xs) (h' : Kin Q b ys) : Kin Q (a ++ b) (xs ++ ys) := by
  refine ⟨by simp [h.1, h'.1], fun i k hk => ?_⟩
  rcases Nat.lt_or_ge i a.length with hi | hi
  · rw [List.getElem?_append_left hi] at hk
    rw [List.getElem?_append_left (by rw [h.1]; exact hi)]
    exact h.2 i k hk
  · rw [List.getElem?_append_right hi] at hk
    rw [List.getElem?_append_right (by rw [h.1]; exact hi), h.1]
    exact h'.2 _ k hk
theorem Kin.append {a b : List IntKind} {xs : List Value} (h : Kin Q (a ++ b) xs) : ∃ x y, xs = x ++ y ∧ Kin Q a x ∧ Kin Q b y :=
  ⟨_, _, (List.take_append_drop a.length xs).symm, h.split.1, h.split.2⟩
theorem Kin.cons {k : IntKind} {b : List IntKind} {xs : List Value} (h : Kin Q (k :: b) xs) : ∃ n y, xs = .int k n :: y ∧ Q k n ∧ Kin Q b y := by
  obtain ⟨x, y, rfl, h1, h2⟩ := Kin.append (a := [k]) h
  obtain ⟨n, rfl, h3⟩ := h1.one
  exact ⟨n, y, rfl, h3, h2⟩
theorem Kin.mono {R : IntKind → Int → Prop} {ks : List IntKind} {xs : List Value} (h : Kin Q ks xs) (hq : ∀ k n, Q k n → R k n) : Kin R ks xs :=
  ⟨h.1, fun i k hk => by obtain ⟨n, h1, h2⟩ := h.2 i k hk; exact ⟨n, h1, hq _ _ h2⟩⟩
theorem Kin.rep {ks : List IntKind} : ∀ {n : Nat} {xs : List Value}, Kin Q (List.replicate n ks).flatten xs → ∀ i, i < n → Kin Q ks ((xs.drop (i * ks.length)).take ks.length)
  | 0, _, _, i, hi => by omega
  | n + 1, xs, h, 0, _ => by
    rw [List.replicate_succ, List.flatten_cons] at h
    simpa using h.split.1
  | n + 1, xs, h, i + 1, hi => by
    rw [List.replicate_succ, List.flatten_cons] at h
    have := Kin.rep h.split.2 i (by omega)
    rwa [List.drop_drop, show ks.length + i * ks.length = (i + 1) * ks.length from by rw [Nat.succ_mul]; omega] at this
end
theorem rep_length {ks : List IntKind} (n : Nat) : (List.replicate n ks).flatten.length = n * ks.length := by
  induction n with
  | zero => simp
  | succ n ih => rw [List.replicate_succ, List.flatten_cons, List.length_append, ih, Nat.succ_mul]; omega
section
variable {P : Program}
theorem flat_cells : ∀ {n : Nat} {t : TypeId} {ks : List IntKind}, flat P n t = some ks → P.cellsOf t = ks.length ∧ 0 < ks.length := by
  intro n t ks h
  cases n with
  | zero => cases h
  | succ n =>
    unfold flat at h
    split at h
    · cases h
    · rename_i h0
      have hk : P.cellsOf t = ks.length := by
        split at h
        · split at h
          · rename_i h1; injection h with h; subst h; exact h1
          · cases h
        · split at h
          · cases h
          · split at h
            · rename_i h1; injection h with h; subst h; rw [h1, rep_length]
            · cases h
        · split at h
          · cases h
          · split at h
            · rename_i h1; injection h with h; subst h; exact h1.1
            · cases h
        · cases h
      exact ⟨hk, by omega⟩
theorem info_of_cells {t : TypeId} (h : 0 < P.cellsOf t) : ∃ i, P.info? t = some i := by
  unfold Program.cellsOf at h
  cases hi : P.info? t with
  | none => rw [hi] at h; simp at h
  | some i => exact ⟨i, rfl⟩
theorem run_isAgg {t : TypeId} {td : TypeDesc} (h : P.underlying t = some td) (w : World) : (isAgg t).run P w = .ok (isAggT P t) w := by
  unfold isAgg isAggT
  rw [Sem.run_bind, run_underlying h w, h]
  cases td <;> simp
theorem flat_under {n : Nat} {t : TypeId} {ks : List IntKind} (h : flat P n t = some ks) : ∃ td, P.underlying t = some td := by
  cases n with
  | zero => cases h
  | succ n =>
    unfold flat at h
    split at h
    · cases h
    · cases hu : P.underlying t with
      | none => rw [hu] at h; cases h
      | some td => exact ⟨td, rfl⟩
/-- A part of an aggregate. -/
theorem flat_part {n : Nat} {t : TypeId} {ks : List IntKind} (h : flat P n t = some ks) (zs : List Value) (o : Nat) (ho : o + ks.length ≤ zs.length) (w : World) : (part t zs.toArray o).run P w = .ok (packT P t ((zs.drop o).take ks.length)) w := by
  obtain ⟨td, hu⟩ := flat_under h
  obtain ⟨hc, hp⟩ := flat_cells h
  obtain ⟨i, hi⟩ := info_of_cells (P := P) (t := t) (by omega)
  simp only [part, Sem.run_bind, run_isAgg hu, Result.andThen_ok]
  unfold packT
  cases hb : isAggT P t with
  | true =>
    simp only [if_true, Sem.run_bind, run_sizeOf w hi, Result.andThen_ok, hc]
    simp
  | false =>
    have hlt : o < zs.length := by omega
    have : ((zs.drop o).take ks.length).headD undef = zs[o] := by
      rw [List.drop_eq_getElem_cons hlt]
      obtain ⟨m, hm⟩ : ∃ m, ks.length = m + 1 := ⟨ks.length - 1, by omega⟩
      rw [hm]
      rfl
    rw [if_neg (by simp), if_neg (by simp), this]
    simp [hlt]
theorem two_parts {xs ys : List Value} {o a b : Nat} (hx : o + (a + b) ≤ xs.length) (hy : o + (a + b) ≤ ys.length) :
    (xs.drop o).take (a + b) = (ys.drop o).take (a + b) ↔ (xs.drop o).take a = (ys.drop o).take a ∧ (xs.drop (o + a)).take b = (ys.drop (o + a)).take b := by
  rw [List.take_add, List.take_add, List.drop_drop, List.drop_drop]
  constructor
  · intro h
    exact List.append_inj h (by simp; omega)
  · rintro ⟨h1, h2⟩
    rw [h1, h2]
/-- Equality of values of such a type. -/
theorem flat_eq : ∀ (n : Nat) {t : TypeId} {ks : List IntKind}, flat P n t = some ks → ∀ (d : Nat) (w : World) (xs ys : List Value), Kin (fun _ _ => True) ks xs → Kin (fun _ _ => True) ks ys →
    ∃ r : Bool, (Op.equalIn (d + n) t (packT P t xs) (packT P t ys)).run P w = .ok r w ∧ (r = true ↔ xs = ys) := by
  intro n
  induction n with
  | zero => intro t ks h; cases h
  | succ n ih =>
    intro t ks h d w xs ys hx hy
    have hks := flat_cells h
    unfold flat at h
    split at h
    · cases h
    · split at h
      · rename_i k hu
        split at h
        · injection h with h; subst h
          obtain ⟨a, rfl, _⟩ := hx.one
          obtain ⟨b, rfl, _⟩ := hy.one
          have hg : isAggT P t = false := by unfold isAggT; rw [hu]
          refine ⟨a == b, ?_, by simp⟩
          unfold packT
          rw [hg]
          exact run_equalIn_int w (d + n) t k k a b hu
        · cases h
      · rename_i len e hu
        split at h
        · cases h
        · rename_i ks' hf
          split at h
          · injection h with h; subst h
            have hg : isAggT P t = true := by unfold isAggT; rw [hu]
            obtain ⟨hc, hp⟩ := flat_cells hf
            obtain ⟨i, hi⟩ := info_of_cells (P := P) (t := e) (by omega)
            unfold packT
            rw [hg, if_pos rfl, if_pos rfl, ← Nat.add_assoc, run_equalIn_array (w := w) (d + n) xs.toArray ys.toArray hu hi, hc]
            have hxl : xs.length = len * ks'.length := by rw [hx.1, rep_length]
            have hyl : ys.length = len * ks'.length := by rw [hy.1, rep_length]
            have key : ∀ is : List Nat, (∀ i ∈ is, i < len) → ∃ r : Bool, (Op.eqItems (d + n) e ks'.length xs.toArray ys.toArray is).run P w = .ok r w ∧ (r = true ↔ ∀ i ∈ is, (xs.drop (i * ks'.length)).take ks'.length = (ys.drop (i * ks'.length)).take ks'.length) := by
              intro is
              induction is with
              | nil => intro _; exact ⟨true, by simp [Op.eqItems], by simp⟩
              | cons j is ihs =>
                intro hj
                have hjl := hj j List.mem_cons_self
                have hb : j * ks'.length + ks'.length ≤ len * ks'.length := by
                  rw [← Nat.succ_mul]; exact Nat.mul_le_mul_right _ hjl
                obtain ⟨r, hr, hri⟩ := ihs fun i hi => hj i (List.mem_cons_of_mem _ hi)
                obtain ⟨r', hr', hri'⟩ := ih hf d w _ _ (hx.rep j hjl) (hy.rep j hjl)
                simp only [Op.eqItems, Sem.run_bind, flat_part hf xs (j * ks'.length) (by omega) w, flat_part hf ys (j * ks'.length) (by omega) w, Result.andThen_ok, hr']
                cases r' with
                | true => exact ⟨r, by simpa using hr, by simp [hri, hri'.1 rfl]⟩
                | false => exact ⟨false, by simp, by simpa using fun h => absurd (hri'.2 h) (by simp)⟩
            obtain ⟨r, hr, hri⟩ := key (List.range len) fun i hi => List.mem_range.1 hi
            refine ⟨r, hr, hri.trans ⟨fun h => ?_, fun h => by subst h; exact fun _ _ => rfl⟩⟩
            apply List.ext_getElem?
            intro j
            rcases Nat.lt_or_ge j (len * ks'.length) with hj | hj
            · have h1 := h (j / ks'.length) (List.mem_range.2 ((Nat.div_lt_iff_lt_mul hp).2 hj))
              have h2 := congrArg (·[j % ks'.length]?) h1
              simp only [List.getElem?_take, if_pos (Nat.mod_lt _ hp), List.getElem?_drop] at h2
              rwa [Nat.mul_comm, Nat.div_add_mod] at h2
            · rw [List.getElem?_eq_none (by omega), List.getElem?_eq_none (by omega)]
          · cases h
      · rename_i fs hu
        split at h
        · cases h
        · rename_i ks' hf
          split at h
          · rename_i hst
            injection h with h; subst h
            have hg : isAggT P t = true := by unfold isAggT; rw [hu]
            have hfo : P.fieldsOf t = fs := by unfold Program.fieldsOf; rw [hu]
            unfold packT
            rw [hg, if_pos rfl, if_pos rfl, ← Nat.add_assoc, run_equalIn_struct w (d + n) t xs.toArray ys.toArray (by rw [hfo]; exact hu) hst.2, hfo]
            have key : ∀ (l : List Field) (o : Nat) (kz : List IntKind), flatFs (flat P n) l o = some kz → ∀ ka : List IntKind, Kin (fun _ _ => True) (ka ++ kz) xs → Kin (fun _ _ => True) (ka ++ kz) ys → ka.length = o →
                ∃ r : Bool, (Op.eqFields (d + n) xs.toArray ys.toArray l).run P w = .ok r w ∧ (r = true ↔ (xs.drop o).take kz.length = (ys.drop o).take kz.length) := by
              intro l
              induction l with
              | nil =>
                intro o kz hl ka _ _ _
                unfold flatFs at hl
                injection hl with hl; subst hl
                exact ⟨true, by simp [Op.eqFields], by simp⟩
              | cons f l ihl =>
                intro o kz hl ka hxa hya ho
                unfold flatFs at hl
                split at hl
                · cases hl
                · rename_i kf hff
                  split at hl
                  · rename_i hfn
                    obtain ⟨kr, hr, rfl⟩ := Option.map_eq_some_iff.1 hl
                    have lx : xs.length = o + (kf.length + kr.length) := by rw [hxa.1]; simp; omega
                    have ly : ys.length = o + (kf.length + kr.length) := by rw [hya.1]; simp; omega
                    obtain ⟨r, h1, h2⟩ := ihl (o + kf.length) kr hr (ka ++ kf) (by rw [List.append_assoc]; exact hxa) (by rw [List.append_assoc]; exact hya) (by simp; omega)
                    have kx := hxa.split.2.split.1
                    have ky := hya.split.2.split.1
                    rw [ho] at kx ky
                    obtain ⟨r', h3, h4⟩ := ih hff d w _ _ kx ky
                    simp only [Op.eqFields, if_pos hfn.2, Sem.run_bind, hfn.1, flat_part hff xs o (by omega) w, flat_part hff ys o (by omega) w, Result.andThen_ok, h3]
                    rw [List.length_append, two_parts (by omega) (by omega)]
                    cases r' with
                    | true => exact ⟨r, by simpa using h1, by simp [h2, h4.1 rfl]⟩
                    | false => exact ⟨false, by simp, by simpa using fun h => absurd (h4.2 h) (by simp)⟩
                  · cases hl
            obtain ⟨r, h1, h2⟩ := key fs.toList 0 ks' hf [] hx hy rfl
            refine ⟨r, h1, ?_⟩
            rwa [List.drop_zero, List.drop_zero, List.take_of_length_le (Nat.le_of_eq hx.1), List.take_of_length_le (Nat.le_of_eq hy.1)] at h2
          · cases h
      · cases h
variable {B : Nat} {E : Env} {dst : Option Tmp} {ty : TypeId} {pos : String} {after : Array Edge} {guard : Option (Nat × Bool)}
theorem equal_flat {t : TypeId} {ks : List IntKind} (n : Nat) (hf : flat P n t = some ks) (hn : n ≤ 10000) (hg : isAggT P t = true) {xs ys : List Value} (hx : Kin (fun _ _ => True) ks xs) (hy : Kin (fun _ _ => True) ks ys) (b : Bool) (hb : b = true ↔ xs = ys) (w : World) :
    (Op.equalIn 10000 t (.agg xs.toArray) (.agg ys.toArray)).run P w = .ok b w := by
  obtain ⟨r, hr, hri⟩ := flat_eq (P := P) n hf (10000 - n) w xs ys hx hy
  unfold packT at hr
  rw [hg, if_pos rfl, if_pos rfl, Nat.sub_add_cancel hn] at hr
  have : r = b := by
    rw [← hb] at hri
    cases r <;> cases b <;> simp_all
  rw [← this]; exact hr
/-- Two values of such a type that have several cells: whether they are equal. -/
theorem ok_eqlT {t t' : TypeId} {ks : List IntKind} {x y : Operand} {xs ys : List Value} (n : Nat) (b : Bool) (hf : flat P n t = some ks) (hn : n ≤ 10000) (hg : isAggT P t = true) (hm : P.eqGuardType P.depth t = false) (hx : E.at x = some (.v (aggV xs))) (hy : E.at y = some (.v (aggV ys)))
    (hkx : Kin (fun _ _ => True) ks xs) (hky : Kin (fun _ _ => True) ks ys) (hb : b = true ↔ xs = ys) : OpOk P B ⟨dst, .binOp .eql t x y t', ty, pos, after, guard⟩ E (.v (.bool b)) := fun ρ w _ _ hρ => by
  have h1 : ρ x = .agg xs.toArray := hρ x (by simp [Op.operands]) _ hx
  have h2 : ρ y = .agg ys.toArray := hρ y (by simp [Op.operands]) _ hy
  have := equal_flat (P := P) n hf hn hg hkx hky b hb w
  exact out_val (w' := w) (by simp [execOp, h1, h2, Sem.run_bind, run_eqGuard_agg, hm, run_eql_struct, this]) ⟨Grow.refl w, rfl⟩
theorem ok_neqT {t t' : TypeId} {ks : List IntKind} {x y : Operand} {xs ys : List Value} (n : Nat) (b : Bool) (hf : flat P n t = some ks) (hn : n ≤ 10000) (hg : isAggT P t = true) (hm : P.eqGuardType P.depth t = false) (hx : E.at x = some (.v (aggV xs))) (hy : E.at y = some (.v (aggV ys)))
    (hkx : Kin (fun _ _ => True) ks xs) (hky : Kin (fun _ _ => True) ks ys) (hb : b = true ↔ xs = ys) : OpOk P B ⟨dst, .binOp .neq t x y t', ty, pos, after, guard⟩ E (.v (.bool (!b))) := fun ρ w _ _ hρ => by
  have h1 : ρ x = .agg xs.toArray := hρ x (by simp [Op.operands]) _ hx
  have h2 : ρ y = .agg ys.toArray := hρ y (by simp [Op.operands]) _ hy
  have := equal_flat (P := P) n hf hn hg hkx hky b hb w
  exact out_val (w' := w) (by simp [execOp, h1, h2, Sem.run_bind, run_eqGuard_agg, hm, run_neq_struct, this]) ⟨Grow.refl w, rfl⟩
end
theorem kin_nil : Kin (fun _ _ => True) [] [] := ⟨rfl, fun i k h => by simp at h⟩
theorem kin_cons {k : IntKind} {n : Int} {ks : List IntKind} {xs : List Value} (h : Kin (fun _ _ => True) ks xs) : Kin (fun _ _ => True) (k :: ks) (.int k n :: xs) :=
  Kin.join (a := [k]) (xs := [.int k n]) ⟨rfl, fun i k' h' => by
    match i, h' with
    | 0, h' => simp at h'; subst h'; exact ⟨n, rfl, trivial⟩
    | i + 1, h' => simp at h'⟩ h

/-! ### Parameters -/
section
variable {H : Type} {enc : TypeId × Value → H} {P : Program} {w : World} {base : Nat} {spare : Nat → Bool} {held : Bool}
theorem trod_flat : ∀ (n : Nat) {t : TypeId} {ks : List IntKind}, flat P n t = some ks → ∀ {fuel : Nat} {cs : List Value} {x : DataW H × List MemPlace}, DataW.trod enc P w base spare held fuel t cs = some x → Kin (fun k m => (Lit.int k m).wf = true) ks cs := by
  intro n
  induction n with
  | zero => intro t ks h; cases h
  | succ n ih =>
    intro t ks h fuel cs x ht
    have hks := flat_cells h
    unfold flat at h
    split at h
    · cases h
    · split at h
      · rename_i k hu
        split at h
        · injection h with h; subst h
          obtain ⟨a, rfl, _, h3⟩ := DataW.trod_int hu ht
          exact ⟨rfl, fun i k' hk => by
            match i, hk with
            | 0, hk => simp at hk; subst hk; exact ⟨a, rfl, h3⟩
            | i + 1, hk => simp at hk⟩
        · cases h
      · rename_i len e hu
        split at h
        · cases h
        · rename_i ks' hf
          split at h
          · injection h with h; subst h
            obtain ⟨xs, m, _, _, hlen, hxl, hel⟩ := DataW.trod_array hu ht
            obtain ⟨hc, hp⟩ := flat_cells hf
            have hl : cs.length = len * ks'.length := by rw [hlen, hks.1, rep_length]
            refine ⟨by rw [hl, rep_length], fun i k hk => ?_⟩
            have hi : i < len * ks'.length := by rw [← rep_length]; exact (List.getElem?_eq_some_iff.1 hk).1
            have hj : i / ks'.length < len := (Nat.div_lt_iff_lt_mul hp).2 hi
            have h1 := hel (i / ks'.length) hj
            rw [List.getElem?_eq_getElem (by omega), hc] at h1
            have h2 := ih hf h1
            have hr : ∀ (m j : Nat), j < m * ks'.length → (List.replicate m ks').flatten[j]? = ks'[j % ks'.length]? := by
              intro m
              induction m with
              | zero => intro j hj; simp at hj
              | succ m ihm =>
                intro j hj
                rw [List.replicate_succ, List.flatten_cons]
                rcases Nat.lt_or_ge j ks'.length with h | h
                · rw [List.getElem?_append_left h, Nat.mod_eq_of_lt h]
                · rw [List.getElem?_append_right h, ihm _ (by rw [Nat.succ_mul] at hj; omega), Nat.mod_eq_sub_mod h]
            rw [hr len i hi] at hk
            obtain ⟨a, h3, h4⟩ := h2.2 _ k hk
            refine ⟨a, ?_, h4⟩
            rw [List.getElem?_take, if_pos (Nat.mod_lt _ hp), List.getElem?_drop, Nat.mul_comm, Nat.div_add_mod] at h3
            exact h3
          · cases h
      · rename_i fs hu
        split at h
        · cases h
        · rename_i ks' hf
          split at h
          · injection h with h; subst h
            obtain ⟨xs, m, _, _, hlen, hxl, hel⟩ := DataW.trod_struct hu ht
            have key : ∀ (l : List Field) (o j : Nat) (kz : List IntKind), flatFs (flat P n) l o = some kz → fs.toList.drop j = l → o + kz.length = cs.length → Kin (fun k m => (Lit.int k m).wf = true) kz (cs.drop o) := by
              intro l
              induction l with
              | nil =>
                intro o j kz hl _ ho
                unfold flatFs at hl
                injection hl with hl; subst hl
                simp only [List.length_nil, Nat.add_zero] at ho
                exact ⟨by simp [ho], fun i k h => by simp at h⟩
              | cons f l ihl =>
                intro o j kz hl hd ho
                unfold flatFs at hl
                split at hl
                · cases hl
                · rename_i kf hff
                  split at hl
                  · rename_i hfn
                    obtain ⟨kr, hr, rfl⟩ := Option.map_eq_some_iff.1 hl
                    simp only [List.length_append] at ho
                    have hj : j < fs.size := by
                      rcases Nat.lt_or_ge j fs.size with h | h
                      · exact h
                      · rw [List.drop_eq_nil_of_le (by simpa using h)] at hd; cases hd
                    have hfj : fs[j]? = some f := by
                      have := congrArg (·[0]?) hd
                      simp only [List.getElem?_drop, Nat.add_zero, List.getElem?_cons_zero] at this
                      simpa using this
                    have h1 := hel j f hfj
                    rw [List.getElem?_eq_getElem (by omega), (flat_cells hff).1, hfn.1] at h1
                    have h2 := ih hff h1
                    have h3 := ihl (o + kf.length) (j + 1) kr hr (by
                      rw [← List.drop_drop, hd]; rfl) (by omega)
                    have : cs.drop o = (cs.drop o).take kf.length ++ cs.drop (o + kf.length) := by
                      rw [← List.drop_drop, List.take_append_drop]
                    rw [this]
                    exact h2.join h3
                  · cases hl
            have := key fs.toList 0 0 ks' hf rfl (by omega)
            simpa using this
          · cases h
      · cases h
theorem okWide_agg {t : TypeId} {v : Value} {r : Reach} {b0 : Nat} (hg : isAggT P t = true) (hk : Value.okWide P w r b0 t v) : ∃ cs, v = .agg cs := by
  unfold isAggT at hg
  split at hg
  · rename_i fs hu
    obtain ⟨cs, rfl, _⟩ := okWide_struct hu hk
    exact ⟨cs, rfl⟩
  · rename_i hu
    exact okWide_arr' hu hk
  · cases hg
/-- A parameter of several cells. -/
theorem arg_flat {t : TypeId} {ks : List IntKind} {v : Value} {d : DataW H} {ps : List MemPlace} (n : Nat) (hf : flat P n t = some ks) (hg : isAggT P t = true) {r : Reach} {b0 : Nat} (hk : Value.okWide P w r b0 t v)
    (h : DataW.Trod enc P w base spare held t v d ps) : ∃ xs, v = aggV xs ∧ Kin (fun k m => (Lit.int k m).wf = true) ks xs := by
  obtain ⟨cs, rfl⟩ := okWide_agg hg hk
  obtain ⟨fuel, hf'⟩ := h
  exact ⟨cs.toList, by simp [aggV], trod_flat n hf hf'⟩
theorem nat_u32 {n : Int} (h : (Lit.int .u32 n).wf = true) : ∃ a : Nat, n = (a : Int) ∧ a < 4294967296 := ⟨n.toNat, by have := bounds_u32 h; omega, by have := bounds_u32 h; omega⟩
theorem nat_u64 {n : Int} (h : (Lit.int .u64 n).wf = true) : ∃ a : Nat, n = (a : Int) ∧ a < 18446744073709551616 := ⟨n.toNat, by have := bounds_u64 h; omega, by have := bounds_u64 h; omega⟩
/-- Cells that are bytes. -/
theorem Kin.bytes : ∀ {m : Nat} {xs : List Value}, Kin (fun k n => (Lit.int k n).wf = true) (List.replicate m .u8) xs → ∃ l : List UInt8, l.length = m ∧ xs = l.map byteV
  | 0, xs, h => ⟨[], rfl, h.nil⟩
  | m + 1, xs, h => by
    rw [List.replicate_succ] at h
    obtain ⟨n, y, rfl, h1, h2⟩ := h.cons
    obtain ⟨l, h3, rfl⟩ := Kin.bytes h2
    exact ⟨UInt8.ofNat n.toNat :: l, by simp [h3], by rw [List.map_cons, ← wf_u8 h1]⟩
end
end Go.Proofs.YthadcgkcgpinhaaGreatDoor
namespace Go.Proofs.YthadcgkcgpinhaaGreatDoor
open Go Go.RowKit
section
variable {P : Program} {B : Nat} {E : Env} {dst : Option Tmp} {ty : TypeId} {pos : String} {after : Array Edge} {guard : Option (Nat × Bool)}
end
end Go.Proofs.YthadcgkcgpinhaaGreatDoor
namespace Go.Proofs.YthadcgkcgpinhaaGreatDoor
open Go Go.RowKit
set_option linter.unusedVariables false
set_option maxRecDepth 20000

theorem zero30 : ZeroIs Tryz.prog 30 ([.int .u32 0] ++ [.int .u64 0]) := by unfold ZeroIs; kernel_rfl
theorem size30 : SizeIs Tryz.prog 30 2 := by unfold SizeIs; kernel_rfl
theorem field30_0 : FieldIs Tryz.prog 30 0 0 1 := by unfold FieldIs; kernel_rfl
theorem field30_1 : FieldIs Tryz.prog 30 1 1 1 := by unfold FieldIs; kernel_rfl
theorem zero95 : ZeroIs Tryz.prog 95 ([.int .u32 0] ++ [.int .u64 0] ++ [.int .u32 0] ++ [.int .u32 0]) := by unfold ZeroIs; kernel_rfl
theorem size95 : SizeIs Tryz.prog 95 4 := by unfold SizeIs; kernel_rfl
theorem field95_0 : FieldIs Tryz.prog 95 0 0 2 := by unfold FieldIs; kernel_rfl
theorem field95_1 : FieldIs Tryz.prog 95 1 2 1 := by unfold FieldIs; kernel_rfl
theorem field95_2 : FieldIs Tryz.prog 95 2 3 1 := by unfold FieldIs; kernel_rfl

theorem kinN (a b : Int) : Kin (fun _ _ => True) [.u32, .u64] [.int .u32 a, .int .u64 b] := kin_cons (kin_cons kin_nil)
theorem byteD_getD {l : List UInt8} {i : Nat} (h : i < l.length) : (l.map byteD)[i]? = some (byteD (l.getD i 0)) := by
 rw [List.getElem?_map, List.getElem?_eq_getElem h, List.getD_eq_getElem?_getD, List.getElem?_eq_getElem h]; rfl
/-- The block that stands behind n bytes. -/
def bst (k : Sta) (s c o n : Nat) : Sta := if n = 0 then fun _ => 0 else ksB k s c ((o + n - 1) / 16)
theorem bst_succ (k : Sta) (s c o n : Nat) : bst k s c o (n + 1) = ksB k s c ((o + n) / 16) := if_neg (Nat.succ_ne_zero n)
theorem bst_keep {k : Sta} {s c o n : Nat} (h : n ≠ 0) (hz : ¬ (o + n) % 16 = 0) : bst k s c o n = ksB k s c ((o + n) / 16) := by
 unfold bst
 rw [if_neg h, show (o + n - 1) / 16 = (o + n) / 16 from by omega]

set_option maxHeartbeats 1000000 in
theorem ref7Block_fn (k : Nat → Nat) (hk : By k) (s c t : Nat) (hs : s < 4294967296) (hc : c < 18446744073709551616) (ht : t < 4294967296) : Fn Tryz.prog 72 [.v (aggV (rowV 16 (k))), .v (aggV ([nW s, nQ c])), .v (nW t)] (.v (aggV (rowV 16 (ksB k s c t)))) := by
 refine Fn.of Tryz.func72 rfl (by kernel_rfl) Tryz.ntmps72 (by simp) (fun w => [(0, .v (aggV (rowV 16 (k)))), (1, .v (aggV ([nW s, nQ c]))), (2, .v (nW t))]) (fun w => (Start.v rfl (Start.v rfl (Start.v rfl Start.nil)))) fun w₀ => ?_
 refine GS ?_
 refine TN 0 ?_
 refine RN ?_
 refine ⟨_, _, eff_box (n := 33) (d := 3) (k := 1000003) rfl (by decide), fun b3 hb3 => ?_⟩
 have hBb3 := hb3.1
 refine TN 1 ?_
 refine RN ?_
 refine ⟨_, _, eff_box (n := 33) (d := 4) (k := 1000004) rfl (by decide), fun b4 hb4 => ?_⟩
 have hBb4 := hb4.1
 refine TN 2 ?_
 refine RN ?_
 refine ⟨_, _, eff_alloc (n := 33) (d := 6) (k := 1000006) zero22 (by decide), fun b6 hb6 => ?_⟩
 have hBb6 := hb6.1
 have hlt_b3_b6 : b3 < b6 := hb6.2 1000003 _ _ _ rfl
 refine TL ?_
 refine RN ?_
 refine GD ?_
 refine TD 9 ?_
 refine RS (ok_field field30_0 (by decide) rfl) ?_
 refine RS (ok_loadV (s := 1000004) (by decide) Tryz.underlying27 rfl rfl rfl (rfl)) ?_
 refine RS (ok_call ((refPut32_fn ((s : Nat) : Int) (by omega) (by omega)).le (d' := bytes (be 4 s) 4) (Le.refl _)) (A1 rfl)) ?_
 refine RS (ok_field field30_1 (by decide) rfl) ?_
 refine RS (ok_loadV (s := 1000004) (by decide) Tryz.underlying28 rfl rfl rfl (rfl)) ?_
 refine RS (ok_call ((refPut64_fn ((c : Nat) : Int) (by omega) (by omega)).le (d' := bytes (be 8 c) 8) (Le.refl _)) (A1 rfl)) ?_
 refine RS ((ok_appendFull (l := be 4 s) (m := be 8 c) Tryz.underlying49 info5 (by decide) rfl rfl (Le.eq (by rw [be_length])) rfl (le_byt _ _) (by rw [be_length]; decide) (by rw [be_length]; decide) (by rw [be_length, be_length]; decide))) ?_
 refine RM rfl ?_
 refine RS (ok_call ((refPut32_fn ((t : Nat) : Int) (by omega) (by omega)).le (d' := bytes (be 4 t) 4) (Le.refl _)) (A1 rfl)) ?_
 refine RN ?_
 refine ⟨_, eff_appendS (vs := (be 4 t).map byteV) Tryz.underlying49 info5 (by decide) rfl rfl rfl ((le_byt _ _).trans (Le.eq (byt_vals _))) (by simp [byteV, Value.oneCell']) (by simp only [List.length_map, be_length]; decide) (by decide) (fun g hg => (LV 3 rfl (LV 6 rfl (LT 1000003 rfl (LT 1000004 rfl (LT 1000006 rfl LN)))))), ?_⟩
 refine TL ?_
 refine RA rfl ?_
 refine RN ?_
 refine GS ?_
 refine TN 0 ?_
 refine RN ?_
 refine ⟨_, _, eff_alloc (n := 33) (d := 8) (k := 1000008) zero22 (by decide), fun b8 hb8 => ?_⟩
 have hBb8 := hb8.1
 have hlt_b3_b8 : b3 < b8 := hb8.2 1000003 _ _ _ rfl
 have hlt_b6_b8 : b6 < b8 := hb8.2 1000006 _ _ _ rfl
 refine TL ?_
 refine RN ?_
 refine A.seq ?_
 refine GS ?_
 refine TL ?_
 refine RA rfl ?_
 refine RN ?_
 refine A.block ?_
 refine A.loop (ι := Nat) (fun i => i ≤ 16) (fun i => [(3, .v (.pointer (some ⟨b3, 0, none⟩))), (6, .v (.pointer (some ⟨b6, 0, none⟩))), (8, .v (.pointer (some ⟨b8, 0, none⟩))), (7, own w₀.heap.size 5 16 ((ctrL s c t).map byteV)), (9, .v (nI i)), (1000003, blk b3 22 (rowV 16 (k))), (1000006, blk b6 22 (List.replicate 16 (.int .u8 0))), (1000008, blk b8 22 (rowV 16 (cutF (byL (ctrL s c t)) i)))]) (fun i => 16 - i) 0 ?_ ?_ ?_
 ·exact Nat.zero_le _
 ·exact (KC 3 rfl (KC 6 rfl (KC 8 rfl (KE 7 rfl (by simp only [be_length, List.length_map, ctrL, List.map_append, Nat.reduceAdd]) (KC 9 rfl (KC 1000003 rfl (KC 1000006 rfl (KE 1000008 rfl (congrArg _ (cutF_zero 16 _)) KN))))))))
 intro i hi'
 refine A.seq ?_
 refine GS ?_
 refine TL ?_
 refine RM rfl ?_
 refine RB rfl rfl rfl ?_
 refine RN ?_
 refine A.cond rfl (fun hc21 => ?_) (fun hc21 => ?_)
 ·have hi : i < 16 := by simp at hc21; omega
  refine A.skip ?_
  refine EN ?_
  refine A.seq ?_
  refine A.block ?_
  refine GE ?_
  refine TF 6 ?_
  refine RM rfl ?_
  refine RM rfl ?_
  refine RM rfl ?_
  refine RS (ok_index (d := byteD ((ctrL s c t).getD i 0)) Tryz.underlying49 info5 rfl (own_cat rfl (ctrL_length s c t).symm) rfl (by omega) (by rw [Int.toNat_natCast, byteD_getD (by rw [ctrL_length]; exact hi)])) ?_
  refine RS (ok_load Tryz.underlying5 rfl rfl) ?_; refine RZ (nB (byL (ctrL s c t) i)) (by rfl) ?_
  refine RS (ok_index0 _ Tryz.underlying22 info5 rfl rfl (rfl) (by omega)) ?_
  refine RN ?_
  refine ⟨_, eff_storeS (n := 33) (s := 1000008) info5 rfl rfl rfl hBb8 rfl (by simp only [rowV_length]; omega) (LV 3 rfl (LV 6 rfl (LeftS.cons (t := 7) rfl (Surv.own (by decide)) (LV 8 rfl (LV 9 rfl (LB 1000003 rfl (LB 1000006 rfl LN))))))), ?_⟩
  refine TL ?_
  refine RN ?_
  refine End.normal_block ?_
  refine EN ?_
  refine GE ?_
  refine TL ?_
  refine RM rfl ?_
  refine RBS rfl rfl rfl (nI (i + 1)) (by rw [wrap_i64 (by omega) (by omega)]; exact congrArg (Value.int .i64) (by omega)) ?_
  refine RA rfl ?_
  refine RN ?_
  refine End.normal_then ?_
  refine End.again (i + 1) ?_ ?_ ?_
  ·show _ ≤ _; omega
  ·show _ - _ < _ - _; omega
  ·exact (KC 3 rfl (KC 6 rfl (KC 8 rfl (KC 7 rfl (KC 9 rfl (KC 1000003 rfl (KC 1000006 rfl (KE 1000008 rfl (congrArg _ (cutF_set rfl rfl)) KN))))))))
 ·obtain rfl : i = 16 := by simp at hc21; omega
  refine A.exit ?_
  refine End.exit_then ?_
  refine End.exit_then ?_
  refine End.exit_here ?_
  refine EN ?_
  refine GS ?_
  refine TF 3 ?_
  refine RS (ok_loadA (s := 1000003) (by decide) Tryz.underlying22 rfl (size22.of (rowV_length _ _)) rfl rfl) ?_
  refine RS (ok_loadA (s := 1000008) (by decide) Tryz.underlying22 rfl (size22.of (rowV_length _ _)) rfl rfl) ?_
  refine RS (ok_call (refEncrypt_fn k (byL (ctrL s c t)) hk (byL_lt _)) (A2 rfl rfl)) ?_
  refine RN ?_
  refine ⟨_, eff_storeA (n := 33) (s := 1000006) (size22.of (rowV_length _ _)) rfl rfl (rowV_one _ _) hBb6 rfl (by first | (simp only [rowV_length]; done) | simp only [rowV_length, List.length_replicate]) (LV 6 rfl (LB 1000003 rfl (LB 1000008 rfl LN))), ?_⟩
  refine TL ?_
  refine RN ?_
  refine A.ret ?_
  exact End.cell1 (s := 1000006) rfl Tryz.underlying22 rfl (size22.of (rowV_length _ _)) rfl rfl (Le.refl _)
set_option maxHeartbeats 2000000 in
theorem ref7Xor_fnB (k : Nat → Nat) (hk : By k) (s c o : Nat) (l : List UInt8) (hs : s < 4294967296) (hc : c < 18446744073709551616) (ho : o + l.length ≤ 1048576) : FnB Tryz.prog 46 [.v (aggV (rowV 16 (k))), .v (aggV ([nW s, nQ c])), .v (nI o), byt l] (fun B => own B 5 l.length ((xorK k s c o l).map byteV)) := by
 refine FnB.of Tryz.func46 rfl (by kernel_rfl) Tryz.ntmps46 (by simp) (fun w => [(0, .v (aggV (rowV 16 (k)))), (1, .v (aggV ([nW s, nQ c]))), (2, .v (nI o)), (3, old w.heap.size (byt l))]) (fun w => (Start.v rfl (Start.v rfl (Start.v rfl (Start.old rfl Start.nil))))) fun w₀ => ?_
 refine GS ?_
 refine TN 0 ?_
 refine RN ?_
 refine ⟨_, _, eff_box (n := 48) (d := 4) (k := 1000004) rfl (by decide), fun b4 hb4 => ?_⟩
 have hBb4 := hb4.1
 refine TN 1 ?_
 refine RN ?_
 refine ⟨_, _, eff_box (n := 48) (d := 5) (k := 1000005) rfl (by decide), fun b5 hb5 => ?_⟩
 have hBb5 := hb5.1
 refine TL ?_
 refine RA rfl ?_
 refine RN ?_
 refine GS ?_
 refine TL ?_
 refine RA rfl ?_
 refine RN ?_
 refine GS ?_
 refine TN 0 ?_
 refine RN ?_
 refine ⟨_, _, eff_alloc (n := 48) (d := 10) (k := 1000010) zero22 (by decide), fun b10 hb10 => ?_⟩
 have hBb10 := hb10.1
 have hlt_b4_b10 : b4 < b10 := hb10.2 1000004 _ _ _ rfl
 refine TL ?_
 refine RN ?_
 refine A.seq ?_
 refine GS ?_
 refine TL ?_
 refine RA rfl ?_
 refine RN ?_
 refine A.block ?_
 refine A.subL (SubL.cons (t := 2) rfl (Le.refl _) (SubL.cons (t := 3) rfl (Le.refl _) (SubL.cons (t := 4) rfl (Le.refl _) (SubL.cons (t := 5) rfl (Le.refl _) (SubL.cons (t := 10) rfl (Le.refl _) (SubL.cons (t := 1000004) rfl (Le.refl _) (SubL.cons (t := 1000005) rfl (Le.refl _) (SubL.cons (t := 9) rfl (own_nil (B := w₀.heap.size) (e := 5)) (SubL.cons (t := 11) rfl (Le.refl _) (SubL.cons (t := 1000010) rfl (Le.refl _) SubL.nil)))))))))) ?_
 refine A.loop (ι := Nat) (fun i => i ≤ l.length) (fun i => [(2, .v (nI o)), (3, old w₀.heap.size (byt l)), (4, .v (.pointer (some ⟨b4, 0, none⟩))), (5, .v (.pointer (some ⟨b5, 0, none⟩))), (10, .v (.pointer (some ⟨b10, 0, none⟩))), (1000004, blk b4 22 (rowV 16 (k))), (1000005, blk b5 30 ([nW s, nQ c])), (9, own w₀.heap.size 5 i (((xorK k s c o l).take i).map byteV)), (11, .v (nI i)), (1000010, blk b10 22 (rowV 16 (bst k s c o i)))]) (fun i => l.length - i) 0 ?_ ?_ ?_
 ·exact Nat.zero_le _
 ·exact (KC 2 rfl (KC 3 rfl (KC 4 rfl (KC 5 rfl (KC 10 rfl (KC 1000004 rfl (KC 1000005 rfl (KC 9 rfl (KC 11 rfl (KE 1000010 rfl (congrArg _ (rowV_zero 16)) KN))))))))))
 intro i hi'
 refine A.seq ?_
 refine GS ?_
 refine TL ?_
 refine RM rfl ?_
 refine RM rfl ?_
 refine RS (ok_lenB Tryz.underlying49 rfl LA) ?_
 refine RB rfl rfl rfl ?_
 refine RN ?_
 refine A.cond rfl (fun hc16 => ?_) (fun hc16 => ?_)
 ·have hlt : i < l.length := by simpa using hc16
  refine A.skip ?_
  refine EN ?_
  refine A.seq ?_
  refine A.block ?_
  refine GS ?_
  refine TL ?_
  refine RM rfl ?_
  refine RM rfl ?_
  refine RBS rfl rfl rfl (nI (o + i)) (by rw [wrap_i64 (by omega) (by omega)]; exact congrArg (Value.int .i64) (by omega)) ?_
  refine RA rfl ?_
  refine RN ?_
  refine A.seq ?_
  rcases Bool.eq_false_or_eq_true (decide (i = 0)) with hsp | hsp
  ·refine GS ?_
   refine TL ?_
   refine RM rfl ?_
   refine RBS rfl rfl rfl (.bool true) (by simpa using hsp) ?_
   refine RM rfl ?_
   refine RK ?_
   refine RK ?_
   refine RK ?_
   refine RP rfl rfl ?_
   refine RN ?_
   refine A.yes rfl ?_
   refine GE ?_
   refine TF 6 ?_
   refine RS (ok_loadA (s := 1000004) (by decide) Tryz.underlying22 rfl (size22.of (rowV_length _ _)) rfl rfl) ?_
   refine RS (ok_loadA (s := 1000005) (by decide) Tryz.underlying30 rfl (size30.of (rfl)) rfl rfl) ?_
   refine RM rfl ?_
   refine RS (ok_div rfl rfl (by decide)) ?_; refine RZ (nI ((o + i) / 16)) (by rw [tdiv_lit _ (by decide), show Int.toNat 16 = 16 from rfl, wrapN_i64 (by omega)]) ?_
   refine RS (ok_conv Tryz.underlying3 Tryz.underlying27 rfl) ?_; refine RZ (nW ((o + i) / 16)) (by rw [wrapN_u32 (by omega)]) ?_
   refine RS (ok_call (ref7Block_fn k hk s c ((o + i) / 16) hs hc (by omega)) (A3 rfl rfl rfl)) ?_
   refine RN ?_
   refine ⟨_, eff_storeA (n := 48) (s := 1000010) (size22.of (rowV_length _ _)) rfl rfl (rowV_one _ _) hBb10 rfl (by first | (simp only [rowV_length]; done) | simp only [rowV_length, List.length_replicate]) (LV 2 rfl (LO 3 rfl (LV 4 rfl (LV 5 rfl (LeftS.cons (t := 9) rfl (Surv.own (by decide)) (LV 10 rfl (LV 11 rfl (LV 12 rfl (LB 1000004 rfl (LT 1000005 rfl LN)))))))))), ?_⟩
   refine TL ?_
   refine RN ?_
   refine EN ?_
   refine A.reg (by kernel_rfl) (by kernel_rfl) (.inr (by kernel_rfl)) ?_
   refine TD 11 ?_
   refine RM rfl ?_
   refine RM rfl ?_
   refine RM rfl ?_
   refine RS (ok_index (d := byteD (l.getD i 0)) Tryz.underlying49 info5 rfl LA rfl (by omega) (by rw [Int.toNat_natCast, byteD_getD hlt])) ?_
   refine RS (ok_load Tryz.underlying5 rfl rfl) ?_; refine RZ (nB (byL l i)) (by rfl) ?_
   refine RM rfl ?_
   refine RS (ok_rem rfl rfl (by decide)) ?_; refine RZ (nI ((o + i) % 16)) (by rw [tmod_lit _ (by decide)]; rfl) ?_
   refine RS (ok_index0 ((o + i) % 16) Tryz.underlying22 info5 rfl rfl (rfl) (by omega)) ?_
   refine RS (ok_loadV (s := 1000010) (by decide) Tryz.underlying5 rfl rfl rfl (rowV_get (by omega))) ?_; refine RZ (nB (ksAt k s c (o + i))) (v8 (by first | rfl | exact congrFun (bst_keep (by simpa using hsp) hz) _)) ?_
   refine RBS rfl rfl rfl (byteV (UInt8.ofNat (xorG k s c o (byL l) i))) (by rw [show IntKind.u8.bits = 8 from rfl, xor_u8N (byL_lt _ _) (ksAt_lt hk _ _ _), ofNat_byte (xorG_lt hk _ _ _ (byL_lt l) _)]; rfl) ?_
   refine RS (ok_build [byteD (UInt8.ofNat (xorG k s c o (byL l) i))] Tryz.underlying49 info5 rfl (by decide) (by decide) rfl ⟨rfl, rfl, trivial⟩ (fun d hd w x h => by simp only [List.mem_cons, List.not_mem_nil, or_false] at hd; subst hd; exact v_one rfl h)) ?_
   refine RN ?_
   refine ⟨_, eff_appendS (vs := [byteV (UInt8.ofNat (xorG k s c o (byL l) i))]) Tryz.underlying49 info5 (by decide) rfl rfl rfl (le_lst _ _) (by simp [byteV, Value.oneCell']) (by simp; omega) (by decide) (fun g hg => (LV 2 rfl (LO 3 rfl (LV 4 rfl (LV 5 rfl (LV 10 rfl (LV 11 rfl (LT 1000004 rfl (LT 1000005 rfl (LT 1000010 rfl LN)))))))))), ?_⟩
   refine TL ?_
   refine RA rfl ?_
   refine RN ?_
   refine End.sub (KC 2 rfl (KC 3 rfl (KC 4 rfl (KC 5 rfl (KC 9 rfl (KC 10 rfl (KC 11 rfl (KC 1000004 rfl (KC 1000005 rfl (KC 1000010 rfl KN)))))))))) ?_
   refine End.normal_block ?_
   refine EN ?_
   refine GE ?_
   refine TL ?_
   refine RM rfl ?_
   refine RBS rfl rfl rfl (nI (i + 1)) (by rw [wrap_i64 (by omega) (by omega)]; exact congrArg (Value.int .i64) (by omega)) ?_
   refine RA rfl ?_
   refine RN ?_
   refine End.normal_then ?_
   refine End.again (i + 1) ?_ ?_ ?_
   ·show _ ≤ _; omega
   ·show _ - _ < _ - _; omega
   ·exact (KC 2 rfl (KC 3 rfl (KC 4 rfl (KC 5 rfl (KC 10 rfl (KC 1000004 rfl (KC 1000005 rfl (KE 9 rfl (by rw [List.take_add_one, xorK_get hlt, List.map_append]; rfl) (KC 11 rfl (KE 1000010 rfl (by first | (rw [bst_succ]; done) | rw [bst_succ, bst_keep (by simpa using hsp) hz]) KN))))))))))
  ·refine GS ?_
   refine TL ?_
   refine RM rfl ?_
   refine RBS rfl rfl rfl (.bool false) (by simpa using hsp) ?_
   refine RM rfl ?_
   refine RQ (ok_move rfl) ?_
   refine RQ (ok_rem rfl rfl (by decide)) ?_; refine RZ (nI ((o + i) % 16)) (by rw [tmod_lit _ (by decide)]; rfl) ?_
   refine RQ (ok_bin rfl rfl rfl) ?_
   refine RP rfl rfl ?_
   refine RN ?_
   refine A.cond rfl (fun hc28 => ?_) (fun hc28 => ?_)
   ·have hz : (o + i) % 16 = 0 := by simp at hc28; omega
    refine GE ?_
    refine TF 6 ?_
    refine RS (ok_loadA (s := 1000004) (by decide) Tryz.underlying22 rfl (size22.of (rowV_length _ _)) rfl rfl) ?_
    refine RS (ok_loadA (s := 1000005) (by decide) Tryz.underlying30 rfl (size30.of (rfl)) rfl rfl) ?_
    refine RM rfl ?_
    refine RS (ok_div rfl rfl (by decide)) ?_; refine RZ (nI ((o + i) / 16)) (by rw [tdiv_lit _ (by decide), show Int.toNat 16 = 16 from rfl, wrapN_i64 (by omega)]) ?_
    refine RS (ok_conv Tryz.underlying3 Tryz.underlying27 rfl) ?_; refine RZ (nW ((o + i) / 16)) (by rw [wrapN_u32 (by omega)]) ?_
    refine RS (ok_call (ref7Block_fn k hk s c ((o + i) / 16) hs hc (by omega)) (A3 rfl rfl rfl)) ?_
    refine RN ?_
    refine ⟨_, eff_storeA (n := 48) (s := 1000010) (size22.of (rowV_length _ _)) rfl rfl (rowV_one _ _) hBb10 rfl (by first | (simp only [rowV_length]; done) | simp only [rowV_length, List.length_replicate]) (LV 2 rfl (LO 3 rfl (LV 4 rfl (LV 5 rfl (LeftS.cons (t := 9) rfl (Surv.own (by decide)) (LV 10 rfl (LV 11 rfl (LV 12 rfl (LB 1000004 rfl (LT 1000005 rfl LN)))))))))), ?_⟩
    refine TL ?_
    refine RN ?_
    refine EN ?_
    refine A.reg (by kernel_rfl) (by kernel_rfl) (.inr (by kernel_rfl)) ?_
    refine TD 11 ?_
    refine RM rfl ?_
    refine RM rfl ?_
    refine RM rfl ?_
    refine RS (ok_index (d := byteD (l.getD i 0)) Tryz.underlying49 info5 rfl LA rfl (by omega) (by rw [Int.toNat_natCast, byteD_getD hlt])) ?_
    refine RS (ok_load Tryz.underlying5 rfl rfl) ?_; refine RZ (nB (byL l i)) (by rfl) ?_
    refine RM rfl ?_
    refine RS (ok_rem rfl rfl (by decide)) ?_; refine RZ (nI ((o + i) % 16)) (by rw [tmod_lit _ (by decide)]; rfl) ?_
    refine RS (ok_index0 ((o + i) % 16) Tryz.underlying22 info5 rfl rfl (rfl) (by omega)) ?_
    refine RS (ok_loadV (s := 1000010) (by decide) Tryz.underlying5 rfl rfl rfl (rowV_get (by omega))) ?_; refine RZ (nB (ksAt k s c (o + i))) (v8 (by first | rfl | exact congrFun (bst_keep (by simpa using hsp) hz) _)) ?_
    refine RBS rfl rfl rfl (byteV (UInt8.ofNat (xorG k s c o (byL l) i))) (by rw [show IntKind.u8.bits = 8 from rfl, xor_u8N (byL_lt _ _) (ksAt_lt hk _ _ _), ofNat_byte (xorG_lt hk _ _ _ (byL_lt l) _)]; rfl) ?_
    refine RS (ok_build [byteD (UInt8.ofNat (xorG k s c o (byL l) i))] Tryz.underlying49 info5 rfl (by decide) (by decide) rfl ⟨rfl, rfl, trivial⟩ (fun d hd w x h => by simp only [List.mem_cons, List.not_mem_nil, or_false] at hd; subst hd; exact v_one rfl h)) ?_
    refine RN ?_
    refine ⟨_, eff_appendS (vs := [byteV (UInt8.ofNat (xorG k s c o (byL l) i))]) Tryz.underlying49 info5 (by decide) rfl rfl rfl (le_lst _ _) (by simp [byteV, Value.oneCell']) (by simp; omega) (by decide) (fun g hg => (LV 2 rfl (LO 3 rfl (LV 4 rfl (LV 5 rfl (LV 10 rfl (LV 11 rfl (LT 1000004 rfl (LT 1000005 rfl (LT 1000010 rfl LN)))))))))), ?_⟩
    refine TL ?_
    refine RA rfl ?_
    refine RN ?_
    refine End.sub (KC 2 rfl (KC 3 rfl (KC 4 rfl (KC 5 rfl (KC 9 rfl (KC 10 rfl (KC 11 rfl (KC 1000004 rfl (KC 1000005 rfl (KC 1000010 rfl KN)))))))))) ?_
    refine End.normal_block ?_
    refine EN ?_
    refine GE ?_
    refine TL ?_
    refine RM rfl ?_
    refine RBS rfl rfl rfl (nI (i + 1)) (by rw [wrap_i64 (by omega) (by omega)]; exact congrArg (Value.int .i64) (by omega)) ?_
    refine RA rfl ?_
    refine RN ?_
    refine End.normal_then ?_
    refine End.again (i + 1) ?_ ?_ ?_
    ·show _ ≤ _; omega
    ·show _ - _ < _ - _; omega
    ·exact (KC 2 rfl (KC 3 rfl (KC 4 rfl (KC 5 rfl (KC 10 rfl (KC 1000004 rfl (KC 1000005 rfl (KE 9 rfl (by rw [List.take_add_one, xorK_get hlt, List.map_append]; rfl) (KC 11 rfl (KE 1000010 rfl (by first | (rw [bst_succ]; done) | rw [bst_succ, bst_keep (by simpa using hsp) hz]) KN))))))))))
   ·have hz : ¬ (o + i) % 16 = 0 := by simp at hc28; omega
    refine A.skip ?_
    refine EN ?_
    refine A.reg (by kernel_rfl) (by kernel_rfl) (.inr (by kernel_rfl)) ?_
    refine TD 11 ?_
    refine RM rfl ?_
    refine RM rfl ?_
    refine RM rfl ?_
    refine RS (ok_index (d := byteD (l.getD i 0)) Tryz.underlying49 info5 rfl LA rfl (by omega) (by rw [Int.toNat_natCast, byteD_getD hlt])) ?_
    refine RS (ok_load Tryz.underlying5 rfl rfl) ?_; refine RZ (nB (byL l i)) (by rfl) ?_
    refine RM rfl ?_
    refine RS (ok_rem rfl rfl (by decide)) ?_; refine RZ (nI ((o + i) % 16)) (by rw [tmod_lit _ (by decide)]; rfl) ?_
    refine RS (ok_index0 ((o + i) % 16) Tryz.underlying22 info5 rfl rfl (rfl) (by omega)) ?_
    refine RS (ok_loadV (s := 1000010) (by decide) Tryz.underlying5 rfl rfl rfl (rowV_get (by omega))) ?_; refine RZ (nB (ksAt k s c (o + i))) (v8 (by first | rfl | exact congrFun (bst_keep (by simpa using hsp) hz) _)) ?_
    refine RBS rfl rfl rfl (byteV (UInt8.ofNat (xorG k s c o (byL l) i))) (by rw [show IntKind.u8.bits = 8 from rfl, xor_u8N (byL_lt _ _) (ksAt_lt hk _ _ _), ofNat_byte (xorG_lt hk _ _ _ (byL_lt l) _)]; rfl) ?_
    refine RS (ok_build [byteD (UInt8.ofNat (xorG k s c o (byL l) i))] Tryz.underlying49 info5 rfl (by decide) (by decide) rfl ⟨rfl, rfl, trivial⟩ (fun d hd w x h => by simp only [List.mem_cons, List.not_mem_nil, or_false] at hd; subst hd; exact v_one rfl h)) ?_
    refine RN ?_
    refine ⟨_, eff_appendS (vs := [byteV (UInt8.ofNat (xorG k s c o (byL l) i))]) Tryz.underlying49 info5 (by decide) rfl rfl rfl (le_lst _ _) (by simp [byteV, Value.oneCell']) (by simp; omega) (by decide) (fun g hg => (LV 2 rfl (LO 3 rfl (LV 4 rfl (LV 5 rfl (LV 10 rfl (LV 11 rfl (LT 1000004 rfl (LT 1000005 rfl (LT 1000010 rfl LN)))))))))), ?_⟩
    refine TL ?_
    refine RA rfl ?_
    refine RN ?_
    refine End.sub (KC 2 rfl (KC 3 rfl (KC 4 rfl (KC 5 rfl (KC 9 rfl (KC 10 rfl (KC 11 rfl (KC 1000004 rfl (KC 1000005 rfl (KC 1000010 rfl KN)))))))))) ?_
    refine End.normal_block ?_
    refine EN ?_
    refine GE ?_
    refine TL ?_
    refine RM rfl ?_
    refine RBS rfl rfl rfl (nI (i + 1)) (by rw [wrap_i64 (by omega) (by omega)]; exact congrArg (Value.int .i64) (by omega)) ?_
    refine RA rfl ?_
    refine RN ?_
    refine End.normal_then ?_
    refine End.again (i + 1) ?_ ?_ ?_
    ·show _ ≤ _; omega
    ·show _ - _ < _ - _; omega
    ·exact (KC 2 rfl (KC 3 rfl (KC 4 rfl (KC 5 rfl (KC 10 rfl (KC 1000004 rfl (KC 1000005 rfl (KE 9 rfl (by rw [List.take_add_one, xorK_get hlt, List.map_append]; rfl) (KC 11 rfl (KE 1000010 rfl (by first | (rw [bst_succ]; done) | rw [bst_succ, bst_keep (by simpa using hsp) hz]) KN))))))))))
 ·have hi2 : i = l.length := by simp at hc16; omega
  refine A.exit ?_
  refine End.exit_then ?_
  refine End.exit_then ?_
  refine End.exit_here ?_
  refine EN ?_
  refine GS ?_
  refine TL ?_
  refine RM rfl ?_
  refine RA rfl ?_
  refine RN ?_
  refine A.ret ?_
  refine End.ret1 rfl rfl (Le.eq ?_)
  rw [hi2, List.take_of_length_le (by rw [xorK_length]; omega)]
end Go.Proofs.YthadcgkcgpinhaaGreatDoor
namespace Go.Proofs.YthadcgkcgpinhaaGreatDoor
open Go Go.RowKit
set_option linter.unusedVariables false
set_option maxRecDepth 20000
theorem build95 (s c f l : Nat) : Tryz.prog.built 95 (([aggV [nW s, nQ c], nW f, nW l].zipIdx 0).map fun x => (x.2, x.1)) = some ([nW s, nQ c, nW f, nW l] : List Value).toArray := by kernel_rfl

theorem counterBlock_fn (s c t : Nat) (hs : s < 4294967296) (hc : c < 18446744073709551616) (ht : t < 4294967296) : Fn Tryz.prog 45 [.v (aggV ([nW s, nQ c])), .v (nW t)] (.v (aggV (rowV 16 (byL (ctrL s c t))))) := by
 refine Fn.of Tryz.func45 rfl (by kernel_rfl) Tryz.ntmps45 (by simp) (fun w => [(0, .v (aggV ([nW s, nQ c]))), (1, .v (nW t))]) (fun w => (Start.v rfl (Start.v rfl Start.nil))) fun w₀ => ?_
 refine GS ?_
 refine TN 0 ?_
 refine RN ?_
 refine ⟨_, _, eff_box (n := 17) (d := 2) (k := 1000002) rfl (by decide), fun b2 hb2 => ?_⟩
 have hBb2 := hb2.1
 refine TN 1 ?_
 refine RN ?_
 refine ⟨_, _, eff_alloc (n := 17) (d := 4) (k := 1000004) zero22 (by decide), fun b4 hb4 => ?_⟩
 have hBb4 := hb4.1
 refine TL ?_
 refine RN ?_
 refine GD ?_
 refine TD 12 ?_
 refine RS (ok_field field30_0 (by decide) rfl) ?_
 refine RS (ok_loadV (s := 1000002) (by decide) Tryz.underlying27 rfl rfl rfl (rfl)) ?_
 refine RS (ok_call ((Put32_fn ((s : Nat) : Int) (by omega) (by omega)).le (d' := bytes (be 4 s) 4) (Le.refl _)) (A1 rfl)) ?_
 refine RS (ok_field field30_1 (by decide) rfl) ?_
 refine RS (ok_loadV (s := 1000002) (by decide) Tryz.underlying28 rfl rfl rfl (rfl)) ?_
 refine RS (ok_call ((Put64_fn ((c : Nat) : Int) (by omega) (by omega)).le (d' := bytes (be 8 c) 8) (Le.refl _)) (A1 rfl)) ?_
 refine RM rfl ?_
 refine RS (ok_call ((Put32_fn ((t : Nat) : Int) (by omega) (by omega)).le (d' := bytes (be 4 t) 4) (Le.refl _)) (A1 rfl)) ?_
 refine RS (ok_build [bytes (be 4 s) 4, bytes (be 8 c) 8, bytes (be 4 t) 4] Tryz.underlying102 info49 rfl (by decide) (by decide) rfl ⟨rfl, rfl, rfl, rfl, rfl, rfl, trivial⟩ (fun d hd w x h => by simp only [List.mem_cons, List.not_mem_nil, or_false] at hd; rcases hd with rfl | rfl | rfl <;> exact list_one h)) ?_
 refine RS ((ok_callB (Join_fnB [be 4 s, be 8 c, be 4 t] (by simp) (by simp [be_length])) (fun _ _ => fresh_mono _ _) (Args.cons rfl (list_lst3 (le_byt _ 4) (le_byt _ 8) (le_byt _ 4)) Args.nil)).le (d' := fresh w₀.heap.size 5 ((ctrL s c t).map byteV) 16) (Le.eq (by rw [ctr_flat, ctrL_length]))) ?_
 refine RS (ok_arrayF Tryz.underlying22 rfl (by decide)) ?_
 refine RS (ok_loadF Tryz.underlying22 rfl (size22.of (by rw [List.length_map, ctrL_length])) rfl) ?_; refine RZ (aggV (rowV 16 (byL (ctrL s c t)))) (congrArg aggV (rowV_byL (ctrL_length s c t))) ?_
 refine RN ?_
 refine ⟨_, eff_storeA (n := 17) (s := 1000004) (size22.of (rowV_length _ _)) rfl rfl (rowV_one _ _) hBb4 rfl (by first | (simp only [rowV_length]; done) | simp only [rowV_length, List.length_replicate]) (LV 4 rfl (LT 1000002 rfl LN)), ?_⟩
 refine TL ?_
 refine RN ?_
 refine A.ret ?_
 exact End.cell1 (s := 1000004) rfl Tryz.underlying22 rfl (size22.of (rowV_length _ _)) rfl rfl (Le.refl _)
theorem Block_fn7 (k : Nat → Nat) (hk : By k) (s c t : Nat) (hs : s < 4294967296) (hc : c < 18446744073709551616) (ht : t < 4294967296) : Fn Tryz.prog 26 [.v (aggV (rowV 16 (k))), .v (aggV ([nW s, nQ c])), .v (nW t)] (.v (aggV (rowV 16 (ksB k s c t)))) := by
 refine Fn.of Tryz.func26 rfl (by kernel_rfl) Tryz.ntmps26 (by simp) (fun w => [(0, .v (aggV (rowV 16 (k)))), (1, .v (aggV ([nW s, nQ c]))), (2, .v (nW t))]) (fun w => (Start.v rfl (Start.v rfl (Start.v rfl Start.nil)))) fun w₀ => ?_
 refine GS ?_
 refine TN 0 ?_
 refine RN ?_
 refine ⟨_, _, eff_box (n := 13) (d := 3) (k := 1000003) rfl (by decide), fun b3 hb3 => ?_⟩
 have hBb3 := hb3.1
 refine TN 1 ?_
 refine RN ?_
 refine ⟨_, _, eff_box (n := 13) (d := 4) (k := 1000004) rfl (by decide), fun b4 hb4 => ?_⟩
 have hBb4 := hb4.1
 refine TN 2 ?_
 refine RN ?_
 refine ⟨_, _, eff_alloc (n := 13) (d := 6) (k := 1000006) zero22 (by decide), fun b6 hb6 => ?_⟩
 have hBb6 := hb6.1
 have hlt_b3_b6 : b3 < b6 := hb6.2 1000003 _ _ _ rfl
 refine TL ?_
 refine RN ?_
 refine GD ?_
 refine TD 6 ?_
 refine RS (ok_loadA (s := 1000003) (by decide) Tryz.underlying22 rfl (size22.of (rowV_length _ _)) rfl rfl) ?_
 refine RS (ok_call (Expand_fn k hk) (A1 rfl)) ?_
 refine RS (ok_loadA (s := 1000004) (by decide) Tryz.underlying30 rfl (size30.of (rfl)) rfl rfl) ?_
 refine RM rfl ?_
 refine RS (ok_call (counterBlock_fn s c t hs hc ht) (A2 rfl rfl)) ?_
 refine RS (ok_call (Encrypt_fn (expand k) (byL (ctrL s c t)) (expand_lt hk) (byL_lt _)) (A2 rfl rfl)) ?_
 refine RN ?_
 refine ⟨_, eff_storeA (n := 13) (s := 1000006) (size22.of (rowV_length _ _)) rfl rfl (rowV_one _ _) hBb6 rfl (by first | (simp only [rowV_length]; done) | simp only [rowV_length, List.length_replicate]) (LV 6 rfl (LB 1000003 rfl (LT 1000004 rfl LN))), ?_⟩
 refine TL ?_
 refine RN ?_
 refine A.ret ?_
 exact End.cell1 (s := 1000006) rfl Tryz.underlying22 rfl (size22.of (rowV_length _ _)) rfl rfl (Le.refl _)
theorem counterOf_fn (x : Nat) (hx : x ≤ 1048576) : Fn Tryz.prog 76 [.v (nI x)] (.v (nW (x / 16))) := by
 refine Fn.of Tryz.func76 rfl (by kernel_rfl) Tryz.ntmps76 (by simp) (fun w => [(0, .v (nI x))]) (fun w => (Start.v rfl Start.nil)) fun w₀ => ?_
 refine GS ?_
 refine TL ?_
 refine RA rfl ?_
 refine RN ?_
 refine GS ?_
 refine TL ?_
 refine RM rfl ?_
 refine RS (ok_div rfl rfl (by decide)) ?_; refine RZ (nI (x / 16)) (by rw [tdiv_lit _ (by decide), show Int.toNat 16 = 16 from rfl, wrapN_i64 (by omega)]) ?_
 refine RS (ok_conv Tryz.underlying3 Tryz.underlying27 rfl) ?_; refine RZ (nW (x / 16)) (by rw [wrapN_u32 (by omega)]) ?_
 refine RA rfl ?_
 refine RN ?_
 refine A.ret ?_
 exact End.ret1 rfl rfl (by first | exact Le.refl _ | exact Le.old _ _)
theorem Used_empty (s c : Nat) (o n : Int) (h : 0 ≤ o) (h1 : o ≤ 1048576) (h2 : n = 0) : Fn Tryz.prog 53 [.v (aggV ([nW s, nQ c])), .v (.int .i64 o), .v (.int .i64 n)] (tup [.v (aggV ([.int .u32 0, .int .u64 0, .int .u32 0, .int .u32 0])), .v (.int .i64 16)]) := by
 refine Fn.of Tryz.func53 rfl (by kernel_rfl) Tryz.ntmps53 (by simp) (fun w => [(0, .v (aggV ([nW s, nQ c]))), (1, .v (.int .i64 o)), (2, .v (.int .i64 n))]) (fun w => (Start.v rfl (Start.v rfl (Start.v rfl Start.nil)))) fun w₀ => ?_
 refine GS ?_
 refine TN 0 ?_
 refine RN ?_
 refine ⟨_, _, eff_box (n := 35) (d := 3) (k := 1000003) rfl (by decide), fun b3 hb3 => ?_⟩
 have hBb3 := hb3.1
 refine TN 1 ?_
 refine RN ?_
 refine ⟨_, _, eff_alloc (n := 35) (d := 6) (k := 1000006) zero95 (by decide), fun b6 hb6 => ?_⟩
 have hBb6 := hb6.1
 refine TL ?_
 refine RA rfl ?_
 refine RN ?_
 refine A.seq ?_
 refine A.block ?_
 refine GS ?_
 refine TL ?_
 refine RM rfl ?_
 refine RBS rfl rfl rfl (.bool false) (by simp; omega) ?_
 refine RM rfl ?_
 refine RQ (ok_move rfl) ?_
 refine RQ (ok_bin rfl rfl rfl) ?_; refine RZ (.bool false) (by simp; omega) ?_
 refine RP rfl rfl ?_
 refine RA rfl ?_
 refine RN ?_
 refine A.no rfl ?_
 refine GS ?_
 refine TL ?_
 refine RM rfl ?_
 refine RM rfl ?_
 refine RBS rfl rfl rfl (.int .i64 (1048576 - o)) (by rw [wrap_i64 (by omega) (by omega)]) ?_
 refine RBS rfl rfl rfl (.bool false) (by simp; omega) ?_
 refine RA rfl ?_
 refine RN ?_
 refine A.no rfl ?_
 refine GS ?_
 refine TL ?_
 refine RM rfl ?_
 refine RBS rfl rfl rfl (.bool true) (by simp; omega) ?_
 refine RA rfl ?_
 refine RN ?_
 refine A.yes rfl ?_
 refine GS ?_
 refine TF 1 ?_
 refine RS (ok_lit [] ([.int .u32 0] ++ [.int .u64 0] ++ [.int .u32 0] ++ [.int .u32 0]) (fun _ _ => rfl) (by kernel_rfl)) ?_
 refine RN ?_
 refine ⟨_, eff_storeA (n := 35) (s := 1000006) (size95.of (rfl)) rfl rfl (rfl) hBb6 rfl (rfl) (LV 6 rfl (LT 1000003 rfl LN)), ?_⟩
 refine TL ?_
 refine RA rfl ?_
 refine RN ?_
 refine A.ret ?_
 refine End.ret_block ?_
 refine End.ret_then ?_
 exact End.cellT (s := 1000006) rfl Tryz.underlying95 rfl (size95.of (rfl)) rfl rfl (Le.v rfl) rfl (Le.refl _)
theorem Used_fn (s c o n : Nat) (h0 : 0 < n) (h : o + n ≤ 1048576) : Fn Tryz.prog 53 [.v (aggV ([nW s, nQ c])), .v (nI o), .v (nI n)] (tup [.v (aggV ([nW s, nQ c, nW (o / 16), nW ((o + n - 1) / 16)])), .v (.int .i64 0)]) := by
 refine Fn.of Tryz.func53 rfl (by kernel_rfl) Tryz.ntmps53 (by simp) (fun w => [(0, .v (aggV ([nW s, nQ c]))), (1, .v (nI o)), (2, .v (nI n))]) (fun w => (Start.v rfl (Start.v rfl (Start.v rfl Start.nil)))) fun w₀ => ?_
 refine GS ?_
 refine TN 0 ?_
 refine RN ?_
 refine ⟨_, _, eff_box (n := 35) (d := 3) (k := 1000003) rfl (by decide), fun b3 hb3 => ?_⟩
 have hBb3 := hb3.1
 refine TN 1 ?_
 refine RN ?_
 refine ⟨_, _, eff_alloc (n := 35) (d := 6) (k := 1000006) zero95 (by decide), fun b6 hb6 => ?_⟩
 have hBb6 := hb6.1
 refine TL ?_
 refine RA rfl ?_
 refine RN ?_
 refine A.seq ?_
 refine A.block ?_
 refine GS ?_
 refine TL ?_
 refine RM rfl ?_
 refine RBS rfl rfl rfl (.bool false) (by simp) ?_
 refine RM rfl ?_
 refine RQ (ok_move rfl) ?_
 refine RQ (ok_bin rfl rfl rfl) ?_; refine RZ (.bool false) (by simp) ?_
 refine RP rfl rfl ?_
 refine RA rfl ?_
 refine RN ?_
 refine A.no rfl ?_
 refine GS ?_
 refine TL ?_
 refine RM rfl ?_
 refine RM rfl ?_
 refine RBS rfl rfl rfl (.int .i64 (1048576 - (o : Int))) (by rw [wrap_i64 (by omega) (by omega)]) ?_
 refine RBS rfl rfl rfl (.bool false) (by simp; omega) ?_
 refine RA rfl ?_
 refine RN ?_
 refine A.no rfl ?_
 refine GS ?_
 refine TL ?_
 refine RM rfl ?_
 refine RBS rfl rfl rfl (.bool false) (by simp; omega) ?_
 refine RA rfl ?_
 refine RN ?_
 refine A.no rfl ?_
 refine A.skip ?_
 refine End.normal_block ?_
 refine EN ?_
 refine GD ?_
 refine TD 9 ?_
 refine RS (ok_loadA (s := 1000003) (by decide) Tryz.underlying30 rfl (size30.of (rfl)) rfl rfl) ?_
 refine RM rfl ?_
 refine RS (ok_call (counterOf_fn o (by omega)) (A1 rfl)) ?_
 refine RM rfl ?_
 refine RM rfl ?_
 refine RBS rfl rfl rfl (nI (o + n)) (by rw [wrap_i64 (by omega) (by omega)]; exact congrArg (Value.int .i64) (by omega)) ?_
 refine RBS rfl rfl rfl (nI (o + n - 1)) (by rw [wrap_i64 (by omega) (by omega)]; exact congrArg (Value.int .i64) (by omega)) ?_
 refine RS (ok_call (counterOf_fn (o + n - 1) (by omega)) (A1 rfl)) ?_
 refine RS (ok_litU [aggV [nW s, nQ c], nW (o / 16), nW ((o + n - 1) / 16)] _ ⟨rfl, rfl, rfl, rfl, rfl, rfl, trivial⟩ (build95 s c (o / 16) ((o + n - 1) / 16))) ?_
 refine RN ?_
 refine ⟨_, eff_storeA (n := 35) (s := 1000006) (size95.of (rfl)) rfl rfl (rfl) hBb6 rfl (rfl) (LV 6 rfl (LT 1000003 rfl LN)), ?_⟩
 refine TL ?_
 refine RA rfl ?_
 refine RN ?_
 refine A.sub (KC 6 rfl (KC 7 rfl (KC 1000003 rfl (KC 1000006 rfl KN)))) ?_
 refine A.ret ?_
 exact End.cellT (s := 1000006) rfl Tryz.underlying95 rfl (size95.of (rfl)) rfl rfl (Le.refl _) rfl (Le.refl _)
set_option maxHeartbeats 1000000 in
theorem combine_fnWR (g h o p n : Nat) (F G S : Nat → Nat) (hF : ∀ i, F i < 256) (hS : ∀ i, S i < 256) (ho : o ≤ n) (hn : n ≤ 1048576) (hp : p ≤ 16) (hG : ∀ j, j < (min (n - o) (16 - p)) → F (o + j) ^^^ S (p + j) = G (o + j)) : FnWR Tryz.prog 55 [(1000070, blk h 22 (rowV 16 S))] 5 g (rowV n (mid F G o)) (rowV n (mid F G (o + (min (n - o) (16 - p))))) ([.slice (some ⟨g, o, none⟩) (n - o) (n - o), .slice (some ⟨h, p, none⟩) (16 - p) (16 - p)].map D.v) (.slice (some ⟨g, if n - o = (min (n - o) (16 - p)) then o else o + (min (n - o) (16 - p)), none⟩) (n - o - (min (n - o) (16 - p))) (n - o - (min (n - o) (16 - p)))) := by
 refine FnWR.of (n := 30) (kb := 1000080) (kw := 1000081) Tryz.func55 rfl (by kernel_rfl) Tryz.ntmps55 (by simp) (by decide) (fun p hp => by simp only [List.mem_cons, List.not_mem_nil, or_false] at hp; rcases hp with rfl; exact vle rfl) (by decide) (by decide) [(0, .v (.slice (some ⟨g, o, none⟩) (n - o) (n - o))), (1, .v (.slice (some ⟨h, p, none⟩) (16 - p) (16 - p)))]
  (fun p hp => by simp only [List.mem_cons, List.not_mem_nil, or_false] at hp; rcases hp with rfl | rfl <;> exact ⟨_, rfl, rfl⟩) fun w₀ w₁ hw => ?_
 have hBg : w₀.heap.size ≤ g := Nat.le_of_eq hw
 refine GS ?_
 refine TL ?_
 refine RA rfl ?_
 refine RN ?_
 refine GS ?_
 refine TL ?_
 refine RM rfl ?_
 refine RS (ok_lenV Tryz.underlying49 rfl) ?_
 refine RM rfl ?_
 refine RS (ok_lenV Tryz.underlying49 rfl) ?_
 refine RS (ok_min rfl rfl) ?_; refine RZ (nI ((min (n - o) (16 - p)))) (congrArg (Value.int .i64) (by omega)) ?_
 refine RA rfl ?_
 refine RN ?_
 refine A.seq ?_
 refine GS ?_
 refine TL ?_
 refine RM rfl ?_
 refine RM rfl ?_
 refine RN ?_
 refine A.block ?_
 refine A.loop (ι := Nat) (fun i => i ≤ (min (n - o) (16 - p))) (fun i => [(0, .v (.slice (some ⟨g, o, none⟩) (n - o) (n - o))), (1, .v (.slice (some ⟨h, p, none⟩) (16 - p) (16 - p))), (5, .v (nI ((min (n - o) (16 - p))))), (12, .v (nI ((min (n - o) (16 - p))))), (13, .v (nI i)), (1000080, blk g 5 (rowV n (mid F G (o + i)))), (1000070, blk h 22 (rowV 16 S)), (1000081, wroteD 5 g w₁)]) (fun i => (min (n - o) (16 - p)) - i) 0 ?_ ?_ ?_
 ·exact Nat.zero_le _
 ·exact (KC 0 rfl (KC 1 rfl (KC 5 rfl (KC 12 rfl (KC 13 rfl (KC 1000080 rfl (KC 1000070 rfl (KC 1000081 rfl KN))))))))
 intro i hi'
 refine GS ?_
 refine TL ?_
 refine RB rfl rfl rfl ?_
 refine RN ?_
 refine A.seq ?_
 refine A.cond rfl (fun hc14 => ?_) (fun hc14 => ?_)
 ·have hi : i < (min (n - o) (16 - p)) := by simp at hc14; omega
  refine A.skip ?_
  refine EN ?_
  refine A.seq ?_
  refine A.block ?_
  refine GS ?_
  refine TL ?_
  refine RM rfl ?_
  refine RA rfl ?_
  refine RN ?_
  refine A.reg (by kernel_rfl) (by kernel_rfl) (.inr (by kernel_rfl)) ?_
  refine TD 10 ?_
  refine RM rfl ?_
  refine RM rfl ?_
  refine RS (ok_indexV i Tryz.underlying49 info5 rfl rfl rfl (by omega)) ?_
  refine RS (ok_loadV (s := 1000080) (by decide) Tryz.underlying5 rfl rfl rfl (rowV_get (by omega))) ?_; refine RZ (nB (F (o + i))) (v8 (mid_at F G _)) ?_
  refine RM rfl ?_
  refine RM rfl ?_
  refine RS (ok_indexV i Tryz.underlying49 info5 rfl rfl rfl (by omega)) ?_
  refine RS (ok_loadV (s := 1000070) (by decide) Tryz.underlying5 rfl rfl rfl (rowV_get (by omega))) ?_; refine RZ (nB (S (p + i))) (v8 (by rfl)) ?_
  refine RBS rfl rfl rfl (nB (G (o + i))) (by rw [show IntKind.u8.bits = 8 from rfl, xor_u8N (hF _) (hS _), hG i hi]) ?_
  refine RS (ok_indexV i Tryz.underlying49 info5 rfl rfl rfl (by omega)) ?_
  refine RN ?_
  refine ⟨_, eff_storeS (n := 30) (s := 1000080) info5 rfl rfl rfl hBg rfl (by simp only [rowV_length]; omega) (LV 0 rfl (LV 1 rfl (LV 5 rfl (LV 12 rfl (LV 13 rfl (LT 1000070 rfl (LeftS.cons (t := 1000081) rfl (Surv.wrote) LN))))))), ?_⟩
  refine TL ?_
  refine RN ?_
  refine End.normal_block ?_
  refine EN ?_
  refine GE ?_
  refine TL ?_
  refine RBS rfl rfl rfl (nI (i + 1)) (by rw [wrap_i64 (by omega) (by omega)]; exact congrArg (Value.int .i64) (by omega)) ?_
  refine RM rfl ?_
  refine RN ?_
  refine End.normal_then ?_
  refine End.again (i + 1) ?_ ?_ ?_
  ·show _ ≤ _; omega
  ·show _ - _ < _ - _; omega
  ·exact (KC 0 rfl (KC 1 rfl (KC 5 rfl (KC 12 rfl (KC 13 rfl (KE 1000080 rfl (congrArg _ (mid_set rfl rfl)) (KC 1000070 rfl (KC 1000081 rfl KN))))))))
 ·have hi2 : i = (min (n - o) (16 - p)) := by simp at hc14; omega
  refine A.exit ?_
  refine End.exit_then ?_
  refine End.exit_then ?_
  refine End.exit_here ?_
  refine EN ?_
  refine GS ?_
  refine TL ?_
  refine RM rfl ?_
  refine RM rfl ?_
  refine RS (ok_sliceE (l := (min (n - o) (16 - p))) (h := n - o) (m := n - o) Tryz.underlying49 info5 rfl (.inl ⟨_, _, rfl, rfl⟩) (.inr ⟨rfl, rfl, rfl⟩) (.inr ⟨rfl, rfl⟩) (by omega) (Nat.le_refl _) (Nat.le_refl _)) ?_
  refine RA rfl ?_
  refine RN ?_
  refine A.ret ?_
  exact End.wroteR (kb := 1000080) (kw := 1000081) (.inl rfl) rfl rfl rfl (by rw [hi2]) rfl
theorem blocks_fnB (k : Nat → Nat) (s c f l : Nat) : FnB Tryz.prog 54 [.v (aggV (rowV 16 (k))), .v (aggV ([nW s, nQ c, nW f, nW l]))] (fun B => closR B 77 22 (rowV 16 k) 95 [nW s, nQ c, nW f, nW l]) := by
 refine FnB.of Tryz.func54 rfl (by kernel_rfl) Tryz.ntmps54 (by simp) (fun w => [(0, .v (aggV (rowV 16 (k)))), (1, .v (aggV ([nW s, nQ c, nW f, nW l])))]) (fun w => (Start.v rfl (Start.v rfl Start.nil))) fun w₀ => ?_
 refine GS ?_
 refine TN 0 ?_
 refine RN ?_
 refine ⟨_, _, eff_box (n := 6) (d := 2) (k := 1000002) rfl (by decide), fun b2 hb2 => ?_⟩
 have hBb2 := hb2.1
 refine TN 1 ?_
 refine RN ?_
 refine ⟨_, _, eff_box (n := 6) (d := 3) (k := 1000003) rfl (by decide), fun b3 hb3 => ?_⟩
 have hBb3 := hb3.1
 have hlt_b2_b3 : b2 < b3 := hb3.2 1000002 _ _ _ rfl
 refine TL ?_
 refine RA rfl ?_
 refine RN ?_
 refine GS ?_
 refine TL ?_
 refine RS (ok_makeFuncN [ptr b2, ptr b3] ⟨rfl, rfl, trivial⟩) ?_
 refine RA rfl ?_
 refine RN ?_
 refine A.ret ?_
 exact End.closR (.inl rfl) rfl hBb2 hBb3 (by omega) rfl (k₁ := 1000002) (k₂ := 1000003) rfl rfl
set_option maxHeartbeats 1000000 in
theorem blocks1_seq {w₀ : World} {N y p q : Nat} {J : Nat → World → Prop} {k : Nat → Nat} (hk : By k) {s c f t : Nat} (hs : s < 4294967296) (hc : c < 18446744073709551616) (hN : f + N = t + 1) (ht : t < 4294967296)
  (hq : SeqsX Tryz.prog w₀ N y (fun i => .v (aggV (rowV 16 (ksB k s c (f + i))))) (fun _ => [(1000091, blk p 22 (rowV 16 k)), (1000092, blk q 95 [nW s, nQ c, nW f, nW t])]) J (fun z : Nat × List Value => [(1000004, blk z.1 81 z.2)])) {w : World} (h0 : J 0 w) :
  Calls Tryz.prog 77 (.func (.yield y) #[] #[] :: [ptr p, ptr q] : List Value).toArray w fun e W => (∃ v, e = .returned v) ∧ J N W := by
 obtain ⟨hb, hz, hV⟩ := hq.holds 0 w h0
 refine Calls.within (n := 28) (E := [(0, .v (.func (.yield y) #[] #[])), (1, .v (ptr p)), (2, .v (ptr q)), (1000090, jD (J 0)), (1000091, blk p 22 (rowV 16 k)), (1000092, blk q 95 [nW s, nQ c, nW f, nW t])]) Tryz.func77 rfl Tryz.ntmps77 (by simp) (by decide) hb hz ?_ ?_
 ·intro x hx
  simp only [List.mem_cons, List.not_mem_nil, or_false] at hx
  rcases hx with rfl | rfl | rfl | rfl | rfl | rfl
  ·exact .inr ⟨_, rfl, rfl⟩
  ·exact .inr ⟨_, rfl, rfl⟩
  ·exact .inr ⟨_, rfl, rfl⟩
  ·exact .inl ⟨vle rfl, jD_mk h0⟩
  ·exact .inl ⟨vle rfl, hV _ (by simp)⟩
  ·exact .inl ⟨vle rfl, hV _ (by simp)⟩
 refine A.regsH _ (fun B => (OldH.same (t := 0) rfl (OldH.same (t := 1) rfl (OldH.same (t := 2) rfl (OldH.p (t := 1000090) rfl (OldH.same (t := 1000091) rfl (OldH.same (t := 1000092) rfl OldH.nil))))))) (by kernel_rfl) (by kernel_rfl) (.inl rfl) (fun B hB => ?_)
 refine TN 2 ?_
 refine RS (ok_loadA (s := 1000091) (by decide) Tryz.underlying22 rfl (size22.of (rowV_length _ _)) rfl rfl) ?_
 refine RS (ok_call (Expand_fn k hk) (A1 rfl)) ?_
 refine RN ?_
 refine ⟨_, _, eff_alloc (n := 28) (d := 4) (k := 1000004) zero81 (by decide), fun b4 hb4 => ?_⟩
 have hBb4 := hb4.1
 refine TF 3 ?_
 refine RN ?_
 refine ⟨_, eff_storeA (n := 28) (s := 1000004) (size81.of (rowV_length _ _)) rfl rfl (rowV_one _ _) hBb4 rfl (by first | (simp only [rowV_length]; done) | simp only [rowV_length, List.length_replicate]) (LV 0 rfl (LV 2 rfl (LV 4 rfl (LO 1000090 rfl (LT 1000091 rfl (LT 1000092 rfl LN)))))), ?_⟩
 refine TL ?_
 refine RN ?_
 refine A.sub (KC 0 rfl (KC 2 rfl (KC 4 rfl (KC 1000004 rfl (KC 1000090 rfl (KC 1000091 rfl (KC 1000092 rfl KN))))))) ?_
 refine A.subL (SubL.cons (t := 0) rfl (Le.refl _) (SubL.cons (t := 2) rfl (Le.refl _) (SubL.cons (t := 4) rfl (Le.refl _) (SubL.cons (t := 1000004) rfl (Le.refl _) (SubL.cons (t := 1000090) rfl (Le.old _ _) (SubL.cons (t := 1000091) rfl (Le.refl _) (SubL.cons (t := 1000092) rfl (Le.refl _) SubL.nil))))))) ?_
 refine GS ?_
 refine TL ?_
 refine RS (ok_field field95_1 (by decide) rfl) ?_
 refine RS (ok_loadV (s := 1000092) (by decide) Tryz.underlying27 rfl rfl rfl (rfl)) ?_
 refine RS (ok_conv Tryz.underlying27 Tryz.underlying28 rfl) ?_; refine RZ (nQ f) (by rw [wrapN_u64 (by omega)]) ?_
 refine RA rfl ?_
 refine RN ?_
 refine A.block ?_
 refine A.loop (ι := Nat) (fun i => i ≤ N) (fun i => [(0, .v (.func (.yield y) #[] #[])), (2, .v (ptr q)), (4, .v (.pointer (some ⟨b4, 0, none⟩))), (5, .v (nQ (f + i))), (1000090, jD (J i)), (1000091, blk p 22 (rowV 16 k)), (1000092, blk q 95 [nW s, nQ c, nW f, nW t]), (1000004, blk b4 81 (rowV 176 (expand k)))]) (fun i => N - i) 0 ?_ ?_ ?_
 ·exact Nat.zero_le _
 ·exact (KC 0 rfl (KC 2 rfl (KC 4 rfl (KE 5 rfl (by rfl) (KC 1000090 rfl (KC 1000091 rfl (KC 1000092 rfl (KC 1000004 rfl KN))))))))
 intro i hi'
 refine A.seq ?_
 refine GS ?_
 refine TL ?_
 refine RM rfl ?_
 refine RS (ok_field field95_2 (by decide) rfl) ?_
 refine RS (ok_loadV (s := 1000092) (by decide) Tryz.underlying27 rfl rfl rfl (rfl)) ?_
 refine RS (ok_conv Tryz.underlying27 Tryz.underlying28 rfl) ?_; refine RZ (nQ t) (by rw [wrapN_u64 (by omega)]) ?_
 refine RB rfl rfl rfl ?_
 refine RN ?_
 refine A.cond rfl (fun hc15 => ?_) (fun hc15 => ?_)
 ·have hlt : i < N := by simp at hc15; omega
  refine A.skip ?_
  refine EN ?_
  refine A.seq ?_
  refine A.block ?_
  refine GD ?_
  refine TD 8 ?_
  refine RM rfl ?_
  refine RS (ok_loadA (s := 1000004) (by decide) Tryz.underlying81 rfl (size81.of (rowV_length _ _)) rfl rfl) ?_
  refine RS (ok_field field95_0 (by decide) rfl) ?_
  refine RS (ok_loadP (s := 1000092) (by decide) Tryz.underlying30 rfl size30 rfl rfl (by simp) (rfl)) ?_
  refine RM rfl ?_
  refine RS (ok_conv Tryz.underlying28 Tryz.underlying27 rfl) ?_; refine RZ (nW (f + i)) (by rw [wrapN_u32 (by omega)]) ?_
  refine RS (ok_call (counterBlock_fn s c (f + i) hs hc (by omega)) (A2 rfl rfl)) ?_
  refine RS (ok_call (Encrypt_fn (expand k) (byL (ctrL s c (f + i))) (expand_lt hk) (byL_lt _)) (A2 rfl rfl)) ?_; refine RZ (aggV (rowV 16 (ksB k s c (f + i)))) (rfl) ?_
  refine RN ?_
  refine ⟨_, eff_yieldX (vJ := 1000090) hq (b4, (rowV 176 (expand k))) i hlt rfl rfl rfl (Le.refl _) (by decide) (fun p hp => by simp only [List.mem_cons, List.not_mem_nil, or_false] at hp; rcases hp with rfl | rfl <;> exact vle rfl) (fun p hp => by simp only [List.mem_cons, List.not_mem_nil, or_false] at hp; rcases hp with rfl; exact vle rfl) (fun p hp => by simp only [List.mem_cons, List.not_mem_nil, or_false] at hp; rcases hp with rfl; rfl) (by decide) (Left.cons (t := 0) rfl (Stays.v _ _) (Left.cons (t := 2) rfl (Stays.v _ _) (Left.cons (t := 4) rfl (Stays.v _ _) (Left.cons (t := 5) rfl (Stays.v _ _) Left.nil)))), ?_⟩
  refine TL ?_
  refine RS (ok_not rfl) ?_; refine RZ (.bool false) (rfl) ?_
  refine RN ?_
  refine A.no rfl ?_
  refine A.skip ?_
  refine End.normal_block ?_
  refine EN ?_
  refine GE ?_
  refine TL ?_
  refine RM rfl ?_
  refine RBS rfl rfl rfl (nQ (f + (i + 1))) (by rw [wrap_u64 (by omega) (by omega)]; exact congrArg (Value.int .u64) (by omega)) ?_
  refine RA rfl ?_
  refine RN ?_
  refine End.normal_then ?_
  refine End.again (i + 1) ?_ ?_ ?_
  ·show _ ≤ _; omega
  ·show _ - _ < _ - _; omega
  ·exact (KC 0 rfl (KC 2 rfl (KC 4 rfl (KC 5 rfl (KC 1000090 rfl (KC 1000091 rfl (KC 1000092 rfl (KC 1000004 rfl KN))))))))
 ·obtain rfl : i = N := by simp at hc15; omega
  refine A.exit ?_
  refine End.exit_then ?_
  refine End.exit_then ?_
  refine End.exit_here ?_
  exact End.seqX (vJ := 1000090) hq rfl rfl
set_option maxHeartbeats 1000000 in
theorem Xor7_empty (k : Nat → Nat) (s c : Nat) (o : Int) (l : List UInt8) (h : 0 ≤ o) (h1 : o ≤ 1048576) (h2 : (l.length : Int) = 0) : Fn Tryz.prog 37 [.v (aggV (rowV 16 (k))), .v (aggV ([nW s, nQ c])), .v (.int .i64 o), byt l] (tup [.v (.slice none 0 0), .v (.int .i64 0)]) := by
 refine Fn.of Tryz.func37 rfl (by kernel_rfl) Tryz.ntmps37 (by simp) (fun w => [(0, .v (aggV (rowV 16 (k)))), (1, .v (aggV ([nW s, nQ c]))), (2, .v (.int .i64 o)), (3, old w.heap.size (byt l))]) (fun w => (Start.v rfl (Start.v rfl (Start.v rfl (Start.old rfl Start.nil))))) fun w₀ => ?_
 refine GS ?_
 refine TN 0 ?_
 refine RN ?_
 refine ⟨_, _, eff_box (n := 48) (d := 4) (k := 1000004) rfl (by decide), fun b4 hb4 => ?_⟩
 have hBb4 := hb4.1
 refine TN 1 ?_
 refine RN ?_
 refine ⟨_, _, eff_box (n := 48) (d := 5) (k := 1000005) rfl (by decide), fun b5 hb5 => ?_⟩
 have hBb5 := hb5.1
 refine TL ?_
 refine RA rfl ?_
 refine RA rfl ?_
 refine RN ?_
 refine GS ?_
 refine TN 8 ?_
 refine RS (ok_loadA (s := 1000005) (by decide) Tryz.underlying30 rfl (size30.of (rfl)) rfl rfl) ?_
 refine RM rfl ?_
 refine RM rfl ?_
 refine RS (ok_lenB Tryz.underlying49 rfl LA) ?_
 refine RS (ok_call (Used_empty s c o (l.length : Int) h h1 h2) (A3 rfl rfl rfl)) ?_
 refine RM rfl ?_
 refine RS (ok_extract rfl rfl) ?_
 refine RS (ok_extract rfl rfl) ?_
 refine RN ?_
 refine ⟨_, _, eff_alloc (n := 48) (d := 10) (k := 1000010) zero95 (by decide), fun b10 hb10 => ?_⟩
 have hBb10 := hb10.1
 refine TF 9 ?_
 refine RN ?_
 refine ⟨_, eff_storeA (n := 48) (s := 1000010) (size95.of (rfl)) rfl rfl (rfl) hBb10 rfl (rfl) (LV 2 rfl (LO 3 rfl (LV 4 rfl (LV 10 rfl (LV 23 rfl (LT 1000004 rfl (LT 1000005 rfl LN))))))), ?_⟩
 refine TL ?_
 refine RA rfl ?_
 refine RN ?_
 refine A.seq ?_
 refine GS ?_
 refine TL ?_
 refine RM rfl ?_
 refine RN ?_
 refine A.block ?_
 refine GS ?_
 refine TL ?_
 refine RBS rfl rfl rfl (.bool false) (by rfl) ?_
 refine RA rfl ?_
 refine RN ?_
 refine A.no rfl ?_
 refine GS ?_
 refine TL ?_
 refine RBS rfl rfl rfl (.bool true) (by rfl) ?_
 refine RA rfl ?_
 refine RN ?_
 refine A.yes rfl ?_
 refine GS ?_
 refine TL ?_
 refine RA rfl ?_
 refine RA rfl ?_
 refine RN ?_
 refine A.ret ?_
 refine End.ret_block ?_
 refine End.ret_then ?_
 exact End.ret2 rfl rfl (by first | exact Le.refl _ | exact Le.old _ _) rfl (by first | exact Le.refl _ | exact Le.old _ _)
set_option maxHeartbeats 4000000 in
theorem Xor7_pos (k : Nat → Nat) (hk : By k) (s c o : Nat) (l : List UInt8) (hs : s < 4294967296) (hc : c < 18446744073709551616) (hm : 0 < l.length) (ho : o + l.length ≤ 1048576) : Fn Tryz.prog 37 [.v (aggV (rowV 16 (k))), .v (aggV ([nW s, nQ c])), .v (nI o), byt l] (tup [bytes (xorK k s c o l) l.length, .v (.int .i64 0)]) := by
 have ha : o % 16 < 16 := Nat.mod_lt _ (by decide)
 refine Fn.of Tryz.func37 rfl (by kernel_rfl) Tryz.ntmps37 (by simp) (fun w => [(0, .v (aggV (rowV 16 (k)))), (1, .v (aggV ([nW s, nQ c]))), (2, .v (nI o)), (3, old w.heap.size (byt l))]) (fun w => (Start.v rfl (Start.v rfl (Start.v rfl (Start.old rfl Start.nil))))) fun w₀ => ?_
 refine GS ?_
 refine TN 0 ?_
 refine RN ?_
 refine ⟨_, _, eff_box (n := 48) (d := 4) (k := 1000004) rfl (by decide), fun b4 hb4 => ?_⟩
 have hBb4 := hb4.1
 refine TN 1 ?_
 refine RN ?_
 refine ⟨_, _, eff_box (n := 48) (d := 5) (k := 1000005) rfl (by decide), fun b5 hb5 => ?_⟩
 have hBb5 := hb5.1
 refine TL ?_
 refine RA rfl ?_
 refine RA rfl ?_
 refine RN ?_
 refine GS ?_
 refine TN 8 ?_
 refine RS (ok_loadA (s := 1000005) (by decide) Tryz.underlying30 rfl (size30.of (rfl)) rfl rfl) ?_
 refine RM rfl ?_
 refine RM rfl ?_
 refine RS (ok_lenB Tryz.underlying49 rfl LA) ?_
 refine RS (ok_call (Used_fn s c o l.length hm ho) (A3 rfl rfl rfl)) ?_
 refine RM rfl ?_
 refine RS (ok_extract rfl rfl) ?_
 refine RS (ok_extract rfl rfl) ?_
 refine RN ?_
 refine ⟨_, _, eff_alloc (n := 48) (d := 10) (k := 1000010) zero95 (by decide), fun b10 hb10 => ?_⟩
 have hBb10 := hb10.1
 refine TF 9 ?_
 refine RN ?_
 refine ⟨_, eff_storeA (n := 48) (s := 1000010) (size95.of (rfl)) rfl rfl (rfl) hBb10 rfl (rfl) (LV 2 rfl (LO 3 rfl (LV 4 rfl (LV 10 rfl (LV 23 rfl (LT 1000004 rfl (LT 1000005 rfl LN))))))), ?_⟩
 refine TL ?_
 refine RA rfl ?_
 refine RN ?_
 refine A.seq ?_
 refine GS ?_
 refine TL ?_
 refine RM rfl ?_
 refine RN ?_
 refine A.block ?_
 refine GS ?_
 refine TL ?_
 refine RBS rfl rfl rfl (.bool true) (by rfl) ?_
 refine RA rfl ?_
 refine RN ?_
 refine A.yes rfl ?_
 refine A.skip ?_
 refine End.normal_block ?_
 refine EN ?_
 refine GS ?_
 refine TL ?_
 refine RM rfl ?_
 refine RS (ok_lenB Tryz.underlying49 rfl LA) ?_
 refine RS (ok_make l.length Tryz.underlying49 info5 (by decide) rfl rfl rfl rfl rfl (by omega)) ?_
 refine RA rfl ?_
 refine RN ?_
 refine A.open (t := 12) (k := 1000012) rfl fun b12 hb12 => ?_
 have hBb12 := hb12
 refine GS ?_
 refine TF 2 ?_
 refine RM rfl ?_
 refine RM rfl ?_
 refine RN ?_
 refine ⟨_, eff_copyS (n := 48) (s := 1000012) (l := l) Tryz.underlying49 info5 rfl rfl LA hBb12 rfl (by simp) (by decide) (LV 2 rfl (LV 4 rfl (LV 10 rfl (LV 12 rfl (LT 1000004 rfl (LT 1000005 rfl (LT 1000010 rfl LN))))))), ?_⟩
 refine TL ?_
 refine RN ?_
 refine A.sub (KC 2 rfl (KC 4 rfl (KC 10 rfl (KC 12 rfl (KC 1000004 rfl (KC 1000005 rfl (KC 1000010 rfl (KE 1000012 rfl (show blk b12 5 _ = blk b12 5 (rowV l.length (mid (byL l) (xorG k s c o (byL l)) 0)) from congrArg _ (copy_row l _ (by simp) _)) KN)))))))) ?_
 refine GS ?_
 refine TN 3 ?_
 refine RM rfl ?_
 refine RM rfl ?_
 refine RS (ok_rem rfl rfl (by decide)) ?_; refine RZ (nI (o % 16)) (by rw [tmod_lit _ (by decide)]; rfl) ?_
 refine RN ?_
 refine ⟨_, _, eff_alloc (n := 48) (d := 13) (k := 1000013) zero49 (by decide), fun b13 hb13 => ?_⟩
 have hBb13 := hb13.1
 refine TN 4 ?_
 refine RN ?_
 refine ⟨_, _, eff_alloc (n := 48) (d := 14) (k := 1000014) zero3 (by decide), fun b14 hb14 => ?_⟩
 have hBb14 := hb14.1
 refine TF 5 ?_
 refine RN ?_
 refine ⟨_, eff_storeS (n := 48) (s := 1000013) info49 rfl rfl rfl hBb13 rfl (by simp) (LV 4 rfl (LV 10 rfl (LV 12 rfl (LV 13 rfl (LV 14 rfl (LV 38 rfl (LT 1000004 rfl (LT 1000005 rfl (LT 1000010 rfl (LT 1000012 rfl (LT 1000014 rfl LN))))))))))), ?_⟩
 refine TF 6 ?_
 refine RN ?_
 refine ⟨_, eff_storeS (n := 48) (s := 1000014) info3 rfl rfl rfl hBb14 rfl (by simp) (LV 4 rfl (LV 10 rfl (LV 12 rfl (LV 13 rfl (LV 14 rfl (LT 1000004 rfl (LT 1000005 rfl (LT 1000010 rfl (LT 1000012 rfl (LT 1000013 rfl LN)))))))))), ?_⟩
 refine TL ?_
 refine RN ?_
 refine A.seq ?_
 refine GS ?_
 refine TL ?_
 refine RS (ok_loadA (s := 1000004) (by decide) Tryz.underlying22 rfl (size22.of (rowV_length _ _)) rfl rfl) ?_
 refine RS (ok_loadA (s := 1000010) (by decide) Tryz.underlying95 rfl (size95.of (rfl)) rfl rfl) ?_
 refine RS (ok_callB (blocks_fnB k s c (o / 16) ((o + l.length - 1) / 16)) (fun _ _ => closR_mono _ _) (A2 rfl rfl)) ?_
 refine RN ?_
 refine A.openClosR (t := 41) (k₁ := 1000091) (k₂ := 1000092) rfl fun p q hBp hBq hpq => ?_
 refine A.block ?_
 refine A.rangeX (gf := 77) (N := ((o % 16 + l.length - 1) / 16 + 1)) (vL := 1000098) (vD := 1000099) (tp := 42) (lb := [ptr p, ptr q]) (S := [(12, .v (.slice (some ⟨b12, 0, none⟩) l.length l.length)), (13, .v (ptr b13)), (14, .v (ptr b14))]) (XE := fun z : Nat × List Value => [(1000004, blk z.1 81 z.2)])
  (V := fun i => [(1000012, blk b12 5 (rowV l.length (mid (byL l) (xorG k s c o (byL l)) (dnS (o % 16) l.length (i))))), (1000013, blk b13 49 [.slice (some ⟨b12, rpS (o % 16) l.length (i), none⟩) (l.length - dnS (o % 16) l.length (i)) (l.length - dnS (o % 16) l.length (i))]), (1000014, blk b14 3 [nI (skS (o % 16) (i))]), (1000091, blk p 22 (rowV 16 k)), (1000092, blk q 95 [nW s, nQ c, nW (o / 16), nW ((o + l.length - 1) / 16)])])
  (Eb := fun i z => (15, freshV w₀.heap.size [] 22 (rowV 16 (ksB k s c (o / 16 + i)))) :: (42, .v (aggV (rowV 16 (ksB k s c (o / 16 + i))))) :: ([(1000012, blk b12 5 (rowV l.length (mid (byL l) (xorG k s c o (byL l)) (dnS (o % 16) l.length (i))))), (1000013, blk b13 49 [.slice (some ⟨b12, rpS (o % 16) l.length (i), none⟩) (l.length - dnS (o % 16) l.length (i)) (l.length - dnS (o % 16) l.length (i))]), (1000014, blk b14 3 [nI (skS (o % 16) (i))]), (1000091, blk p 22 (rowV 16 k)), (1000092, blk q 95 [nW s, nQ c, nW (o / 16), nW ((o + l.length - 1) / 16)])] ++ [(12, .v (.slice (some ⟨b12, 0, none⟩) l.length l.length)), (13, .v (ptr b13)), (14, .v (ptr b14))] ++ [(1000004, blk z.1 81 z.2)]))
  (arg := fun i => .v (aggV (rowV 16 (ksB k s c (o / 16 + i))))) rfl ⟨_, Tryz.func77, by kernel_rfl, rfl⟩ (by decide) (by decide) (KE 1000012 rfl (by rw [dnS_zero]) (KE 1000013 rfl (by rw [rpS_zero hm, dnS_zero, List.length_replicate, Nat.sub_zero]; rfl) (KE 1000014 rfl (by rw [skS_zero]; rfl) (KC 1000091 rfl (KC 1000092 rfl (KE 12 rfl (by rw [List.length_replicate]) (KC 13 rfl (KC 14 rfl KN))))))))
  (fun x hx => by simp only [List.mem_cons, List.not_mem_nil, or_false] at hx; rcases hx with rfl | rfl | rfl <;> exact ⟨vlt rfl, .inl ⟨_, rfl⟩⟩)
  (fun i x hx => by simp only [List.mem_cons, List.not_mem_nil, or_false] at hx; rcases hx with rfl | rfl | rfl | rfl | rfl <;> exact vle rfl)
  (fun z x hx => by simp only [List.mem_cons, List.not_mem_nil, or_false] at hx; rcases hx with rfl; exact vle rfl)
  (fun z l _ x hx => by simp only [List.mem_cons, List.not_mem_nil, or_false] at hx; rcases hx with rfl; exact Firm.blk)
  (fun i l' hl x hx => by simp only [List.mem_cons, List.not_mem_nil, or_false] at hx; rcases hx with rfl | rfl | rfl | rfl | rfl <;> first | exact Firm.blk | exact Firm.v _ _ | exact Firm.freshV)
  (fun i z l' hl x hx => by simp only [List.mem_cons, List.mem_append, List.not_mem_nil, or_false] at hx; rcases hx with rfl | rfl | ((rfl | rfl | rfl | rfl | rfl) | rfl | rfl | rfl) | rfl <;> first | exact Firm.blk | exact Firm.v _ _ | exact Firm.freshV)
  (fun J l' w hq h0 => blocks1_seq (f := o / 16) (t := (o + l.length - 1) / 16) hk hs hc (by omega) (by omega) (hq.sub fun i x hx => by simp only [List.mem_cons, List.not_mem_nil, or_false] at hx ⊢; rcases hx with rfl | rfl <;> simp) h0)
  (fun i l' a w z _ hb h => assign_box zero22 (size22.of (rowV_length _ _)) (rowV_one _ _) (by rw [rowV_length, List.length_replicate]) (by decide) (by decide) hb h) ?_ ?_
 ·intro i l' D rr mm z hi'
  have hdl := dnS_lt hm hi'
  have hsk := skS_lt ha i
  refine A.openFresh (t := 15) (k := 1000015) rfl fun b15 hBb15 => ?_
  refine A.block ?_
  refine GD ?_
  refine TD 3 ?_
  refine RS (ok_loadV (s := 1000013) (by decide) Tryz.underlying49 rfl rfl rfl (rfl)) ?_; refine RZ (.slice (some ⟨b12, dnS (o % 16) l.length (i), none⟩) (l.length - dnS (o % 16) l.length (i)) (l.length - dnS (o % 16) l.length (i))) (by rw [rpS_lt hm hi']) ?_
  refine RS (ok_loadV (s := 1000014) (by decide) Tryz.underlying3 rfl rfl rfl (rfl)) ?_
  refine RS (ok_sliceX (l := skS (o % 16) i) (h := 16) (m := 16) Tryz.underlying22 info5 rfl (.inl ⟨_, _, rfl, rfl⟩) (.inr ⟨rfl, rfl, rfl⟩) (.inr ⟨rfl, rfl⟩) (by omega) (by decide) (by decide) (.inl hsk)) ?_; refine RZ (.slice (some ⟨b15, skS (o % 16) i, none⟩) (16 - skS (o % 16) i) (16 - skS (o % 16) i)) (by rw [Nat.zero_add]) ?_
  refine RN ?_
  refine ⟨_, eff_callWR (n := 48) (s := 1000012) (combine_fnWR b12 b15 (dnS (o % 16) l.length (i)) (skS (o % 16) i) l.length (byL l) (xorG k s c o (byL l)) (ksB k s c (o / 16 + i)) (byL_lt l) (ksB_by hk _ _ _) (by omega) (by omega) (by omega) (fun j hj => xorG_block hm hi' hj)) (fun p hp => by simp only [List.mem_cons, List.not_mem_nil, or_false] at hp; rcases hp with rfl; exact ⟨1000015, by decide, rfl⟩) (A2 rfl rfl) hBb12 rfl (by decide) (by decide) (LV 13 rfl (LV 14 rfl (LT 1000004 rfl (LT 1000013 rfl (LT 1000014 rfl (LT 1000015 rfl (LT 1000091 rfl (LT 1000092 rfl (LeftS.cons (t := 1000098) rfl (Surv.rec rfl) (LeftS.cons (t := 1000099) rfl (Surv.rec rfl) LN)))))))))), ?_⟩
  refine TD 4 ?_
  refine RN ?_
  refine ⟨_, eff_storeS (n := 48) (s := 1000013) info49 rfl rfl rfl hBb13 rfl (by simp) (LV 14 rfl (LT 1000004 rfl (LT 1000012 rfl (LT 1000014 rfl (LT 1000015 rfl (LT 1000091 rfl (LT 1000092 rfl (LeftS.cons (t := 1000098) rfl (Surv.rec rfl) (LeftS.cons (t := 1000099) rfl (Surv.rec rfl) LN))))))))), ?_⟩
  refine TL ?_
  refine RN ?_
  refine A.sub (KC 14 rfl (KC 1000004 rfl (KE 1000012 rfl (show _ = blk b12 5 (rowV l.length (mid (byL l) (xorG k s c o (byL l)) (dnS (o % 16) l.length (i + 1)))) from by rw [dnS_next ha hm hi']) (KE 1000013 rfl (show _ = blk b13 49 [.slice (some ⟨b12, rpS (o % 16) l.length (i + 1), none⟩) (l.length - dnS (o % 16) l.length (i + 1)) (l.length - dnS (o % 16) l.length (i + 1))] from congrArg _ (by rw [rpS_next ha hm hi', Nat.sub_sub, dnS_next ha hm hi']; rfl)) (KC 1000014 rfl (KC 1000015 rfl (KC 1000091 rfl (KC 1000092 rfl (KC 1000098 rfl (KC 1000099 rfl KN)))))))))) ?_
  refine GE ?_
  refine TF 0 ?_
  refine RN ?_
  refine ⟨_, eff_storeS (n := 48) (s := 1000014) info3 rfl rfl rfl hBb14 rfl (by simp) (LT 1000004 rfl (LT 1000012 rfl (LT 1000013 rfl (LT 1000015 rfl (LT 1000091 rfl (LT 1000092 rfl (LeftS.cons (t := 1000098) rfl (Surv.rec rfl) (LeftS.cons (t := 1000099) rfl (Surv.rec rfl) LN)))))))), ?_⟩
  refine TL ?_
  refine RN ?_
  refine End.sub (KC 1000004 rfl (KC 1000012 rfl (KC 1000013 rfl (KE 1000014 rfl (show _ = blk b14 3 [nI (skS (o % 16) (i + 1))] from by rw [skS_succ]; rfl) (KC 1000015 rfl (KC 1000091 rfl (KC 1000092 rfl (KC 1000098 rfl (KC 1000099 rfl KN))))))))) ?_
  refine End.normal_block ?_
  exact End.round (KC 1000098 rfl (KC 1000099 rfl (KC 1000012 rfl (KC 1000013 rfl (KC 1000014 rfl (KC 1000091 rfl (KC 1000092 rfl (KC 1000004 rfl KN)))))))) (fun x hx => by simp only [List.mem_cons, List.mem_append, List.not_mem_nil, or_false] at hx; rcases hx with rfl | rfl | (rfl | rfl | rfl | rfl | rfl) | rfl <;> exact vle rfl) (by decide)
 ·intro D hD
  refine End.normal_block ?_
  refine EN ?_
  refine GS ?_
  refine TL ?_
  refine RM rfl ?_
  refine RA rfl ?_
  refine RA rfl ?_
  refine RN ?_
  refine A.ret ?_
  refine End.bytes 8 1000012 (xorK k s c o l) rfl (xorK_length k s c o l).symm rfl (by rw [dnS_end ha hm, mid_full, xorK_length, List.take_of_length_le (Nat.le_of_eq (rowV_length _ _)), xorK_row hk s c o l rfl]) (Nat.le_of_eq (xorK_length k s c o l)) (by simp only [maxLen]; omega) ?_
  exact End.ret2C (D := D) (vD := 1000099) rfl hD rfl rfl Firm.bytes (Le.refl _) rfl (Firm.v _ _) (Le.refl _)
theorem Xor7_fn (k : Nat → Nat) (hk : By k) (s c o : Nat) (l : List UInt8) (hs : s < 4294967296) (hc : c < 18446744073709551616) (ho : o + l.length ≤ 1048576) : Fn Tryz.prog 37 [.v (aggV (rowV 16 (k))), .v (aggV ([nW s, nQ c])), .v (nI o), byt l] (tup [bytes (xorK k s c o l) l.length, .v (.int .i64 0)]) := by
 by_cases hm : 0 < l.length
 ·exact Xor7_pos k hk s c o l hs hc hm ho
 ·obtain rfl : l = [] := List.eq_nil_of_length_eq_zero (by omega)
  exact (Xor7_empty k s c (o : Int) [] (by omega) (by omega) rfl).le (tup_le2 bytes_nil_le (Le.refl _))
end Go.Proofs.YthadcgkcgpinhaaGreatDoor
namespace Go.Proofs.YthadcgkcgpinhaaGreatDoor
open Go Go.RowKit
variable {κ : Cx}

/-! ### Slices of values that are known -/
def vlist (us : List Value) (c : Nat) : D := list (us.map D.v) c
def vlst (us : List Value) : D := lst (us.map D.v)
theorem le_vlst (us : List Value) (c : Nat) : Le (vlist us c) (vlst us) := le_lst _ c
theorem vlist_mk {us : List Value} {c B : Nat} {w : World} {A : Option Addr} (h1 : us.length ≤ c) (h2 : c ≤ maxLen) (h : RowIn B w A us) : (vlist us c).OfB B w (.slice A us.length c) :=
  ⟨A, us, by simp, by simpa using h1, h2, by simp, h, fun j d u hd hu => by
    simp only [List.getElem?_map, hu, Option.map_some, Option.some.injEq] at hd
    subst hd; rfl⟩
/-- A slice over a block that is known whole. -/
theorem slice_vlist {b n c : Nat} {e : TypeId} {xs : List Value} (us : List Value) (hn : n = us.length) (hc : n ≤ c) (hm : c ≤ maxLen) (hl : xs.take n = us) (B : Nat) (w : World) (hb : b < B) (hh : w.heap[b]? = some (.cells xs.toArray e (0, 0))) : (vlist us c).OfB B w (.slice (some ⟨b, 0, none⟩) n c) := by
  subst hn
  refine vlist_mk hc hm ?_
  rw [← hl]
  exact blk_row hb hh _

/-! ### Structs whose first field is told by a fact -/
section
variable {P : Program} {w₀ : World} {n : Nat} {c : Code} {E : Env} {Q : Exit → Act → World → Prop}
end
section
variable {P : Program} {B : Nat} {E : Env} {o : Oper}
theorem OpOk.valO {v : Value} {f : D} {k B' : Nat} (h : OpOk P B o E (.v v)) (hk : vbase ≤ k) (hl : E.look k = some (old B' (valM v f))) : OpOk P B o E (old B' f) := fun ρ w hB hv hρ => by
  refine (h ρ w hB hv hρ).mono fun x w' hx => ⟨hx.1, ?_⟩
  have h2 : (old B' (valM v f)).Of w' undef := D.Of.grow (hv k _ hk hl) hx.1
  rw [show x = v from hx.2]
  exact h2
variable {dst : Option Tmp} {ty : TypeId} {pos : String} {after : Array Edge} {guard : Option (Nat × Bool)}
theorem ok_extractV {x : Operand} {i : Nat} {xs : List Value} {u : Value} (hx : E.at x = some (.v (.tuple xs.toArray))) (hi : xs[i]? = some u) : OpOk P B ⟨dst, .extract x i, ty, pos, after, guard⟩ E (.v u) := fun ρ w _ _ hρ => by
  have h1 : ρ x = .tuple xs.toArray := hρ x (by simp [Op.operands]) _ hx
  exact out_val (x := u) (w' := w) (by simp [execOp, h1, Instr.extract, hi]) ⟨Grow.refl w, rfl⟩
end

/-! ### New blocks, named where they are made -/
def newD (base : Nat) (e : TypeId) (val : Nat → Value) (xs : List Value) : D :=
  .p (fun B w x => ∃ b, x = val b ∧ base ≤ b ∧ b < B ∧ w.heap[b]? = some (.cells xs.toArray e (0, 0)))
    (fun _ _ _ _ g ⟨b, h1, h2, h3, h4⟩ => ⟨b, h1, h2, h3, (g.block b h3).trans h4⟩) (fun _ _ _ _ g ⟨b, h1, h2, h3, h4⟩ => ⟨b, h1, h2, by omega, h4⟩)
theorem newD_mono {e : TypeId} {val : Nat → Value} {xs : List Value} (B B' : Nat) (h : B ≤ B') : Le (newD B' e val xs) (newD B e val xs) := fun _ _ _ ⟨b, h1, h2, h3, h4⟩ => ⟨b, h1, by omega, h3, h4⟩
theorem fresh_newD {B : Nat} {e : TypeId} {xs : List Value} {n : Nat} : Le (fresh B e xs n) (newD B e (fun b => .slice (some ⟨b, 0, none⟩) n xs.length) xs) := fun _ _ _ ⟨b, h1, h2, h3, h4⟩ => ⟨b, h1, h2, h3, h4⟩
theorem eff_name {P : Program} {n B : Nat} {ops : Array Oper} {E : Env} {o : Oper} {d k : Nat} {e : TypeId} {val : Nat → Value} {xs : List Value} (ht : o.dst = some d) (hg : o.guard = none) (hok : ∀ B', OpOk P B' o E (newD B' e val xs)) (hdn : d < n) (hnv : n ≤ vbase) :
    EffG P n B ops o E (NewB B E) (fun b => (d, .v (val b)) :: (k, blk b e xs) :: E) := by
  intro κ a w K Q h hK
  rw [if_pos (by simp [Region.wanted, hg])]
  refine wp_of_out ht ((hok w.heap.size a.eval w (Nat.le_refl _) (h.virt hnv) fun x _ u hu => h.at_ x _ hu).mono ?_)
  rintro x w' ⟨hgr, b, rfl, hb, hlt, hh⟩
  refine hK b _ _ ⟨Nat.le_trans h.base hb, fun s b' e ys hs => Nat.lt_of_lt_of_le (h.of s _ hs).1 hb⟩ (Below.mono hgr h.base) (St.put ?_ hdn rfl)
  exact (h.grow hgr).push (t := k) (d := blk b e xs) ⟨hlt, hh⟩
theorem eff_nameF {P : Program} {n B : Nat} {ops : Array Oper} {E : Env} {o : Oper} {d k m : Nat} {e : TypeId} {xs : List Value} {c : Nat} (hc : xs.length = c) (ht : o.dst = some d) (hg : o.guard = none) (hok : ∀ B', OpOk P B' o E (fresh B' e xs m)) (hdn : d < n) (hnv : n ≤ vbase) :
    EffG P n B ops o E (NewB B E) (fun b => (d, .v (.slice (some ⟨b, 0, none⟩) m c)) :: (k, blk b e xs) :: E) := hc ▸ eff_name ht hg (fun B' => (hok B').le fresh_newD) hdn hnv

/-! ### Ends -/
section
variable {P : Program} {n : Nat} {w₀ : World} {E : Env}
theorem load_cell {w : World} {b : Nat} {e T : TypeId} {td : TypeDesc} {xs : List Value} (ht : P.underlying T = some td) (hp : (match td with | .struct _ | .array _ _ => true | _ => false) = true) (hsz : SizeIs P T xs.length) (hh : w.heap[b]? = some (.cells xs.toArray e (0, 0))) :
    (loadVar T ⟨b, 0, none⟩).run P w = .ok (aggV xs) w := by
  have := run_loadVar_row (P := P) w b e T xs.toArray (0, 0) td hh ht hp (by simpa [SizeIs] using hsz)
  simpa [aggV] using this
theorem End.newT {fn : Func} {r s b g kg r' : Nat} {T e' e : TypeId} {td : TypeDesc} {ys zs xs : List Value} {v' : Value} {val : Nat → Value} (hr : fn.results = #[.cell r T, .tmp r']) (ht : P.underlying T = some td) (hp : (match td with | .struct _ | .array _ _ => true | _ => false) = true) (hsz : SizeIs P T ys.length)
    (h1 : E.look r = some (.v (.pointer (some ⟨b, 0, none⟩)))) (h2 : E.look s = some (blk b e' ys)) (h5 : E.look r' = some (.v v')) (h4 : E.look kg = some (blk g e zs)) (hg : w₀.heap.size ≤ g) (hv : val g = .tuple #[aggV ys, v']) (hz : zs = xs) :
    End Cx.top w₀ n E (BP P fn (PostOf w₀ (newD w₀.heap.size e val xs)) .ret) := fun a w gr hs => by
  subst hz
  have h3 : a.tmps[r]?.getD undef = .pointer (some ⟨b, 0, none⟩) := by rw [← Array.getD_eq_getD_getElem?]; exact hs.of r _ h1
  have h6 : a.tmps[r']?.getD undef = v' := by rw [← Array.getD_eq_getD_getElem?]; exact hs.of r' _ h5
  obtain ⟨_, hh⟩ := hs.of s _ h2
  obtain ⟨hl', hh'⟩ := hs.of kg _ h4
  exact BP.ret hs.defers ⟨.tuple #[aggV ys, v'], by simp [results, hr, h3, h6, asAddr, load_cell ht hp hsz hh], _, rfl, gr, g, hv.symm, hg, hl', hh'⟩
/-- The same of three values that are all known. -/
theorem End.cell3 {fn : Func} {r s b r₂ s₂ b₂ r' : Nat} {T e' T₂ e₂ : TypeId} {td td₂ : TypeDesc} {us ys : List Value} {v' : Value} (hr : fn.results = #[.cell r T, .cell r₂ T₂, .tmp r'])
    (ht : P.underlying T = some td) (hp : (match td with | .struct _ | .array _ _ => true | _ => false) = true) (hsz : SizeIs P T us.length) (ht₂ : P.underlying T₂ = some td₂) (hp₂ : (match td₂ with | .struct _ | .array _ _ => true | _ => false) = true) (hsz₂ : SizeIs P T₂ ys.length)
    (h1 : E.look r = some (.v (.pointer (some ⟨b, 0, none⟩)))) (h2 : E.look s = some (blk b e' us)) (h1₂ : E.look r₂ = some (.v (.pointer (some ⟨b₂, 0, none⟩)))) (h2₂ : E.look s₂ = some (blk b₂ e₂ ys)) (h5 : E.look r' = some (.v v')) :
    End Cx.top w₀ n E (BP P fn (PostOf w₀ (.v (.tuple #[aggV us, aggV ys, v']))) .ret) := fun a w gr hs => by
  have h3 : a.tmps[r]?.getD undef = .pointer (some ⟨b, 0, none⟩) := by rw [← Array.getD_eq_getD_getElem?]; exact hs.of r _ h1
  have h3₂ : a.tmps[r₂]?.getD undef = .pointer (some ⟨b₂, 0, none⟩) := by rw [← Array.getD_eq_getD_getElem?]; exact hs.of r₂ _ h1₂
  have h6 : a.tmps[r']?.getD undef = v' := by rw [← Array.getD_eq_getD_getElem?]; exact hs.of r' _ h5
  obtain ⟨_, hh⟩ := hs.of s _ h2
  obtain ⟨_, hh₂⟩ := hs.of s₂ _ h2₂
  exact BP.ret hs.defers ⟨.tuple #[aggV us, aggV ys, v'], by simp [results, hr, h3, h3₂, h6, asAddr, load_cell ht hp hsz hh, load_cell ht₂ hp₂ hsz₂ hh₂], _, rfl, gr, rfl⟩
theorem End.cellV {fn : Func} {r s b r' : Nat} {T e' : TypeId} {td : TypeDesc} {ys : List Value} {v' : Value} (hr : fn.results = #[.cell r T, .tmp r']) (ht : P.underlying T = some td) (hp : (match td with | .struct _ | .array _ _ => true | _ => false) = true) (hsz : SizeIs P T ys.length)
    (h1 : E.look r = some (.v (.pointer (some ⟨b, 0, none⟩)))) (h2 : E.look s = some (blk b e' ys)) (h5 : E.look r' = some (.v v')) : End Cx.top w₀ n E (BP P fn (PostOf w₀ (.v (.tuple #[aggV ys, v']))) .ret) := fun a w gr hs => by
  have h3 : a.tmps[r]?.getD undef = .pointer (some ⟨b, 0, none⟩) := by rw [← Array.getD_eq_getD_getElem?]; exact hs.of r _ h1
  have h6 : a.tmps[r']?.getD undef = v' := by rw [← Array.getD_eq_getD_getElem?]; exact hs.of r' _ h5
  obtain ⟨_, hh⟩ := hs.of s _ h2
  exact BP.ret hs.defers ⟨.tuple #[aggV ys, v'], by simp [results, hr, h3, h6, asAddr, load_cell ht hp hsz hh], _, rfl, gr, rfl⟩
/-- Two values, both known. -/
theorem End.ret2V {fn : Func} {r s : Nat} {u v : Value} (hr : fn.results = #[.tmp r, .tmp s]) (h1 : E.look r = some (.v u)) (h2 : E.look s = some (.v v)) : End Cx.top w₀ n E (BP P fn (PostOf w₀ (.v (.tuple #[u, v]))) .ret) := fun a w gr hs => by
  have h3 : a.tmps[r]?.getD undef = u := by rw [← Array.getD_eq_getD_getElem?]; exact hs.of r _ h1
  have h4 : a.tmps[s]?.getD undef = v := by rw [← Array.getD_eq_getD_getElem?]; exact hs.of s _ h2
  exact BP.ret hs.defers ⟨.tuple #[u, v], by simp [results, hr, h3, h4], _, rfl, gr, rfl⟩
end

/-! ### copy, clear -/
section
variable {P : Program} {n B : Nat} {ops : Array Oper} {E : Env} {ty : TypeId} {pos : String} {after : Array Edge}
end
end Go.Proofs.YthadcgkcgpinhaaGreatDoor
namespace Go.Proofs.YthadcgkcgpinhaaGreatDoor
open Go Go.RowKit
variable {κ : Cx}
/-- The greatest of them. -/
def mx (cs : List Nat) : Nat := cs.foldl max 0
def nonceL (s c : Nat) : List UInt8 := be 4 s ++ be 8 c
theorem nonceL_length (s c : Nat) : (nonceL s c).length = 12 := by simp [nonceL, be_length]
section
variable {P : Program} {B : Nat} {E : Env} {dst : Option Tmp} {ty : TypeId} {pos : String} {after : Array Edge} {guard : Option (Nat × Bool)}
theorem ok_lenU {t e : TypeId} {x : Operand} {f : D} {us : List Value} (m : Nat) (ht : P.underlying t = some (.slice e)) (hx : E.at x = some f) (hf : Le f (vlst us)) (hm : us.length = m) :
    OpOk P B ⟨dst, .call { callee := .builtin .len, args := #[x], argTypes := #[t] }, ty, pos, after, guard⟩ E (.v (.int .i64 (m : Int))) := by
  have := ok_len (P := P) (B := B) (dst := dst) (ty := ty) (pos := pos) (after := after) (guard := guard) ht hx hf
  rwa [List.length_map, hm] at this
theorem ok_indexU {t e : TypeId} {z : Value} {nb : Nat} {x i : Operand} {f : D} {us : List Value} {k : IntKind} {u : Value} (m : Nat) (ht : P.underlying t = some (.slice e)) (hs : InfoIs P e z nb) (hx : E.at x = some f) (hf : Le f (vlst us)) (hi : E.at i = some (.v (.int k (m : Int))))
    (hu : us[m]? = some u) : OpOk P B ⟨dst, .indexAddr t x i, ty, pos, after, guard⟩ E (elem (.v u)) :=
  ok_index ht hs hx hf hi (Int.natCast_nonneg _) (by rw [Int.toNat_natCast, List.getElem?_map, hu]; rfl)
/-- A literal of some fields. -/
def LitS (E : Env) : List (Nat × Value) → List (Nat × Operand) → Prop
  | [], [] => True
  | (i, u) :: us, (j, x) :: ps => i = j ∧ E.at x = some (.v u) ∧ LitS E us ps
  | _, _ => False
theorem LitS.map {ρ : Operand → Value} : ∀ {us : List (Nat × Value)} {ps : List (Nat × Operand)}, LitS E us ps → (∀ x, x ∈ ps.map (·.2) → ∀ v, E.at x = some (.v v) → ρ x = v) → ps.map (fun p => (p.1, ρ p.2)) = us
  | [], [], _, _ => rfl
  | [], _ :: _, h, _ => h.elim
  | _ :: _, [], h, _ => h.elim
  | (i, u) :: us, (j, x) :: ps, ⟨h1, h2, h3⟩, hρ => by
    subst h1
    simp only [List.map_cons, hρ x (by simp) u h2]
    rw [LitS.map h3 fun y hy v hv => hρ y (by simp only [List.map_cons, List.mem_cons]; exact .inr hy) v hv]
theorem ok_litS {t : TypeId} {ps : Array (Nat × Operand)} (us : List (Nat × Value)) (ys : List Value) (hl : LitS E us ps.toList) (hb : P.built t us = some ys.toArray) : OpOk P B ⟨dst, .build t ps, ty, pos, after, guard⟩ E (.v (aggV ys)) :=
  ok_lit us ys (fun _ hρ => hl.map hρ) hb
end
theorem fresh_vlist {b : Nat} {e : TypeId} {xs : List Value} {n : Nat} (hn : n = xs.length) (hm : n ≤ maxLen) : Le (fresh b e xs n) (vlist xs n) := fun B w x ⟨g, h1, h2, h3, h4⟩ => by
  subst h1; subst hn
  exact slice_vlist xs rfl (Nat.le_refl _) hm (List.take_length ..) B w h3 h4
section
variable {P : Program} {n B : Nat} {ops : Array Oper} {E : Env} {ty : TypeId} {pos : String} {after : Array Edge}
end
end Go.Proofs.YthadcgkcgpinhaaGreatDoor
namespace Go.Proofs.YthadcgkcgpinhaaGreatDoor
open Go Go.RowKit
set_option linter.unusedVariables false
set_option maxRecDepth 20000




theorem buildN (s c : Nat) : Tryz.prog.built 30 [(0, .int .u32 (s : Int)), (1, .int .u64 (c : Int))] = some ([nW s, nQ c] : List Value).toArray := by kernel_rfl
theorem flatN : flat Tryz.prog 3 30 = some [.u32, .u64] := by kernel_rfl
theorem ref8Put_fn (s c : Nat) (hs : s < 4294967296) (hc : c < 18446744073709551616) : Fn Tryz.prog 31 [.v (aggV ([nW s, nQ c]))] (byt (nonceL s c)) := by
 refine Fn.of Tryz.func31 rfl (by kernel_rfl) Tryz.ntmps31 (by simp) (fun w => [(0, .v (aggV ([nW s, nQ c])))]) (fun w => (Start.v rfl Start.nil)) fun w₀ => ?_
 refine GS ?_
 refine TN 0 ?_
 refine RN ?_
 refine ⟨_, _, eff_box (n := 10) (d := 1) (k := 1000001) rfl (by decide), fun b1 hb1 => ?_⟩
 have hBb1 := hb1.1
 refine TL ?_
 refine RA rfl ?_
 refine RN ?_
 refine GD ?_
 refine TL ?_
 refine RS (ok_field field30_0 (by decide) rfl) ?_
 refine RS (ok_loadV (s := 1000001) (by decide) Tryz.underlying27 rfl rfl rfl (rfl)) ?_
 refine RS (ok_call ((refPut32_fn ((s : Nat) : Int) (by omega) (by omega)).le (d' := bytes (be 4 s) 4) (Le.refl _)) (A1 rfl)) ?_
 refine RS (ok_field field30_1 (by decide) rfl) ?_
 refine RS (ok_loadV (s := 1000001) (by decide) Tryz.underlying28 rfl rfl rfl (rfl)) ?_
 refine RS (ok_call ((refPut64_fn ((c : Nat) : Int) (by omega) (by omega)).le (d' := bytes (be 8 c) 8) (Le.refl _)) (A1 rfl)) ?_
 refine RS (ok_appendFull (l := be 4 s) (m := be 8 c) Tryz.underlying49 info5 (by decide) rfl rfl (Le.eq (by rw [be_length])) rfl (le_byt _ _) (by rw [be_length]; decide) (by rw [be_length]; decide) (by rw [be_length, be_length]; decide)) ?_
 refine RA rfl ?_
 refine RN ?_
 refine A.ret ?_
 exact End.ret1 rfl rfl (own_byt (B := w₀.heap.size) (e := 5) (n := (be 4 s).length + (be 8 c).length) (l := nonceL s c) (by rw [nonceL_length, be_length, be_length]))
theorem Put_fn (s c : Nat) (hs : s < 4294967296) (hc : c < 18446744073709551616) : Fn Tryz.prog 62 [.v (aggV ([nW s, nQ c]))] (bytes (nonceL s c) 12) := by
 refine Fn.of Tryz.func62 rfl (by kernel_rfl) Tryz.ntmps62 (by simp) (fun w => [(0, .v (aggV ([nW s, nQ c])))]) (fun w => (Start.v rfl Start.nil)) fun w₀ => ?_
 refine GS ?_
 refine TN 0 ?_
 refine RN ?_
 refine ⟨_, _, eff_box (n := 11) (d := 1) (k := 1000001) rfl (by decide), fun b1 hb1 => ?_⟩
 have hBb1 := hb1.1
 refine TL ?_
 refine RA rfl ?_
 refine RN ?_
 refine GD ?_
 refine TL ?_
 refine RS (ok_field field30_0 (by decide) rfl) ?_
 refine RS (ok_loadV (s := 1000001) (by decide) Tryz.underlying27 rfl rfl rfl (rfl)) ?_
 refine RS (ok_call ((Put32_fn ((s : Nat) : Int) (by omega) (by omega)).le (d' := bytes (be 4 s) 4) (Le.refl _)) (A1 rfl)) ?_
 refine RS (ok_field field30_1 (by decide) rfl) ?_
 refine RS (ok_loadV (s := 1000001) (by decide) Tryz.underlying28 rfl rfl rfl (rfl)) ?_
 refine RS (ok_call ((Put64_fn ((c : Nat) : Int) (by omega) (by omega)).le (d' := bytes (be 8 c) 8) (Le.refl _)) (A1 rfl)) ?_
 refine RS (ok_build [bytes (be 4 s) 4, bytes (be 8 c) 8] Tryz.underlying102 info49 rfl (by decide) (by decide) rfl ⟨rfl, rfl, rfl, rfl, trivial⟩ (fun d hd w x h => by simp only [List.mem_cons, List.not_mem_nil, or_false] at hd; rcases hd with rfl | rfl <;> exact list_one h)) ?_
 refine RS ((ok_call (Join_fn [be 4 s, be 8 c] (by simp) (by simp [be_length])) (Args.cons rfl (list_lst2 (le_byt _ 4) (le_byt _ 8)) Args.nil)).le (d' := bytes (nonceL s c) 12) (Le.eq (by simp [be_length]; rfl))) ?_
 refine RA rfl ?_
 refine RN ?_
 refine A.ret ?_
 exact End.ret1 rfl rfl (by first | exact Le.refl _ | exact Le.old _ _)
theorem chk_lo {n : Nat} {k : Int} (h : (n : Int) < k) : chk n k = 6 := by
 unfold chk
 repeat' split
 all_goals omega
theorem chk_hi {n : Nat} {k : Int} (h : k < (n : Int)) : chk n k = 5 := by
 unfold chk
 repeat' split
 all_goals omega
theorem chk_eq {n : Nat} {k : Int} (h : (n : Int) = k) : chk n k = 0 := by
 unfold chk
 repeat' split
 all_goals omega
theorem Get_lo (l : List UInt8) (h : l.length < 4) : Fn Tryz.prog 36 [byt l] (tup [.v (aggV [.int .u32 0, .int .u64 0]), .v (.int .i64 6)]) := by
 refine Fn.of Tryz.func36 rfl (by kernel_rfl) Tryz.ntmps36 (by simp) (fun w => [(0, old w.heap.size (byt l))]) (fun w => (Start.old rfl Start.nil)) fun w₀ => ?_
 refine GS ?_
 refine TN 0 ?_
 refine RN ?_
 refine ⟨_, _, eff_alloc (n := 36) (d := 2) (k := 1000002) zero30 (by decide), fun b2 hb2 => ?_⟩
 have hBb2 := hb2.1
 refine TL ?_
 refine RA rfl ?_
 refine RN ?_
 refine GS ?_
 refine TL ?_
 refine RM rfl ?_
 refine RS (ok_lenB Tryz.underlying49 rfl LA) ?_
 refine RS (ok_min rfl rfl) ?_; refine RZ (nI (l.length)) (congrArg (Value.int .i64) (by omega)) ?_
 refine RA rfl ?_
 refine RN ?_
 refine GS ?_
 refine TL ?_
 refine RM rfl ?_
 refine RM rfl ?_
 refine RS ((ok_slice (ds := l.map byteD) 0 (l.length) Tryz.underlying49 info5 rfl (Le.old _ _) (.inr ⟨rfl, rfl⟩) (.inl ⟨_, _, rfl, rfl⟩) (by omega) (by first | (simp; done) | (simp; omega))).le (d' := byt (l.take (l.length))) (Le.eq (by rw [List.drop_zero, ← List.map_take]; rfl))) ?_
 refine RS (ok_call (Get32_fn (l.take (l.length))) (A1 rfl)) ?_
 refine RM rfl ?_
 refine RS (ok_extract rfl rfl) ?_
 refine RS (ok_extract rfl rfl) ?_; refine RZ (.int .i64 6) (congrArg (Value.int .i64) (chk_lo (by first | (simp; done) | (simp; omega)))) ?_
 refine RA rfl ?_
 refine RA rfl ?_
 refine RN ?_
 refine A.seq ?_
 refine GS ?_
 refine TL ?_
 refine RM rfl ?_
 refine RBS rfl rfl rfl (.bool true) (by rfl) ?_
 refine RN ?_
 refine A.yes rfl ?_
 refine GS ?_
 refine TF 2 ?_
 refine RS (ok_lit [] ([.int .u32 0] ++ [.int .u64 0]) (fun _ _ => rfl) (by kernel_rfl)) ?_
 refine RM rfl ?_
 refine RN ?_
 refine ⟨_, eff_storeA (n := 36) (s := 1000002) (size30.of (rfl)) rfl rfl (rfl) hBb2 rfl (rfl) (LV 2 rfl (LV 21 rfl LN)), ?_⟩
 refine TL ?_
 refine RA rfl ?_
 refine RN ?_
 refine A.ret ?_
 refine End.ret_then ?_
 exact End.cellT (s := 1000002) rfl Tryz.underlying30 rfl (size30.of (rfl)) rfl rfl (Le.refl _) rfl (Le.refl _)
theorem Get_short (l : List UInt8) (h : 4 ≤ l.length) (h2 : l.length < 12) : Fn Tryz.prog 36 [byt l] (tup [.v (aggV [.int .u32 0, .int .u64 0]), .v (.int .i64 6)]) := by
 refine Fn.of Tryz.func36 rfl (by kernel_rfl) Tryz.ntmps36 (by simp) (fun w => [(0, old w.heap.size (byt l))]) (fun w => (Start.old rfl Start.nil)) fun w₀ => ?_
 refine GS ?_
 refine TN 0 ?_
 refine RN ?_
 refine ⟨_, _, eff_alloc (n := 36) (d := 2) (k := 1000002) zero30 (by decide), fun b2 hb2 => ?_⟩
 have hBb2 := hb2.1
 refine TL ?_
 refine RA rfl ?_
 refine RN ?_
 refine GS ?_
 refine TL ?_
 refine RM rfl ?_
 refine RS (ok_lenB Tryz.underlying49 rfl LA) ?_
 refine RS (ok_min rfl rfl) ?_; refine RZ (nI 4) (congrArg (Value.int .i64) (by omega)) ?_
 refine RA rfl ?_
 refine RN ?_
 refine GS ?_
 refine TL ?_
 refine RM rfl ?_
 refine RM rfl ?_
 refine RS ((ok_slice (ds := l.map byteD) 0 (4) Tryz.underlying49 info5 rfl (Le.old _ _) (.inr ⟨rfl, rfl⟩) (.inl ⟨_, _, rfl, rfl⟩) (by omega) (by first | (simp; done) | (simp; omega))).le (d' := byt (l.take (4))) (Le.eq (by rw [List.drop_zero, ← List.map_take]; rfl))) ?_
 refine RS (ok_call (Get32_fn (l.take (4))) (A1 rfl)) ?_
 refine RM rfl ?_
 refine RS (ok_extract rfl rfl) ?_
 refine RS (ok_extract rfl rfl) ?_; refine RZ (.int .i64 0) (congrArg (Value.int .i64) (chk_eq (by first | (simp; done) | (simp; omega)))) ?_
 refine RA rfl ?_
 refine RA rfl ?_
 refine RN ?_
 refine A.seq ?_
 refine GS ?_
 refine TL ?_
 refine RM rfl ?_
 refine RBS rfl rfl rfl (.bool false) (by rfl) ?_
 refine RN ?_
 refine A.no rfl ?_
 refine A.skip ?_
 refine EN ?_
 refine GS ?_
 refine TL ?_
 refine RM rfl ?_
 refine RM rfl ?_
 refine RS ((ok_slice (ds := l.map byteD) 4 l.length Tryz.underlying49 info5 rfl (Le.old _ _) (.inl ⟨_, _, rfl, rfl⟩) (.inr ⟨rfl, by simp⟩) (by omega) (by simp)).le (d' := byt (l.drop 4)) (Le.eq (by rw [List.take_of_length_le (by simp), ← List.map_drop]; rfl))) ?_
 refine RS (ok_call (Get64_fn (l.drop 4)) (A1 rfl)) ?_
 refine RM rfl ?_
 refine RS (ok_extract rfl rfl) ?_
 refine RS (ok_extract rfl rfl) ?_; refine RZ (.int .i64 6) (congrArg (Value.int .i64) (chk_lo (by first | (simp; done) | (simp; omega)))) ?_
 refine RA rfl ?_
 refine RA rfl ?_
 refine RN ?_
 refine A.sub (KC 2 rfl (KC 5 rfl (KC 6 rfl (KC 7 rfl (KC 1000002 rfl KN))))) ?_
 refine A.seq ?_
 refine GS ?_
 refine TL ?_
 refine RM rfl ?_
 refine RBS rfl rfl rfl (.bool true) (by rfl) ?_
 refine RN ?_
 refine A.yes rfl ?_
 refine GS ?_
 refine TF 2 ?_
 refine RS (ok_lit [] ([.int .u32 0] ++ [.int .u64 0]) (fun _ _ => rfl) (by kernel_rfl)) ?_
 refine RM rfl ?_
 refine RN ?_
 refine ⟨_, eff_storeA (n := 36) (s := 1000002) (size30.of (rfl)) rfl rfl (rfl) hBb2 rfl (rfl) (LV 2 rfl (LV 32 rfl LN)), ?_⟩
 refine TL ?_
 refine RA rfl ?_
 refine RN ?_
 refine A.ret ?_
 refine End.ret_then ?_
 exact End.cellT (s := 1000002) rfl Tryz.underlying30 rfl (size30.of (rfl)) rfl rfl (Le.refl _) rfl (Le.refl _)
theorem Get_long (l : List UInt8) (h : 12 < l.length) : Fn Tryz.prog 36 [byt l] (tup [.v (aggV [.int .u32 0, .int .u64 0]), .v (.int .i64 5)]) := by
 refine Fn.of Tryz.func36 rfl (by kernel_rfl) Tryz.ntmps36 (by simp) (fun w => [(0, old w.heap.size (byt l))]) (fun w => (Start.old rfl Start.nil)) fun w₀ => ?_
 refine GS ?_
 refine TN 0 ?_
 refine RN ?_
 refine ⟨_, _, eff_alloc (n := 36) (d := 2) (k := 1000002) zero30 (by decide), fun b2 hb2 => ?_⟩
 have hBb2 := hb2.1
 refine TL ?_
 refine RA rfl ?_
 refine RN ?_
 refine GS ?_
 refine TL ?_
 refine RM rfl ?_
 refine RS (ok_lenB Tryz.underlying49 rfl LA) ?_
 refine RS (ok_min rfl rfl) ?_; refine RZ (nI 4) (congrArg (Value.int .i64) (by omega)) ?_
 refine RA rfl ?_
 refine RN ?_
 refine GS ?_
 refine TL ?_
 refine RM rfl ?_
 refine RM rfl ?_
 refine RS ((ok_slice (ds := l.map byteD) 0 (4) Tryz.underlying49 info5 rfl (Le.old _ _) (.inr ⟨rfl, rfl⟩) (.inl ⟨_, _, rfl, rfl⟩) (by omega) (by first | (simp; done) | (simp; omega))).le (d' := byt (l.take (4))) (Le.eq (by rw [List.drop_zero, ← List.map_take]; rfl))) ?_
 refine RS (ok_call (Get32_fn (l.take (4))) (A1 rfl)) ?_
 refine RM rfl ?_
 refine RS (ok_extract rfl rfl) ?_
 refine RS (ok_extract rfl rfl) ?_; refine RZ (.int .i64 0) (congrArg (Value.int .i64) (chk_eq (by first | (simp; done) | (simp; omega)))) ?_
 refine RA rfl ?_
 refine RA rfl ?_
 refine RN ?_
 refine A.seq ?_
 refine GS ?_
 refine TL ?_
 refine RM rfl ?_
 refine RBS rfl rfl rfl (.bool false) (by rfl) ?_
 refine RN ?_
 refine A.no rfl ?_
 refine A.skip ?_
 refine EN ?_
 refine GS ?_
 refine TL ?_
 refine RM rfl ?_
 refine RM rfl ?_
 refine RS ((ok_slice (ds := l.map byteD) 4 l.length Tryz.underlying49 info5 rfl (Le.old _ _) (.inl ⟨_, _, rfl, rfl⟩) (.inr ⟨rfl, by simp⟩) (by omega) (by simp)).le (d' := byt (l.drop 4)) (Le.eq (by rw [List.take_of_length_le (by simp), ← List.map_drop]; rfl))) ?_
 refine RS (ok_call (Get64_fn (l.drop 4)) (A1 rfl)) ?_
 refine RM rfl ?_
 refine RS (ok_extract rfl rfl) ?_
 refine RS (ok_extract rfl rfl) ?_; refine RZ (.int .i64 5) (congrArg (Value.int .i64) (chk_hi (by first | (simp; done) | (simp; omega)))) ?_
 refine RA rfl ?_
 refine RA rfl ?_
 refine RN ?_
 refine A.sub (KC 2 rfl (KC 5 rfl (KC 6 rfl (KC 7 rfl (KC 1000002 rfl KN))))) ?_
 refine A.seq ?_
 refine GS ?_
 refine TL ?_
 refine RM rfl ?_
 refine RBS rfl rfl rfl (.bool true) (by rfl) ?_
 refine RN ?_
 refine A.yes rfl ?_
 refine GS ?_
 refine TF 2 ?_
 refine RS (ok_lit [] ([.int .u32 0] ++ [.int .u64 0]) (fun _ _ => rfl) (by kernel_rfl)) ?_
 refine RM rfl ?_
 refine RN ?_
 refine ⟨_, eff_storeA (n := 36) (s := 1000002) (size30.of (rfl)) rfl rfl (rfl) hBb2 rfl (rfl) (LV 2 rfl (LV 32 rfl LN)), ?_⟩
 refine TL ?_
 refine RA rfl ?_
 refine RN ?_
 refine A.ret ?_
 refine End.ret_then ?_
 exact End.cellT (s := 1000002) rfl Tryz.underlying30 rfl (size30.of (rfl)) rfl rfl (Le.refl _) rfl (Le.refl _)
theorem Get_good (l : List UInt8) (h : l.length = 12) : Fn Tryz.prog 36 [byt l] (tup [.v (aggV [.int .u32 (getV (l.take 4) 4), .int .u64 (getV (l.drop 4) 8)]), .v (.int .i64 0)]) := by
 refine Fn.of Tryz.func36 rfl (by kernel_rfl) Tryz.ntmps36 (by simp) (fun w => [(0, old w.heap.size (byt l))]) (fun w => (Start.old rfl Start.nil)) fun w₀ => ?_
 refine GS ?_
 refine TN 0 ?_
 refine RN ?_
 refine ⟨_, _, eff_alloc (n := 36) (d := 2) (k := 1000002) zero30 (by decide), fun b2 hb2 => ?_⟩
 have hBb2 := hb2.1
 refine TL ?_
 refine RA rfl ?_
 refine RN ?_
 refine GS ?_
 refine TL ?_
 refine RM rfl ?_
 refine RS (ok_lenB Tryz.underlying49 rfl LA) ?_
 refine RS (ok_min rfl rfl) ?_; refine RZ (nI 4) (congrArg (Value.int .i64) (by omega)) ?_
 refine RA rfl ?_
 refine RN ?_
 refine GS ?_
 refine TL ?_
 refine RM rfl ?_
 refine RM rfl ?_
 refine RS ((ok_slice (ds := l.map byteD) 0 (4) Tryz.underlying49 info5 rfl (Le.old _ _) (.inr ⟨rfl, rfl⟩) (.inl ⟨_, _, rfl, rfl⟩) (by omega) (by first | (simp; done) | (simp; omega))).le (d' := byt (l.take (4))) (Le.eq (by rw [List.drop_zero, ← List.map_take]; rfl))) ?_
 refine RS (ok_call (Get32_fn (l.take (4))) (A1 rfl)) ?_
 refine RM rfl ?_
 refine RS (ok_extract rfl rfl) ?_
 refine RS (ok_extract rfl rfl) ?_; refine RZ (.int .i64 0) (congrArg (Value.int .i64) (chk_eq (by first | (simp; done) | (simp; omega)))) ?_
 refine RA rfl ?_
 refine RA rfl ?_
 refine RN ?_
 refine A.seq ?_
 refine GS ?_
 refine TL ?_
 refine RM rfl ?_
 refine RBS rfl rfl rfl (.bool false) (by rfl) ?_
 refine RN ?_
 refine A.no rfl ?_
 refine A.skip ?_
 refine EN ?_
 refine GS ?_
 refine TL ?_
 refine RM rfl ?_
 refine RM rfl ?_
 refine RS ((ok_slice (ds := l.map byteD) 4 l.length Tryz.underlying49 info5 rfl (Le.old _ _) (.inl ⟨_, _, rfl, rfl⟩) (.inr ⟨rfl, by simp⟩) (by omega) (by simp)).le (d' := byt (l.drop 4)) (Le.eq (by rw [List.take_of_length_le (by simp), ← List.map_drop]; rfl))) ?_
 refine RS (ok_call (Get64_fn (l.drop 4)) (A1 rfl)) ?_
 refine RM rfl ?_
 refine RS (ok_extract rfl rfl) ?_
 refine RS (ok_extract rfl rfl) ?_; refine RZ (.int .i64 0) (congrArg (Value.int .i64) (chk_eq (by first | (simp; done) | (simp; omega)))) ?_
 refine RA rfl ?_
 refine RA rfl ?_
 refine RN ?_
 refine A.sub (KC 2 rfl (KC 5 rfl (KC 6 rfl (KC 7 rfl (KC 1000002 rfl KN))))) ?_
 refine A.seq ?_
 refine GS ?_
 refine TL ?_
 refine RM rfl ?_
 refine RBS rfl rfl rfl (.bool false) (by rfl) ?_
 refine RN ?_
 refine A.no rfl ?_
 refine A.skip ?_
 refine EN ?_
 refine GS ?_
 refine TF 3 ?_
 refine RM rfl ?_
 refine RM rfl ?_
 refine RS (ok_litS [(0, .int .u32 (getV (l.take 4) 4)), (1, .int .u64 (getV (l.drop 4) 8))] [.int .u32 (getV (l.take 4) 4), .int .u64 (getV (l.drop 4) 8)] ⟨rfl, rfl, rfl, rfl, trivial⟩ (by kernel_rfl)) ?_
 refine RN ?_
 refine ⟨_, eff_storeA (n := 36) (s := 1000002) (size30.of (rfl)) rfl rfl (rfl) hBb2 rfl (rfl) (LV 2 rfl LN), ?_⟩
 refine TL ?_
 refine RA rfl ?_
 refine RN ?_
 refine A.ret ?_
 exact End.cellT (s := 1000002) rfl Tryz.underlying30 rfl (size30.of (rfl)) rfl rfl (Le.refl _) rfl (Le.refl _)
/-- What is read of any bytes. -/
def gS (l : List UInt8) : Nat := if l.length = 12 then (getV (l.take 4) 4).toNat else 0
def gC (l : List UInt8) : Nat := if l.length = 12 then (getV (l.drop 4) 8).toNat else 0
def gE (n : Nat) : Int := if n < 12 then 6 else if n = 12 then 0 else 5
theorem getV_nat (l : List UInt8) (k : Nat) : ((getV l k).toNat : Int) = getV l k := by unfold getV; split <;> simp
theorem Get_fn (l : List UInt8) : Fn Tryz.prog 36 [byt l] (tup [.v (aggV [nW (gS l), nQ (gC l)]), .v (.int .i64 (gE l.length))]) := by
 by_cases h4 : l.length < 4
 ·rw [gS, gC, gE, if_neg (by omega), if_neg (by omega), if_pos (by omega)]; exact Get_lo l h4
 by_cases h12 : l.length < 12
 ·rw [gS, gC, gE, if_neg (by omega), if_neg (by omega), if_pos h12]; exact Get_short l (by omega) h12
 by_cases h : l.length = 12
 ·rw [gS, gC, gE, if_pos h, if_pos h, if_neg (by omega), if_pos h]; simp only [nW, nQ, getV_nat]; exact Get_good l h
 ·rw [gS, gC, gE, if_neg h, if_neg h, if_neg (by omega), if_neg h]; exact Get_long l (by omega)
theorem gS_lt (l : List UInt8) : gS l < 4294967296 := by
 unfold gS
 split
 ·unfold getV
  split
  ·rename_i h; have := num_lt (l.take 4); rw [h] at this; omega
  ·decide
 ·decide
theorem gC_lt (l : List UInt8) : gC l < 18446744073709551616 := by
 unfold gC
 split
 ·unfold getV
  split
  ·rename_i h; have := num_lt (l.drop 4); rw [h] at this; omega
  ·decide
 ·decide
theorem be_getV {l : List UInt8} {k : Nat} (h : l.length = k) : be k (getV l k).toNat = l := by
 rw [getV, if_pos h, Int.toNat_natCast, be_num h]
theorem nonce_back {l : List UInt8} (h : l.length = 12) : nonceL (gS l) (gC l) = l := by
 rw [nonceL, gS, gC, if_pos h, if_pos h, be_getV (by simp; omega), be_getV (by simp; omega), List.take_append_drop]
theorem gS_nonce {s c : Nat} (hs : s < 4294967296) : gS (nonceL s c) = s := by
 rw [gS, if_pos (nonceL_length s c), show (nonceL s c).take 4 = be 4 s from by rw [nonceL, List.take_left' (be_length 4 s)], getV, if_pos (be_length 4 s), num_be, Nat.mod_eq_of_lt (by omega), Int.toNat_natCast]
theorem gC_nonce {s c : Nat} (hc : c < 18446744073709551616) : gC (nonceL s c) = c := by
 rw [gC, if_pos (nonceL_length s c), show (nonceL s c).drop 4 = be 8 c from by rw [nonceL, List.drop_left' (be_length 4 s)], getV, if_pos (be_length 8 c), num_be, Nat.mod_eq_of_lt (by omega), Int.toNat_natCast]
end Go.Proofs.YthadcgkcgpinhaaGreatDoor
namespace Go.Proofs.YthadcgkcgpinhaaGreatDoor
open Go Go.RowKit
variable {κ : Cx}

theorem vL {k : Nat} (h : Nat.ble vbase k = true) : vbase ≤ k := Nat.le_of_ble_eq_true h
/-! ### Several blocks are written -/
/-- At most the blocks that gs names (each with its cells' type) have changed of what was there. -/
structure WroteL (gs : List (TypeId × Nat)) (w w' : World) : Prop where
  os : w'.os = w.os
  tape : w'.tape = w.tape
  output : w'.output = w.output
  size : w.heap.size ≤ w'.heap.size
  lt : ∀ p ∈ gs, p.2 < w.heap.size
  cel : ∀ p ∈ gs, ∀ o, w.heap[p.2]? = some o → ∃ cs fr, o = .cells cs p.1 fr
  other : ∀ k, k < w.heap.size → (∀ p ∈ gs, k ≠ p.2) → w'.heap[k]? = w.heap[k]?
theorem WroteL.refl {gs : List (TypeId × Nat)} {w : World} (h : ∀ p ∈ gs, p.2 < w.heap.size) (hc : ∀ p ∈ gs, ∀ o, w.heap[p.2]? = some o → ∃ cs fr, o = .cells cs p.1 fr) : WroteL gs w w :=
  ⟨rfl, rfl, rfl, Nat.le_refl _, h, hc, fun _ _ _ => rfl⟩
/-- A fact that survives a write of each of them survives that of all. -/
theorem WroteL.keep {B : Nat} {d : D} : ∀ {gs : List (TypeId × Nat)}, (∀ p ∈ gs, B ≤ p.2) → (∀ p ∈ gs, Surv B p.1 p.2 d) → ∀ {w w' : World} {x : Value}, WroteL gs w w' → d.Of w x → d.Of w' x
  | [], _, _, w, w', x, h, hx => D.Of.grow hx ⟨h.os, h.tape, h.output, h.size, fun k hk => h.other k hk (fun _ hp => by cases hp)⟩
  | p :: gs, hB, hs, w, w', x, h, hx => by
    have hlt := h.lt p List.mem_cons_self
    have hlt' : p.2 < w'.heap.size := Nat.lt_of_lt_of_le hlt h.size
    obtain ⟨wm, e1, e2, e3, e4, hat⟩ : ∃ wm : World, wm.os = w'.os ∧ wm.tape = w'.tape ∧ wm.output = w'.output ∧ wm.heap.size = w'.heap.size ∧ ∀ k, wm.heap[k]? = if k = p.2 then w.heap[k]? else w'.heap[k]? :=
      ⟨{ w' with heap := w'.heap.setIfInBounds p.2 w.heap[p.2] }, rfl, rfl, rfl, by simp, fun k => by
        show (w'.heap.setIfInBounds p.2 w.heap[p.2])[k]? = _
        split
        · rename_i hk; subst hk; simp [hlt', hlt]
        · rename_i hk; exact Array.getElem?_setIfInBounds_ne (fun e => hk e.symm)⟩
    have h1 : WroteL gs w wm := ⟨e1.trans h.os, e2.trans h.tape, e3.trans h.output, by rw [e4]; exact h.size, fun q hq => h.lt q (List.mem_cons_of_mem _ hq), fun q hq => h.cel q (List.mem_cons_of_mem _ hq), fun k hk hne => by
      rw [hat]
      split
      · rfl
      · rename_i hkp
        exact h.other k hk fun q hq => by
          rcases List.mem_cons.1 hq with rfl | hq
          · exact hkp
          · exact hne q hq⟩
    have h2 := WroteL.keep (fun q hq => hB q (List.mem_cons_of_mem _ hq)) (fun q hq => hs q (List.mem_cons_of_mem _ hq)) h1 hx
    refine hs p List.mem_cons_self wm w' x ⟨hB p List.mem_cons_self, e1.symm, e2.symm, e3.symm, Nat.le_of_eq e4, fun o ho => ?_, fun k hk hne => ?_⟩ h2
    · rw [hat, if_pos rfl] at ho
      exact h.cel p List.mem_cons_self o ho
    · rw [hat, if_neg hne]
theorem WroteL.below {gs : List (TypeId × Nat)} {B : Nat} {w w' : World} (h : WroteL gs w w') (hB : ∀ p ∈ gs, B ≤ p.2) (hw : B ≤ w.heap.size) : Below B w w' :=
  ⟨h.os, h.tape, h.output, h.size, fun k hk => h.other k (by omega) fun p hp => by have := hB p hp; omega⟩
theorem WroteL.trans {gs : List (TypeId × Nat)} {a b c : World} (h : WroteL gs a b) (k : WroteL gs b c) : WroteL gs a c :=
  ⟨k.os.trans h.os, k.tape.trans h.tape, k.output.trans h.output, Nat.le_trans h.size k.size, h.lt, h.cel, fun j hj hne => (k.other j (Nat.lt_of_lt_of_le hj h.size) hne).trans (h.other j hj hne)⟩
/-- Since the world w₁ nothing that was there has changed but the blocks that gs names. -/
def wroteL (gs : List (TypeId × Nat)) (w₁ : World) : D :=
  .p (fun B w _ => w₁.heap.size ≤ B ∧ WroteL gs w₁ w) (fun _ _ _ _ h ⟨h1, h2⟩ => ⟨h1, ⟨h.os.trans h2.os, h.tape.trans h2.tape, h.output.trans h2.output, Nat.le_trans h2.size h.size, h2.lt, h2.cel, fun k hk hne => (h.block k (Nat.lt_of_lt_of_le hk h1)).trans (h2.other k hk hne)⟩⟩)
    (fun _ _ _ _ h ⟨h1, h2⟩ => ⟨Nat.le_trans h1 h, h2⟩)
theorem Surv.wroteL {B T g : Nat} {gs : List (TypeId × Nat)} {w₁ : World} (hg : ∃ p ∈ gs, p.2 = g) : Surv B T g (wroteL gs w₁) := fun _ _ _ k ⟨h1, h2⟩ => by
  obtain ⟨p, hp, rfl⟩ := hg
  exact ⟨Nat.le_trans h1 k.size, ⟨k.os.trans h2.os, k.tape.trans h2.tape, k.output.trans h2.output, Nat.le_trans h2.size k.size, h2.lt, h2.cel, fun j hj hne => (k.other j (Nat.lt_of_lt_of_le hj h1) (hne p hp)).trans (h2.other j hj hne)⟩⟩
/-- What is left of the environment behind it. -/
def LeftL (B : Nat) (gs : List (TypeId × Nat)) (E' E : Env) : Prop := ∀ q ∈ E', E.look q.1 = some q.2 ∧ ∀ p ∈ gs, Surv B p.1 p.2 q.2
theorem LeftL.one {B T g : Nat} {E' E : Env} (h : LeftS B T g E' E) : LeftL B [(T, g)] E' E := fun q hq => ⟨(h q hq).1, fun p hp => by
  rcases List.mem_cons.1 hp with rfl | hp
  · exact (h q hq).2
  · cases hp⟩
theorem LeftL.cons {B T g : Nat} {gs : List (TypeId × Nat)} {E' E : Env} (h : LeftS B T g E' E) (hr : LeftL B gs E' E) : LeftL B ((T, g) :: gs) E' E := fun q hq => ⟨(h q hq).1, fun p hp => by
  rcases List.mem_cons.1 hp with rfl | hp
  · exact (h q hq).2
  · exact (hr q hq).2 p hp⟩
theorem LeftL.st {n B : Nat} {gs : List (TypeId × Nat)} {E E' : Env} {a : Act} {w w' : World} (hl : LeftL B gs E' E) (hB : ∀ p ∈ gs, B ≤ p.2) (h : St κ n B E a w) (k : WroteL gs w w') : St κ n B E' a w' :=
  ⟨Nat.le_trans h.base k.size, h.defers, h.size, fun t d hd => by
    obtain ⟨h1, h2⟩ := hl _ (look_mem hd)
    exact k.keep hB h2 (h.of t d h1)⟩

theorem look_append {E₁ E₂ : Env} {t : Nat} {d : D} (h : (E₁ ++ E₂).look t = some d) : E₁.look t = some d ∨ E₂.look t = some d := by
  induction E₁ with
  | nil => exact .inr h
  | cons p r ih =>
    obtain ⟨s, e⟩ := p
    by_cases hs : s = t
    · subst hs
      rw [List.cons_append, look_here] at h
      exact .inl (by rw [look_here]; exact h)
    · rw [List.cons_append, look_past _ _ hs] at h
      rw [look_past _ _ hs]
      exact ih h

/-- They are there, with cells of the types named. -/
def selfL (gs : List (TypeId × Nat)) : D :=
  .p (fun B w _ => ∀ p ∈ gs, p.2 < B ∧ ∃ cs fr, w.heap[p.2]? = some (.cells cs p.1 fr)) (fun _ _ _ _ g h p hp => ⟨(h p hp).1, by rw [g.block _ (h p hp).1]; exact (h p hp).2⟩) (fun _ _ _ _ g h p hp => ⟨Nat.lt_of_lt_of_le (h p hp).1 g, (h p hp).2⟩)
theorem selfL_self {gs : List (TypeId × Nat)} {w : World} {x : Value} (h : (selfL gs).Of w x) : WroteL gs w w :=
  WroteL.refl (fun p hp => (h p hp).1) fun p hp o ho => by
    obtain ⟨_, cs, fr, h1⟩ := h p hp
    rw [h1] at ho; injection ho with ho; exact ⟨cs, fr, ho.symm⟩

/-! ### Functions that do so -/
/-- A contract at base B: called with the values us where the memory's facts M hold, it returns u i, leaves the facts M' i, and changes of what was there at most what gs names; of i it is told G (over how much there was). -/
structure FnL (P : Program) (f : FuncId) (B : Nat) (gs : List (TypeId × Nat)) (us : List Value) (M : Env) (G : Nat → Nat → Prop) (u : Nat → Value) (M' : Nat → Env) : Prop where
  body : ∃ fn, P.funcs[f]? = some fn ∧ (fn.name == "runtime.NumGoroutine") = false ∧ fn.body.isNone = false
  calls : ∀ w : World, B ≤ w.heap.size → (∀ p ∈ M, p.2.Of w undef) → WroteL gs w w →
    Calls P f us.toArray w fun e w' => ∃ i, G w.heap.size i ∧ e = .returned (u i) ∧ WroteL gs w w' ∧ ∀ p ∈ M' i, p.2.Of w' undef
/-- Facts in one. -/
def packM (M : Env) : D := .p (fun B w _ => ∀ p ∈ M, p.2.OfB B w undef) (fun _ _ _ _ g h p hp => (h p hp).keep g) (fun _ _ _ _ g h p hp => (h p hp).up g)
theorem FnL.packed {P : Program} {f : FuncId} {B : Nat} {gs : List (TypeId × Nat)} {us : List Value} {M : Env} {G : Nat → Nat → Prop} {u : Nat → Value} {M' : Nat → Env} (h : FnL P f B gs us M G u M') (k k' : Nat) : FnL P f B gs us [(k, packM M)] G u (fun i => [(k', packM (M' i))]) :=
  ⟨h.body, fun w hB hM hw => (h.calls w hB (hM _ List.mem_cons_self) hw).mono fun e w' ⟨i, h1, h2, h3, h4⟩ => ⟨i, h1, h2, h3, fun p hp => by
    rcases List.mem_cons.1 hp with rfl | hp
    · exact h4
    · cases hp⟩⟩
theorem FnL.unpacked {P : Program} {f : FuncId} {B : Nat} {gs : List (TypeId × Nat)} {us : List Value} {M : Env} {G : Nat → Nat → Prop} {u : Nat → Value} {M' : Nat → Env} {k k' : Nat} (h : FnL P f B gs us [(k, packM M)] G u (fun i => [(k', packM (M' i))])) : FnL P f B gs us M G u M' :=
  ⟨h.body, fun w hB hM hw => (h.calls w hB (fun p hp => by
    rcases List.mem_cons.1 hp with rfl | hp
    · exact hM
    · cases hp) hw).mono fun e w' ⟨i, h1, h2, h3, h4⟩ => ⟨i, h1, h2, h3, h4 _ List.mem_cons_self⟩⟩
def PL (gs : List (TypeId × Nat)) (w₁ : World) (G : Nat → Nat → Prop) (u : Nat → Value) (M' : Nat → Env) : Ending → World → Prop :=
  fun e w' => ∃ i, G w₁.heap.size i ∧ e = .returned (u i) ∧ WroteL gs w₁ w' ∧ ∀ p ∈ M' i, p.2.Of w' undef
theorem FnL.of {P : Program} {n : Nat} {f : FuncId} {fn : Func} {c : Code} {B : Nat} {gs : List (TypeId × Nat)} {us : List Value} {M : Env} {G : Nat → Nat → Prop} {u : Nat → Value} {M' : Nat → Env} {kw ks : Nat}
    (hf : P.funcs[f]? = some fn) (hb : fn.body = some c) (hname : (fn.name == "runtime.NumGoroutine") = false) (hn : fn.ntmps = n) (hds : us.length ≤ n) (hnv : n ≤ vbase) (hMb : ∀ p ∈ M, vbase ≤ p.1) (hkw : vbase ≤ kw) (hks : vbase ≤ ks) (args : Env) (hargs : ∀ p ∈ args, ∃ v, p.2 = .v v ∧ us[p.1]? = some v)
    (h : ∀ w₀ w₁ : World, w₀.heap.size = B → B ≤ w₁.heap.size → A Cx.top P w₀ n c (args ++ ((kw, wroteL gs w₁) :: (ks, selfL gs) :: M)) (BP P fn (PL gs w₁ G u M'))) : FnL P f B gs us M G u M' := by
  refine ⟨⟨fn, hf, hname, by rw [hb]; rfl⟩, fun w hB hM hgs => ?_⟩
  have hsz := cutW_size (w := w) (g := B) hB
  refine callsIn_FR.1 (callsIn_of_wp_marks (F := FR none) (n := 0) hf hb trivial (h (cutW w B) w hsz hB _ w (cutW_below hB) ⟨by rw [hsz]; exact hB, rfl, ?_, fun t e he => ?_⟩))
  · simp [hn]; omega
  · show e.Of w ((us.toArray ++ Array.replicate (fn.ntmps - us.toArray.size) undef).getD t undef)
    have hund : vbase ≤ t → (us.toArray ++ Array.replicate (fn.ntmps - us.toArray.size) undef).getD t undef = undef := fun ht => by
      rw [Array.getD_eq_getD_getElem?, Array.getElem?_eq_none (by simp [hn]; omega)]; rfl
    rcases List.mem_append.1 (look_mem he) with hm | hm
    · obtain ⟨v, h1, h2⟩ := hargs _ hm
      simp only at h1 h2
      have hj : t < us.length := (List.getElem?_eq_some_iff.1 h2).1
      rw [Array.getD_eq_getD_getElem?, Array.getElem?_append_left (by simpa using hj)]
      subst h1
      simp [h2]; rfl
    · rcases List.mem_cons.1 hm with h1 | hm
      · injection h1 with h1 h2; subst h1; subst h2
        exact ⟨Nat.le_refl _, hgs⟩
      · rcases List.mem_cons.1 hm with h1 | hm
        · injection h1 with h1 h2; subst h1; subst h2
          exact fun p hp => ⟨hgs.lt p hp, by
            have h3 := Array.getElem?_eq_getElem (hgs.lt p hp)
            obtain ⟨cs, fr, h4⟩ := hgs.cel p hp _ h3
            exact ⟨cs, fr, by rw [h3, h4]⟩⟩
        · have h1 := hMb _ hm
          rw [hund h1]
          exact hM _ hm
section
variable {P : Program} {n B : Nat} {ops : Array Oper} {E : Env} {ty : TypeId} {pos : String} {after : Array Edge}
/-- The number of a new block in such a function. -/
def NewL (B : Nat) (E : Env) (b : Nat) : Prop := B ≤ b ∧ (∀ s b' e xs, E.look s = some (blk b' e xs) → b' < b) ∧ ∀ s gs w₁, E.look s = some (wroteL gs w₁) → w₁.heap.size ≤ b
theorem eff_nameL {o : Oper} {d k : Nat} {e : TypeId} {val : Nat → Value} {xs : List Value} (ht : o.dst = some d) (hg : o.guard = none) (hok : ∀ B', OpOk P B' o E (newD B' e val xs)) (hdn : d < n) (hnv : n ≤ vbase) :
    EffG P n B ops o E (NewL B E) (fun b => (d, .v (val b)) :: (k, blk b e xs) :: E) := by
  intro κ a w K Q h hK
  rw [if_pos (by simp [Region.wanted, hg])]
  refine wp_of_out ht ((hok w.heap.size a.eval w (Nat.le_refl _) (h.virt hnv) fun x _ u hu => h.at_ x _ hu).mono ?_)
  rintro x w' ⟨hgr, b, rfl, hb, hlt, hh⟩
  refine hK b _ _ ⟨Nat.le_trans h.base hb, fun s b' e ys hs => Nat.lt_of_lt_of_le (h.of s _ hs).1 hb, fun s gs w₁ hs => Nat.le_trans (h.of s _ hs).2.size hb⟩ (Below.mono hgr h.base) (St.put ?_ hdn rfl)
  exact (h.grow hgr).push (t := k) (d := blk b e xs) ⟨hlt, hh⟩
theorem eff_nameFL {o : Oper} {d k m : Nat} {e : TypeId} {xs : List Value} {c : Nat} (hc : xs.length = c) (ht : o.dst = some d) (hg : o.guard = none) (hok : ∀ B', OpOk P B' o E (fresh B' e xs m)) (hdn : d < n) (hnv : n ≤ vbase) :
    EffG P n B ops o E (NewL B E) (fun b => (d, .v (.slice (some ⟨b, 0, none⟩) m c)) :: (k, blk b e xs) :: E) := hc ▸ eff_nameL ht hg (fun B' => (hok B').le fresh_newD) hdn hnv
theorem subL_M {M : Env} (h : Sub M E) (hb : ∀ p ∈ M, vbase ≤ p.1) : ∀ p ∈ M, ∃ k, vbase ≤ k ∧ E.look k = some p.2 := fun p hp => ⟨p.1, hb p hp, h p hp⟩
theorem vbL_nil : ∀ p ∈ ([] : Env), vbase ≤ p.1 := fun _ h => by cases h
theorem vbL_cons {M : Env} {t : Nat} {d : D} (h : vbase ≤ t) (hr : ∀ p ∈ M, vbase ≤ p.1) : ∀ p ∈ (t, d) :: M, vbase ≤ p.1 := fun p hp => by
  rcases List.mem_cons.1 hp with rfl | hp
  · exact h
  · exact hr p hp
/-- The blocks are known by name. -/
def GsL (B : Nat) (gs : List (TypeId × Nat)) (E : Env) : Prop := ∀ p ∈ gs, B ≤ p.2 ∧ ∃ k xs, E.look k = some (blk p.2 p.1 xs)
theorem gsL_nil : GsL B [] E := fun _ h => by cases h
theorem gsL_cons {gs : List (TypeId × Nat)} {T : TypeId} {g k : Nat} {xs : List Value} (hB : B ≤ g) (hk : E.look k = some (blk g T xs)) (hr : GsL B gs E) : GsL B ((T, g) :: gs) E := fun p hp => by
  rcases List.mem_cons.1 hp with rfl | hp
  · exact ⟨hB, k, xs, hk⟩
  · exact hr p hp
theorem GsL.self {gs : List (TypeId × Nat)} (h : GsL B gs E) {a : Act} {w : World} (hs : St κ n B E a w) : WroteL gs w w :=
  WroteL.refl (fun p hp => by obtain ⟨_, k, xs, h4⟩ := h p hp; exact (hs.of k _ h4).1) fun p hp o ho => by
    obtain ⟨_, k, xs, h4⟩ := h p hp
    have h5 := (hs.of k _ h4).2
    rw [h5] at ho; injection ho with ho; exact ⟨_, _, ho.symm⟩
/-- A call of a function value that holds what us lists; it is called with vs. -/
theorem eff_callL {f : FuncId} {gs : List (TypeId × Nat)} {us vs : List Value} {M : Env} {G : Nat → Nat → Prop} {u : Nat → Value} {M' : Nat → Env} {dst : Nat} {x : Operand} {args : Array Operand} {argTypes : Array TypeId} {E' : Env}
    (hf : FnL P f B gs (vs ++ us) M G u M') (hx : E.at x = some (.v (.func (.func f) #[] us.toArray))) (ha : Args E (vs.map D.v) args.toList) (hM : ∀ p ∈ M, ∃ k, vbase ≤ k ∧ E.look k = some p.2) (hMb : ∀ i, ∀ p ∈ M' i, vbase ≤ p.1)
    (hgB : ∀ p ∈ gs, B ≤ p.2) (hgs : ∀ (κ : Cx) (a : Act) (w : World), St κ n B E a w → WroteL gs w w) (hn : n ≤ vbase) (hdst : dst < n) (hl : LeftL B gs E' E) :
    EffG P n B ops ⟨some dst, .call { callee := .value x, args := args, argTypes := argTypes }, ty, pos, after, none⟩ E (fun i => ∃ m, B ≤ m ∧ (∀ s b' e xs, E.look s = some (blk b' e xs) → b' < m) ∧ (∀ s gs w₁, E.look s = some (wroteL gs w₁) → w₁.heap.size ≤ m) ∧ G m i) (fun i => (dst, .v (u i)) :: (M' i ++ E')) := by
  intro κ a w K Q h hK
  obtain ⟨fn, h1, h2, h3⟩ := hf.body
  have hfun : a.eval x = .func (.func f) #[] us.toArray := h.at_ x _ hx
  have hrun : (execOp a.eval ⟨some dst, .call { callee := .value x, args := args, argTypes := argTypes }, ty, pos, after, none⟩).run P w = .ok (.enter f (args.map a.eval ++ us.toArray)) w := by
    have h2' : ¬ fn.name = "runtime.NumGoroutine" := by simpa using h2
    have h3' : ¬ fn.body = none := by intro h; rw [h] at h3; cases h3
    simp [execOp, resolve, Deferred.ofValue, hfun, invoke, callFunc, h1, h2', h3']
  have hund : ∀ k, vbase ≤ k → a.tmps.getD k undef = undef := fun k hk => by
    rw [Array.getD_eq_getD_getElem?, Array.getElem?_eq_none (by rw [h.size]; omega)]; rfl
  have hargs : args.toList.map a.eval = vs := by
    apply List.ext_getElem?
    intro j
    have hlen : args.toList.length = vs.length := by have := ha.length; simpa using this.symm
    rcases Nat.lt_or_ge j vs.length with hj | hj
    · have hxj : args.toList[j]? = some (args.toList[j]'(by omega)) := List.getElem?_eq_getElem (by omega)
      have he : (vs.map D.v)[j]? = some (.v vs[j]) := by simp [hj]
      obtain ⟨e', h4, h5⟩ := ha.nth he hxj
      have h6 : a.eval (args.toList[j]'(by omega)) = vs[j] := h5.of (h.at_ _ _ h4)
      rw [List.getElem?_map, hxj, Option.map_some, h6, List.getElem?_eq_getElem hj]
    · rw [List.getElem?_eq_none (by rw [List.length_map]; omega), List.getElem?_eq_none hj]
  have hcall := hf.calls w h.base (fun p hp => by
    obtain ⟨k, h4, h5⟩ := hM p hp
    have h6 := h.of k _ h5
    rwa [hund k h4] at h6) (hgs κ a w h)
  have harr : (vs ++ us).toArray = args.map a.eval ++ us.toArray := by
    apply Array.ext'
    rw [← hargs]; simp
  rw [harr] at hcall
  rw [if_pos (by simp [Region.wanted])]
  refine opR (by nofun) ?_
  unfold Oper.wp
  rw [hrun, Oper.upon_enter]
  refine Calls.mono hcall ?_
  rintro e w' ⟨i, hG, rfl, hw, hM'⟩
  have hst := hl.st hgB h hw
  refine hK i _ _ ⟨w.heap.size, h.base, fun s b' e ys hs => (h.of s _ hs).1, fun s gs w₁ hs => (h.of s _ hs).2.size, hG⟩ (hw.below hgB h.base) (St.put ⟨hst.base, hst.defers, hst.size, fun t d hd => ?_⟩ hdst rfl)
  rcases look_append hd with h4 | h4
  · have h5 := hM' _ (look_mem h4)
    have h6 : vbase ≤ t := hMb i _ (look_mem h4)
    rw [hund t h6]; exact h5
  · exact hst.of t d h4
/-- The same where nothing new is told: an effect. -/
theorem eff_callL1 {f : FuncId} {gs : List (TypeId × Nat)} {us vs : List Value} {M : Env} {G : Nat → Nat → Prop} {u : Value} {M' : Env} {dst : Nat} {x : Operand} {args : Array Operand} {argTypes : Array TypeId} {E' : Env}
    (hf : FnL P f B gs (vs ++ us) M G (fun _ => u) (fun _ => M')) (hx : E.at x = some (.v (.func (.func f) #[] us.toArray))) (ha : Args E (vs.map D.v) args.toList) (hM : ∀ p ∈ M, ∃ k, vbase ≤ k ∧ E.look k = some p.2) (hMb : ∀ p ∈ M', vbase ≤ p.1)
    (hgs : GsL B gs E) (hn : n ≤ vbase) (hdst : dst < n) (hl : LeftL B gs E' E) :
    Eff P n B ops ⟨some dst, .call { callee := .value x, args := args, argTypes := argTypes }, ty, pos, after, none⟩ E ((dst, .v u) :: (M' ++ E')) := fun κ a w K Q h hK =>
  eff_callL hf hx ha hM (fun _ => hMb) (fun p hp => (hgs p hp).1) (fun _ _ _ h => hgs.self h) hn hdst hl κ a w K Q h fun _ a' w' _ hw hst => hK a' w' hw hst
/-- The same where a new block is told. -/
theorem eff_callLN {f : FuncId} {gs : List (TypeId × Nat)} {us vs : List Value} {M : Env} {u : Nat → Value} {M' : Nat → Env} {dst : Nat} {x : Operand} {args : Array Operand} {argTypes : Array TypeId} {E' : Env}
    (hf : FnL P f B gs (vs ++ us) M (fun m b => m ≤ b) u M') (hx : E.at x = some (.v (.func (.func f) #[] us.toArray))) (ha : Args E (vs.map D.v) args.toList) (hM : ∀ p ∈ M, ∃ k, vbase ≤ k ∧ E.look k = some p.2) (hMb : ∀ i, ∀ p ∈ M' i, vbase ≤ p.1)
    (hgs : GsL B gs E) (hn : n ≤ vbase) (hdst : dst < n) (hl : LeftL B gs E' E) :
    EffG P n B ops ⟨some dst, .call { callee := .value x, args := args, argTypes := argTypes }, ty, pos, after, none⟩ E (NewL B E) (fun b => (dst, .v (u b)) :: (M' b ++ E')) := fun κ a w K Q h hK =>
  eff_callL hf hx ha hM hMb (fun p hp => (hgs p hp).1) (fun _ _ _ h => hgs.self h) hn hdst hl κ a w K Q h fun b a' w' ⟨_, h1, h2, h3, h4⟩ hw hst => hK b a' w' ⟨Nat.le_trans h1 h4, fun s b' e ys hs => Nat.lt_of_lt_of_le (h2 s b' e ys hs) h4, fun s gs w₁ hs => Nat.le_trans (h3 s gs w₁ hs) h4⟩ hw hst
theorem leftG_nil {gs : List (TypeId × Nat)} : LeftL B gs [] E := fun _ h => by cases h
theorem leftG_v {gs : List (TypeId × Nat)} {t : Nat} {x : Value} {E' : Env} (h : E.look t = some (.v x)) (hr : LeftL B gs E' E) : LeftL B gs ((t, .v x) :: E') E := fun q hq => by
  rcases List.mem_cons.1 hq with rfl | hq
  · exact ⟨h, fun _ _ => Surv.v _⟩
  · exact hr q hq
theorem leftG_w {gs : List (TypeId × Nat)} {t : Nat} {w₁ : World} {E' : Env} (h : E.look t = some (wroteL gs w₁)) (hr : LeftL B gs E' E) : LeftL B gs ((t, wroteL gs w₁) :: E') E := fun q hq => by
  rcases List.mem_cons.1 hq with rfl | hq
  · exact ⟨h, fun p hp => Surv.wroteL ⟨p, hp, rfl⟩⟩
  · exact hr q hq
theorem lookL_nil : ∀ p ∈ ([] : Env), ∃ k, vbase ≤ k ∧ E.look k = some p.2 := fun _ h => by cases h
theorem lookL_cons {M : Env} {t k : Nat} {d : D} (hk : vbase ≤ k) (h : E.look k = some d) (hr : ∀ p ∈ M, ∃ k, vbase ≤ k ∧ E.look k = some p.2) : ∀ p ∈ (t, d) :: M, ∃ k, vbase ≤ k ∧ E.look k = some p.2 := fun p hp => by
  rcases List.mem_cons.1 hp with rfl | hp
  · exact ⟨k, hk, h⟩
  · exact hr p hp
/-- The end of such a function. -/
theorem End.wroteL {w₀ w₁ : World} {fn : Func} {gs : List (TypeId × Nat)} {G : Nat → Nat → Prop} {u : Nat → Value} {M' : Nat → Env} {kw : Nat} {x : Exit} (hex : x = .ret ∨ x = .normal) (hw : E.look kw = some (Go.Proofs.YthadcgkcgpinhaaGreatDoor.wroteL gs w₁)) (i : Nat) (hG : G w₁.heap.size i) (hn : n ≤ vbase)
    (hr : ∀ (a : Act) (w : World), St Cx.top n w₀.heap.size E a w → (results fn a.tmps).run P w = .ok (u i) w) (hM : ∀ p ∈ M' i, ∃ k, vbase ≤ k ∧ E.look k = some p.2) : End Cx.top w₀ n E (BP P fn (PL gs w₁ G u M') x) := fun a w _ hs => by
  have key : LeavesInM (FR none) 0 P fn a.tmps (PL gs w₁ G u M') a.defers .returning w := by
    rw [show a.defers = [] from hs.defers]
    refine ⟨u i, hr a w hs, i, hG, rfl, (hs.of kw _ hw).2, fun p hp => ?_⟩
    obtain ⟨k, h2, h3⟩ := hM p hp
    have h4 := hs.of k _ h3
    rwa [show a.tmps.getD k undef = undef from by
      rw [Array.getD_eq_getD_getElem?, Array.getElem?_eq_none (by rw [hs.size]; omega)]; rfl] at h4
  rcases hex with rfl | rfl
  · exact key
  · exact key
/-- It returns nothing. -/
theorem End.wroteL0 {w₀ w₁ : World} {fn : Func} {gs : List (TypeId × Nat)} {G : Nat → Nat → Prop} {M' : Nat → Env} {kw : Nat} {x : Exit} (hex : x = .ret ∨ x = .normal) (hr : fn.results = #[]) (hw : E.look kw = some (Go.Proofs.YthadcgkcgpinhaaGreatDoor.wroteL gs w₁)) (i : Nat) (hG : G w₁.heap.size i) (hn : n ≤ vbase)
    (hM : ∀ p ∈ M' i, ∃ k, vbase ≤ k ∧ E.look k = some p.2) : End Cx.top w₀ n E (BP P fn (PL gs w₁ G (fun _ => .tuple #[]) M') x) :=
  End.wroteL hex hw i hG hn (fun a w _ => by simp [results, hr]) hM
/-- It returns one value. -/
theorem End.wroteL1 {w₀ w₁ : World} {fn : Func} {gs : List (TypeId × Nat)} {G : Nat → Nat → Prop} {u : Nat → Value} {M' : Nat → Env} {kw r : Nat} {x : Exit} (hex : x = .ret ∨ x = .normal) (hr : fn.results = #[.tmp r]) (hw : E.look kw = some (Go.Proofs.YthadcgkcgpinhaaGreatDoor.wroteL gs w₁)) (i : Nat) (he : E.look r = some (.v (u i))) (hG : G w₁.heap.size i) (hn : n ≤ vbase)
    (hM : ∀ p ∈ M' i, ∃ k, vbase ≤ k ∧ E.look k = some p.2) : End Cx.top w₀ n E (BP P fn (PL gs w₁ G u M') x) :=
  End.wroteL hex hw i hG hn (fun a w hs => by
    have h1 : a.tmps.getD r undef = u i := hs.of r _ he
    simp [results, hr, ← h1]) hM
end

/-! ### More ends -/
section
variable {P : Program} {n : Nat} {w₀ : World} {E : Env}
/-- A slice of bytes that came in gets a name. -/
theorem A.nameS {c : Code} {Q : Exit → Act → World → Prop} {t k B' : Nat} {l : List UInt8} (ht : E.look t = some (old B' (byt l))) (h : ∀ (A₀ : Option Addr) (m : Nat), A κ P w₀ n c ((t, .v (.slice A₀ l.length m)) :: (k, old B' (valM (.slice A₀ l.length m) (byt l))) :: E) Q) : A κ P w₀ n c E Q := fun a w g hs => by
  obtain ⟨hB, m, hb⟩ := hs.of t _ ht
  obtain ⟨A₀, h1, _⟩ := bytes_open (l := l) hb
  exact h A₀ m a w g ((hs.push (t := k) (d := old B' (valM (.slice A₀ l.length m) (byt l))) ⟨hB, by rw [← h1]; exact ⟨m, hb⟩⟩).push (d := .v _) h1)
/-- A slice over a new block, and another value. -/
theorem End.newTT {fn : Func} {r s g kg : Nat} {e : TypeId} {zs xs : List Value} {u v : Value} {val : Nat → Value} (hr : fn.results = #[.tmp r, .tmp s]) (h1 : E.look r = some (.v u)) (h2 : E.look s = some (.v v)) (h4 : E.look kg = some (blk g e zs)) (hg : w₀.heap.size ≤ g) (hv : val g = .tuple #[u, v]) (hz : zs = xs) :
    End Cx.top w₀ n E (BP P fn (PostOf w₀ (newD w₀.heap.size e val xs)) .ret) := fun a w gr hs => by
  subst hz
  have h3 : a.tmps[r]?.getD undef = u := by rw [← Array.getD_eq_getD_getElem?]; exact hs.of r _ h1
  have h6 : a.tmps[s]?.getD undef = v := by rw [← Array.getD_eq_getD_getElem?]; exact hs.of s _ h2
  obtain ⟨hl', hh'⟩ := hs.of kg _ h4
  exact BP.ret hs.defers ⟨.tuple #[u, v], by simp [results, hr, h3, h6], _, rfl, gr, g, hv.symm, hg, hl', hh'⟩
/-- A number's variable, two variables of several cells, and another value. -/
theorem End.cell4 {fn : Func} {r₀ s₀ b₀ r s b r₂ s₂ b₂ r' : Nat} {T₀ e₀ T e' T₂ e₂ : TypeId} {td₀ td td₂ : TypeDesc} {us ys : List Value} {v₀ v' : Value} (hr : fn.results = #[.cell r₀ T₀, .cell r T, .cell r₂ T₂, .tmp r'])
    (ht₀ : P.underlying T₀ = some td₀) (hp₀ : (match td₀ with | .struct _ | .array _ _ => true | _ => false) = false)
    (ht : P.underlying T = some td) (hp : (match td with | .struct _ | .array _ _ => true | _ => false) = true) (hsz : SizeIs P T us.length) (ht₂ : P.underlying T₂ = some td₂) (hp₂ : (match td₂ with | .struct _ | .array _ _ => true | _ => false) = true) (hsz₂ : SizeIs P T₂ ys.length)
    (h1₀ : E.look r₀ = some (.v (.pointer (some ⟨b₀, 0, none⟩)))) (h2₀ : E.look s₀ = some (blk b₀ e₀ [v₀]))
    (h1 : E.look r = some (.v (.pointer (some ⟨b, 0, none⟩)))) (h2 : E.look s = some (blk b e' us)) (h1₂ : E.look r₂ = some (.v (.pointer (some ⟨b₂, 0, none⟩)))) (h2₂ : E.look s₂ = some (blk b₂ e₂ ys)) (h5 : E.look r' = some (.v v')) :
    End Cx.top w₀ n E (BP P fn (PostOf w₀ (.v (.tuple #[v₀, aggV us, aggV ys, v']))) .ret) := fun a w gr hs => by
  have h3₀ : a.tmps[r₀]?.getD undef = .pointer (some ⟨b₀, 0, none⟩) := by rw [← Array.getD_eq_getD_getElem?]; exact hs.of r₀ _ h1₀
  have h3 : a.tmps[r]?.getD undef = .pointer (some ⟨b, 0, none⟩) := by rw [← Array.getD_eq_getD_getElem?]; exact hs.of r _ h1
  have h3₂ : a.tmps[r₂]?.getD undef = .pointer (some ⟨b₂, 0, none⟩) := by rw [← Array.getD_eq_getD_getElem?]; exact hs.of r₂ _ h1₂
  have h6 : a.tmps[r']?.getD undef = v' := by rw [← Array.getD_eq_getD_getElem?]; exact hs.of r' _ h5
  obtain ⟨_, hh₀⟩ := hs.of s₀ _ h2₀
  obtain ⟨_, hh⟩ := hs.of s _ h2
  obtain ⟨_, hh₂⟩ := hs.of s₂ _ h2₂
  have hl₀ : (loadVar T₀ ⟨b₀, 0, none⟩).run P w = .ok v₀ w := by
    have hagg : (isAgg T₀).run P w = .ok false w := by
      unfold isAgg
      rw [Sem.run_bind, run_underlying ht₀ w]
      cases td₀ <;> simp_all
    have hc : w.cell? ⟨b₀, 0, none⟩ = some v₀ := by simp [World.cell?, hh₀]
    simp [loadVar, Sem.run_bind, hagg, hc]
  exact BP.ret hs.defers ⟨.tuple #[v₀, aggV us, aggV ys, v'], by simp [results, hr, h3₀, h3, h3₂, h6, asAddr, hl₀, load_cell ht hp hsz hh, load_cell ht₂ hp₂ hsz₂ hh₂], _, rfl, gr, rfl⟩
end

theorem slice_bytes {b o n c : Nat} {e : TypeId} {xs : List Value} (l : List UInt8) (hn : n = l.length) (hc : n ≤ c) (hm : c ≤ maxLen) (hl : (xs.drop o).take n = l.map byteV) (B : Nat) (w : World) (hb : b < B) (hh : w.heap[b]? = some (.cells xs.toArray e (0, 0))) : (bytes l c).OfB B w (.slice (some ⟨b, o, none⟩) n c) := by
  subst hn
  refine bytes_mk hc hm fun j u hu => ?_
  rw [← hl, List.getElem?_take] at hu
  split at hu
  · rw [List.getElem?_drop] at hu
    refine ⟨_, rfl, hb, ?_⟩
    rw [add_lit0]
    simp [World.cell?, hh, hu]
  · cases hu
/-! ### Slices of bytes as arrays -/
/-- The address of bytes. -/
def arrP (l : List UInt8) : D := .p (fun B w x => ∃ ad, x = .pointer (some ad) ∧ RowIn B w (some ad) (l.map byteV)) (fun _ _ _ _ g ⟨ad, h1, h2⟩ => ⟨ad, h1, h2.keep g⟩) (fun _ _ _ _ g ⟨ad, h1, h2⟩ => ⟨ad, h1, fun j u hu => by
  obtain ⟨a, h3, h4, h5⟩ := h2 j u hu
  exact ⟨a, h3, Nat.lt_of_lt_of_le h4 g, h5⟩⟩)
section
variable {P : Program} {B : Nat} {E : Env} {dst : Option Tmp} {ty : TypeId} {pos : String} {after : Array Edge} {guard : Option (Nat × Bool)}
theorem ok_arrayB {t e : TypeId} {x : Operand} {f : D} (l : List UInt8) (ht : P.underlying t = some (.array l.length e)) (hx : E.at x = some f) (hf : Le f (byt l)) (hl : 0 < l.length) :
    OpOk P B ⟨dst, .sliceToArrayPointer t x, ty, pos, after, guard⟩ E (arrP l) := fun ρ w _ _ hρ => by
  obtain ⟨c, hb⟩ := hf.of (hρ x (by simp [Op.operands]) _ hx)
  obtain ⟨A, hxe, hle, hcm, hrow⟩ := bytes_open (l := l) hb
  cases A with
  | none =>
    cases l with
    | nil => cases hl
    | cons b l => obtain ⟨ad, h, _⟩ := hrow 0 (byteV b) rfl; cases h
  | some ad => exact out_val (x := .pointer (some ad)) (w' := w) (by simp [execOp, hxe, Instr.arrayAt, run_underlying ht]) ⟨Grow.refl w, ad, rfl, hrow⟩
theorem ok_loadB {T : TypeId} {td : TypeDesc} {x : Operand} {l : List UInt8} (ht : P.underlying T = some td) (hp : td.isRow = true) (hsz : SizeIs P T l.length) (hx : E.at x = some (arrP l)) : OpOk P B ⟨dst, .load T x, ty, pos, after, guard⟩ E (.v (aggV (l.map byteV))) := fun ρ w _ _ hρ => by
  obtain ⟨ad, h1, hrow⟩ := hρ x (by simp [Op.operands]) _ hx
  have hl : (loadCells ad (l.map byteV).length).run P w = .ok (l.map byteV).toArray w := run_loadCells_list (P := P) w ad (l.map byteV) fun j v hv => by
    obtain ⟨a, h2, _, h3⟩ := hrow j v hv
    injection h2 with h2; subst h2; exact h3
  have hr : (loadVar T ad).run P w = .ok (.agg (l.map byteV).toArray) w := by
    unfold SizeIs at hsz
    cases hq : P.info? T with
    | none => simp [hq] at hsz
    | some i =>
      have hs : i.size = l.length := by simpa [hq] using hsz
      have hagg : (isAgg T).run P w = .ok true w := by
        unfold isAgg
        rw [Sem.run_bind, run_underlying ht w]
        cases td <;> simp_all
      rw [List.length_map] at hl
      simp [loadVar, Sem.run_bind, hagg, sizeOf, typeInfo, hq, hs, hl]
  exact out_val (w' := w) (by simp [execOp, h1, Instr.loadAt, Instr.sureAddr, hr, aggV]) ⟨Grow.refl w, rfl⟩
end
end Go.Proofs.YthadcgkcgpinhaaGreatDoor
namespace Go.Proofs.YthadcgkcgpinhaaGreatDoor
open Go Go.RowKit
set_option linter.unusedVariables false
/-- The message: index, nonce, ciphertext. -/
def msgL (i s c : Nat) (d : List UInt8) : List UInt8 := be 4 i ++ (nonceL s c ++ d)
theorem msgL_length {i s c : Nat} {d : List UInt8} (hd : d.length = 32) : (msgL i s c d).length = 48 := by simp [msgL, be_length, nonceL_length, hd]
theorem msgL_take (i s c : Nat) (d : List UInt8) : (msgL i s c d).take 4 = be 4 i := List.take_left' (be_length _ _)
theorem msgL_mid (i s c : Nat) (d : List UInt8) : ((msgL i s c d).drop 4).take 12 = nonceL s c := by
  rw [msgL, List.drop_left' (be_length _ _), List.take_left' (nonceL_length _ _)]
theorem msgL_drop (i s c : Nat) (d : List UInt8) : (msgL i s c d).drop 16 = d := by
  rw [msgL, ← List.append_assoc, List.drop_left' (by simp [be_length, nonceL_length])]
/-- Bytes that are a message's. -/
theorem msgL_of {l : List UInt8} {s c : Nat} (h : l.length = 48) (hn : nonceL s c = (l.drop 4).take 12) : msgL (num (l.take 4)) s c (l.drop 16) = l := by
  rw [msgL, be_num (by simp; omega), hn]
  rw [show l.drop 16 = (l.drop 4).drop 12 from by rw [List.drop_drop], List.take_append_drop, List.take_append_drop]
/-- A number of four bytes that is 4096 or more. -/
theorem num4_big {l : List UInt8} (h : l.length = 48) (hn : 4096 ≤ num (l.take 4)) : 0 < byL l 0 ∨ 0 < byL l 1 ∨ 15 < byL l 2 := by
  match l, h with
  | a :: b :: c :: d :: r, _ =>
    have h1 : num [a, b, c, d] = ((a.toNat * 256 + b.toNat) * 256 + c.toNat) * 256 + d.toNat := by simp [num]
    have h2 : (a :: b :: c :: d :: r).take 4 = [a, b, c, d] := rfl
    rw [h2, h1] at hn
    have ha : byL (a :: b :: c :: d :: r) 0 = a.toNat := rfl
    have hb : byL (a :: b :: c :: d :: r) 1 = b.toNat := rfl
    have hc : byL (a :: b :: c :: d :: r) 2 = c.toNat := rfl
    rw [ha, hb, hc]
    have h3 := d.toNat_lt
    omega
theorem msg_flat (i s c : Nat) (d : List UInt8) : [be 4 i, nonceL s c, d].flatten = msgL i s c d := by simp [msgL]
/-- Keys: an array of 16 bytes, one of 32 behind it. -/
theorem KM_len (f : Nat → Nat) {mk : List UInt8} (h : mk.length = 32) : (rowV 16 f ++ mk.map byteV).length = 48 := by simp [rowV_length, h]
theorem KM_mac (f : Nat → Nat) {mk : List UInt8} (h : mk.length = 32) : ((rowV 16 f ++ mk.map byteV).drop 16).take 32 = mk.map byteV := by
  rw [List.drop_left' (rowV_length _ _), List.take_of_length_le (by simp [h])]
theorem KM_one (f : Nat → Nat) (mk : List UInt8) : (rowV 16 f ++ mk.map byteV).all (·.oneCell') = true := by
  rw [List.all_append, rowV_one]; simp [byteV, Value.oneCell']
/-- Keys, an index, a nonce. -/
theorem SC_len (f : Nat → Nat) {mk : List UInt8} (h : mk.length = 32) (a b c : Value) : (rowV 16 f ++ mk.map byteV ++ [a, b, c]).length = 51 := by simp [rowV_length, h]
theorem SC_keys (f : Nat → Nat) {mk : List UInt8} (h : mk.length = 32) (r : List Value) : ((rowV 16 f ++ mk.map byteV ++ r).drop 0).take 48 = rowV 16 f ++ mk.map byteV := by rw [List.drop_zero]; exact List.take_left' (KM_len f h)
theorem SC_enc (f : Nat → Nat) (mk : List UInt8) (r : List Value) : ((rowV 16 f ++ mk.map byteV ++ r).drop 0).take 16 = rowV 16 f := by rw [List.append_assoc]; exact K_key f _
theorem SC_mac (f : Nat → Nat) {mk : List UInt8} (h : mk.length = 32) (r : List Value) : ((rowV 16 f ++ mk.map byteV ++ r).drop 16).take 32 = mk.map byteV := by
  rw [List.append_assoc, List.drop_left' (rowV_length _ _), List.take_left' (by simp [h])]
theorem SC_ix (f : Nat → Nat) {mk : List UInt8} (h : mk.length = 32) (a b c : Value) : (rowV 16 f ++ mk.map byteV ++ [a, b, c])[48]? = some a := by
  rw [List.getElem?_append_right (by rw [KM_len f h]; exact Nat.le_refl _), KM_len f h]; rfl
theorem SC_non (f : Nat → Nat) {mk : List UInt8} (h : mk.length = 32) (a b c : Value) : ((rowV 16 f ++ mk.map byteV ++ [a, b, c]).drop 49).take 2 = [b, c] := by
  rw [List.drop_append, KM_len f h, List.drop_eq_nil_of_le (by rw [KM_len f h]; decide)]; rfl
theorem SC_one (f : Nat → Nat) (mk : List UInt8) {a b c : Value} (ha : a.oneCell' = true) (hb : b.oneCell' = true) (hc : c.oneCell' = true) : (rowV 16 f ++ mk.map byteV ++ [a, b, c]).all (·.oneCell') = true := by
  rw [List.all_append, KM_one]; simp [ha, hb, hc]
theorem SC_set (f : Nat → Nat) {mk : List UInt8} (h : mk.length = 32) (a b c v : Value) (k : Nat) : (rowV 16 f ++ mk.map byteV ++ [a, b, c]).set (48 + k) v = rowV 16 f ++ mk.map byteV ++ [a, b, c].set k v := by
  rw [List.set_append_right _ _ (by rw [KM_len f h]; omega), KM_len f h, Nat.add_sub_cancel_left]
/-! ### Bytes 00 against a key stream -/
theorem byL_zeros (n i : Nat) : byL (List.replicate n 0) i = 0 := by
  unfold byL
  rw [List.getD_eq_getElem?_getD, List.getElem?_replicate]
  split <;> rfl
/-- The bytes of a block of the key stream. -/
def ksL (k : Sta) (s c t : Nat) : List UInt8 := rowL (ksB k s c t) 0 16
theorem ksL_length (k : Sta) (s c t : Nat) : (ksL k s c t).length = 16 := rowL_length _ _ _
theorem ksL_row {k : Sta} (hk : By k) (s c t : Nat) : rowV 16 (ksB k s c t) = (ksL k s c t).map byteV := by
  rw [ksL, ← rowL_row (n := 16) (ksB_by hk s c t) (by omega), List.drop_zero, List.take_of_length_le (Nat.le_of_eq (rowV_length _ _))]
theorem xorK_zeros (k : Sta) (s c : Nat) : xorK k s c 0 (List.replicate 32 0) = ksL k s c 0 ++ ksL k s c 1 := by
  apply List.ext_getElem?
  intro i
  rcases Nat.lt_or_ge i 32 with h | h
  · rw [xorK_get (by simpa using h)]
    show some (UInt8.ofNat (byL (List.replicate 32 0) i ^^^ ksAt k s c (0 + i))) = _
    rw [byL_zeros, Nat.zero_xor, Nat.zero_add, ksAt]
    rcases Nat.lt_or_ge i 16 with h2 | h2
    · rw [List.getElem?_append_left (by rw [ksL_length]; exact h2), ksL, rowL, List.getElem?_map, List.getElem?_range h2, Option.map_some, Nat.div_eq_of_lt h2, Nat.mod_eq_of_lt h2, Nat.zero_add]
    · rw [List.getElem?_append_right (by rw [ksL_length]; exact h2), ksL_length, ksL, rowL, List.getElem?_map, List.getElem?_range (by omega), Option.map_some, show i / 16 = 1 from by omega, show i % 16 = i - 16 from by omega, Nat.zero_add]
  · rw [List.getElem?_eq_none (by rw [xorK_length]; simpa using h), List.getElem?_eq_none (by rw [List.length_append, ksL_length, ksL_length]; exact h)]
theorem rowL_lst {f : Sta} {l : List Nat} (h : Eq16 f (lst16 l)) : rowL f 0 16 = rowL (lst16 l) 0 16 :=
  List.map_congr_left fun i hi => by rw [Nat.zero_add, h i (List.mem_range.1 hi)]
end Go.Proofs.YthadcgkcgpinhaaGreatDoor
