/-
  OWN TEXTS of this seat, put together, part 4: C05b, Aes, Nest, C06a, C06b, Stream, Calls.
-/
import Derived.Test.YthadcgkcgpinhaaGreatDoorKB1
import Derived.Test.YthadcgkcgpinhaaGreatDoorKB3
import Derived.Test.YthadcgkcgpinhaaGreatDoorKB2
namespace Go.Proofs.YthadcgkcgpinhaaGreatDoor
open Go Go.RowKit
set_option linter.unusedVariables false
set_option maxRecDepth 20000
theorem bit7 {a : Nat} (ha : a < 256) : a / 128 = (a.testBit 7).toNat := by rw [Nat.toNat_testBit, show (2 : Nat) ^ 7 = 128 from rfl]; omega
theorem mask27 (t : Bool) : mask t 27 < 256 := Nat.lt_of_le_of_lt (mask_le t 27) (by decide)
theorem mask_lt (t : Bool) {c : Nat} (hc : c < 256) : mask t c < 256 := Nat.lt_of_le_of_lt (mask_le t c) hc

theorem mul1_fnW (g a : Nat) (ha : a < 256) : FnW Tryz.prog 100 [] 5 g [nB a] [nB (xt a)] ([ptr g].map D.v) := by
 refine FnW.of (n := 9) (kb := 1000080) (kw := 1000081) Tryz.func100 rfl (by kernel_rfl) Tryz.ntmps100 (by simp) (by decide) (fun p hp => by cases hp) (by decide) (by decide) [(0, .v (ptr g))]
  (fun p hp => by simp only [List.mem_cons, List.not_mem_nil, or_false] at hp; rcases hp with rfl; exact ⟨_, rfl, rfl⟩) fun w₀ w₁ hw hM => ?_
 have hBg : w₀.heap.size ≤ g := Nat.le_of_eq hw
 refine GS ?_
 refine TL ?_
 refine RS (ok_loadV (s := 1000080) (by decide) Tryz.underlying5 rfl rfl rfl (rfl)) ?_
 refine RS (ok_shr rfl rfl (by decide)) ?_; refine RZ (nB ((a.testBit 7).toNat)) (by rw [← bit7 ha]; exact congrArg _ (shr_nat a 7)) ?_
 refine RA rfl ?_
 refine RN ?_
 refine GE ?_
 refine TF 5 ?_
 refine RS (ok_loadV (s := 1000080) (by decide) Tryz.underlying5 rfl rfl rfl (rfl)) ?_
 refine RS (ok_shl rfl rfl (by decide)) ?_; refine RZ (nB (2 * a % 256)) (by rw [show (a : Int) * 2 ^ min (Int.toNat 1) IntKind.u8.bits = ((2 * a : Nat) : Int) from by rw [show min (Int.toNat 1) IntKind.u8.bits = 1 from rfl]; omega, wrap_u8N]) ?_
 refine RM rfl ?_
 refine RBS rfl rfl rfl (nB (mask (a.testBit 7) 27)) (by cases a.testBit 7 <;> rfl) ?_
 refine RBS rfl rfl rfl (nB (xt a)) (by rw [show IntKind.u8.bits = 8 from rfl, xor_u8N (Nat.mod_lt _ (by decide)) (mask27 _)]; rfl) ?_
 refine RN ?_
 refine ⟨_, eff_storeS (n := 9) (s := 1000080) info5 rfl rfl rfl hBg rfl (by simp) (LeftS.cons (t := 1000081) rfl (Surv.wrote) LN), ?_⟩
 refine TL ?_
 refine RN ?_
 exact End.wrote (kb := 1000080) (kw := 1000081) rfl rfl rfl rfl
set_option maxHeartbeats 1000000 in
theorem Mul_fn (a b : Nat) (ha : a < 256) (hb : b < 256) : Fn Tryz.prog 88 [.v (nB a), .v (nB b)] (.v (nB (gm a b))) := by
 refine Fn.of Tryz.func88 rfl (by kernel_rfl) Tryz.ntmps88 (by simp) (fun w => [(0, .v (nB a)), (1, .v (nB b))]) (fun w => (Start.v rfl (Start.v rfl Start.nil))) fun w₀ => ?_
 refine GS ?_
 refine TN 0 ?_
 refine RN ?_
 refine ⟨_, _, eff_box1 (n := 24) (d := 2) (k := 1000002) rfl rfl (by decide), fun b2 hb2 => ?_⟩
 have hBb2 := hb2.1
 refine TL ?_
 refine RA rfl ?_
 refine RN ?_
 refine GS ?_
 refine TL ?_
 refine RS (ok_makeFuncN [ptr b2] ⟨rfl, trivial⟩) ?_
 refine RA rfl ?_
 refine RN ?_
 refine GS ?_
 refine TL ?_
 refine RA rfl ?_
 refine RN ?_
 refine A.seq ?_
 refine GS ?_
 refine TL ?_
 refine RM rfl ?_
 refine RN ?_
 refine A.block ?_
 refine A.loop (ι := Nat) (fun i => i ≤ 8) (fun i => [(1, .v (nB b)), (2, .v (ptr b2)), (5, .v (.func (.func 100) #[] #[ptr b2])), (6, .v (nB (gacc a b i))), (9, .v (nI i)), (1000002, blk b2 5 [nB (xts a i)])]) (fun i => 8 - i) 0 ?_ ?_ ?_
 ·exact Nat.zero_le _
 ·exact (KC 1 rfl (KC 2 rfl (KC 5 rfl (KC 6 rfl (KC 9 rfl (KC 1000002 rfl KN))))))
 intro i hi
 refine GS ?_
 refine TL ?_
 refine RB rfl rfl rfl ?_
 refine RN ?_
 refine A.seq ?_
 refine A.cond rfl (fun hc10 => ?_) (fun hc10 => ?_)
 ·have hlt : i < 8 := by simp at hc10; omega
  refine A.skip ?_
  refine EN ?_
  refine A.seq ?_
  refine A.block ?_
  refine GS ?_
  refine TL ?_
  refine RM rfl ?_
  refine RA rfl ?_
  refine RN ?_
  refine GD ?_
  refine TL ?_
  refine RM rfl ?_
  refine RM rfl ?_
  refine RM rfl ?_
  refine RS (ok_shr rfl rfl (by omega)) ?_; refine RZ (nB (b / 2 ^ (i))) (by rw [Int.toNat_natCast, show min (i) IntKind.u8.bits = i from by simp only [IntKind.bits]; omega]; exact congrArg _ (shr_nat _ _)) ?_
  refine RBS rfl rfl rfl (nB ((b.testBit i).toNat)) (by rw [show IntKind.u8.bits = 8 from rfl, show (1 : Int) = ((1 : Nat) : Int) from rfl, and_u8N (Nat.lt_of_le_of_lt (Nat.div_le_self _ _) hb) (by decide), Nat.and_one_is_mod, Nat.toNat_testBit]) ?_
  refine RS (ok_loadV (s := 1000002) (by decide) Tryz.underlying5 rfl rfl rfl (rfl)) ?_
  refine RBS rfl rfl rfl (nB (mask (b.testBit i) (xts a i))) (by rw [← Int.natCast_mul, mask_mul, wrapN_u8 (mask_lt _ (xts_lt ha i))]) ?_
  refine RBS rfl rfl rfl (nB (gacc a b (i + 1))) (by rw [show IntKind.u8.bits = 8 from rfl, xor_u8N (gacc_lt b ha i) (mask_lt _ (xts_lt ha i))]; rfl) ?_
  refine RA rfl ?_
  refine RN ?_
  refine GE ?_
  refine TF 1 ?_
  refine RM rfl ?_
  refine RN ?_
  refine ⟨_, eff_callV (n := 24) (s := 1000002) (mul1_fnW b2 (xts a i) (xts_lt ha i)) rfl hBb2 rfl (by decide) (LV 1 rfl (LV 2 rfl (LV 5 rfl (LV 6 rfl (LV 9 rfl LN))))), ?_⟩
  refine TL ?_
  refine RN ?_
  refine End.normal_block ?_
  refine EN ?_
  refine GE ?_
  refine TL ?_
  refine RBS rfl rfl rfl (nI (i + 1)) (by rw [wrap_i64 (by omega) (by omega)]; first | rfl | (congr 1; omega)) ?_
  refine RM rfl ?_
  refine RN ?_
  refine End.normal_then ?_
  refine End.again (i + 1) ?_ ?_ ?_
  ·show _ ≤ _; omega
  ·show _ - _ < _ - _; omega
  ·exact (KC 1 rfl (KC 2 rfl (KC 5 rfl (KC 6 rfl (KC 9 rfl (KC 1000002 rfl KN))))))
 ·obtain rfl : i = 8 := by simp at hc10; omega
  refine A.exit ?_
  refine End.exit_then ?_
  refine End.exit_then ?_
  refine End.exit_here ?_
  refine EN ?_
  refine GS ?_
  refine TL ?_
  refine RM rfl ?_
  refine RA rfl ?_
  refine RN ?_
  refine A.ret ?_
  exact End.ret1 rfl rfl (by first | exact Le.refl _ | exact Le.old _ _)
theorem Power_fnA (n : Int) (h : n ≠ 0) : Fn Tryz.prog 65 [.v (nB 0), .v (.int .i64 n)] (.v (.int .u8 0)) := by
 refine Fn.of Tryz.func65 rfl (by kernel_rfl) Tryz.ntmps65 (by simp) (fun w => [(0, .v (nB 0)), (1, .v (.int .i64 n))]) (fun w => (Start.v rfl (Start.v rfl Start.nil))) fun w₀ => ?_
 refine GS ?_
 refine TL ?_
 refine RA rfl ?_
 refine RN ?_
 refine A.scope ?_
 refine A.seq ?_
 refine GS ?_
 refine TL ?_
 refine RM rfl ?_
 refine RBS rfl rfl rfl (.bool true) (by rfl) ?_
 refine RM rfl ?_
 refine RQ (ok_move rfl) ?_
 refine RQ (ok_bin rfl rfl rfl) ?_; refine RZ (.bool true) (by simp [h]) ?_
 refine RP rfl rfl ?_
 refine RN ?_
 refine A.yes rfl ?_
 refine GS ?_
 refine TL ?_
 refine RA rfl ?_
 refine RN ?_
 refine A.ret ?_
 refine End.ret_then ?_
 refine End.ret_scope ?_
 exact End.ret1 rfl rfl (by first | exact Le.refl _ | exact Le.old _ _)
set_option maxHeartbeats 2000000 in
theorem Power_fnB (a : Nat) (n : Int) (ha : a < 256) (h0 : a ≠ 0) : Fn Tryz.prog 65 [.v (nB a), .v (.int .i64 n)] (.v (nB (gpz a n))) := by
 obtain ⟨r, hr, hr1, hr2, hr3⟩ := tmod255 n
 obtain ⟨m, hm⟩ : ∃ m : Nat, (m : Int) = n % 255 := ⟨(n % 255).toNat, by omega⟩
 have hg : gpz a n = gpow a m := by rw [gpz_pos h0]; congr 1; omega
 refine Fn.of Tryz.func65 rfl (by kernel_rfl) Tryz.ntmps65 (by simp) (fun w => [(0, .v (nB a)), (1, .v (.int .i64 n))]) (fun w => (Start.v rfl (Start.v rfl Start.nil))) fun w₀ => ?_
 refine GS ?_
 refine TL ?_
 refine RA rfl ?_
 refine RN ?_
 refine A.scope ?_
 refine A.seq ?_
 refine GS ?_
 refine TL ?_
 refine RM rfl ?_
 refine RBS rfl rfl rfl (.bool false) (by simp; omega) ?_
 refine RM rfl ?_
 refine RK ?_
 refine RK ?_
 refine RP rfl rfl ?_
 refine RN ?_
 refine A.no rfl ?_
 refine A.skip ?_
 refine EN ?_
 refine GS ?_
 refine TL ?_
 refine RM rfl ?_
 refine RS (ok_rem rfl rfl (by decide)) ?_; refine RZ (.int .i64 r) (by rw [hr]) ?_
 refine RA rfl ?_
 refine RN ?_
 refine A.seq ?_
 refine GS ?_
 refine TL ?_
 refine RM rfl ?_
 refine RB rfl rfl rfl ?_
 refine RN ?_
 refine A.cond rfl (fun hc15 => ?_) (fun hc15 => ?_)
 ·have hneg : r < 0 := by simpa using hc15
  refine GE ?_
  refine TL ?_
  refine RM rfl ?_
  refine RBS rfl rfl rfl (nI m) (by rw [wrap_i64 (by omega) (by omega)]; exact congrArg (Value.int .i64) (by omega)) ?_
  refine RA rfl ?_
  refine RN ?_
  refine EN ?_
  refine GS ?_
  refine TL ?_
  refine RA rfl ?_
  refine RN ?_
  refine A.seq ?_
  refine A.label ?_
  refine EN ?_
  refine A.seq ?_
  refine A.block ?_
  refine A.loop (ι := Nat × Nat × Nat) (fun z => gm z.2.2 (gpow z.2.1 z.1) = gpow a m ∧ z.2.1 < 256 ∧ z.2.2 < 256 ∧ z.1 < 255) (fun z => [(0, .v (nB (z.2.1))), (1, .v (nI (z.1))), (5, .v (nB (z.2.2)))]) (fun z => z.1) (m, a, 1) ?_ ?_ ?_
  ·exact ⟨gm_one' (gpow_lt _), ha, by show 1 < 256; decide, by show m < 255; omega⟩
  ·exact (KC 0 rfl (KE 1 rfl (by first | rfl | exact congrArg (fun z : Int => D.v (.int .i64 z)) (show r = _ by omega)) (KC 5 rfl KN)))
  intro z hz
  obtain ⟨h1, h2, h3, h4⟩ := hz
  refine A.block ?_
  refine A.seq ?_
  refine A.block ?_
  refine GS ?_
  refine TL ?_
  refine RM rfl ?_
  refine RB rfl rfl rfl ?_
  refine RA rfl ?_
  refine RN ?_
  refine A.cond rfl (fun hc18 => ?_) (fun hc18 => ?_)
  ·have hn0 : z.1 = 0 := by simp at hc18; omega
   refine A.exit ?_
   refine End.exit_past (by decide) ?_
   refine End.exit_then ?_
   refine End.exit_past (by decide) ?_
   refine End.exit_then ?_
   refine End.exit_here ?_
   refine EN ?_
   refine GS ?_
   refine TL ?_
   refine RM rfl ?_; refine RZ (nB (gpz a n)) (congrArg (fun q : Nat => Value.int .u8 (q : Int)) (by rw [hg, ← h1, hn0]; exact (gm_one h3).symm)) ?_
   refine RA rfl ?_
   refine RN ?_
   refine A.ret ?_
   refine End.ret_scope ?_
   exact End.ret1 rfl rfl (by first | exact Le.refl _ | exact Le.old _ _)
  ·have hn0 : z.1 ≠ 0 := by simp at hc18; omega
   refine GS ?_
   refine TL ?_
   refine RM rfl ?_
   refine RBS rfl rfl rfl (nI (z.1 % 2)) (by rw [show IntKind.i64.bits = 64 from rfl, show (1 : Int) = ((1 : Nat) : Int) from rfl, and_i64N (by omega) (by decide), Nat.and_one_is_mod]) ?_
   refine RB rfl rfl rfl ?_
   refine RA rfl ?_
   refine RN ?_
   refine A.cond rfl (fun hc21 => ?_) (fun hc21 => ?_)
   ·have hodd : z.1 % 2 = 1 := by simp at hc21; omega
    refine GE ?_
    refine TL ?_
    refine RM rfl ?_
    refine RM rfl ?_
    refine RS (ok_call (Mul_fn z.2.2 z.2.1 h3 h2) (A2 rfl rfl)) ?_
    refine RA rfl ?_
    refine RN ?_
    refine End.normal_block ?_
    refine EN ?_
    refine GS ?_
    refine TL ?_
    refine RM rfl ?_
    refine RM rfl ?_
    refine RS (ok_call (Mul_fn z.2.1 z.2.1 h2 h2) (A2 rfl rfl)) ?_
    refine RA rfl ?_
    refine RN ?_
    refine GE ?_
    refine TL ?_
    refine RM rfl ?_
    refine RS (ok_shr rfl rfl (by decide)) ?_; refine RZ (nI (z.1 / 2)) (by rw [show min (Int.toNat 1) IntKind.i64.bits = 1 from rfl]; exact congrArg _ (shr_nat _ 1)) ?_
    refine RA rfl ?_
    refine RN ?_
    refine End.normal_block ?_
    refine End.normal_then ?_
    refine End.again (z.1 / 2, gm z.2.1 z.2.1, (if z.1 % 2 = 1 then gm z.2.2 z.2.1 else z.2.2)) ?_ ?_ ?_
    ·exact ⟨(gpow_step h2 h3).trans h1, gm_lt _ h2, by show (if z.1 % 2 = 1 then gm z.2.2 z.2.1 else z.2.2) < 256; split <;> first | exact gm_lt _ h3 | exact h3, by show z.1 / 2 < 255; omega⟩
    ·show z.1 / 2 < z.1; omega
    ·exact (KC 0 rfl (KC 1 rfl (KE 5 rfl (show _ = D.v (nB ((if z.1 % 2 = 1 then gm z.2.2 z.2.1 else z.2.2))) from by first | rw [if_pos hodd] | rw [if_neg hodd]) KN)))
   ·have hodd : ¬ z.1 % 2 = 1 := by simp at hc21; omega
    refine A.skip ?_
    refine End.normal_block ?_
    refine EN ?_
    refine GS ?_
    refine TL ?_
    refine RM rfl ?_
    refine RM rfl ?_
    refine RS (ok_call (Mul_fn z.2.1 z.2.1 h2 h2) (A2 rfl rfl)) ?_
    refine RA rfl ?_
    refine RN ?_
    refine GE ?_
    refine TL ?_
    refine RM rfl ?_
    refine RS (ok_shr rfl rfl (by decide)) ?_; refine RZ (nI (z.1 / 2)) (by rw [show min (Int.toNat 1) IntKind.i64.bits = 1 from rfl]; exact congrArg _ (shr_nat _ 1)) ?_
    refine RA rfl ?_
    refine RN ?_
    refine End.normal_block ?_
    refine End.normal_then ?_
    refine End.again (z.1 / 2, gm z.2.1 z.2.1, (if z.1 % 2 = 1 then gm z.2.2 z.2.1 else z.2.2)) ?_ ?_ ?_
    ·exact ⟨(gpow_step h2 h3).trans h1, gm_lt _ h2, by show (if z.1 % 2 = 1 then gm z.2.2 z.2.1 else z.2.2) < 256; split <;> first | exact gm_lt _ h3 | exact h3, by show z.1 / 2 < 255; omega⟩
    ·show z.1 / 2 < z.1; omega
    ·exact (KC 0 rfl (KC 1 rfl (KE 5 rfl (show _ = D.v (nB ((if z.1 % 2 = 1 then gm z.2.2 z.2.1 else z.2.2))) from by first | rw [if_pos hodd] | rw [if_neg hodd]) KN)))
 ·have hneg : ¬ r < 0 := by simpa using hc15
  refine A.skip ?_
  refine EN ?_
  refine GS ?_
  refine TL ?_
  refine RA rfl ?_
  refine RN ?_
  refine A.seq ?_
  refine A.label ?_
  refine EN ?_
  refine A.seq ?_
  refine A.block ?_
  refine A.loop (ι := Nat × Nat × Nat) (fun z => gm z.2.2 (gpow z.2.1 z.1) = gpow a m ∧ z.2.1 < 256 ∧ z.2.2 < 256 ∧ z.1 < 255) (fun z => [(0, .v (nB (z.2.1))), (1, .v (nI (z.1))), (5, .v (nB (z.2.2)))]) (fun z => z.1) (m, a, 1) ?_ ?_ ?_
  ·exact ⟨gm_one' (gpow_lt _), ha, by show 1 < 256; decide, by show m < 255; omega⟩
  ·exact (KC 0 rfl (KE 1 rfl (by first | rfl | exact congrArg (fun z : Int => D.v (.int .i64 z)) (show r = _ by omega)) (KC 5 rfl KN)))
  intro z hz
  obtain ⟨h1, h2, h3, h4⟩ := hz
  refine A.block ?_
  refine A.seq ?_
  refine A.block ?_
  refine GS ?_
  refine TL ?_
  refine RM rfl ?_
  refine RB rfl rfl rfl ?_
  refine RA rfl ?_
  refine RN ?_
  refine A.cond rfl (fun hc18 => ?_) (fun hc18 => ?_)
  ·have hn0 : z.1 = 0 := by simp at hc18; omega
   refine A.exit ?_
   refine End.exit_past (by decide) ?_
   refine End.exit_then ?_
   refine End.exit_past (by decide) ?_
   refine End.exit_then ?_
   refine End.exit_here ?_
   refine EN ?_
   refine GS ?_
   refine TL ?_
   refine RM rfl ?_; refine RZ (nB (gpz a n)) (congrArg (fun q : Nat => Value.int .u8 (q : Int)) (by rw [hg, ← h1, hn0]; exact (gm_one h3).symm)) ?_
   refine RA rfl ?_
   refine RN ?_
   refine A.ret ?_
   refine End.ret_scope ?_
   exact End.ret1 rfl rfl (by first | exact Le.refl _ | exact Le.old _ _)
  ·have hn0 : z.1 ≠ 0 := by simp at hc18; omega
   refine GS ?_
   refine TL ?_
   refine RM rfl ?_
   refine RBS rfl rfl rfl (nI (z.1 % 2)) (by rw [show IntKind.i64.bits = 64 from rfl, show (1 : Int) = ((1 : Nat) : Int) from rfl, and_i64N (by omega) (by decide), Nat.and_one_is_mod]) ?_
   refine RB rfl rfl rfl ?_
   refine RA rfl ?_
   refine RN ?_
   refine A.cond rfl (fun hc21 => ?_) (fun hc21 => ?_)
   ·have hodd : z.1 % 2 = 1 := by simp at hc21; omega
    refine GE ?_
    refine TL ?_
    refine RM rfl ?_
    refine RM rfl ?_
    refine RS (ok_call (Mul_fn z.2.2 z.2.1 h3 h2) (A2 rfl rfl)) ?_
    refine RA rfl ?_
    refine RN ?_
    refine End.normal_block ?_
    refine EN ?_
    refine GS ?_
    refine TL ?_
    refine RM rfl ?_
    refine RM rfl ?_
    refine RS (ok_call (Mul_fn z.2.1 z.2.1 h2 h2) (A2 rfl rfl)) ?_
    refine RA rfl ?_
    refine RN ?_
    refine GE ?_
    refine TL ?_
    refine RM rfl ?_
    refine RS (ok_shr rfl rfl (by decide)) ?_; refine RZ (nI (z.1 / 2)) (by rw [show min (Int.toNat 1) IntKind.i64.bits = 1 from rfl]; exact congrArg _ (shr_nat _ 1)) ?_
    refine RA rfl ?_
    refine RN ?_
    refine End.normal_block ?_
    refine End.normal_then ?_
    refine End.again (z.1 / 2, gm z.2.1 z.2.1, (if z.1 % 2 = 1 then gm z.2.2 z.2.1 else z.2.2)) ?_ ?_ ?_
    ·exact ⟨(gpow_step h2 h3).trans h1, gm_lt _ h2, by show (if z.1 % 2 = 1 then gm z.2.2 z.2.1 else z.2.2) < 256; split <;> first | exact gm_lt _ h3 | exact h3, by show z.1 / 2 < 255; omega⟩
    ·show z.1 / 2 < z.1; omega
    ·exact (KC 0 rfl (KC 1 rfl (KE 5 rfl (show _ = D.v (nB ((if z.1 % 2 = 1 then gm z.2.2 z.2.1 else z.2.2))) from by first | rw [if_pos hodd] | rw [if_neg hodd]) KN)))
   ·have hodd : ¬ z.1 % 2 = 1 := by simp at hc21; omega
    refine A.skip ?_
    refine End.normal_block ?_
    refine EN ?_
    refine GS ?_
    refine TL ?_
    refine RM rfl ?_
    refine RM rfl ?_
    refine RS (ok_call (Mul_fn z.2.1 z.2.1 h2 h2) (A2 rfl rfl)) ?_
    refine RA rfl ?_
    refine RN ?_
    refine GE ?_
    refine TL ?_
    refine RM rfl ?_
    refine RS (ok_shr rfl rfl (by decide)) ?_; refine RZ (nI (z.1 / 2)) (by rw [show min (Int.toNat 1) IntKind.i64.bits = 1 from rfl]; exact congrArg _ (shr_nat _ 1)) ?_
    refine RA rfl ?_
    refine RN ?_
    refine End.normal_block ?_
    refine End.normal_then ?_
    refine End.again (z.1 / 2, gm z.2.1 z.2.1, (if z.1 % 2 = 1 then gm z.2.2 z.2.1 else z.2.2)) ?_ ?_ ?_
    ·exact ⟨(gpow_step h2 h3).trans h1, gm_lt _ h2, by show (if z.1 % 2 = 1 then gm z.2.2 z.2.1 else z.2.2) < 256; split <;> first | exact gm_lt _ h3 | exact h3, by show z.1 / 2 < 255; omega⟩
    ·show z.1 / 2 < z.1; omega
    ·exact (KC 0 rfl (KC 1 rfl (KE 5 rfl (show _ = D.v (nB ((if z.1 % 2 = 1 then gm z.2.2 z.2.1 else z.2.2))) from by first | rw [if_pos hodd] | rw [if_neg hodd]) KN)))
set_option maxHeartbeats 2000000 in
theorem Power_fnC (a : Nat) (n : Int) (ha : a < 256) (h0 : a = 0) (hn : n = 0) : Fn Tryz.prog 65 [.v (nB a), .v (.int .i64 n)] (.v (nB (gpz a n))) := by
 obtain ⟨r, hr, hr1, hr2, hr3⟩ := tmod255 n
 obtain ⟨m, hm⟩ : ∃ m : Nat, (m : Int) = n % 255 := ⟨(n % 255).toNat, by omega⟩
 have hg : gpz a n = gpow a m := by subst hn; rw [show m = 0 from by omega, h0]; rfl
 refine Fn.of Tryz.func65 rfl (by kernel_rfl) Tryz.ntmps65 (by simp) (fun w => [(0, .v (nB a)), (1, .v (.int .i64 n))]) (fun w => (Start.v rfl (Start.v rfl Start.nil))) fun w₀ => ?_
 refine GS ?_
 refine TL ?_
 refine RA rfl ?_
 refine RN ?_
 refine A.scope ?_
 refine A.seq ?_
 refine GS ?_
 refine TL ?_
 refine RM rfl ?_
 refine RBS rfl rfl rfl (.bool true) (by simp [h0]) ?_
 refine RM rfl ?_
 refine RQ (ok_move rfl) ?_
 refine RQ (ok_bin rfl rfl rfl) ?_; refine RZ (.bool false) (by simp [hn]) ?_
 refine RP rfl rfl ?_
 refine RN ?_
 refine A.no rfl ?_
 refine A.skip ?_
 refine EN ?_
 refine GS ?_
 refine TL ?_
 refine RM rfl ?_
 refine RS (ok_rem rfl rfl (by decide)) ?_; refine RZ (.int .i64 r) (by rw [hr]) ?_
 refine RA rfl ?_
 refine RN ?_
 refine A.seq ?_
 refine GS ?_
 refine TL ?_
 refine RM rfl ?_
 refine RB rfl rfl rfl ?_
 refine RN ?_
 refine A.cond rfl (fun hc15 => ?_) (fun hc15 => ?_)
 ·have hneg : r < 0 := by simpa using hc15
  refine GE ?_
  refine TL ?_
  refine RM rfl ?_
  refine RBS rfl rfl rfl (nI m) (by rw [wrap_i64 (by omega) (by omega)]; exact congrArg (Value.int .i64) (by omega)) ?_
  refine RA rfl ?_
  refine RN ?_
  refine EN ?_
  refine GS ?_
  refine TL ?_
  refine RA rfl ?_
  refine RN ?_
  refine A.seq ?_
  refine A.label ?_
  refine EN ?_
  refine A.seq ?_
  refine A.block ?_
  refine A.loop (ι := Nat × Nat × Nat) (fun z => gm z.2.2 (gpow z.2.1 z.1) = gpow a m ∧ z.2.1 < 256 ∧ z.2.2 < 256 ∧ z.1 < 255) (fun z => [(0, .v (nB (z.2.1))), (1, .v (nI (z.1))), (5, .v (nB (z.2.2)))]) (fun z => z.1) (m, a, 1) ?_ ?_ ?_
  ·exact ⟨gm_one' (gpow_lt _), ha, by show 1 < 256; decide, by show m < 255; omega⟩
  ·exact (KC 0 rfl (KE 1 rfl (by first | rfl | exact congrArg (fun z : Int => D.v (.int .i64 z)) (show r = _ by omega)) (KC 5 rfl KN)))
  intro z hz
  obtain ⟨h1, h2, h3, h4⟩ := hz
  refine A.block ?_
  refine A.seq ?_
  refine A.block ?_
  refine GS ?_
  refine TL ?_
  refine RM rfl ?_
  refine RB rfl rfl rfl ?_
  refine RA rfl ?_
  refine RN ?_
  refine A.cond rfl (fun hc18 => ?_) (fun hc18 => ?_)
  ·have hn0 : z.1 = 0 := by simp at hc18; omega
   refine A.exit ?_
   refine End.exit_past (by decide) ?_
   refine End.exit_then ?_
   refine End.exit_past (by decide) ?_
   refine End.exit_then ?_
   refine End.exit_here ?_
   refine EN ?_
   refine GS ?_
   refine TL ?_
   refine RM rfl ?_; refine RZ (nB (gpz a n)) (congrArg (fun q : Nat => Value.int .u8 (q : Int)) (by rw [hg, ← h1, hn0]; exact (gm_one h3).symm)) ?_
   refine RA rfl ?_
   refine RN ?_
   refine A.ret ?_
   refine End.ret_scope ?_
   exact End.ret1 rfl rfl (by first | exact Le.refl _ | exact Le.old _ _)
  ·have hn0 : z.1 ≠ 0 := by simp at hc18; omega
   refine GS ?_
   refine TL ?_
   refine RM rfl ?_
   refine RBS rfl rfl rfl (nI (z.1 % 2)) (by rw [show IntKind.i64.bits = 64 from rfl, show (1 : Int) = ((1 : Nat) : Int) from rfl, and_i64N (by omega) (by decide), Nat.and_one_is_mod]) ?_
   refine RB rfl rfl rfl ?_
   refine RA rfl ?_
   refine RN ?_
   refine A.cond rfl (fun hc21 => ?_) (fun hc21 => ?_)
   ·have hodd : z.1 % 2 = 1 := by simp at hc21; omega
    refine GE ?_
    refine TL ?_
    refine RM rfl ?_
    refine RM rfl ?_
    refine RS (ok_call (Mul_fn z.2.2 z.2.1 h3 h2) (A2 rfl rfl)) ?_
    refine RA rfl ?_
    refine RN ?_
    refine End.normal_block ?_
    refine EN ?_
    refine GS ?_
    refine TL ?_
    refine RM rfl ?_
    refine RM rfl ?_
    refine RS (ok_call (Mul_fn z.2.1 z.2.1 h2 h2) (A2 rfl rfl)) ?_
    refine RA rfl ?_
    refine RN ?_
    refine GE ?_
    refine TL ?_
    refine RM rfl ?_
    refine RS (ok_shr rfl rfl (by decide)) ?_; refine RZ (nI (z.1 / 2)) (by rw [show min (Int.toNat 1) IntKind.i64.bits = 1 from rfl]; exact congrArg _ (shr_nat _ 1)) ?_
    refine RA rfl ?_
    refine RN ?_
    refine End.normal_block ?_
    refine End.normal_then ?_
    refine End.again (z.1 / 2, gm z.2.1 z.2.1, (if z.1 % 2 = 1 then gm z.2.2 z.2.1 else z.2.2)) ?_ ?_ ?_
    ·exact ⟨(gpow_step h2 h3).trans h1, gm_lt _ h2, by show (if z.1 % 2 = 1 then gm z.2.2 z.2.1 else z.2.2) < 256; split <;> first | exact gm_lt _ h3 | exact h3, by show z.1 / 2 < 255; omega⟩
    ·show z.1 / 2 < z.1; omega
    ·exact (KC 0 rfl (KC 1 rfl (KE 5 rfl (show _ = D.v (nB ((if z.1 % 2 = 1 then gm z.2.2 z.2.1 else z.2.2))) from by first | rw [if_pos hodd] | rw [if_neg hodd]) KN)))
   ·have hodd : ¬ z.1 % 2 = 1 := by simp at hc21; omega
    refine A.skip ?_
    refine End.normal_block ?_
    refine EN ?_
    refine GS ?_
    refine TL ?_
    refine RM rfl ?_
    refine RM rfl ?_
    refine RS (ok_call (Mul_fn z.2.1 z.2.1 h2 h2) (A2 rfl rfl)) ?_
    refine RA rfl ?_
    refine RN ?_
    refine GE ?_
    refine TL ?_
    refine RM rfl ?_
    refine RS (ok_shr rfl rfl (by decide)) ?_; refine RZ (nI (z.1 / 2)) (by rw [show min (Int.toNat 1) IntKind.i64.bits = 1 from rfl]; exact congrArg _ (shr_nat _ 1)) ?_
    refine RA rfl ?_
    refine RN ?_
    refine End.normal_block ?_
    refine End.normal_then ?_
    refine End.again (z.1 / 2, gm z.2.1 z.2.1, (if z.1 % 2 = 1 then gm z.2.2 z.2.1 else z.2.2)) ?_ ?_ ?_
    ·exact ⟨(gpow_step h2 h3).trans h1, gm_lt _ h2, by show (if z.1 % 2 = 1 then gm z.2.2 z.2.1 else z.2.2) < 256; split <;> first | exact gm_lt _ h3 | exact h3, by show z.1 / 2 < 255; omega⟩
    ·show z.1 / 2 < z.1; omega
    ·exact (KC 0 rfl (KC 1 rfl (KE 5 rfl (show _ = D.v (nB ((if z.1 % 2 = 1 then gm z.2.2 z.2.1 else z.2.2))) from by first | rw [if_pos hodd] | rw [if_neg hodd]) KN)))
 ·have hneg : ¬ r < 0 := by simpa using hc15
  refine A.skip ?_
  refine EN ?_
  refine GS ?_
  refine TL ?_
  refine RA rfl ?_
  refine RN ?_
  refine A.seq ?_
  refine A.label ?_
  refine EN ?_
  refine A.seq ?_
  refine A.block ?_
  refine A.loop (ι := Nat × Nat × Nat) (fun z => gm z.2.2 (gpow z.2.1 z.1) = gpow a m ∧ z.2.1 < 256 ∧ z.2.2 < 256 ∧ z.1 < 255) (fun z => [(0, .v (nB (z.2.1))), (1, .v (nI (z.1))), (5, .v (nB (z.2.2)))]) (fun z => z.1) (m, a, 1) ?_ ?_ ?_
  ·exact ⟨gm_one' (gpow_lt _), ha, by show 1 < 256; decide, by show m < 255; omega⟩
  ·exact (KC 0 rfl (KE 1 rfl (by first | rfl | exact congrArg (fun z : Int => D.v (.int .i64 z)) (show r = _ by omega)) (KC 5 rfl KN)))
  intro z hz
  obtain ⟨h1, h2, h3, h4⟩ := hz
  refine A.block ?_
  refine A.seq ?_
  refine A.block ?_
  refine GS ?_
  refine TL ?_
  refine RM rfl ?_
  refine RB rfl rfl rfl ?_
  refine RA rfl ?_
  refine RN ?_
  refine A.cond rfl (fun hc18 => ?_) (fun hc18 => ?_)
  ·have hn0 : z.1 = 0 := by simp at hc18; omega
   refine A.exit ?_
   refine End.exit_past (by decide) ?_
   refine End.exit_then ?_
   refine End.exit_past (by decide) ?_
   refine End.exit_then ?_
   refine End.exit_here ?_
   refine EN ?_
   refine GS ?_
   refine TL ?_
   refine RM rfl ?_; refine RZ (nB (gpz a n)) (congrArg (fun q : Nat => Value.int .u8 (q : Int)) (by rw [hg, ← h1, hn0]; exact (gm_one h3).symm)) ?_
   refine RA rfl ?_
   refine RN ?_
   refine A.ret ?_
   refine End.ret_scope ?_
   exact End.ret1 rfl rfl (by first | exact Le.refl _ | exact Le.old _ _)
  ·have hn0 : z.1 ≠ 0 := by simp at hc18; omega
   refine GS ?_
   refine TL ?_
   refine RM rfl ?_
   refine RBS rfl rfl rfl (nI (z.1 % 2)) (by rw [show IntKind.i64.bits = 64 from rfl, show (1 : Int) = ((1 : Nat) : Int) from rfl, and_i64N (by omega) (by decide), Nat.and_one_is_mod]) ?_
   refine RB rfl rfl rfl ?_
   refine RA rfl ?_
   refine RN ?_
   refine A.cond rfl (fun hc21 => ?_) (fun hc21 => ?_)
   ·have hodd : z.1 % 2 = 1 := by simp at hc21; omega
    refine GE ?_
    refine TL ?_
    refine RM rfl ?_
    refine RM rfl ?_
    refine RS (ok_call (Mul_fn z.2.2 z.2.1 h3 h2) (A2 rfl rfl)) ?_
    refine RA rfl ?_
    refine RN ?_
    refine End.normal_block ?_
    refine EN ?_
    refine GS ?_
    refine TL ?_
    refine RM rfl ?_
    refine RM rfl ?_
    refine RS (ok_call (Mul_fn z.2.1 z.2.1 h2 h2) (A2 rfl rfl)) ?_
    refine RA rfl ?_
    refine RN ?_
    refine GE ?_
    refine TL ?_
    refine RM rfl ?_
    refine RS (ok_shr rfl rfl (by decide)) ?_; refine RZ (nI (z.1 / 2)) (by rw [show min (Int.toNat 1) IntKind.i64.bits = 1 from rfl]; exact congrArg _ (shr_nat _ 1)) ?_
    refine RA rfl ?_
    refine RN ?_
    refine End.normal_block ?_
    refine End.normal_then ?_
    refine End.again (z.1 / 2, gm z.2.1 z.2.1, (if z.1 % 2 = 1 then gm z.2.2 z.2.1 else z.2.2)) ?_ ?_ ?_
    ·exact ⟨(gpow_step h2 h3).trans h1, gm_lt _ h2, by show (if z.1 % 2 = 1 then gm z.2.2 z.2.1 else z.2.2) < 256; split <;> first | exact gm_lt _ h3 | exact h3, by show z.1 / 2 < 255; omega⟩
    ·show z.1 / 2 < z.1; omega
    ·exact (KC 0 rfl (KC 1 rfl (KE 5 rfl (show _ = D.v (nB ((if z.1 % 2 = 1 then gm z.2.2 z.2.1 else z.2.2))) from by first | rw [if_pos hodd] | rw [if_neg hodd]) KN)))
   ·have hodd : ¬ z.1 % 2 = 1 := by simp at hc21; omega
    refine A.skip ?_
    refine End.normal_block ?_
    refine EN ?_
    refine GS ?_
    refine TL ?_
    refine RM rfl ?_
    refine RM rfl ?_
    refine RS (ok_call (Mul_fn z.2.1 z.2.1 h2 h2) (A2 rfl rfl)) ?_
    refine RA rfl ?_
    refine RN ?_
    refine GE ?_
    refine TL ?_
    refine RM rfl ?_
    refine RS (ok_shr rfl rfl (by decide)) ?_; refine RZ (nI (z.1 / 2)) (by rw [show min (Int.toNat 1) IntKind.i64.bits = 1 from rfl]; exact congrArg _ (shr_nat _ 1)) ?_
    refine RA rfl ?_
    refine RN ?_
    refine End.normal_block ?_
    refine End.normal_then ?_
    refine End.again (z.1 / 2, gm z.2.1 z.2.1, (if z.1 % 2 = 1 then gm z.2.2 z.2.1 else z.2.2)) ?_ ?_ ?_
    ·exact ⟨(gpow_step h2 h3).trans h1, gm_lt _ h2, by show (if z.1 % 2 = 1 then gm z.2.2 z.2.1 else z.2.2) < 256; split <;> first | exact gm_lt _ h3 | exact h3, by show z.1 / 2 < 255; omega⟩
    ·show z.1 / 2 < z.1; omega
    ·exact (KC 0 rfl (KC 1 rfl (KE 5 rfl (show _ = D.v (nB ((if z.1 % 2 = 1 then gm z.2.2 z.2.1 else z.2.2))) from by first | rw [if_pos hodd] | rw [if_neg hodd]) KN)))
theorem Power_fn (a : Nat) (n : Int) (ha : a < 256) : Fn Tryz.prog 65 [.v (nB a), .v (.int .i64 n)] (.v (nB (gpz a n))) := by
 by_cases h0 : a = 0
 ·by_cases hn : n = 0
  ·exact Power_fnC a n ha h0 hn
  ·subst h0
   rw [gpz_zero hn]
   exact Power_fnA n hn
 ·exact Power_fnB a n ha h0
theorem Inverse_fn (a : Nat) (ha : a < 256) : Fn Tryz.prog 98 [.v (nB a)] (.v (nB (ginv a))) := by
 refine Fn.of Tryz.func98 rfl (by kernel_rfl) Tryz.ntmps98 (by simp) (fun w => [(0, .v (nB a))]) (fun w => (Start.v rfl Start.nil)) fun w₀ => ?_
 refine GS ?_
 refine TL ?_
 refine RA rfl ?_
 refine RN ?_
 refine GS ?_
 refine TL ?_
 refine RM rfl ?_
 refine RS (ok_strIndex (l := itab) a Tryz.underlying9 rfl rfl rfl (itab_get ha)) ?_; refine RZ (nB (ginv a)) (rfl) ?_
 refine RA rfl ?_
 refine RN ?_
 refine A.ret ?_
 exact End.ret1 rfl rfl (by first | exact Le.refl _ | exact Le.old _ _)
theorem RotateLeft8_fn (a k : Nat) (ha : a < 256) (hk : k < 8) : Fn Tryz.prog 99 [.v (nB a), .v (nI k)] (.v (nB (rotl8 a k))) := by
 refine Fn.of Tryz.func99 rfl (by kernel_rfl) Tryz.ntmps99 (by simp) (fun w => [(0, .v (nB a)), (1, .v (nI k))]) (fun w => (Start.v rfl (Start.v rfl Start.nil))) fun w₀ => ?_
 refine GS ?_
 refine TL ?_
 refine RA rfl ?_
 refine RN ?_
 refine GS ?_
 refine TL ?_
 refine RM rfl ?_
 refine RS (ok_conv Tryz.underlying3 Tryz.underlying140 rfl) ?_; refine RZ (nQ k) (by rw [wrapN_u64 (by omega)]) ?_
 refine RBS rfl rfl rfl (nQ k) (by rw [show IntKind.u64.bits = 64 from rfl, show (7 : Int) = ((7 : Nat) : Int) from rfl, and_u64_nat (by omega) (by decide), show k &&& 7 = k % 8 from Nat.and_two_pow_sub_one_eq_mod k 3, Nat.mod_eq_of_lt hk]) ?_
 refine RA rfl ?_
 refine RN ?_
 refine GS ?_
 refine TL ?_
 refine RM rfl ?_
 refine RM rfl ?_
 refine RS (ok_shl rfl rfl (by omega)) ?_; refine RZ (nB (a * 2 ^ k % 256)) (by rw [Int.toNat_natCast, show min k IntKind.u8.bits = k from by simp only [IntKind.bits]; omega, show (a : Int) * 2 ^ k = ((a * 2 ^ k : Nat) : Int) from by simp, wrap_u8N]) ?_
 refine RM rfl ?_
 refine RM rfl ?_
 refine RBS rfl rfl rfl (nQ (8 - k)) (by rw [wrap_u64 (by omega) (by omega)]; exact congrArg (Value.int .u64) (by omega)) ?_
 refine RS (ok_shr rfl rfl (by omega)) ?_; refine RZ (nB (a / 2 ^ (8 - k))) (by rw [Int.toNat_natCast, show min (8 - k) IntKind.u8.bits = 8 - k from by simp only [IntKind.bits]; omega]; exact congrArg _ (shr_nat _ _)) ?_
 refine RBS rfl rfl rfl (nB (rotl8 a k)) (by rw [show IntKind.u8.bits = 8 from rfl, or_u8N (Nat.mod_lt _ (by decide)) (Nat.lt_of_le_of_lt (Nat.div_le_self _ _) ha)]; rfl) ?_
 refine RA rfl ?_
 refine RN ?_
 refine A.ret ?_
 exact End.ret1 rfl rfl (by first | exact Le.refl _ | exact Le.old _ _)
theorem xor_lt8 {a b : Nat} (ha : a < 256) (hb : b < 256) : a ^^^ b < 256 := Nat.xor_lt_two_pow (n := 8) ha hb
theorem Sub_fn (a : Nat) (ha : a < 256) : Fn Tryz.prog 87 [.v (nB a)] (.v (nB (sub8 a))) := by
 refine Fn.of Tryz.func87 rfl (by kernel_rfl) Tryz.ntmps87 (by simp) (fun w => [(0, .v (nB a))]) (fun w => (Start.v rfl Start.nil)) fun w₀ => ?_
 refine GS ?_
 refine TL ?_
 refine RA rfl ?_
 refine RN ?_
 refine GS ?_
 refine TL ?_
 refine RM rfl ?_
 refine RS (ok_call (Inverse_fn a ha) (Args.cons rfl LA Args.nil)) ?_
 refine RA rfl ?_
 refine RN ?_
 refine GS ?_
 refine TL ?_
 refine RM rfl ?_
 refine RM rfl ?_
 refine RS (ok_call (RotateLeft8_fn (ginv a) 1 (ginv_lt a) (by decide)) (Args.cons rfl LA (Args.cons rfl LA Args.nil))) ?_
 refine RBS rfl rfl rfl (nB ((ginv a) ^^^ rotl8 (ginv a) 1)) (by rw [show IntKind.u8.bits = 8 from rfl, xor_u8N (ginv_lt a) (rotl8_lt _ (ginv_lt a))]) ?_
 refine RM rfl ?_
 refine RS (ok_call (RotateLeft8_fn (ginv a) 2 (ginv_lt a) (by decide)) (Args.cons rfl LA (Args.cons rfl LA Args.nil))) ?_
 refine RBS rfl rfl rfl (nB ((ginv a) ^^^ rotl8 (ginv a) 1 ^^^ rotl8 (ginv a) 2)) (by rw [show IntKind.u8.bits = 8 from rfl, xor_u8N (xor_lt8 (ginv_lt a) (rotl8_lt _ (ginv_lt a))) (rotl8_lt _ (ginv_lt a))]) ?_
 refine RM rfl ?_
 refine RS (ok_call (RotateLeft8_fn (ginv a) 3 (ginv_lt a) (by decide)) (Args.cons rfl LA (Args.cons rfl LA Args.nil))) ?_
 refine RBS rfl rfl rfl (nB ((ginv a) ^^^ rotl8 (ginv a) 1 ^^^ rotl8 (ginv a) 2 ^^^ rotl8 (ginv a) 3)) (by rw [show IntKind.u8.bits = 8 from rfl, xor_u8N (xor_lt8 (xor_lt8 (ginv_lt a) (rotl8_lt _ (ginv_lt a))) (rotl8_lt _ (ginv_lt a))) (rotl8_lt _ (ginv_lt a))]) ?_
 refine RM rfl ?_
 refine RS (ok_call (RotateLeft8_fn (ginv a) 4 (ginv_lt a) (by decide)) (Args.cons rfl LA (Args.cons rfl LA Args.nil))) ?_
 refine RBS rfl rfl rfl (nB ((ginv a) ^^^ rotl8 (ginv a) 1 ^^^ rotl8 (ginv a) 2 ^^^ rotl8 (ginv a) 3 ^^^ rotl8 (ginv a) 4)) (by rw [show IntKind.u8.bits = 8 from rfl, xor_u8N (xor_lt8 (xor_lt8 (xor_lt8 (ginv_lt a) (rotl8_lt _ (ginv_lt a))) (rotl8_lt _ (ginv_lt a))) (rotl8_lt _ (ginv_lt a))) (rotl8_lt _ (ginv_lt a))]) ?_
 refine RBS rfl rfl rfl (nB (sub8 a)) (by rw [show IntKind.u8.bits = 8 from rfl, show (99 : Int) = ((99 : Nat) : Int) from rfl, xor_u8N (xor_lt8 (xor_lt8 (xor_lt8 (xor_lt8 (ginv_lt a) (rotl8_lt _ (ginv_lt a))) (rotl8_lt _ (ginv_lt a))) (rotl8_lt _ (ginv_lt a))) (rotl8_lt _ (ginv_lt a))) (by decide)]; rfl) ?_
 refine RA rfl ?_
 refine RN ?_
 refine A.ret ?_
 exact End.ret1 rfl rfl (by first | exact Le.refl _ | exact Le.old _ _)
end Go.Proofs.YthadcgkcgpinhaaGreatDoor
namespace Go.Proofs.YthadcgkcgpinhaaGreatDoor
open Go Go.RowKit
set_option maxRecDepth 100000
set_option linter.unusedVariables false

/-! ### Rows of bytes -/
/-- n bytes as values. -/
def rowV (n : Nat) (f : Nat → Nat) : List Value := (List.range n).map fun i => .int .u8 ((f i : Nat) : Int)
theorem rowV_length (n : Nat) (f : Nat → Nat) : (rowV n f).length = n := by simp [rowV]
theorem rowV_get {n i : Nat} {f : Nat → Nat} (h : i < n) : (rowV n f)[i]? = some (.int .u8 ((f i : Nat) : Int)) := by simp [rowV, h]
theorem rowV_one (n : Nat) (f : Nat → Nat) : (rowV n f).all (·.oneCell') = true := by
  rw [List.all_eq_true]
  intro u hu
  simp only [rowV, List.mem_map] at hu
  obtain ⟨i, _, rfl⟩ := hu
  rfl
theorem rowV_congr {n : Nat} {f g : Nat → Nat} (h : ∀ i < n, f i = g i) : rowV n f = rowV n g :=
  List.map_congr_left fun i hi => by rw [h i (List.mem_range.1 hi)]
theorem rowV_set {n k x : Nat} {f : Nat → Nat} : (rowV n f).set k (.int .u8 ((x : Nat) : Int)) = rowV n fun i => if i = k then x else f i := by
  unfold rowV
  rw [map_set_range]
  apply List.map_congr_left
  intro i _
  by_cases hi : i = k
  · simp only [hi, if_true]
  · simp only [hi, if_false]
theorem rowV_set' {n k x : Nat} {f g : Nat → Nat} (h : ∀ i < n, (if i = k then x else f i) = g i) : (rowV n f).set k (.int .u8 ((x : Nat) : Int)) = rowV n g := by
  rw [rowV_set]; exact rowV_congr h
theorem rowV_zero (n : Nat) : List.replicate n (.int .u8 0) = rowV n fun _ => 0 := by
  apply List.ext_getElem?
  intro j
  simp only [rowV, List.getElem?_map, List.getElem?_replicate]
  by_cases hj : j < n
  · simp [hj]
  · simp [hj]
theorem rowV_part {n o m : Nat} {f g : Nat → Nat} (h : o + m ≤ n) (hg : ∀ i < m, f (o + i) = g i) : ((rowV n f).drop o).take m = rowV m g := by
  apply List.ext_getElem?
  intro j
  rw [List.getElem?_take]
  split
  · rename_i hj
    rw [List.getElem?_drop, rowV_get (by omega), rowV_get hj, hg j hj]
  · rename_i hj
    rw [List.getElem?_eq_none (by rw [rowV_length]; omega)]
theorem rowV_put {n o m : Nat} {f g h : Nat → Nat} (hm : o + m ≤ n) (hh : ∀ i < n, (if o ≤ i ∧ i < o + m then g (i - o) else f i) = h i) : (rowV n f).take o ++ rowV m g ++ (rowV n f).drop (o + m) = rowV n h := by
  apply List.ext_getElem?
  intro j
  rcases Nat.lt_or_ge j n with hj | hj
  · rw [rowV_get hj, ← hh j hj]
    rcases Nat.lt_or_ge j o with h1 | h1
    · rw [List.getElem?_append_left (by simp [rowV_length]; omega), List.getElem?_append_left (by simp [rowV_length]; omega), List.getElem?_take, if_pos h1, rowV_get hj, if_neg (by omega)]
    · rcases Nat.lt_or_ge j (o + m) with h2 | h2
      · rw [List.getElem?_append_left (by simp [rowV_length]; omega), List.getElem?_append_right (by simp [rowV_length]; omega), if_pos ⟨h1, h2⟩]
        simp only [List.length_take, rowV_length]
        rw [Nat.min_eq_left (by omega), rowV_get (by omega)]
      · rw [List.getElem?_append_right (by simp [rowV_length]; omega), if_neg (by omega)]
        simp only [List.length_append, List.length_take, rowV_length]
        rw [Nat.min_eq_left (by omega), List.getElem?_drop, show o + m + (j - (o + m)) = j from by omega, rowV_get hj]
  · rw [List.getElem?_eq_none (by simp [rowV_length]; omega), List.getElem?_eq_none (by rw [rowV_length]; omega)]
/-- The bytes of a list. -/
def byL (l : List UInt8) (i : Nat) : Nat := (l.getD i 0).toNat
theorem byL_lt (l : List UInt8) (i : Nat) : byL l i < 256 := (l.getD i 0).toNat_lt
theorem rowV_byL {l : List UInt8} {n : Nat} (h : l.length = n) : l.map byteV = rowV n (byL l) := by
  apply List.ext_getElem?
  intro j
  rcases Nat.lt_or_ge j n with hj | hj
  · rw [rowV_get hj, List.getElem?_map, List.getElem?_eq_getElem (by omega), Option.map_some]
    simp only [byL, List.getD_eq_getElem?_getD, List.getElem?_eq_getElem (show j < l.length by omega), Option.getD_some]
    rfl
  · rw [List.getElem?_eq_none (by rw [List.length_map]; omega), List.getElem?_eq_none (by rw [rowV_length]; omega)]

/-! ### The transformations -/
abbrev Sta := Nat → Nat
/-- Bytes, at all places. -/
def By (f : Sta) : Prop := ∀ i, f i < 256
/-- The same 16 bytes. -/
def Eq16 (f g : Sta) : Prop := ∀ i < 16, f i = g i
theorem Eq16.refl (f : Sta) : Eq16 f f := fun _ _ => rfl
theorem Eq16.symm {f g : Sta} (h : Eq16 f g) : Eq16 g f := fun i hi => (h i hi).symm
theorem Eq16.trans {f g h : Sta} (a : Eq16 f g) (b : Eq16 g h) : Eq16 f h := fun i hi => (a i hi).trans (b i hi)
def addS (f k : Sta) : Sta := fun i => f i ^^^ k i
def subS (f : Sta) : Sta := fun i => sub8 (f i)
def rotS (f : Sta) : Sta := fun i => f (4 * ((i / 4 + i % 4) % 4) + i % 4)
/-- A byte of a column, behind. -/
def col (a : Nat → Nat) (r : Nat) : Nat := gm 2 (a (r % 4) ^^^ a ((r + 1) % 4)) ^^^ a ((r + 1) % 4) ^^^ a ((r + 2) % 4) ^^^ a ((r + 3) % 4)
def mixS (f : Sta) : Sta := fun i => col (fun r => f (4 * (i / 4) + r)) (i % 4)
theorem xor_lt (a b : Nat) (ha : a < 256) (hb : b < 256) : a ^^^ b < 256 := Nat.xor_lt_two_pow (n := 8) ha hb
theorem addS_by {f k : Sta} (hf : By f) (hk : By k) : By (addS f k) := fun i => xor_lt _ _ (hf i) (hk i)
theorem subS_by (f : Sta) : By (subS f) := fun _ => sub8_lt _
theorem rotS_by {f : Sta} (h : By f) : By (rotS f) := fun _ => h _
theorem col_lt {a : Nat → Nat} (h : ∀ r, a r < 256) (r : Nat) : col a r < 256 := xor_lt _ _ (xor_lt _ _ (xor_lt _ _ (gm_lt _ (by decide)) (h _)) (h _)) (h _)
theorem mixS_by {f : Sta} (h : By f) : By (mixS f) := fun _ => col_lt (fun _ => h _) _
theorem subS_eq {f g : Sta} (h : Eq16 f g) : Eq16 (subS f) (subS g) := fun i hi => by simp only [subS, h i hi]
theorem rotS_eq {f g : Sta} (h : Eq16 f g) : Eq16 (rotS f) (rotS g) := fun i _ => h _ (by omega)
theorem col_eq {a b : Nat → Nat} (h : ∀ r < 4, a r = b r) (r : Nat) : col a r = col b r := by
  simp only [col, h _ (show r % 4 < 4 by omega), h _ (show (r + 1) % 4 < 4 by omega), h _ (show (r + 2) % 4 < 4 by omega), h _ (show (r + 3) % 4 < 4 by omega)]
theorem mixS_eq {f g : Sta} (h : Eq16 f g) : Eq16 (mixS f) (mixS g) := fun i hi => col_eq (fun r hr => h _ (by omega)) _
theorem xor_lcomm (a b c : Nat) : a ^^^ (b ^^^ c) = b ^^^ (a ^^^ c) := by rw [← Nat.xor_assoc, Nat.xor_comm a b, Nat.xor_assoc]
theorem mixS_col (f : Sta) (c r : Nat) (hr : r < 4) : mixS f (4 * c + r) = col (fun r => f (4 * c + r)) r := by
  show col (fun q => f (4 * ((4 * c + r) / 4) + q)) ((4 * c + r) % 4) = _
  rw [show (4 * c + r) / 4 = c from by omega, show (4 * c + r) % 4 = r from by omega]
/-! ### The cipher -/
/-- A round key of a schedule, whose bytes stand side by side. -/
def keyS (s : Nat → Nat) (k : Nat) : Sta := fun i => s (16 * k + i)
def encR (s : Nat → Nat) (f : Sta) : Nat → Sta
  | 0 => addS f (keyS s 0)
  | r + 1 => addS (mixS (rotS (subS (encR s f r)))) (keyS s (r + 1))
def enc (s : Nat → Nat) (f : Sta) : Sta := addS (rotS (subS (encR s f 9))) (keyS s 10)
section
variable {s : Nat → Nat} {f g : Sta} (hs : ∀ i, s i < 256)
include hs
theorem keyS_by (k : Nat) : By (keyS s k) := fun _ => hs _
theorem encR_by (hf : By f) : ∀ r, By (encR s f r)
  | 0 => addS_by hf (keyS_by hs 0)
  | r + 1 => addS_by (mixS_by (rotS_by (subS_by _))) (keyS_by hs _)
theorem enc_by : By (enc s f) := addS_by (rotS_by (subS_by _)) (keyS_by hs _)
end
/-! ### The round keys -/
/-- The word that the first column of the next round key takes in. -/
def wordS (k : Sta) (p r : Nat) : Nat := sub8 (k (12 + (r + 1) % 4)) ^^^ (if r = 0 then p else 0)
/-- The sum of c columns of the key, and of the word. -/
def accS (k : Sta) (p r : Nat) : Nat → Nat
  | 0 => wordS k p r
  | c + 1 => k (4 * c + r) ^^^ accS k p r c
def nextS (k : Sta) (p : Nat) : Sta := fun i => accS k p (i % 4) (i / 4 + 1)
/-- The round keys of a key. -/
def roundK (k : Sta) : Nat → Sta
  | 0 => k
  | n + 1 => nextS (roundK k n) (gpow 2 n)
def expand (k : Sta) : Nat → Nat := fun j => roundK k (j / 16) (j % 16)
theorem accS_lt {k : Sta} {p : Nat} (hk : By k) (hp : p < 256) (r : Nat) : ∀ c, accS k p r c < 256
  | 0 => by
    show sub8 _ ^^^ _ < 256
    refine xor_lt _ _ (sub8_lt _) ?_
    split
    · exact hp
    · decide
  | c + 1 => xor_lt _ _ (hk _) (accS_lt hk hp r c)
theorem roundK_by {k : Sta} (hk : By k) : ∀ n, By (roundK k n)
  | 0 => hk
  | n + 1 => fun _ => accS_lt (roundK_by hk n) (gpow_lt n) _ _
theorem expand_lt {k : Sta} (hk : By k) (j : Nat) : expand k j < 256 := roundK_by hk _ _
theorem keyS_expand (k : Sta) (r : Nat) : Eq16 (keyS (expand k) r) (roundK k r) := fun i hi => by
  show roundK k ((16 * r + i) / 16) ((16 * r + i) % 16) = _
  rw [show (16 * r + i) / 16 = r from by omega, show (16 * r + i) % 16 = i from by omega]
theorem accS_eq {k g : Sta} (h : Eq16 k g) (p : Nat) {r : Nat} (hr : r < 4) : ∀ c, c ≤ 4 → accS k p r c = accS g p r c
  | 0, _ => by simp only [accS, wordS, h _ (show 12 + (r + 1) % 4 < 16 by omega)]
  | c + 1, hc => by simp only [accS, h _ (show 4 * c + r < 16 by omega), accS_eq h p hr c (by omega)]
theorem nextS_eq {k g : Sta} (h : Eq16 k g) (p : Nat) : Eq16 (nextS k p) (nextS g p) := fun i hi => accS_eq h p (by omega) _ (by omega)
/-! ### The definition's rows and words -/
theorem v8 {a b : Nat} (h : a = b) : Value.int .u8 ((a : Nat) : Int) = .int .u8 ((b : Nat) : Int) := by rw [h]
theorem gm2_all : (List.range 256).all (fun a => gm 2 a == if 127 < a then (2 * a % 256) ^^^ 27 else 2 * a % 256) = true := by kernel_rfl
theorem gm2_hi {a : Nat} (ha : a < 256) (h : 127 < a) : (2 * a % 256) ^^^ 27 = gm 2 a := by
  have h1 := eq_of_beq (all256 gm2_all ha)
  rw [h1, if_pos h]
theorem gm2_lo {a : Nat} (ha : a < 256) (h : ¬ 127 < a) : 2 * a % 256 = gm 2 a := by
  have h1 := eq_of_beq (all256 gm2_all ha)
  rw [h1, if_neg h]
/-- The words as far as they are made. -/
def wst (k : Sta) (n : Nat) : Nat → Nat := fun j => if j < n then expand k j else 0
theorem wst_zero (k : Sta) : List.replicate 176 (.int .u8 0) = rowV 176 (wst k 0) := by
  rw [rowV_zero]; exact rowV_congr fun i _ => by simp [wst]
theorem wst_set {k : Sta} {n o x : Nat} (ho : o = n) (hx : x = expand k n) : (rowV 176 (wst k n)).set o (.int .u8 ((x : Nat) : Int)) = rowV 176 (wst k (n + 1)) := by
  subst ho; subst hx
  refine rowV_set' fun i _ => ?_
  unfold wst
  by_cases h : i = o
  · subst h; rw [if_pos rfl, if_pos (by omega)]
  · rw [if_neg h]
    by_cases h1 : i < o
    · rw [if_pos h1, if_pos (by omega)]
    · rw [if_neg h1, if_neg (by omega)]
theorem wst_full (k : Sta) : rowV 176 (wst k 176) = rowV 176 (expand k) := rowV_congr fun i hi => by simp only [wst, if_pos hi]
theorem wst_get {k : Sta} {n j i : Nat} (h : j < n) (hi : j = i) : wst k n j = expand k i := by subst hi; exact if_pos h
theorem expand_key (k : Sta) {j : Nat} (h : j < 16) : expand k j = k j := by
  show roundK k (j / 16) (j % 16) = k j
  rw [show j / 16 = 0 from by omega, show j % 16 = j from by omega]; rfl
/-- The word that the definition takes in for the word i. -/
def tqS (k : Sta) (i : Nat) : Nat → Nat := fun q => if i % 4 = 0 then wordS (roundK k (i / 4 - 1)) (gpow 2 (i / 4 - 1)) q else expand k (4 * (i - 1) + q)
theorem tqS_lt {k : Sta} (hk : By k) (i q : Nat) : tqS k i q < 256 := by
  unfold tqS
  split
  · exact accS_lt (roundK_by hk _) (gpow_lt _) q 0
  · exact expand_lt hk _
theorem expand_step (k : Sta) {i q : Nat} (hi : 4 ≤ i) (hq : q < 4) : expand k (4 * (i - 4) + q) ^^^ tqS k i q = expand k (4 * i + q) := by
  obtain ⟨n, hn⟩ : ∃ n, i / 4 = n + 1 := ⟨i / 4 - 1, by omega⟩
  have e1 : expand k (4 * i + q) = accS (roundK k n) (gpow 2 n) q (i % 4 + 1) := by
    show roundK k ((4 * i + q) / 16) ((4 * i + q) % 16) = _
    rw [show (4 * i + q) / 16 = n + 1 from by omega, show (4 * i + q) % 16 = 4 * (i % 4) + q from by omega]
    show accS (roundK k n) (gpow 2 n) ((4 * (i % 4) + q) % 4) ((4 * (i % 4) + q) / 4 + 1) = _
    rw [show (4 * (i % 4) + q) % 4 = q from by omega, show (4 * (i % 4) + q) / 4 = i % 4 from by omega]
  have e2 : expand k (4 * (i - 4) + q) = roundK k n (4 * (i % 4) + q) := by
    show roundK k ((4 * (i - 4) + q) / 16) ((4 * (i - 4) + q) % 16) = _
    rw [show (4 * (i - 4) + q) / 16 = n from by omega, show (4 * (i - 4) + q) % 16 = 4 * (i % 4) + q from by omega]
  have e3 : tqS k i q = accS (roundK k n) (gpow 2 n) q (i % 4) := by
    unfold tqS
    by_cases h : i % 4 = 0
    · rw [if_pos h, h, show i / 4 - 1 = n from by omega]; rfl
    · rw [if_neg h]
      show roundK k ((4 * (i - 1) + q) / 16) ((4 * (i - 1) + q) % 16) = _
      rw [show (4 * (i - 1) + q) / 16 = n + 1 from by omega, show (4 * (i - 1) + q) % 16 = 4 * (i % 4 - 1) + q from by omega]
      show accS (roundK k n) (gpow 2 n) ((4 * (i % 4 - 1) + q) % 4) ((4 * (i % 4 - 1) + q) / 4 + 1) = _
      rw [show (4 * (i % 4 - 1) + q) % 4 = q from by omega, show (4 * (i % 4 - 1) + q) / 4 + 1 = i % 4 from by omega]
  rw [e1, e2, e3]; rfl
theorem word_row (k : Sta) (p : Nat) : [.int .u8 ((sub8 (k 13) ^^^ p : Nat) : Int), .int .u8 ((sub8 (k 14) : Nat) : Int), .int .u8 ((sub8 (k 15) : Nat) : Int), .int .u8 ((sub8 (k 12) : Nat) : Int)] = rowV 4 (wordS k p) := by
  simp [rowV, wordS, List.range_succ]
theorem tq_row (k : Sta) {i : Nat} (h0 : i % 4 = 0) (h4 : 4 ≤ i) : [.int .u8 ((sub8 (expand k (4 * (i - 1) + 1)) ^^^ gpow 2 ((i - 1) / 4) : Nat) : Int), .int .u8 ((sub8 (expand k (4 * (i - 1) + 2)) : Nat) : Int), .int .u8 ((sub8 (expand k (4 * (i - 1) + 3)) : Nat) : Int), .int .u8 ((sub8 (expand k (4 * (i - 1) + 0)) : Nat) : Int)] = rowV 4 (tqS k i) := by
  have e : ∀ q < 4, expand k (4 * (i - 1) + q) = roundK k (i / 4 - 1) (12 + q) := fun q hq => by
    show roundK k ((4 * (i - 1) + q) / 16) ((4 * (i - 1) + q) % 16) = _
    rw [show (4 * (i - 1) + q) / 16 = i / 4 - 1 from by omega, show (4 * (i - 1) + q) % 16 = 12 + q from by omega]
  rw [e 0 (by decide), e 1 (by decide), e 2 (by decide), e 3 (by decide), word_row, show (i - 1) / 4 = i / 4 - 1 from by omega]
  exact rowV_congr fun q _ => by simp only [tqS, if_pos h0]
theorem tq_skip (k : Sta) {i : Nat} (h0 : ¬ i % 4 = 0) : rowV 4 (fun q => expand k (4 * (i - 1) + q)) = rowV 4 (tqS k i) := rowV_congr fun q _ => by simp only [tqS, if_neg h0]

/-- A state as the definition's matrix, row by row. -/
def aesT (f : Sta) : Sta := fun x => f (4 * (x % 4) + x / 4)
def aesG (f : Sta) : Sta := rotS (subS f)
/-- The state behind q rounds. -/
def rst (s : Nat → Nat) (f : Sta) (q : Nat) : Sta := if q < 10 then encR s f q else enc s f
theorem rst_by {s : Nat → Nat} {f : Sta} (hs : ∀ i, s i < 256) (hf : By f) (q : Nat) : By (rst s f q) := by
  unfold rst; split
  · exact encR_by hs hf q
  · exact enc_by hs
theorem aesG_by (f : Sta) : By (aesG f) := rotS_by (subS_by f)
def aesM0 (s : Nat → Nat) (f : Sta) (i : Nat) : Sta := fun x => if 4 * (x % 4) + x / 4 < i then addS f (keyS s 0) (4 * (x % 4) + x / 4) else 0
theorem aesM0_zero (s : Nat → Nat) (f : Sta) : List.replicate 16 (.int .u8 0) = rowV 16 (aesM0 s f 0) := by
  rw [rowV_zero]; exact rowV_congr fun i _ => by simp [aesM0]
theorem aesM0_set {s : Nat → Nat} {f : Sta} {i o x : Nat} (hi : i < 16) (ho : o = 4 * (i % 4) + i / 4) (hx : x = addS f (keyS s 0) i) : (rowV 16 (aesM0 s f i)).set o (.int .u8 ((x : Nat) : Int)) = rowV 16 (aesM0 s f (i + 1)) := by
  subst ho; subst hx
  refine rowV_set' fun y hy => ?_
  unfold aesM0
  by_cases h : y = 4 * (i % 4) + i / 4
  · rw [if_pos h, if_pos (by omega), show 4 * (y % 4) + y / 4 = i from by omega]
  · rw [if_neg h]
    by_cases h1 : 4 * (y % 4) + y / 4 < i
    · rw [if_pos h1, if_pos (by omega)]
    · rw [if_neg h1, if_neg (by omega)]
theorem aesM0_full (s : Nat → Nat) (f : Sta) : rowV 16 (aesM0 s f 16) = rowV 16 (aesT (rst s f 0)) := rowV_congr fun x hx => by
  simp only [aesM0, if_pos (show 4 * (x % 4) + x / 4 < 16 by omega)]; rfl
def aesN1 (f : Sta) (z : Nat) : Sta := fun x => if x < z then aesT (aesG f) x else 0
theorem aesN1_zero (f : Sta) : List.replicate 16 (.int .u8 0) = rowV 16 (aesN1 f 0) := by
  rw [rowV_zero]; exact rowV_congr fun i _ => by simp [aesN1]
theorem aesN1_set {f : Sta} {r c o x : Nat} (hr : r < 4) (hc : c < 4) (ho : o = 4 * r + c) (hx : x = sub8 (f (4 * ((c + r) % 4) + r))) : (rowV 16 (aesN1 f (4 * r + c))).set o (.int .u8 ((x : Nat) : Int)) = rowV 16 (aesN1 f (4 * r + c + 1)) := by
  subst ho; subst hx
  refine rowV_set' fun y hy => ?_
  unfold aesN1
  by_cases h : y = 4 * r + c
  · rw [if_pos h, if_pos (by omega)]
    show _ = sub8 (f (4 * (((4 * (y % 4) + y / 4) / 4 + (4 * (y % 4) + y / 4) % 4) % 4) + (4 * (y % 4) + y / 4) % 4))
    have e1 : y % 4 = c := by omega
    have e2 : y / 4 = r := by omega
    rw [e1, e2, show (4 * c + r) / 4 = c from by omega, show (4 * c + r) % 4 = r from by omega]
  · rw [if_neg h]
    by_cases h1 : y < 4 * r + c
    · rw [if_pos h1, if_pos (by omega)]
    · rw [if_neg h1, if_neg (by omega)]
def aesN2 (f : Sta) (q c : Nat) : Sta := fun x => if x % 4 < c ∧ q < 9 then aesT (mixS (aesG f)) x else aesT (aesG f) x
theorem aesN1_full (f : Sta) (q : Nat) : rowV 16 (aesN1 f 16) = rowV 16 (aesN2 f q 0) := rowV_congr fun x hx => by
  simp only [aesN1, if_pos hx, aesN2, Nat.not_lt_zero, false_and, if_false]
theorem aesN2_get {f : Sta} {q c x r : Nat} (hc : c < 4) (hr : r < 4) (hx : x = 4 * r + c) : aesN2 f q c x = aesG f (4 * c + r) := by
  unfold aesN2
  rw [if_neg (by omega)]
  show aesG f _ = _
  congr 1; omega
theorem aesN2_four {f : Sta} {q c o0 o1 o2 o3 x0 x1 x2 x3 : Nat} (hq : q < 9) (hc : c < 4) (h0 : o0 = c) (h1 : o1 = 4 + c) (h2 : o2 = 8 + c) (h3 : o3 = 12 + c)
    (e0 : x0 = mixS (aesG f) (4 * c + 0)) (e1 : x1 = mixS (aesG f) (4 * c + 1)) (e2 : x2 = mixS (aesG f) (4 * c + 2)) (e3 : x3 = mixS (aesG f) (4 * c + 3)) :
    ((((rowV 16 (aesN2 f q c)).set o0 (.int .u8 ((x0 : Nat) : Int))).set o1 (.int .u8 ((x1 : Nat) : Int))).set o2 (.int .u8 ((x2 : Nat) : Int))).set o3 (.int .u8 ((x3 : Nat) : Int)) = rowV 16 (aesN2 f q (c + 1)) := by
  subst h0; subst h1; subst h2; subst h3; subst e0; subst e1; subst e2; subst e3
  rw [rowV_set, rowV_set, rowV_set, rowV_set]
  refine rowV_congr fun x hx => ?_
  have key : ∀ r, x = 4 * r + o0 → aesN2 f q (o0 + 1) x = mixS (aesG f) (4 * o0 + r) := fun r hr => by
    unfold aesN2
    rw [if_pos ⟨by omega, hq⟩]
    show mixS (aesG f) _ = _
    congr 1; omega
  by_cases g3 : x = 12 + o0
  · rw [if_pos g3, key 3 (by omega)]
  · rw [if_neg g3]
    by_cases g2 : x = 8 + o0
    · rw [if_pos g2, key 2 (by omega)]
    · rw [if_neg g2]
      by_cases g1 : x = 4 + o0
      · rw [if_pos g1, key 1 (by omega)]
      · rw [if_neg g1]
        by_cases g0 : x = o0
        · rw [if_pos g0, key 0 (by omega)]
        · rw [if_neg g0]
          unfold aesN2
          by_cases hh : x % 4 < o0
          · rw [if_pos ⟨hh, hq⟩, if_pos ⟨by omega, hq⟩]
          · rw [if_neg (by omega), if_neg (by omega)]
theorem aesN2_skip (f : Sta) {q : Nat} (c : Nat) (hq : ¬ q < 9) : rowV 16 (aesN2 f q c) = rowV 16 (aesN2 f q (c + 1)) := rowV_congr fun x _ => by
  unfold aesN2
  rw [if_neg (fun h => hq h.2), if_neg (fun h => hq h.2)]
/-- A byte behind the columns' step of a round. -/
def aesV (f : Sta) (q : Nat) : Sta := if q < 9 then mixS (aesG f) else aesG f
theorem aesV_by (f : Sta) (q : Nat) : By (aesV f q) := by
  unfold aesV; split
  · exact mixS_by (aesG_by f)
  · exact aesG_by f
theorem aesN2_val {f : Sta} {q c x r : Nat} (hc : c < 4) (hr : r < 4) (hx : x = 4 * r + c) : aesN2 f q (c + 1) x = aesV f q (4 * c + r) := by
  unfold aesN2 aesV
  have e : 4 * (x % 4) + x / 4 = 4 * c + r := by omega
  by_cases hq : q < 9
  · rw [if_pos ⟨by omega, hq⟩, if_pos hq]; show mixS (aesG f) _ = _; rw [e]
  · rw [if_neg (fun h => hq h.2), if_neg hq]; show aesG f _ = _; rw [e]
theorem rst_step (s : Nat → Nat) (f : Sta) {q : Nat} (hq : q < 10) (i : Nat) : aesV (rst s f q) q i ^^^ keyS s (q + 1) i = rst s f (q + 1) i := by
  unfold rst aesV
  rw [if_pos hq]
  by_cases h9 : q < 9
  · rw [if_pos h9, if_pos (by omega)]; rfl
  · obtain rfl : q = 9 := by omega
    rw [if_neg (by decide), if_neg (by decide)]; rfl
def aesM2 (f g : Sta) (c r : Nat) : Sta := fun x => if x % 4 < c ∨ (x % 4 = c ∧ x / 4 < r) then aesT g x else aesT f x
theorem aesM2_zero (f g : Sta) : rowV 16 (aesT f) = rowV 16 (aesM2 f g 0 0) := rowV_congr fun x _ => by simp [aesM2]
theorem aesM2_next (f g : Sta) (c : Nat) : rowV 16 (aesM2 f g c 4) = rowV 16 (aesM2 f g (c + 1) 0) := rowV_congr fun x hx => by
  unfold aesM2
  by_cases h : x % 4 < c + 1
  · rw [if_pos (by omega), if_pos (by omega)]
  · rw [if_neg (by omega), if_neg (by omega)]
theorem aesM2_full (f g : Sta) : rowV 16 (aesM2 f g 4 0) = rowV 16 (aesT g) := rowV_congr fun x hx => by
  unfold aesM2
  rw [if_pos (by omega)]
theorem aesM2_set {f g : Sta} {c r o x : Nat} (hr : r < 4) (hc : c < 4) (ho : o = 4 * r + c) (hx : x = g (4 * c + r)) : (rowV 16 (aesM2 f g c r)).set o (.int .u8 ((x : Nat) : Int)) = rowV 16 (aesM2 f g c (r + 1)) := by
  subst ho; subst hx
  refine rowV_set' fun y hy => ?_
  unfold aesM2
  by_cases h : y = 4 * r + c
  · rw [if_pos h, if_pos (by omega)]
    show g _ = g _
    congr 1; omega
  · rw [if_neg h]
    by_cases h1 : y % 4 < c ∨ (y % 4 = c ∧ y / 4 < r)
    · rw [if_pos h1, if_pos (by omega)]
    · rw [if_neg h1, if_neg (by omega)]
/-- A row that is filled from its head. -/
def cutF (f : Nat → Nat) (i : Nat) : Nat → Nat := fun j => if j < i then f j else 0
theorem cutF_zero (n : Nat) (f : Nat → Nat) : List.replicate n (.int .u8 0) = rowV n (cutF f 0) := by
  rw [rowV_zero]; exact rowV_congr fun i _ => by simp [cutF]
theorem cutF_set {n : Nat} {f : Nat → Nat} {i o x : Nat} (ho : o = i) (hx : x = f i) : (rowV n (cutF f i)).set o (.int .u8 ((x : Nat) : Int)) = rowV n (cutF f (i + 1)) := by
  subst ho; subst hx
  refine rowV_set' fun y hy => ?_
  unfold cutF
  by_cases h : y = o
  · subst h; rw [if_pos rfl, if_pos (by omega)]
  · rw [if_neg h]
    by_cases h1 : y < o
    · rw [if_pos h1, if_pos (by omega)]
    · rw [if_neg h1, if_neg (by omega)]
theorem cutF_full (n : Nat) (f : Nat → Nat) : rowV n (cutF f n) = rowV n f := rowV_congr fun i hi => by simp only [cutF, if_pos hi]
/-- A row that is rewritten from its head. -/
def mid (f g : Nat → Nat) (i : Nat) : Nat → Nat := fun j => if j < i then g j else f j
theorem mid_zero (n : Nat) (f g : Nat → Nat) : rowV n f = rowV n (mid f g 0) := rowV_congr fun i _ => by simp [mid]
theorem mid_set {n : Nat} {f g : Nat → Nat} {i o x : Nat} (ho : o = i) (hx : x = g i) : (rowV n (mid f g i)).set o (.int .u8 ((x : Nat) : Int)) = rowV n (mid f g (i + 1)) := by
  subst ho; subst hx
  refine rowV_set' fun y hy => ?_
  unfold mid
  by_cases h : y = o
  · subst h; rw [if_pos rfl, if_pos (by omega)]
  · rw [if_neg h]
    by_cases h1 : y < o
    · rw [if_pos h1, if_pos (by omega)]
    · rw [if_neg h1, if_neg (by omega)]
theorem mid_full (n : Nat) (f g : Nat → Nat) : rowV n (mid f g n) = rowV n g := rowV_congr fun i hi => by simp only [mid, if_pos hi]
theorem mid_at (f g : Nat → Nat) (i : Nat) : mid f g i i = f i := if_neg (Nat.lt_irrefl i)
theorem mix0 (a : Sta) (c : Nat) : gm 2 (a (4 * c + 0)) ^^^ gm 2 (a (4 * c + 1)) ^^^ a (4 * c + 1) ^^^ a (4 * c + 2) ^^^ a (4 * c + 3) = mixS a (4 * c + 0) := by
  rw [mixS_col a c 0 (by decide)]
  simp only [col, Nat.reduceMod, Nat.reduceAdd, gm_addR 2 _ _]
theorem mix1 (a : Sta) (c : Nat) : a (4 * c + 0) ^^^ gm 2 (a (4 * c + 1)) ^^^ gm 2 (a (4 * c + 2)) ^^^ a (4 * c + 2) ^^^ a (4 * c + 3) = mixS a (4 * c + 1) := by
  rw [mixS_col a c 1 (by decide)]
  simp only [col, Nat.reduceMod, Nat.reduceAdd, gm_addR 2 _ _]
  simp only [Nat.xor_assoc, Nat.xor_comm, xor_lcomm]
theorem mix2 (a : Sta) (c : Nat) : a (4 * c + 0) ^^^ a (4 * c + 1) ^^^ gm 2 (a (4 * c + 2)) ^^^ gm 2 (a (4 * c + 3)) ^^^ a (4 * c + 3) = mixS a (4 * c + 2) := by
  rw [mixS_col a c 2 (by decide)]
  simp only [col, Nat.reduceMod, Nat.reduceAdd, gm_addR 2 _ _]
  simp only [Nat.xor_assoc, Nat.xor_comm, xor_lcomm]
theorem mix3 (a : Sta) (c : Nat) : gm 2 (a (4 * c + 0)) ^^^ a (4 * c + 0) ^^^ a (4 * c + 1) ^^^ a (4 * c + 2) ^^^ gm 2 (a (4 * c + 3)) = mixS a (4 * c + 3) := by
  rw [mixS_col a c 3 (by decide)]
  simp only [col, Nat.reduceMod, Nat.reduceAdd, gm_addR 2 _ _]
  simp only [Nat.xor_assoc, Nat.xor_comm, xor_lcomm]

/-! ### The program's rows on their way -/
theorem mixS_at (f : Sta) (c : Nat) {r : Nat} (hr : r < 4) : gm 2 (f (4 * c + (r + 0) % 4) ^^^ f (4 * c + (r + 1) % 4)) ^^^ f (4 * c + (r + 1) % 4) ^^^ f (4 * c + (r + 2) % 4) ^^^ f (4 * c + (r + 3) % 4) = mixS f (4 * c + r) := by
  rw [mixS_col f c r hr]; rfl
theorem nextS_at (k : Sta) (p : Nat) {c r : Nat} (hr : r < 4) : nextS k p (4 * c + r) = accS k p r (c + 1) := by
  show accS k p ((4 * c + r) % 4) ((4 * c + r) / 4 + 1) = _
  rw [show (4 * c + r) % 4 = r from by omega, show (4 * c + r) / 4 = c from by omega]
theorem nextS_col (k : Sta) (p : Nat) {c r : Nat} (hr : r < 4) : k (4 * c + r) ^^^ accS k p r c = nextS k p (4 * c + r) := (nextS_at k p hr).symm
theorem expand_at (k : Sta) {q i : Nat} (hq : q < 10) (hi : i < 16) : cutF (expand k) (16 * (q + 1)) (0 + q * 16 + i) = roundK k q i := by
  unfold cutF
  rw [if_pos (by omega)]
  show roundK k ((0 + q * 16 + i) / 16) ((0 + q * 16 + i) % 16) = _
  rw [show (0 + q * 16 + i) / 16 = q from by omega, show (0 + q * 16 + i) % 16 = i from by omega]
theorem expand_start (k : Sta) : rowV 176 (fun j => if j < 16 then k j else 0) = rowV 176 (cutF (expand k) (16 * (0 + 1))) := rowV_congr fun j _ => by
  unfold cutF
  by_cases h : j < 16
  · rw [if_pos h, if_pos h, expand_key k h]
  · rw [if_neg h, if_neg h]
theorem expand_put (k : Sta) {q : Nat} (hq : q < 10) : (rowV 176 (cutF (expand k) (16 * (q + 1)))).take (0 + (q + 1) * 16) ++ rowV 16 (nextS (roundK k q) (gpow 2 q)) ++ (rowV 176 (cutF (expand k) (16 * (q + 1)))).drop (0 + (q + 1) * 16 + (rowV 16 (nextS (roundK k q) (gpow 2 q))).length) = rowV 176 (cutF (expand k) (16 * (q + 1 + 1))) := by
  rw [rowV_length]
  refine rowV_put (by omega) fun i hi => ?_
  unfold cutF
  by_cases h : 0 + (q + 1) * 16 ≤ i ∧ i < 0 + (q + 1) * 16 + 16
  · rw [if_pos h, if_pos (by omega)]
    show roundK k (q + 1) _ = roundK k (i / 16) (i % 16)
    rw [show i / 16 = q + 1 from by omega, show i - (0 + (q + 1) * 16) = i % 16 from by omega]
  · rw [if_neg h]
    by_cases h1 : i < 16 * (q + 1)
    · rw [if_pos h1, if_pos (by omega)]
    · rw [if_neg h1, if_neg (by omega)]

/-! ### Examples: the kernel goes through them round by round -/
def lst16 (l : List Nat) : Sta := fun i => l.getD i 0
def same16 (f : Sta) (l : List Nat) : Bool := (List.range 16).all fun i => f i == l.getD i 0
theorem same16_eq {f : Sta} {l : List Nat} (h : same16 f l = true) : Eq16 f (lst16 l) := fun i hi => eq_of_beq (List.all_eq_true.1 h i (List.mem_range.2 hi))
def chainK : List (List Nat) → Nat → Bool
  | l :: m :: r, n => same16 (nextS (lst16 l) (gpow 2 n)) m && chainK (m :: r) (n + 1)
  | _, _ => true
theorem chainK_at {k : Sta} : ∀ (r : List (List Nat)) (l : List Nat) (n : Nat), Eq16 (roundK k n) (lst16 l) → chainK (l :: r) n = true → ∀ j m, (l :: r)[j]? = some m → Eq16 (roundK k (n + j)) (lst16 m)
  | _, l, n, h, _, 0, m, hm => by
    simp only [List.getElem?_cons_zero, Option.some.injEq] at hm
    subst hm; exact h
  | [], l, n, _, _, j + 1, m, hm => by simp at hm
  | p :: r, l, n, h, hc, j + 1, m, hm => by
    simp only [chainK, Bool.and_eq_true] at hc
    have h1 : Eq16 (roundK k (n + 1)) (lst16 p) := (nextS_eq h _).trans (same16_eq hc.1)
    rw [show n + (j + 1) = n + 1 + j from by omega]
    exact chainK_at r p (n + 1) h1 hc.2 j m (by simpa using hm)
/-- All round keys of a key: their lists. -/
theorem keys_of {k : Sta} (L : List (List Nat)) {l : List Nat} {r : List (List Nat)} (hL : L = l :: r) (h : Eq16 k (lst16 l)) (hc : chainK L 0 = true) {j : Nat} {m : List Nat} (hm : L[j]? = some m) : Eq16 (keyS (expand k) j) (lst16 m) := by
  subst hL
  have h1 := chainK_at (k := k) r l 0 h hc j m hm
  rw [Nat.zero_add] at h1
  exact (keyS_expand k j).trans h1
/-- The states behind the rounds, told with the lists of the round keys. -/
def chainE : List (List Nat) → List (List Nat) → Bool
  | a :: b :: r, k :: ks => same16 (addS (mixS (aesG (lst16 a))) (lst16 k)) b && chainE (b :: r) ks
  | _, _ => true
theorem chainE_at {s : Nat → Nat} {f : Sta} : ∀ (r ks : List (List Nat)) (a : List Nat) (n : Nat), Eq16 (encR s f n) (lst16 a) → (∀ j m, ks[j]? = some m → Eq16 (keyS s (n + 1 + j)) (lst16 m)) → r.length ≤ ks.length → chainE (a :: r) ks = true →
    ∀ j m, (a :: r)[j]? = some m → Eq16 (encR s f (n + j)) (lst16 m)
  | _, _, a, n, h, _, _, _, 0, m, hm => by
    simp only [List.getElem?_cons_zero, Option.some.injEq] at hm
    subst hm; exact h
  | [], _, a, n, _, _, _, _, j + 1, m, hm => by simp at hm
  | b :: r, [], a, n, _, _, hl, _, j + 1, m, hm => by simp at hl
  | b :: r, k :: ks, a, n, h, hk, hl, hc, j + 1, m, hm => by
    simp only [chainE, Bool.and_eq_true] at hc
    have hk0 := hk 0 k rfl
    have h1 : Eq16 (encR s f (n + 1)) (lst16 b) := fun i hi => by
      have e1 := mixS_eq (rotS_eq (subS_eq h)) i hi
      have e2 := same16_eq hc.1 i hi
      show mixS (rotS (subS (encR s f n))) i ^^^ keyS s (n + 1) i = _
      rw [e1, hk0 i hi]; exact e2
    rw [show n + (j + 1) = n + 1 + j from by omega]
    refine chainE_at r ks b (n + 1) h1 (fun j m hm => ?_) (by simpa using hl) hc.2 j m (by simpa using hm)
    rw [show n + 1 + 1 + j = n + 1 + (j + 1) from by omega]
    exact hk (j + 1) m (by simpa using hm)
theorem enc_of {s : Nat → Nat} {f : Sta} (S K : List (List Nat)) {fl k0 k9 s0 s9 out : List Nat} {sr ks : List (List Nat)} (hf : Eq16 f (lst16 fl)) (hS : S = s0 :: sr) (hK : K = k0 :: ks) (hk : ∀ j m, K[j]? = some m → Eq16 (keyS s j) (lst16 m)) (hl : sr.length ≤ ks.length)
    (h0 : same16 (addS (lst16 fl) (lst16 k0)) s0 = true) (hc : chainE S ks = true) (h9 : S[9]? = some s9) (hk9 : K[10]? = some k9) (ho : same16 (addS (aesG (lst16 s9)) (lst16 k9)) out = true) : Eq16 (enc s f) (lst16 out) := by
  subst hS; subst hK
  have e0 : Eq16 (encR s f 0) (lst16 s0) := fun i hi => by
    show f i ^^^ keyS s 0 i = _
    rw [hf i hi, hk 0 k0 rfl i hi]; exact same16_eq h0 i hi
  have e9 := chainE_at sr ks s0 0 e0 (fun j m hm => by rw [show 0 + 1 + j = j + 1 from by omega]; exact hk (j + 1) m (by simpa using hm)) hl hc 9 s9 h9
  exact fun i hi => by
    have e1 := rotS_eq (subS_eq e9) i hi
    show rotS (subS (encR s f 9)) i ^^^ keyS s 10 i = _
    have hk10 := hk 10 k9 hk9 i hi
    rw [hk10]
    rw [show rotS (subS (encR s f 9)) i = rotS (subS (lst16 s9)) i from e1]
    exact same16_eq ho i hi
end Go.Proofs.YthadcgkcgpinhaaGreatDoor
namespace Go.Proofs.YthadcgkcgpinhaaGreatDoor
open Go Go.RowKit
variable {κ : Cx}

theorem SizeIs.get {P : Program} {T : TypeId} {m : Nat} (h : SizeIs P T m) : ∃ i, P.info? T = some i ∧ i.size = m := by
  unfold SizeIs at h
  cases hi : P.info? T with
  | none => rw [hi] at h; cases h
  | some i => rw [hi] at h; exact ⟨i, rfl, by simpa using h⟩
section
variable {P : Program} {n B : Nat} {ops : Array Oper} {E : Env} {dst : Option Tmp} {ty : TypeId} {pos : String} {after : Array Edge} {guard : Option (Nat × Bool)}
theorem ok_nilCheck {x : Operand} {ad : Addr} (hx : E.at x = some (.v (.pointer (some ad)))) : OpOk P B ⟨dst, .nilCheck x, ty, pos, after, guard⟩ E (.v (.pointer (some ad))) := fun ρ w _ _ hρ => by
  have h1 : ρ x = .pointer (some ad) := hρ x (by simp [Op.operands]) _ hx
  exact out_val (w' := w) (by simp [execOp, h1]) ⟨Grow.refl w, rfl⟩
/-- The address of an element of several cells, in an array behind a pointer. -/
theorem ok_indexN {t e : TypeId} {len sz : Nat} {x i : Operand} {b o : Nat} {k : IntKind} {j : Int} (m : Nat) (ht : P.underlying t = some (.array len e)) (hs : SizeIs P e sz) (hx : E.at x = some (.v (.pointer (some ⟨b, o, none⟩)))) (hi : E.at i = some (.v (.int k j)))
    (h0 : j = (m : Int)) (hn : m < len) : OpOk P B ⟨dst, .indexAddr t x i, ty, pos, after, guard⟩ E (.v (.pointer (some ⟨b, o + m * sz, none⟩))) := fun ρ w _ _ hρ => by
  have h1 : ρ x = _ := hρ x (by simp [Op.operands]) _ hx
  have hi' : ρ i = .int k j := hρ i (by simp [Op.operands]) _ hi
  obtain ⟨info, hinfo, hsize⟩ := hs.get
  refine out_val (w' := w) ?_ ⟨Grow.refl w, rfl⟩
  subst h0
  have hadd : (⟨b, o, none⟩ : Addr).add (m * sz) = ⟨b, o + m * sz, none⟩ := add_lit0 _ _ _
  simp [execOp, h1, hi', Instr.indexAt, Instr.sureAddr, asIntOf, run_underlying ht, sizeOf, typeInfo, hinfo, hsize, hadd]
  intro hle
  omega
/-- A method bound to its receiver. -/
theorem ok_makeFuncM {f : FuncId} {x : Operand} {u : Value} (hx : E.at x = some (.v u)) : OpOk P B ⟨dst, .makeFunc (.func f) #[x] #[], ty, pos, after, guard⟩ E (.v (.func (.func f) #[u] #[])) := fun ρ w _ _ hρ => by
  have h1 : ρ x = u := hρ x (by simp [Op.operands]) _ hx
  exact out_val (w' := w) (by simp [execOp, h1, Instr.makeFunc]) ⟨Grow.refl w, rfl⟩
/-- A slice literal of values that are known: a block of the call's own. -/
theorem ok_buildF {t e : TypeId} {m : Nat} {ps : Array (Nat × Operand)} {z : Value} {nb : Nat} (us : List Value) (ht : P.underlying t = some (.slice e)) (hinfo : InfoIs P e z nb) (hz1 : z.cells = #[z])
    (hn : 0 < m) (hn' : m ≤ 65536) (hl : us.length = m) (hp : LitD E us ps.toList 0) (h1 : us.all (·.oneCell') = true) :
    OpOk P B ⟨dst, .buildSlice t m ps, ty, pos, after, guard⟩ E (fresh B e us m) := fun ρ w hB _ hρ => by
  obtain ⟨i, hi, hz, hs, _⟩ := hinfo.get
  have h3 := hp.map (ρ := ρ) fun x hx v hv => hρ x (by simp [Op.operands]; simpa using hx) _ hv
  have h2 : (ps.map fun (i, x) => (i, ρ x)).toList = (us.zipIdx 0).map fun x => (x.2, x.1) := by rw [← h3]; simp
  have hz' : (Array.range (m * i.size)).map (z.cells[· % z.cells.size]!) = ([] ++ List.replicate m z).toArray := by
    rw [hs, hz1, Nat.mul_one]
    apply Array.ext
    · simp
    · intro j h1 h2; simp [Nat.mod_one]
  have hfill : Instr.fill (fun j => some (j * i.size, i.size)) ((Array.range (m * i.size)).map (z.cells[· % z.cells.size]!)) (ps.map fun (i, x) => (i, ρ x)).toList = some us.toArray := by
    rw [hz', h2, hs, fill_dense us [] (List.replicate m z) 0 (fun u hu => by simpa using (List.all_eq_true.1 h1) u hu) rfl (by simp [hl])]
    simp [hl]
  have hr := run_buildSlice (P := P) w t e m (ps.map fun (i, x) => (i, ρ x)) us.toArray i z ht hi hz (by rw [hs]; omega) (by rw [hs]; omega) hfill
  refine out_val (x := .slice (some ⟨w.heap.size, 0, none⟩) m m) (w' := w.alloc (.cells us.toArray e)) (by simp [execOp, hr]) ⟨Grow.alloc w _, w.heap.size, by rw [hl], hB, by simp, heap_alloc_new w _⟩
/-- A literal whose parts are told exactly, as the model fills them in. -/
theorem ok_litU {t : TypeId} {ps : Array (Nat × Operand)} (us ys : List Value) (hl : LitD E us ps.toList 0) (hb : P.built t ((us.zipIdx 0).map fun x => (x.2, x.1)) = some ys.toArray) : OpOk P B ⟨dst, .build t ps, ty, pos, after, guard⟩ E (.v (aggV ys)) :=
  ok_lit _ ys (fun _ hρ => hl.map hρ) hb
/-- Called without arguments, the function value u takes block g's cells from xs to ys. -/
def Does (P : Program) (T g : Nat) (u : Value) (xs ys : List Value) : Prop := ∃ (f : FuncId) (vs : List Value), u = .func (.func f) vs.toArray #[] ∧ FnW P f [] T g xs ys (vs.map D.v)
theorem FnW.does {f : FuncId} {T g : Nat} {xs ys vs : List Value} (h : FnW P f [] T g xs ys (vs.map D.v)) : Does P T g (.func (.func f) vs.toArray #[]) xs ys := ⟨f, vs, rfl, h⟩
theorem eff_callF {T g s dst : Nat} {x : Operand} {u : Value} {xs ys : List Value} {argTypes : Array TypeId} {E' : Env} (hf : Does P T g u xs ys) (hx : E.at x = some (.v u))
    (hg : B ≤ g) (hblk : E.look s = some (blk g T xs)) (hdst : dst < n) (hl : LeftS B T g E' E) :
    Eff P n B ops ⟨some dst, .call { callee := .value x, args := #[], argTypes := argTypes }, ty, pos, after, none⟩ E ((dst, .v (.tuple #[])) :: (s, blk g T ys) :: E') := by
  obtain ⟨f, vs, rfl, hf⟩ := hf
  intro κ a w K Q h hK
  obtain ⟨fn, h1, h2, h3⟩ := hf.body
  have hfun : a.eval x = .func (.func f) vs.toArray #[] := h.at_ x _ hx
  have hrun : (execOp a.eval ⟨some dst, .call { callee := .value x, args := #[], argTypes := argTypes }, ty, pos, after, none⟩).run P w = .ok (.enter f vs.toArray) w := by
    have h2' : ¬ fn.name = "runtime.NumGoroutine" := by simpa using h2
    have h3' : ¬ fn.body = none := by intro h; rw [h] at h3; cases h3
    simp [execOp, resolve, Deferred.ofValue, hfun, invoke, callFunc, h1, h2', h3']
  obtain ⟨hlt, hh⟩ := h.of s _ hblk
  have hcall := hf.calls vs w (by rw [List.length_map]) (fun j e u he hu => by
    rw [List.getElem?_map, hu] at he
    injection he with he; subst he; rfl) (fun p hp => by cases hp) hlt hh
  rw [if_pos (by simp [Region.wanted])]
  refine opR (by nofun) ?_
  unfold Oper.wp
  rw [hrun, Oper.upon_enter]
  refine Calls.mono hcall ?_
  rintro e w' ⟨rfl, hw, hh'⟩
  have hwr : Wrote B T g w w' := ⟨hg, hw.os, hw.tape, hw.output, hw.size, hw.cel, hw.other⟩
  have hst := hl.st h hwr
  have hlt' : g < w'.heap.size := (Array.getElem?_eq_some_iff.1 hh').1
  exact hK _ _ (hwr.below h.base) (St.put (hst.push (d := blk g T ys) ⟨hlt', hh'⟩) hdst rfl)
/-- The contract of a function that writes one block, with facts of its parameters that speak of other memory. -/
theorem FnW.ofD {f : FuncId} {fn : Func} {c : Code} {M : Env} {T g kb kw : Nat} {xs ys : List Value} {ds : List D} (hf : P.funcs[f]? = some fn) (hb : fn.body = some c) (hname : (fn.name == "runtime.NumGoroutine") = false) (hn : fn.ntmps = n) (hds : ds.length ≤ n) (hnv : n ≤ vbase)
    (hMb : ∀ p ∈ M, vbase ≤ p.1) (hkb : vbase ≤ kb) (hkw : vbase ≤ kw) (args : Env) (hargs : ∀ p ∈ args, ds[p.1]? = some p.2)
    (h : ∀ w₀ w₁ : World, w₀.heap.size = g → (∀ p ∈ M, p.2.OfB w₀.heap.size w₁ undef) → A Cx.top P w₀ n c (args ++ ((kb, blk g T xs) :: (kw, wroteD T g w₁) :: M)) (BP P fn fun e w' => e = .returned (.tuple #[]) ∧ Wrote g T g w₁ w' ∧ w'.heap[g]? = some (.cells ys.toArray T (0, 0)))) :
    FnW P f M T g xs ys ds := by
  refine ⟨⟨fn, hf, hname, by rw [hb]; rfl⟩, fun vs w hl hv hM hlt hh => ?_⟩
  have hsz := cutW_size (w := w) (g := g) (Nat.le_of_lt hlt)
  refine callsIn_FR.1 (callsIn_of_wp_marks (F := FR none) (n := 0) hf hb trivial (h (cutW w g) w hsz (by rw [hsz]; exact hM) _ w (cutW_below (Nat.le_of_lt hlt)) ⟨by rw [hsz]; omega, rfl, ?_, fun t e he => ?_⟩))
  · simp [hn]; omega
  · show e.Of w ((vs.toArray ++ Array.replicate (fn.ntmps - vs.toArray.size) undef).getD t undef)
    have hund : vbase ≤ t → (vs.toArray ++ Array.replicate (fn.ntmps - vs.toArray.size) undef).getD t undef = undef := fun ht => by
      rw [Array.getD_eq_getD_getElem?, Array.getElem?_eq_none (by simp [hn]; omega)]; rfl
    rcases List.mem_append.1 (look_mem he) with hm | hm
    · have h2 := hargs _ hm
      simp only at h2
      have hj : t < vs.length := by have := (List.getElem?_eq_some_iff.1 h2).1; omega
      rw [Array.getD_eq_getD_getElem?, Array.getElem?_append_left (by simpa using hj)]
      have h3 := hv t e vs[t] h2 (List.getElem?_eq_getElem hj)
      simpa [hj] using h3
    · rcases List.mem_cons.1 hm with h1 | hm
      · injection h1 with h1 h2; subst h1; subst h2
        exact ⟨hlt, hh⟩
      · rcases List.mem_cons.1 hm with h1 | hm
        · injection h1 with h1 h2; subst h1; subst h2
          exact ⟨Nat.le_refl _, Nat.le_refl _, rfl, rfl, rfl, Nat.le_refl _, fun o ho => by rw [hh] at ho; injection ho with ho; exact ⟨_, _, ho.symm⟩, fun _ _ _ => rfl⟩
        · have h1 := hMb _ hm
          rw [hund h1]
          exact D.OfB.up (hM _ hm) (Nat.le_of_lt hlt)
/-- A call of a function value that holds what us lists, and reads memory. -/
theorem ok_callVM {f : FuncId} {M : Env} {x : Operand} {us : List Value} {args : Array Operand} {argTypes : Array TypeId} {ds : List D} {d : D} (hf : FnM P f M (ds ++ us.map D.v) d) (hM : Sub M E) (hMb : ∀ p ∈ M, vbase ≤ p.1)
    (hx : E.at x = some (.v (.func (.func f) #[] us.toArray))) (ha : Args E ds args.toList) :
    OpOk P B ⟨dst, .call { callee := .value x, args := args, argTypes := argTypes }, ty, pos, after, guard⟩ E d := fun ρ w _ hv hρ => by
  obtain ⟨fn, h1, h2, h3⟩ := hf.body
  have hfun : ρ x = .func (.func f) #[] us.toArray := hρ x (by simp [Op.operands, Call.operands]) _ hx
  have hrun : (execOp ρ ⟨dst, .call { callee := .value x, args := args, argTypes := argTypes }, ty, pos, after, guard⟩).run P w = .ok (.enter f (args.map ρ ++ us.toArray)) w := by
    have h2' : ¬ fn.name = "runtime.NumGoroutine" := by simpa using h2
    have h3' : ¬ fn.body = none := by intro h; rw [h] at h3; cases h3
    simp [execOp, resolve, Deferred.ofValue, hfun, invoke, callFunc, h1, h2', h3']
  unfold Out
  rw [hrun]
  have := hf.calls (args.toList.map ρ ++ us) w (fun p hp => hv p.1 p.2 (hMb p hp) (hM p hp)) (by rw [List.length_append, List.length_append, List.length_map, List.length_map, ha.length]) fun j e u he hu => by
    rcases Nat.lt_or_ge j ds.length with hj | hj
    · rw [List.getElem?_append_left hj] at he
      rw [List.getElem?_append_left (by rw [List.length_map, ← ha.length]; exact hj), List.getElem?_map] at hu
      cases hx : args.toList[j]? with
      | none => rw [hx] at hu; cases hu
      | some x =>
        rw [hx] at hu; injection hu with hu; subst hu
        obtain ⟨e', h4, h5⟩ := ha.nth he hx
        exact h5.of (hρ x (by simp [Op.operands, Call.operands]; exact .inr (by simpa using List.mem_of_getElem? hx)) _ h4)
    · rw [List.getElem?_append_right hj, List.getElem?_map] at he
      rw [List.getElem?_append_right (by rw [List.length_map, ← ha.length]; exact hj), List.length_map, ← ha.length] at hu
      rw [hu] at he
      injection he with he; subst he; rfl
  have harr : (args.toList.map ρ ++ us).toArray = args.map ρ ++ us.toArray := by apply Array.ext'; simp
  rw [harr] at this
  exact this.mono fun e w' ⟨x, he, g, hx⟩ => ⟨x, he, g, hx⟩
end
section
variable {P : Program} {w₀ : World} {n : Nat} {c : Code} {E : Env} {Q : Exit → Act → World → Prop}
/-- A slice at the head of a block that no one else has gets the block's name, whatever its base. -/
theorem A.openAt {t k B' : Nat} {e : TypeId} {xs : List Value} {m : Nat} (ht : E.look t = some (fresh B' e xs m)) (h : ∀ b, A κ P w₀ n c ((t, .v (.slice (some ⟨b, 0, none⟩) m xs.length)) :: (k, blk b e xs) :: E) Q) : A κ P w₀ n c E Q := fun a w g hs => by
  obtain ⟨b, h1, _, h3, h4⟩ := hs.of t _ ht
  exact h b a w g ((hs.push (t := k) (d := blk b e xs) ⟨h3, h4⟩).push (d := .v _) h1)
end

/-! ### Variables of a function that writes one block -/
theorem Surv.wroteN {B T T' g b : Nat} {w₁ : World} (h : w₁.heap.size ≤ b) : Surv B T b (wroteD T' g w₁) := fun _ _ _ k ⟨h1, h2⟩ =>
  ⟨Nat.le_trans h1 k.size, ⟨h2.base, k.os.trans h2.os, k.tape.trans h2.tape, k.output.trans h2.output, Nat.le_trans h2.size k.size, h2.cel, fun j hj hne => (k.other j (Nat.lt_of_lt_of_le hj h1) (by omega)).trans (h2.other j hj hne)⟩⟩
/-- The number of a new block: above all that are known by name, and above what there was when the function was called. -/
def NewW (B : Nat) (E : Env) (b : Nat) : Prop := B ≤ b ∧ (∀ s b' e xs, E.look s = some (blk b' e xs) → b' < b) ∧ ∀ s T g w₁, E.look s = some (wroteD T g w₁) → w₁.heap.size ≤ b
theorem eff_allocW {P : Program} {n B : Nat} {ops : Array Oper} {E : Env} {ty : TypeId} {pos : String} {after : Array Edge} {T : TypeId} {zs : List Value} {d k : Nat} (hz : ZeroIs P T zs) (hdn : d < n) :
    EffG P n B ops ⟨some d, .alloc T, ty, pos, after, none⟩ E (NewW B E) (fun b => (d, .v (.pointer (some ⟨b, 0, none⟩))) :: (k, blk b T zs) :: E) := by
  obtain ⟨i, z, hi, hz, hc⟩ := hz.get
  intro κ a w K Q h hK
  have hrun : (execOp a.eval ⟨some d, .alloc T, ty, pos, after, none⟩).run P w = .ok (.value (.pointer (some ⟨w.heap.size, 0, none⟩))) (w.alloc (.cells zs.toArray T)) := by
    simp [execOp, Instr.alloc, zeroValue, typeInfo, hi, hz, newVar, newRow, hc]
  rw [if_pos (by simp [Region.wanted])]
  refine opR (by nofun) ?_
  unfold Oper.wp
  rw [hrun, Oper.upon_value]
  have hst := h.grow (Grow.alloc w (.cells zs.toArray T))
  refine hK w.heap.size _ _ ⟨h.base, fun s b' e ys hs => (h.of s _ hs).1, fun s T g w₁ hs => (h.of s _ hs).1⟩ ((Below.refl B w).alloc h.base _) (St.put (hst.push ?_) hdn rfl)
  exact ⟨by simp, heap_alloc_new w _⟩

/-! ### Equality of arrays of arrays -/
section
variable {P : Program} {B : Nat} {E : Env} {dst : Option Tmp} {ty : TypeId} {pos : String} {after : Array Edge} {guard : Option (Nat × Bool)}
end
end Go.Proofs.YthadcgkcgpinhaaGreatDoor
namespace Go.Proofs.YthadcgkcgpinhaaGreatDoor
open Go Go.RowKit
set_option linter.unusedVariables false
set_option maxRecDepth 20000

theorem zero137 : ZeroIs Tryz.prog 137 (List.replicate 4 (.int .u8 0)) := by unfold ZeroIs; kernel_rfl
theorem size137 : SizeIs Tryz.prog 137 4 := by unfold SizeIs; kernel_rfl
theorem zero154 : ZeroIs Tryz.prog 154 (List.replicate 176 (.int .u8 0)) := by unfold ZeroIs; kernel_rfl
theorem size154 : SizeIs Tryz.prog 154 176 := by unfold SizeIs; kernel_rfl
theorem zero158 : ZeroIs Tryz.prog 158 (List.replicate 16 (.int .u8 0)) := by unfold ZeroIs; kernel_rfl
theorem zero81 : ZeroIs Tryz.prog 81 (List.replicate 176 (.int .u8 0)) := by unfold ZeroIs; kernel_rfl
theorem size81 : SizeIs Tryz.prog 81 176 := by unfold SizeIs; kernel_rfl
theorem zero115 : ZeroIs Tryz.prog 115 (List.replicate 16 (.int .u8 0)) := by unfold ZeroIs; kernel_rfl
theorem size115 : SizeIs Tryz.prog 115 16 := by unfold SizeIs; kernel_rfl
theorem refDouble_fn (a : Nat) (ha : a < 256) : Fn Tryz.prog 105 [.v (nB a)] (.v (nB (gm 2 a))) := by
 refine Fn.of Tryz.func105 rfl (by kernel_rfl) Tryz.ntmps105 (by simp) (fun w => [(0, .v (nB a))]) (fun w => (Start.v rfl Start.nil)) fun w₀ => ?_
 refine GS ?_
 refine TL ?_
 refine RA rfl ?_
 refine RN ?_
 refine A.seq ?_
 refine GS ?_
 refine TL ?_
 refine RM rfl ?_
 refine RB rfl rfl rfl ?_
 refine RN ?_
 refine A.cond rfl (fun hc4 => ?_) (fun hc4 => ?_)
 ·have h : 127 < a := by simp at hc4; omega
  refine GS ?_
  refine TL ?_
  refine RM rfl ?_
  refine RS (ok_shl rfl rfl (by decide)) ?_; refine RZ (nB (2 * a % 256)) (by rw [show (a : Int) * 2 ^ min (Int.toNat 1) IntKind.u8.bits = ((2 * a : Nat) : Int) from by rw [show min (Int.toNat 1) IntKind.u8.bits = 1 from rfl]; omega, wrap_u8N]) ?_
  refine RBS rfl rfl rfl (nB (gm 2 a)) (by rw [show IntKind.u8.bits = 8 from rfl, show (27 : Int) = ((27 : Nat) : Int) from rfl, xor_u8N (Nat.mod_lt _ (by decide)) (by decide), gm2_hi ha h]) ?_
  refine RA rfl ?_
  refine RN ?_
  refine A.ret ?_
  refine End.ret_then ?_
  exact End.ret1 rfl rfl (by first | exact Le.refl _ | exact Le.old _ _)
 ·have h : ¬ 127 < a := by simp at hc4; omega
  refine A.skip ?_
  refine EN ?_
  refine GS ?_
  refine TL ?_
  refine RM rfl ?_
  refine RS (ok_shl rfl rfl (by decide)) ?_; refine RZ (nB (gm 2 a)) (by rw [show (a : Int) * 2 ^ min (Int.toNat 1) IntKind.u8.bits = ((2 * a : Nat) : Int) from by rw [show min (Int.toNat 1) IntKind.u8.bits = 1 from rfl]; omega, wrap_u8N, gm2_lo ha h]) ?_
  refine RA rfl ?_
  refine RN ?_
  refine A.ret ?_
  exact End.ret1 rfl rfl (by first | exact Le.refl _ | exact Le.old _ _)
set_option maxHeartbeats 2000000 in
theorem refExpand_fn (k : Nat → Nat) (hk : By k) : Fn Tryz.prog 102 [.v (aggV (rowV 16 (k)))] (.v (aggV (rowV 176 (expand k)))) := by
 refine Fn.of Tryz.func102 rfl (by kernel_rfl) Tryz.ntmps102 (by simp) (fun w => [(0, .v (aggV (rowV 16 (k))))]) (fun w => (Start.v rfl Start.nil)) fun w₀ => ?_
 refine GS ?_
 refine TN 0 ?_
 refine RN ?_
 refine ⟨_, _, eff_box (n := 78) (d := 1) (k := 1000001) rfl (by decide), fun b1 hb1 => ?_⟩
 have hBb1 := hb1.1
 refine TN 1 ?_
 refine RN ?_
 refine ⟨_, _, eff_alloc (n := 78) (d := 2) (k := 1000002) zero154 (by decide), fun b2 hb2 => ?_⟩
 have hBb2 := hb2.1
 refine TL ?_
 refine RN ?_
 refine GS ?_
 refine TN 0 ?_
 refine RN ?_
 refine ⟨_, _, eff_alloc (n := 78) (d := 3) (k := 1000003) zero154 (by decide), fun b3 hb3 => ?_⟩
 have hBb3 := hb3.1
 have hlt_b2_b3 : b2 < b3 := hb3.2 1000002 _ _ _ rfl
 refine TL ?_
 refine RN ?_
 refine GS ?_
 refine TN 1 ?_
 refine RS (ok_call refTable_fn Args.nil) ?_
 refine RN ?_
 refine ⟨_, _, eff_alloc (n := 78) (d := 4) (k := 1000004) zero156 (by decide), fun b4 hb4 => ?_⟩
 have hBb4 := hb4.1
 refine TF 2 ?_
 refine RN ?_
 refine ⟨_, eff_storeA (n := 78) (s := 1000004) (size156.of (subV_length)) rfl rfl (subV_one) hBb4 rfl (by rw [subV_length, List.length_replicate]) (LV 1 rfl (LV 2 rfl (LV 3 rfl (LV 4 rfl (LT 1000001 rfl (LT 1000002 rfl (LT 1000003 rfl LN))))))), ?_⟩
 refine TL ?_
 refine RN ?_
 refine GS ?_
 refine TL ?_
 refine RA rfl ?_
 refine RN ?_
 refine A.seq ?_
 refine GS ?_
 refine TL ?_
 refine RA rfl ?_
 refine RN ?_
 refine A.block ?_
 refine A.loop (ι := Nat) (fun i => i ≤ 44) (fun i => [(1, .v (.pointer (some ⟨b1, 0, none⟩))), (2, .v (.pointer (some ⟨b2, 0, none⟩))), (3, .v (.pointer (some ⟨b3, 0, none⟩))), (4, .v (.pointer (some ⟨b4, 0, none⟩))), (6, .v (nI i)), (1000001, blk b1 22 (rowV 16 (k))), (1000002, blk b2 154 (List.replicate 176 (.int .u8 0))), (1000004, blk b4 156 subV), (5, .v (nB (gpow 2 ((i - 1) / 4)))), (1000003, blk b3 154 (rowV 176 (wst k (4 * i))))]) (fun i => 44 - i) 0 ?_ ?_ ?_
 ·exact Nat.zero_le _
 ·exact (KC 1 rfl (KC 2 rfl (KC 3 rfl (KC 4 rfl (KC 6 rfl (KC 1000001 rfl (KC 1000002 rfl (KC 1000004 rfl (KC 5 rfl (KE 1000003 rfl (congrArg _ (wst_zero k)) KN))))))))))
 intro i hi
 refine A.seq ?_
 refine GS ?_
 refine TL ?_
 refine RM rfl ?_
 refine RB rfl rfl rfl ?_
 refine RN ?_
 refine A.cond rfl (fun hc12 => ?_) (fun hc12 => ?_)
 ·have hi44 : i < 44 := by simp at hc12; omega
  refine A.skip ?_
  refine EN ?_
  refine A.seq ?_
  refine A.block ?_
  refine A.seq ?_
  refine GS ?_
  refine TL ?_
  refine RM rfl ?_
  refine RB rfl rfl rfl ?_
  refine RN ?_
  refine A.cond rfl (fun hc16 => ?_) (fun hc16 => ?_)
  ·have h4 : i < 4 := by simp at hc16; omega
   refine A.seq ?_
   refine GS ?_
   refine TL ?_
   refine RA rfl ?_
   refine RN ?_
   refine A.block ?_
   refine A.loop (ι := Nat) (fun q => q ≤ 4) (fun q => [(1, .v (.pointer (some ⟨b1, 0, none⟩))), (2, .v (.pointer (some ⟨b2, 0, none⟩))), (3, .v (.pointer (some ⟨b3, 0, none⟩))), (4, .v (.pointer (some ⟨b4, 0, none⟩))), (6, .v (nI i)), (1000001, blk b1 22 (rowV 16 (k))), (1000002, blk b2 154 (List.replicate 176 (.int .u8 0))), (1000004, blk b4 156 subV), (5, .v (nB (gpow 2 ((i - 1) / 4)))), (7, .v (nI q)), (1000003, blk b3 154 (rowV 176 (wst k (4 * i + q))))]) (fun q => 4 - q) 0 ?_ ?_ ?_
   ·exact Nat.zero_le _
   ·exact (KC 1 rfl (KC 2 rfl (KC 3 rfl (KC 4 rfl (KC 6 rfl (KC 1000001 rfl (KC 1000002 rfl (KC 1000004 rfl (KC 5 rfl (KC 7 rfl (KC 1000003 rfl KN)))))))))))
   intro q hq'
   refine A.seq ?_
   refine GS ?_
   refine TL ?_
   refine RM rfl ?_
   refine RB rfl rfl rfl ?_
   refine RN ?_
   refine A.cond rfl (fun hc18 => ?_) (fun hc18 => ?_)
   ·have hq : q < 4 := by simp at hc18; omega
    refine A.skip ?_
    refine EN ?_
    refine A.seq ?_
    refine A.block ?_
    refine A.reg (by kernel_rfl) (by kernel_rfl) (.inr (by kernel_rfl)) ?_
    refine TD 10 ?_
    refine RM rfl ?_
    refine RM rfl ?_
    refine RM rfl ?_
    refine RBS rfl rfl rfl (nI (4 * i)) (by rw [wrap_i64 (by omega) (by omega)]; exact congrArg (Value.int .i64) (by omega)) ?_
    refine RM rfl ?_
    refine RBS rfl rfl rfl (nI (4 * i + q)) (by rw [wrap_i64 (by omega) (by omega)]; exact congrArg (Value.int .i64) (by omega)) ?_
    refine RS (ok_index0 _ Tryz.underlying22 info5 rfl rfl (rfl) (by omega)) ?_
    refine RS (ok_loadV (s := 1000001) (by decide) Tryz.underlying5 rfl rfl rfl (rowV_get (by omega))) ?_; refine RZ (nB (k (4 * i + q))) (v8 (by rfl)) ?_
    refine RS (ok_indexN _ Tryz.underlying154 size137 rfl rfl (rfl) (by omega)) ?_
    refine RS (ok_indexA _ Tryz.underlying137 info5 rfl rfl (rfl) (by omega)) ?_
    refine RN ?_
    refine ⟨_, eff_storeS (n := 78) (s := 1000003) info5 rfl rfl rfl hBb3 rfl (by simp only [rowV_length]; omega) (LV 1 rfl (LV 2 rfl (LV 3 rfl (LV 4 rfl (LV 5 rfl (LV 6 rfl (LV 7 rfl (LT 1000001 rfl (LB 1000002 rfl (LT 1000004 rfl LN)))))))))), ?_⟩
    refine TL ?_
    refine RN ?_
    refine End.normal_block ?_
    refine EN ?_
    refine GE ?_
    refine TL ?_
    refine RM rfl ?_
    refine RBS rfl rfl rfl (nI (q + 1)) (by rw [wrap_i64 (by omega) (by omega)]; exact congrArg (Value.int .i64) (by omega)) ?_
    refine RA rfl ?_
    refine RN ?_
    refine End.normal_then ?_
    refine End.again (q + 1) ?_ ?_ ?_
    ·show _ ≤ _; omega
    ·show _ - _ < _ - _; omega
    ·exact (KC 1 rfl (KC 2 rfl (KC 3 rfl (KC 4 rfl (KC 6 rfl (KC 1000001 rfl (KC 1000002 rfl (KC 1000004 rfl (KC 5 rfl (KC 7 rfl (KE 1000003 rfl (congrArg _ (wst_set (by omega) (expand_key k (by omega)).symm)) KN)))))))))))
   ·obtain rfl : q = 4 := by simp at hc18; omega
    refine A.exit ?_
    refine End.exit_then ?_
    refine End.exit_then ?_
    refine End.exit_here ?_
    refine EN ?_
    refine A.exit ?_
    refine End.exit_then ?_
    refine End.exit_here ?_
    refine EN ?_
    refine GE ?_
    refine TL ?_
    refine RM rfl ?_
    refine RBS rfl rfl rfl (nI (i + 1)) (by rw [wrap_i64 (by omega) (by omega)]; exact congrArg (Value.int .i64) (by omega)) ?_
    refine RA rfl ?_
    refine RN ?_
    refine End.normal_then ?_
    refine End.again (i + 1) ?_ ?_ ?_
    ·show _ ≤ _; omega
    ·show _ - _ < _ - _; omega
    ·exact (KC 1 rfl (KC 2 rfl (KC 3 rfl (KC 4 rfl (KC 6 rfl (KC 1000001 rfl (KC 1000002 rfl (KC 1000004 rfl (KE 5 rfl (congrArg (fun z : Nat => D.v (nB (gpow 2 z))) (by omega)) (KE 1000003 rfl (by rw [show 4 * (i + 1) = 4 * i + 4 from by omega]) KN))))))))))
  ·have h4 : 4 ≤ i := by simp at hc16; omega
   refine A.skip ?_
   refine EN ?_
   refine GS ?_
   refine TN 4 ?_
   refine RM rfl ?_
   refine RBS rfl rfl rfl (nI (i - 1)) (by rw [wrap_i64 (by omega) (by omega)]; exact congrArg (Value.int .i64) (by omega)) ?_
   refine RS (ok_indexN _ Tryz.underlying154 size137 rfl rfl (rfl) (by omega)) ?_
   refine RS (ok_loadP (s := 1000003) (by decide) Tryz.underlying137 rfl size137 rfl rfl (by simp only [rowV_length]; omega) (rowV_part (g := fun q => expand k (4 * (i - 1) + q)) (by omega) (fun q hq => wst_get (by omega) (by omega)))) ?_
   refine RN ?_
   refine ⟨_, _, eff_alloc (n := 78) (d := 8) (k := 1000008) zero137 (by decide), fun b8 hb8 => ?_⟩
   have hBb8 := hb8.1
   refine TF 5 ?_
   refine RN ?_
   refine ⟨_, eff_storeA (n := 78) (s := 1000008) (size137.of (rowV_length _ _)) rfl rfl (rowV_one _ _) hBb8 rfl (by first | (simp only [rowV_length]; done) | simp only [rowV_length, List.length_replicate]) (LV 1 rfl (LV 2 rfl (LV 3 rfl (LV 4 rfl (LV 5 rfl (LV 6 rfl (LV 8 rfl (LT 1000001 rfl (LT 1000002 rfl (LT 1000003 rfl (LT 1000004 rfl LN))))))))))), ?_⟩
   refine TL ?_
   refine RN ?_
   refine A.seq ?_
   refine GS ?_
   refine TL ?_
   refine RM rfl ?_
   refine RS (ok_rem rfl rfl (by decide)) ?_; refine RZ (nI (i % 4)) (by rw [tmod_lit _ (by decide)]; rfl) ?_
   refine RB rfl rfl rfl ?_
   refine RN ?_
   refine A.cond rfl (fun hc37 => ?_) (fun hc37 => ?_)
   ·have h0 : i % 4 = 0 := by simp at hc37; omega
    refine GD ?_
    refine TD 19 ?_
    refine RS (ok_index0 (1) Tryz.underlying137 info5 rfl rfl (rfl) (by decide)) ?_
    refine RS (ok_loadV (s := 1000008) (by decide) Tryz.underlying5 rfl rfl rfl (rowV_get (by decide))) ?_; refine RZ (nB (expand k (4 * (i - 1) + 1))) (v8 (by rfl)) ?_
    refine RS (ok_index0 _ Tryz.underlying156 info5 rfl rfl (rfl) (expand_lt hk _)) ?_
    refine RS (ok_loadV (s := 1000004) (by decide) Tryz.underlying5 rfl rfl rfl (subV_get (expand_lt hk _))) ?_
    refine RM rfl ?_
    refine RBS rfl rfl rfl (nB (sub8 (expand k (4 * (i - 1) + 1)) ^^^ gpow 2 ((i - 1) / 4))) (by rw [show IntKind.u8.bits = 8 from rfl, xor_u8N (sub8_lt _) (gpow_lt _)]) ?_
    refine RS (ok_index0 (2) Tryz.underlying137 info5 rfl rfl (rfl) (by decide)) ?_
    refine RS (ok_loadV (s := 1000008) (by decide) Tryz.underlying5 rfl rfl rfl (rowV_get (by decide))) ?_; refine RZ (nB (expand k (4 * (i - 1) + 2))) (v8 (by rfl)) ?_
    refine RS (ok_index0 _ Tryz.underlying156 info5 rfl rfl (rfl) (expand_lt hk _)) ?_
    refine RS (ok_loadV (s := 1000004) (by decide) Tryz.underlying5 rfl rfl rfl (subV_get (expand_lt hk _))) ?_
    refine RS (ok_index0 (3) Tryz.underlying137 info5 rfl rfl (rfl) (by decide)) ?_
    refine RS (ok_loadV (s := 1000008) (by decide) Tryz.underlying5 rfl rfl rfl (rowV_get (by decide))) ?_; refine RZ (nB (expand k (4 * (i - 1) + 3))) (v8 (by rfl)) ?_
    refine RS (ok_index0 _ Tryz.underlying156 info5 rfl rfl (rfl) (expand_lt hk _)) ?_
    refine RS (ok_loadV (s := 1000004) (by decide) Tryz.underlying5 rfl rfl rfl (subV_get (expand_lt hk _))) ?_
    refine RS (ok_index0 (0) Tryz.underlying137 info5 rfl rfl (rfl) (by decide)) ?_
    refine RS (ok_loadV (s := 1000008) (by decide) Tryz.underlying5 rfl rfl rfl (rowV_get (by decide))) ?_; refine RZ (nB (expand k (4 * (i - 1) + 0))) (v8 (by rfl)) ?_
    refine RS (ok_index0 _ Tryz.underlying156 info5 rfl rfl (rfl) (expand_lt hk _)) ?_
    refine RS (ok_loadV (s := 1000004) (by decide) Tryz.underlying5 rfl rfl rfl (subV_get (expand_lt hk _))) ?_
    refine RS (ok_litA [_, _, _, _] Tryz.underlying137 info5 zero137 rfl ⟨rfl, rfl, rfl, rfl, rfl, rfl, rfl, rfl, trivial⟩ rfl) ?_; refine RZ (aggV (rowV 4 (tqS k i))) (congrArg aggV (tq_row k h0 h4)) ?_
    refine RN ?_
    refine ⟨_, eff_storeA (n := 78) (s := 1000008) (size137.of (rowV_length _ _)) rfl rfl (rowV_one _ _) hBb8 rfl (by first | (simp only [rowV_length]; done) | simp only [rowV_length, List.length_replicate]) (LV 1 rfl (LV 2 rfl (LV 3 rfl (LV 4 rfl (LV 5 rfl (LV 6 rfl (LV 8 rfl (LT 1000001 rfl (LT 1000002 rfl (LT 1000003 rfl (LT 1000004 rfl LN))))))))))), ?_⟩
    refine TL ?_
    refine RN ?_
    refine A.sub (KC 1 rfl (KC 2 rfl (KC 3 rfl (KC 4 rfl (KC 5 rfl (KC 6 rfl (KC 8 rfl (KC 1000001 rfl (KC 1000002 rfl (KC 1000003 rfl (KC 1000004 rfl (KC 1000008 rfl KN)))))))))))) ?_
    refine GE ?_
    refine TL ?_
    refine RM rfl ?_
    refine RS (ok_call (refMul_fn (gpow 2 ((i - 1) / 4)) 2 (gpow_lt _) (by decide)) (A2 rfl rfl)) ?_; refine RZ (nB (gpow 2 (i / 4))) (v8 (by rw [show i / 4 = (i - 1) / 4 + 1 from by omega]; rfl)) ?_
    refine RA rfl ?_
    refine RN ?_
    refine EN ?_
    refine GS ?_
    refine TL ?_
    refine RA rfl ?_
    refine RN ?_
    refine A.block ?_
    refine A.loop (ι := Nat) (fun q => q ≤ 4) (fun q => [(1, .v (.pointer (some ⟨b1, 0, none⟩))), (2, .v (.pointer (some ⟨b2, 0, none⟩))), (3, .v (.pointer (some ⟨b3, 0, none⟩))), (4, .v (.pointer (some ⟨b4, 0, none⟩))), (6, .v (nI i)), (1000001, blk b1 22 (rowV 16 (k))), (1000002, blk b2 154 (List.replicate 176 (.int .u8 0))), (1000004, blk b4 156 subV), (5, .v (nB (gpow 2 (i / 4)))), (9, .v (nI q)), (8, .v (.pointer (some ⟨b8, 0, none⟩))), (1000008, blk b8 137 (rowV 4 (tqS k i))), (1000003, blk b3 154 (rowV 176 (wst k (4 * i + q))))]) (fun q => 4 - q) 0 ?_ ?_ ?_
    ·exact Nat.zero_le _
    ·exact (KC 1 rfl (KC 2 rfl (KC 3 rfl (KC 4 rfl (KC 6 rfl (KC 1000001 rfl (KC 1000002 rfl (KC 1000004 rfl (KE 5 rfl (congrArg (fun z : Nat => D.v (nB (gpow 2 z))) (by omega)) (KC 9 rfl (KC 8 rfl (KE 1000008 rfl (by first | rfl | exact congrArg _ (tq_skip k h0)) (KC 1000003 rfl KN)))))))))))))
    intro q hq'
    refine A.seq ?_
    refine GS ?_
    refine TL ?_
    refine RM rfl ?_
    refine RB rfl rfl rfl ?_
    refine RN ?_
    refine A.cond rfl (fun hc60 => ?_) (fun hc60 => ?_)
    ·have hq : q < 4 := by simp at hc60; omega
     refine A.skip ?_
     refine EN ?_
     refine A.seq ?_
     refine A.block ?_
     refine A.reg (by kernel_rfl) (by kernel_rfl) (.inr (by kernel_rfl)) ?_
     refine TD 14 ?_
     refine RM rfl ?_
     refine RM rfl ?_
     refine RM rfl ?_
     refine RBS rfl rfl rfl (nI (i - 4)) (by rw [wrap_i64 (by omega) (by omega)]; exact congrArg (Value.int .i64) (by omega)) ?_
     refine RM rfl ?_
     refine RS (ok_indexN _ Tryz.underlying154 size137 rfl rfl (rfl) (by omega)) ?_
     refine RS (ok_indexA _ Tryz.underlying137 info5 rfl rfl (rfl) (by omega)) ?_
     refine RS (ok_loadV (s := 1000003) (by decide) Tryz.underlying5 rfl rfl rfl (rowV_get (by omega))) ?_; refine RZ (nB (expand k (4 * (i - 4) + q))) (v8 (wst_get (by omega) (by omega))) ?_
     refine RM rfl ?_
     refine RS (ok_index0 _ Tryz.underlying137 info5 rfl rfl (rfl) (by omega)) ?_
     refine RS (ok_loadV (s := 1000008) (by decide) Tryz.underlying5 rfl rfl rfl (rowV_get (by omega))) ?_; refine RZ (nB (tqS k i q)) (v8 (by rfl)) ?_
     refine RBS rfl rfl rfl (nB (expand k (4 * i + q))) (by rw [show IntKind.u8.bits = 8 from rfl, xor_u8N (expand_lt hk _) (tqS_lt hk i q), expand_step k h4 hq]) ?_
     refine RS (ok_indexN _ Tryz.underlying154 size137 rfl rfl (rfl) (by omega)) ?_
     refine RS (ok_indexA _ Tryz.underlying137 info5 rfl rfl (rfl) (by omega)) ?_
     refine RN ?_
     refine ⟨_, eff_storeS (n := 78) (s := 1000003) info5 rfl rfl rfl hBb3 rfl (by simp only [rowV_length]; omega) (LV 1 rfl (LV 2 rfl (LV 3 rfl (LV 4 rfl (LV 5 rfl (LV 6 rfl (LV 8 rfl (LV 9 rfl (LT 1000001 rfl (LB 1000002 rfl (LT 1000004 rfl (LT 1000008 rfl LN)))))))))))), ?_⟩
     refine TL ?_
     refine RN ?_
     refine End.normal_block ?_
     refine EN ?_
     refine GE ?_
     refine TL ?_
     refine RM rfl ?_
     refine RBS rfl rfl rfl (nI (q + 1)) (by rw [wrap_i64 (by omega) (by omega)]; exact congrArg (Value.int .i64) (by omega)) ?_
     refine RA rfl ?_
     refine RN ?_
     refine End.normal_then ?_
     refine End.again (q + 1) ?_ ?_ ?_
     ·show _ ≤ _; omega
     ·show _ - _ < _ - _; omega
     ·exact (KC 1 rfl (KC 2 rfl (KC 3 rfl (KC 4 rfl (KC 6 rfl (KC 1000001 rfl (KC 1000002 rfl (KC 1000004 rfl (KC 5 rfl (KC 9 rfl (KC 8 rfl (KC 1000008 rfl (KE 1000003 rfl (congrArg _ (wst_set (by omega) rfl)) KN)))))))))))))
    ·obtain rfl : q = 4 := by simp at hc60; omega
     refine A.exit ?_
     refine End.exit_then ?_
     refine End.exit_then ?_
     refine End.exit_here ?_
     refine End.normal_block ?_
     refine EN ?_
     refine GE ?_
     refine TL ?_
     refine RM rfl ?_
     refine RBS rfl rfl rfl (nI (i + 1)) (by rw [wrap_i64 (by omega) (by omega)]; exact congrArg (Value.int .i64) (by omega)) ?_
     refine RA rfl ?_
     refine RN ?_
     refine End.normal_then ?_
     refine End.again (i + 1) ?_ ?_ ?_
     ·show _ ≤ _; omega
     ·show _ - _ < _ - _; omega
     ·exact (KC 1 rfl (KC 2 rfl (KC 3 rfl (KC 4 rfl (KC 6 rfl (KC 1000001 rfl (KC 1000002 rfl (KC 1000004 rfl (KE 5 rfl (congrArg (fun z : Nat => D.v (nB (gpow 2 z))) (by omega)) (KE 1000003 rfl (by rw [show 4 * (i + 1) = 4 * i + 4 from by omega]) KN))))))))))
   ·have h0 : ¬ i % 4 = 0 := by simp at hc37; omega
    refine A.skip ?_
    refine EN ?_
    refine GS ?_
    refine TL ?_
    refine RA rfl ?_
    refine RN ?_
    refine A.block ?_
    refine A.loop (ι := Nat) (fun q => q ≤ 4) (fun q => [(1, .v (.pointer (some ⟨b1, 0, none⟩))), (2, .v (.pointer (some ⟨b2, 0, none⟩))), (3, .v (.pointer (some ⟨b3, 0, none⟩))), (4, .v (.pointer (some ⟨b4, 0, none⟩))), (6, .v (nI i)), (1000001, blk b1 22 (rowV 16 (k))), (1000002, blk b2 154 (List.replicate 176 (.int .u8 0))), (1000004, blk b4 156 subV), (5, .v (nB (gpow 2 (i / 4)))), (9, .v (nI q)), (8, .v (.pointer (some ⟨b8, 0, none⟩))), (1000008, blk b8 137 (rowV 4 (tqS k i))), (1000003, blk b3 154 (rowV 176 (wst k (4 * i + q))))]) (fun q => 4 - q) 0 ?_ ?_ ?_
    ·exact Nat.zero_le _
    ·exact (KC 1 rfl (KC 2 rfl (KC 3 rfl (KC 4 rfl (KC 6 rfl (KC 1000001 rfl (KC 1000002 rfl (KC 1000004 rfl (KE 5 rfl (congrArg (fun z : Nat => D.v (nB (gpow 2 z))) (by omega)) (KC 9 rfl (KC 8 rfl (KE 1000008 rfl (by first | rfl | exact congrArg _ (tq_skip k h0)) (KC 1000003 rfl KN)))))))))))))
    intro q hq'
    refine A.seq ?_
    refine GS ?_
    refine TL ?_
    refine RM rfl ?_
    refine RB rfl rfl rfl ?_
    refine RN ?_
    refine A.cond rfl (fun hc60 => ?_) (fun hc60 => ?_)
    ·have hq : q < 4 := by simp at hc60; omega
     refine A.skip ?_
     refine EN ?_
     refine A.seq ?_
     refine A.block ?_
     refine A.reg (by kernel_rfl) (by kernel_rfl) (.inr (by kernel_rfl)) ?_
     refine TD 14 ?_
     refine RM rfl ?_
     refine RM rfl ?_
     refine RM rfl ?_
     refine RBS rfl rfl rfl (nI (i - 4)) (by rw [wrap_i64 (by omega) (by omega)]; exact congrArg (Value.int .i64) (by omega)) ?_
     refine RM rfl ?_
     refine RS (ok_indexN _ Tryz.underlying154 size137 rfl rfl (rfl) (by omega)) ?_
     refine RS (ok_indexA _ Tryz.underlying137 info5 rfl rfl (rfl) (by omega)) ?_
     refine RS (ok_loadV (s := 1000003) (by decide) Tryz.underlying5 rfl rfl rfl (rowV_get (by omega))) ?_; refine RZ (nB (expand k (4 * (i - 4) + q))) (v8 (wst_get (by omega) (by omega))) ?_
     refine RM rfl ?_
     refine RS (ok_index0 _ Tryz.underlying137 info5 rfl rfl (rfl) (by omega)) ?_
     refine RS (ok_loadV (s := 1000008) (by decide) Tryz.underlying5 rfl rfl rfl (rowV_get (by omega))) ?_; refine RZ (nB (tqS k i q)) (v8 (by rfl)) ?_
     refine RBS rfl rfl rfl (nB (expand k (4 * i + q))) (by rw [show IntKind.u8.bits = 8 from rfl, xor_u8N (expand_lt hk _) (tqS_lt hk i q), expand_step k h4 hq]) ?_
     refine RS (ok_indexN _ Tryz.underlying154 size137 rfl rfl (rfl) (by omega)) ?_
     refine RS (ok_indexA _ Tryz.underlying137 info5 rfl rfl (rfl) (by omega)) ?_
     refine RN ?_
     refine ⟨_, eff_storeS (n := 78) (s := 1000003) info5 rfl rfl rfl hBb3 rfl (by simp only [rowV_length]; omega) (LV 1 rfl (LV 2 rfl (LV 3 rfl (LV 4 rfl (LV 5 rfl (LV 6 rfl (LV 8 rfl (LV 9 rfl (LT 1000001 rfl (LB 1000002 rfl (LT 1000004 rfl (LT 1000008 rfl LN)))))))))))), ?_⟩
     refine TL ?_
     refine RN ?_
     refine End.normal_block ?_
     refine EN ?_
     refine GE ?_
     refine TL ?_
     refine RM rfl ?_
     refine RBS rfl rfl rfl (nI (q + 1)) (by rw [wrap_i64 (by omega) (by omega)]; exact congrArg (Value.int .i64) (by omega)) ?_
     refine RA rfl ?_
     refine RN ?_
     refine End.normal_then ?_
     refine End.again (q + 1) ?_ ?_ ?_
     ·show _ ≤ _; omega
     ·show _ - _ < _ - _; omega
     ·exact (KC 1 rfl (KC 2 rfl (KC 3 rfl (KC 4 rfl (KC 6 rfl (KC 1000001 rfl (KC 1000002 rfl (KC 1000004 rfl (KC 5 rfl (KC 9 rfl (KC 8 rfl (KC 1000008 rfl (KE 1000003 rfl (congrArg _ (wst_set (by omega) rfl)) KN)))))))))))))
    ·obtain rfl : q = 4 := by simp at hc60; omega
     refine A.exit ?_
     refine End.exit_then ?_
     refine End.exit_then ?_
     refine End.exit_here ?_
     refine End.normal_block ?_
     refine EN ?_
     refine GE ?_
     refine TL ?_
     refine RM rfl ?_
     refine RBS rfl rfl rfl (nI (i + 1)) (by rw [wrap_i64 (by omega) (by omega)]; exact congrArg (Value.int .i64) (by omega)) ?_
     refine RA rfl ?_
     refine RN ?_
     refine End.normal_then ?_
     refine End.again (i + 1) ?_ ?_ ?_
     ·show _ ≤ _; omega
     ·show _ - _ < _ - _; omega
     ·exact (KC 1 rfl (KC 2 rfl (KC 3 rfl (KC 4 rfl (KC 6 rfl (KC 1000001 rfl (KC 1000002 rfl (KC 1000004 rfl (KE 5 rfl (congrArg (fun z : Nat => D.v (nB (gpow 2 z))) (by omega)) (KE 1000003 rfl (by rw [show 4 * (i + 1) = 4 * i + 4 from by omega]) KN))))))))))
 ·obtain rfl : i = 44 := by simp at hc12; omega
  refine A.exit ?_
  refine End.exit_then ?_
  refine End.exit_then ?_
  refine End.exit_here ?_
  refine EN ?_
  refine GS ?_
  refine TF 1 ?_
  refine RS (ok_loadA (s := 1000003) (by decide) Tryz.underlying154 rfl (size154.of (rowV_length _ _)) rfl rfl) ?_
  refine RN ?_
  refine ⟨_, eff_storeA (n := 78) (s := 1000002) (size154.of (rowV_length _ _)) rfl rfl (rowV_one _ _) hBb2 rfl (by first | (simp only [rowV_length]; done) | simp only [rowV_length, List.length_replicate]) (LV 2 rfl (LT 1000001 rfl (LB 1000003 rfl (LT 1000004 rfl LN)))), ?_⟩
  refine TL ?_
  refine RN ?_
  refine A.ret ?_
  exact End.cell1 (s := 1000002) rfl Tryz.underlying154 rfl (size154.of (rowV_length _ _)) rfl rfl (Le.v (congrArg aggV (wst_full k)))
set_option maxHeartbeats 4000000 in
theorem refRounds_fn (s f : Nat → Nat) (hs : ∀ i, s i < 256) (hf : By f) : Fn Tryz.prog 101 [.v (aggV (rowV 176 (s))), .v (aggV (rowV 16 (f)))] (.v (aggV (rowV 16 (enc s f)))) := by
 refine Fn.of Tryz.func101 rfl (by kernel_rfl) Tryz.ntmps101 (by simp) (fun w => [(0, .v (aggV (rowV 176 (s)))), (1, .v (aggV (rowV 16 (f))))]) (fun w => (Start.v rfl (Start.v rfl Start.nil))) fun w₀ => ?_
 refine GS ?_
 refine TN 0 ?_
 refine RN ?_
 refine ⟨_, _, eff_box (n := 182) (d := 2) (k := 1000002) rfl (by decide), fun b2 hb2 => ?_⟩
 have hBb2 := hb2.1
 refine TN 1 ?_
 refine RN ?_
 refine ⟨_, _, eff_box (n := 182) (d := 3) (k := 1000003) rfl (by decide), fun b3 hb3 => ?_⟩
 have hBb3 := hb3.1
 refine TN 2 ?_
 refine RN ?_
 refine ⟨_, _, eff_alloc (n := 182) (d := 4) (k := 1000004) zero22 (by decide), fun b4 hb4 => ?_⟩
 have hBb4 := hb4.1
 have hlt_b3_b4 : b3 < b4 := hb4.2 1000003 _ _ _ rfl
 refine TL ?_
 refine RN ?_
 refine GS ?_
 refine TN 1 ?_
 refine RS (ok_call refTable_fn Args.nil) ?_
 refine RN ?_
 refine ⟨_, _, eff_alloc (n := 182) (d := 5) (k := 1000005) zero156 (by decide), fun b5 hb5 => ?_⟩
 have hBb5 := hb5.1
 refine TF 2 ?_
 refine RN ?_
 refine ⟨_, eff_storeA (n := 182) (s := 1000005) (size156.of (subV_length)) rfl rfl (subV_one) hBb5 rfl (by rw [subV_length, List.length_replicate]) (LV 2 rfl (LV 3 rfl (LV 4 rfl (LV 5 rfl (LT 1000002 rfl (LT 1000003 rfl (LT 1000004 rfl LN))))))), ?_⟩
 refine TL ?_
 refine RN ?_
 refine GS ?_
 refine TN 0 ?_
 refine RN ?_
 refine ⟨_, _, eff_alloc (n := 182) (d := 6) (k := 1000006) zero158 (by decide), fun b6 hb6 => ?_⟩
 have hBb6 := hb6.1
 refine TL ?_
 refine RN ?_
 refine A.seq ?_
 refine GS ?_
 refine TL ?_
 refine RA rfl ?_
 refine RN ?_
 refine A.block ?_
 refine A.loop (ι := Nat) (fun i => i ≤ 16) (fun i => [(2, .v (.pointer (some ⟨b2, 0, none⟩))), (4, .v (.pointer (some ⟨b4, 0, none⟩))), (5, .v (.pointer (some ⟨b5, 0, none⟩))), (6, .v (.pointer (some ⟨b6, 0, none⟩))), (1000002, blk b2 154 (rowV 176 (s))), (1000004, blk b4 22 (List.replicate 16 (.int .u8 0))), (1000005, blk b5 156 subV), (3, .v (.pointer (some ⟨b3, 0, none⟩))), (7, .v (nI i)), (1000003, blk b3 22 (rowV 16 (f))), (1000006, blk b6 158 (rowV 16 (aesM0 s f i)))]) (fun i => 16 - i) 0 ?_ ?_ ?_
 ·exact Nat.zero_le _
 ·exact (KC 2 rfl (KC 4 rfl (KC 5 rfl (KC 6 rfl (KC 1000002 rfl (KC 1000004 rfl (KC 1000005 rfl (KC 3 rfl (KC 7 rfl (KC 1000003 rfl (KE 1000006 rfl (congrArg _ (aesM0_zero s f)) KN)))))))))))
 intro i hi'
 refine A.seq ?_
 refine GS ?_
 refine TL ?_
 refine RM rfl ?_
 refine RB rfl rfl rfl ?_
 refine RN ?_
 refine A.cond rfl (fun hc22 => ?_) (fun hc22 => ?_)
 ·have hi : i < 16 := by simp at hc22; omega
  refine A.skip ?_
  refine EN ?_
  refine A.seq ?_
  refine A.block ?_
  refine A.reg (by kernel_rfl) (by kernel_rfl) (.inr (by kernel_rfl)) ?_
  refine TD 17 ?_
  refine RM rfl ?_
  refine RS (ok_rem rfl rfl (by decide)) ?_; refine RZ (nI (i % 4)) (by rw [tmod_lit _ (by decide)]; rfl) ?_
  refine RM rfl ?_
  refine RS (ok_div rfl rfl (by decide)) ?_; refine RZ (nI (i / 4)) (by rw [tdiv_lit _ (by decide), show Int.toNat 4 = 4 from rfl, wrapN_i64 (by omega)]) ?_
  refine RM rfl ?_
  refine RS (ok_index0 _ Tryz.underlying22 info5 rfl rfl (rfl) (by omega)) ?_
  refine RS (ok_loadV (s := 1000003) (by decide) Tryz.underlying5 rfl rfl rfl (rowV_get (by omega))) ?_; refine RZ (nB (f i)) (v8 (by rfl)) ?_
  refine RM rfl ?_
  refine RS (ok_div rfl rfl (by decide)) ?_; refine RZ (nI (i / 4)) (by rw [tdiv_lit _ (by decide), show Int.toNat 4 = 4 from rfl, wrapN_i64 (by omega)]) ?_
  refine RM rfl ?_
  refine RS (ok_rem rfl rfl (by decide)) ?_; refine RZ (nI (i % 4)) (by rw [tmod_lit _ (by decide)]; rfl) ?_
  refine RS (ok_indexN _ Tryz.underlying154 size137 rfl rfl (rfl) (by omega)) ?_
  refine RS (ok_indexA _ Tryz.underlying137 info5 rfl rfl (rfl) (by omega)) ?_
  refine RS (ok_loadV (s := 1000002) (by decide) Tryz.underlying5 rfl rfl rfl (rowV_get (by omega))) ?_; refine RZ (nB (keyS s 0 i)) (v8 (congrArg s (by omega))) ?_
  refine RBS rfl rfl rfl (nB (addS f (keyS s 0) i)) (by rw [show IntKind.u8.bits = 8 from rfl, xor_u8N (hf _) (keyS_by hs _ _), show f i ^^^ keyS s 0 i = addS f (keyS s 0) i from rfl]) ?_
  refine RS (ok_indexN _ Tryz.underlying158 size137 rfl rfl (rfl) (by omega)) ?_
  refine RS (ok_indexA _ Tryz.underlying137 info5 rfl rfl (rfl) (by omega)) ?_
  refine RN ?_
  refine ⟨_, eff_storeS (n := 182) (s := 1000006) info5 rfl rfl rfl hBb6 rfl (by simp only [rowV_length]; omega) (LV 2 rfl (LV 3 rfl (LV 4 rfl (LV 5 rfl (LV 6 rfl (LV 7 rfl (LT 1000002 rfl (LT 1000003 rfl (LT 1000004 rfl (LT 1000005 rfl LN)))))))))), ?_⟩
  refine TL ?_
  refine RN ?_
  refine End.normal_block ?_
  refine EN ?_
  refine GE ?_
  refine TL ?_
  refine RM rfl ?_
  refine RBS rfl rfl rfl (nI (i + 1)) (by rw [wrap_i64 (by omega) (by omega)]; exact congrArg (Value.int .i64) (by omega)) ?_
  refine RA rfl ?_
  refine RN ?_
  refine End.normal_then ?_
  refine End.again (i + 1) ?_ ?_ ?_
  ·show _ ≤ _; omega
  ·show _ - _ < _ - _; omega
  ·exact (KC 2 rfl (KC 4 rfl (KC 5 rfl (KC 6 rfl (KC 1000002 rfl (KC 1000004 rfl (KC 1000005 rfl (KC 3 rfl (KC 7 rfl (KC 1000003 rfl (KE 1000006 rfl (congrArg _ (aesM0_set hi (by omega) rfl)) KN)))))))))))
 ·obtain rfl : i = 16 := by simp at hc22; omega
  refine A.exit ?_
  refine End.exit_then ?_
  refine End.exit_then ?_
  refine End.exit_here ?_
  refine EN ?_
  refine A.seq ?_
  refine GS ?_
  refine TL ?_
  refine RA rfl ?_
  refine RN ?_
  refine A.block ?_
  refine A.loop (ι := Nat) (fun q => q ≤ 10) (fun q => [(2, .v (.pointer (some ⟨b2, 0, none⟩))), (4, .v (.pointer (some ⟨b4, 0, none⟩))), (5, .v (.pointer (some ⟨b5, 0, none⟩))), (6, .v (.pointer (some ⟨b6, 0, none⟩))), (1000002, blk b2 154 (rowV 176 (s))), (1000004, blk b4 22 (List.replicate 16 (.int .u8 0))), (1000005, blk b5 156 subV), (8, .v (nI (q + 1))), (1000006, blk b6 158 (rowV 16 (aesT (rst s f q))))]) (fun q => 10 - q) 0 ?_ ?_ ?_
  ·exact Nat.zero_le _
  ·exact (KC 2 rfl (KC 4 rfl (KC 5 rfl (KC 6 rfl (KC 1000002 rfl (KC 1000004 rfl (KC 1000005 rfl (KC 8 rfl (KE 1000006 rfl (congrArg _ (aesM0_full s f)) KN)))))))))
  intro q hq
  refine A.seq ?_
  refine GS ?_
  refine TL ?_
  refine RM rfl ?_
  refine RB rfl rfl rfl ?_
  refine RN ?_
  refine A.cond rfl (fun hc43 => ?_) (fun hc43 => ?_)
  ·have hq10 : q < 10 := by simp at hc43; omega
   refine A.skip ?_
   refine EN ?_
   refine A.seq ?_
   refine A.block ?_
   refine GS ?_
   refine TN 0 ?_
   refine RN ?_
   refine ⟨_, _, eff_alloc (n := 182) (d := 9) (k := 1000009) zero158 (by decide), fun b9 hb9 => ?_⟩
   have hBb9 := hb9.1
   have hlt_b6_b9 : b6 < b9 := hb9.2 1000006 _ _ _ rfl
   refine TL ?_
   refine RN ?_
   refine A.seq ?_
   refine GS ?_
   refine TL ?_
   refine RA rfl ?_
   refine RN ?_
   refine A.block ?_
   refine A.loop (ι := Nat) (fun r => r ≤ 4) (fun r => [(2, .v (.pointer (some ⟨b2, 0, none⟩))), (4, .v (.pointer (some ⟨b4, 0, none⟩))), (5, .v (.pointer (some ⟨b5, 0, none⟩))), (6, .v (.pointer (some ⟨b6, 0, none⟩))), (1000002, blk b2 154 (rowV 176 (s))), (1000004, blk b4 22 (List.replicate 16 (.int .u8 0))), (1000005, blk b5 156 subV), (8, .v (nI (q + 1))), (10, .v (nI r)), (1000006, blk b6 158 (rowV 16 (aesT (rst s f q)))), (9, .v (.pointer (some ⟨b9, 0, none⟩))), (1000009, blk b9 158 (rowV 16 (aesN1 (rst s f q) (4 * r))))]) (fun r => 4 - r) 0 ?_ ?_ ?_
   ·exact Nat.zero_le _
   ·exact (KC 2 rfl (KC 4 rfl (KC 5 rfl (KC 6 rfl (KC 1000002 rfl (KC 1000004 rfl (KC 1000005 rfl (KC 8 rfl (KC 10 rfl (KC 1000006 rfl (KC 9 rfl (KE 1000009 rfl (congrArg _ (aesN1_zero _)) KN))))))))))))
   intro r hr
   refine A.seq ?_
   refine GS ?_
   refine TL ?_
   refine RM rfl ?_
   refine RB rfl rfl rfl ?_
   refine RN ?_
   refine A.cond rfl (fun hc47 => ?_) (fun hc47 => ?_)
   ·have hr4 : r < 4 := by simp at hc47; omega
    refine A.skip ?_
    refine EN ?_
    refine A.seq ?_
    refine A.block ?_
    refine GS ?_
    refine TL ?_
    refine RA rfl ?_
    refine RN ?_
    refine A.block ?_
    refine A.loop (ι := Nat) (fun c => c ≤ 4) (fun c => [(2, .v (.pointer (some ⟨b2, 0, none⟩))), (4, .v (.pointer (some ⟨b4, 0, none⟩))), (5, .v (.pointer (some ⟨b5, 0, none⟩))), (6, .v (.pointer (some ⟨b6, 0, none⟩))), (1000002, blk b2 154 (rowV 176 (s))), (1000004, blk b4 22 (List.replicate 16 (.int .u8 0))), (1000005, blk b5 156 subV), (8, .v (nI (q + 1))), (10, .v (nI r)), (11, .v (nI c)), (1000006, blk b6 158 (rowV 16 (aesT (rst s f q)))), (9, .v (.pointer (some ⟨b9, 0, none⟩))), (1000009, blk b9 158 (rowV 16 (aesN1 (rst s f q) (4 * r + c))))]) (fun c => 4 - c) 0 ?_ ?_ ?_
    ·exact Nat.zero_le _
    ·exact (KC 2 rfl (KC 4 rfl (KC 5 rfl (KC 6 rfl (KC 1000002 rfl (KC 1000004 rfl (KC 1000005 rfl (KC 8 rfl (KC 10 rfl (KC 11 rfl (KC 1000006 rfl (KC 9 rfl (KC 1000009 rfl KN)))))))))))))
    intro c hc
    refine A.seq ?_
    refine GS ?_
    refine TL ?_
    refine RM rfl ?_
    refine RB rfl rfl rfl ?_
    refine RN ?_
    refine A.cond rfl (fun hc51 => ?_) (fun hc51 => ?_)
    ·have hc4 : c < 4 := by simp at hc51; omega
     refine A.skip ?_
     refine EN ?_
     refine A.seq ?_
     refine A.block ?_
     refine A.reg (by kernel_rfl) (by kernel_rfl) (.inr (by kernel_rfl)) ?_
     refine TD 14 ?_
     refine RM rfl ?_
     refine RM rfl ?_
     refine RM rfl ?_
     refine RM rfl ?_
     refine RM rfl ?_
     refine RBS rfl rfl rfl (nI (c + r)) (by rw [wrap_i64 (by omega) (by omega)]; exact congrArg (Value.int .i64) (by omega)) ?_
     refine RS (ok_rem rfl rfl (by decide)) ?_; refine RZ (nI ((c + r) % 4)) (by rw [tmod_lit _ (by decide)]; rfl) ?_
     refine RS (ok_indexN _ Tryz.underlying158 size137 rfl rfl (rfl) (by omega)) ?_
     refine RS (ok_indexA _ Tryz.underlying137 info5 rfl rfl (rfl) (by omega)) ?_
     refine RS (ok_loadV (s := 1000006) (by decide) Tryz.underlying5 rfl rfl rfl (rowV_get (by omega))) ?_; refine RZ (nB (rst s f q (4 * ((c + r) % 4) + r))) (v8 (congrArg (rst s f q) (by omega))) ?_
     refine RS (ok_index0 _ Tryz.underlying156 info5 rfl rfl (rfl) (rst_by hs hf _ _)) ?_
     refine RS (ok_loadV (s := 1000005) (by decide) Tryz.underlying5 rfl rfl rfl (subV_get (rst_by hs hf _ _))) ?_; refine RZ (nB (sub8 (rst s f q (4 * ((c + r) % 4) + r)))) (v8 (by rfl)) ?_
     refine RS (ok_indexN _ Tryz.underlying158 size137 rfl rfl (rfl) (by omega)) ?_
     refine RS (ok_indexA _ Tryz.underlying137 info5 rfl rfl (rfl) (by omega)) ?_
     refine RN ?_
     refine ⟨_, eff_storeS (n := 182) (s := 1000009) info5 rfl rfl rfl hBb9 rfl (by first | (simp only [rowV_length]; omega) | (simp only [List.length_set, rowV_length]; omega)) (LV 2 rfl (LV 4 rfl (LV 5 rfl (LV 6 rfl (LV 8 rfl (LV 9 rfl (LV 10 rfl (LV 11 rfl (LT 1000002 rfl (LT 1000004 rfl (LT 1000005 rfl (LB 1000006 rfl LN)))))))))))), ?_⟩
     refine TL ?_
     refine RN ?_
     refine End.normal_block ?_
     refine EN ?_
     refine GE ?_
     refine TL ?_
     refine RM rfl ?_
     refine RBS rfl rfl rfl (nI (c + 1)) (by rw [wrap_i64 (by omega) (by omega)]; exact congrArg (Value.int .i64) (by omega)) ?_
     refine RA rfl ?_
     refine RN ?_
     refine End.normal_then ?_
     refine End.again (c + 1) ?_ ?_ ?_
     ·show _ ≤ _; omega
     ·show _ - _ < _ - _; omega
     ·exact (KC 2 rfl (KC 4 rfl (KC 5 rfl (KC 6 rfl (KC 1000002 rfl (KC 1000004 rfl (KC 1000005 rfl (KC 8 rfl (KC 10 rfl (KC 11 rfl (KC 1000006 rfl (KC 9 rfl (KE 1000009 rfl (congrArg _ (aesN1_set hr4 hc4 (by omega) rfl)) KN)))))))))))))
    ·obtain rfl : c = 4 := by simp at hc51; omega
     refine A.exit ?_
     refine End.exit_then ?_
     refine End.exit_then ?_
     refine End.exit_here ?_
     refine End.normal_block ?_
     refine EN ?_
     refine GE ?_
     refine TL ?_
     refine RM rfl ?_
     refine RBS rfl rfl rfl (nI (r + 1)) (by rw [wrap_i64 (by omega) (by omega)]; exact congrArg (Value.int .i64) (by omega)) ?_
     refine RA rfl ?_
     refine RN ?_
     refine End.normal_then ?_
     refine End.again (r + 1) ?_ ?_ ?_
     ·show _ ≤ _; omega
     ·show _ - _ < _ - _; omega
     ·exact (KC 2 rfl (KC 4 rfl (KC 5 rfl (KC 6 rfl (KC 1000002 rfl (KC 1000004 rfl (KC 1000005 rfl (KC 8 rfl (KC 10 rfl (KC 1000006 rfl (KC 9 rfl (KE 1000009 rfl (by rw [show 4 * (r + 1) = 4 * r + 4 from by omega]) KN))))))))))))
   ·obtain rfl : r = 4 := by simp at hc47; omega
    refine A.exit ?_
    refine End.exit_then ?_
    refine End.exit_then ?_
    refine End.exit_here ?_
    refine EN ?_
    refine GS ?_
    refine TL ?_
    refine RA rfl ?_
    refine RN ?_
    refine A.block ?_
    refine A.loop (ι := Nat) (fun c => c ≤ 4) (fun c => [(2, .v (.pointer (some ⟨b2, 0, none⟩))), (4, .v (.pointer (some ⟨b4, 0, none⟩))), (5, .v (.pointer (some ⟨b5, 0, none⟩))), (6, .v (.pointer (some ⟨b6, 0, none⟩))), (1000002, blk b2 154 (rowV 176 (s))), (1000004, blk b4 22 (List.replicate 16 (.int .u8 0))), (1000005, blk b5 156 subV), (8, .v (nI (q + 1))), (12, .v (nI c)), (1000006, blk b6 158 (rowV 16 (aesM2 (rst s f q) (rst s f (q + 1)) c 0))), (9, .v (.pointer (some ⟨b9, 0, none⟩))), (1000009, blk b9 158 (rowV 16 (aesN2 (rst s f q) q c)))]) (fun c => 4 - c) 0 ?_ ?_ ?_
    ·exact Nat.zero_le _
    ·exact (KC 2 rfl (KC 4 rfl (KC 5 rfl (KC 6 rfl (KC 1000002 rfl (KC 1000004 rfl (KC 1000005 rfl (KC 8 rfl (KC 12 rfl (KE 1000006 rfl (congrArg _ (aesM2_zero _ _)) (KC 9 rfl (KE 1000009 rfl (congrArg _ (aesN1_full _ q)) KN))))))))))))
    intro c hc
    refine A.seq ?_
    refine GS ?_
    refine TL ?_
    refine RM rfl ?_
    refine RB rfl rfl rfl ?_
    refine RN ?_
    refine A.cond rfl (fun hc69 => ?_) (fun hc69 => ?_)
    ·have hc4 : c < 4 := by simp at hc69; omega
     refine A.skip ?_
     refine EN ?_
     refine A.seq ?_
     refine A.block ?_
     refine GD ?_
     refine TL ?_
     refine RM rfl ?_
     refine RS (ok_indexN (0) Tryz.underlying158 size137 rfl rfl (rfl) (by decide)) ?_
     refine RS (ok_indexA _ Tryz.underlying137 info5 rfl rfl (rfl) (by omega)) ?_
     refine RS (ok_loadV (s := 1000009) (by decide) Tryz.underlying5 rfl rfl rfl (rowV_get (by omega))) ?_; refine RZ (nB (aesG (rst s f q) (4 * c + 0))) (v8 (aesN2_get hc4 (by decide) (by omega))) ?_
     refine RM rfl ?_
     refine RS (ok_indexN (1) Tryz.underlying158 size137 rfl rfl (rfl) (by decide)) ?_
     refine RS (ok_indexA _ Tryz.underlying137 info5 rfl rfl (rfl) (by omega)) ?_
     refine RS (ok_loadV (s := 1000009) (by decide) Tryz.underlying5 rfl rfl rfl (rowV_get (by omega))) ?_; refine RZ (nB (aesG (rst s f q) (4 * c + 1))) (v8 (aesN2_get hc4 (by decide) (by omega))) ?_
     refine RM rfl ?_
     refine RS (ok_indexN (2) Tryz.underlying158 size137 rfl rfl (rfl) (by decide)) ?_
     refine RS (ok_indexA _ Tryz.underlying137 info5 rfl rfl (rfl) (by omega)) ?_
     refine RS (ok_loadV (s := 1000009) (by decide) Tryz.underlying5 rfl rfl rfl (rowV_get (by omega))) ?_; refine RZ (nB (aesG (rst s f q) (4 * c + 2))) (v8 (aesN2_get hc4 (by decide) (by omega))) ?_
     refine RM rfl ?_
     refine RS (ok_indexN (3) Tryz.underlying158 size137 rfl rfl (rfl) (by decide)) ?_
     refine RS (ok_indexA _ Tryz.underlying137 info5 rfl rfl (rfl) (by omega)) ?_
     refine RS (ok_loadV (s := 1000009) (by decide) Tryz.underlying5 rfl rfl rfl (rowV_get (by omega))) ?_; refine RZ (nB (aesG (rst s f q) (4 * c + 3))) (v8 (aesN2_get hc4 (by decide) (by omega))) ?_
     refine RA rfl ?_
     refine RA rfl ?_
     refine RA rfl ?_
     refine RA rfl ?_
     refine RN ?_
     refine A.seq ?_
     refine GS ?_
     refine TL ?_
     refine RM rfl ?_
     refine RB rfl rfl rfl ?_
     refine RN ?_
     refine A.cond rfl (fun hc89 => ?_) (fun hc89 => ?_)
     ·have hq9 : q < 9 := by simp at hc89; omega
      refine GS ?_
      refine TF 14 ?_
      refine RM rfl ?_
      refine RM rfl ?_
      refine RS (ok_call (refDouble_fn (aesG (rst s f q) (4 * c + 0)) (aesG_by _ _)) (A1 rfl)) ?_
      refine RM rfl ?_
      refine RS (ok_call (refDouble_fn (aesG (rst s f q) (4 * c + 1)) (aesG_by _ _)) (A1 rfl)) ?_
      refine RBS rfl rfl rfl (nB (gm 2 (aesG (rst s f q) (4 * c + 0)) ^^^ gm 2 (aesG (rst s f q) (4 * c + 1)))) (by rw [show IntKind.u8.bits = 8 from rfl, xor_u8N (gm_lt _ (by decide)) (gm_lt _ (by decide))]) ?_
      refine RM rfl ?_
      refine RBS rfl rfl rfl (nB (gm 2 (aesG (rst s f q) (4 * c + 0)) ^^^ gm 2 (aesG (rst s f q) (4 * c + 1)) ^^^ aesG (rst s f q) (4 * c + 1))) (by rw [show IntKind.u8.bits = 8 from rfl, xor_u8N (xor_lt _ _ (gm_lt _ (by decide)) (gm_lt _ (by decide))) (aesG_by _ _)]) ?_
      refine RM rfl ?_
      refine RBS rfl rfl rfl (nB (gm 2 (aesG (rst s f q) (4 * c + 0)) ^^^ gm 2 (aesG (rst s f q) (4 * c + 1)) ^^^ aesG (rst s f q) (4 * c + 1) ^^^ aesG (rst s f q) (4 * c + 2))) (by rw [show IntKind.u8.bits = 8 from rfl, xor_u8N (xor_lt _ _ (xor_lt _ _ (gm_lt _ (by decide)) (gm_lt _ (by decide))) (aesG_by _ _)) (aesG_by _ _)]) ?_
      refine RM rfl ?_
      refine RBS rfl rfl rfl (nB (mixS (aesG (rst s f q)) (4 * c + 0))) (by rw [show IntKind.u8.bits = 8 from rfl, xor_u8N (xor_lt _ _ (xor_lt _ _ (xor_lt _ _ (gm_lt _ (by decide)) (gm_lt _ (by decide))) (aesG_by _ _)) (aesG_by _ _)) (aesG_by _ _), mix0 (aesG (rst s f q)) c]) ?_
      refine RS (ok_indexN (0) Tryz.underlying158 size137 rfl rfl (rfl) (by decide)) ?_
      refine RS (ok_indexA _ Tryz.underlying137 info5 rfl rfl (rfl) (by omega)) ?_
      refine RN ?_
      refine ⟨_, eff_storeS (n := 182) (s := 1000009) info5 rfl rfl rfl hBb9 rfl (by first | (simp only [rowV_length]; omega) | (simp only [List.length_set, rowV_length]; omega)) (LV 2 rfl (LV 4 rfl (LV 5 rfl (LV 6 rfl (LV 8 rfl (LV 9 rfl (LV 12 rfl (LV 13 rfl (LV 14 rfl (LV 15 rfl (LV 16 rfl (LT 1000002 rfl (LT 1000004 rfl (LT 1000005 rfl (LB 1000006 rfl LN))))))))))))))), ?_⟩
      refine TL ?_
      refine RN ?_
      refine A.sub (KC 2 rfl (KC 4 rfl (KC 5 rfl (KC 6 rfl (KC 8 rfl (KC 9 rfl (KC 12 rfl (KC 13 rfl (KC 14 rfl (KC 15 rfl (KC 16 rfl (KC 1000002 rfl (KC 1000004 rfl (KC 1000005 rfl (KC 1000006 rfl (KC 1000009 rfl KN)))))))))))))))) ?_
      refine GS ?_
      refine TF 14 ?_
      refine RM rfl ?_
      refine RM rfl ?_
      refine RM rfl ?_
      refine RS (ok_call (refDouble_fn (aesG (rst s f q) (4 * c + 1)) (aesG_by _ _)) (A1 rfl)) ?_
      refine RBS rfl rfl rfl (nB (aesG (rst s f q) (4 * c + 0) ^^^ gm 2 (aesG (rst s f q) (4 * c + 1)))) (by rw [show IntKind.u8.bits = 8 from rfl, xor_u8N (aesG_by _ _) (gm_lt _ (by decide))]) ?_
      refine RM rfl ?_
      refine RS (ok_call (refDouble_fn (aesG (rst s f q) (4 * c + 2)) (aesG_by _ _)) (A1 rfl)) ?_
      refine RBS rfl rfl rfl (nB (aesG (rst s f q) (4 * c + 0) ^^^ gm 2 (aesG (rst s f q) (4 * c + 1)) ^^^ gm 2 (aesG (rst s f q) (4 * c + 2)))) (by rw [show IntKind.u8.bits = 8 from rfl, xor_u8N (xor_lt _ _ (aesG_by _ _) (gm_lt _ (by decide))) (gm_lt _ (by decide))]) ?_
      refine RM rfl ?_
      refine RBS rfl rfl rfl (nB (aesG (rst s f q) (4 * c + 0) ^^^ gm 2 (aesG (rst s f q) (4 * c + 1)) ^^^ gm 2 (aesG (rst s f q) (4 * c + 2)) ^^^ aesG (rst s f q) (4 * c + 2))) (by rw [show IntKind.u8.bits = 8 from rfl, xor_u8N (xor_lt _ _ (xor_lt _ _ (aesG_by _ _) (gm_lt _ (by decide))) (gm_lt _ (by decide))) (aesG_by _ _)]) ?_
      refine RM rfl ?_
      refine RBS rfl rfl rfl (nB (mixS (aesG (rst s f q)) (4 * c + 1))) (by rw [show IntKind.u8.bits = 8 from rfl, xor_u8N (xor_lt _ _ (xor_lt _ _ (xor_lt _ _ (aesG_by _ _) (gm_lt _ (by decide))) (gm_lt _ (by decide))) (aesG_by _ _)) (aesG_by _ _), mix1 (aesG (rst s f q)) c]) ?_
      refine RS (ok_indexN (1) Tryz.underlying158 size137 rfl rfl (rfl) (by decide)) ?_
      refine RS (ok_indexA _ Tryz.underlying137 info5 rfl rfl (rfl) (by omega)) ?_
      refine RN ?_
      refine ⟨_, eff_storeS (n := 182) (s := 1000009) info5 rfl rfl rfl hBb9 rfl (by first | (simp only [rowV_length]; omega) | (simp only [List.length_set, rowV_length]; omega)) (LV 2 rfl (LV 4 rfl (LV 5 rfl (LV 6 rfl (LV 8 rfl (LV 9 rfl (LV 12 rfl (LV 13 rfl (LV 14 rfl (LV 15 rfl (LV 16 rfl (LT 1000002 rfl (LT 1000004 rfl (LT 1000005 rfl (LB 1000006 rfl LN))))))))))))))), ?_⟩
      refine TL ?_
      refine RN ?_
      refine GS ?_
      refine TF 14 ?_
      refine RM rfl ?_
      refine RM rfl ?_
      refine RM rfl ?_
      refine RBS rfl rfl rfl (nB (aesG (rst s f q) (4 * c + 0) ^^^ aesG (rst s f q) (4 * c + 1))) (by rw [show IntKind.u8.bits = 8 from rfl, xor_u8N (aesG_by _ _) (aesG_by _ _)]) ?_
      refine RM rfl ?_
      refine RS (ok_call (refDouble_fn (aesG (rst s f q) (4 * c + 2)) (aesG_by _ _)) (A1 rfl)) ?_
      refine RBS rfl rfl rfl (nB (aesG (rst s f q) (4 * c + 0) ^^^ aesG (rst s f q) (4 * c + 1) ^^^ gm 2 (aesG (rst s f q) (4 * c + 2)))) (by rw [show IntKind.u8.bits = 8 from rfl, xor_u8N (xor_lt _ _ (aesG_by _ _) (aesG_by _ _)) (gm_lt _ (by decide))]) ?_
      refine RM rfl ?_
      refine RS (ok_call (refDouble_fn (aesG (rst s f q) (4 * c + 3)) (aesG_by _ _)) (A1 rfl)) ?_
      refine RBS rfl rfl rfl (nB (aesG (rst s f q) (4 * c + 0) ^^^ aesG (rst s f q) (4 * c + 1) ^^^ gm 2 (aesG (rst s f q) (4 * c + 2)) ^^^ gm 2 (aesG (rst s f q) (4 * c + 3)))) (by rw [show IntKind.u8.bits = 8 from rfl, xor_u8N (xor_lt _ _ (xor_lt _ _ (aesG_by _ _) (aesG_by _ _)) (gm_lt _ (by decide))) (gm_lt _ (by decide))]) ?_
      refine RM rfl ?_
      refine RBS rfl rfl rfl (nB (mixS (aesG (rst s f q)) (4 * c + 2))) (by rw [show IntKind.u8.bits = 8 from rfl, xor_u8N (xor_lt _ _ (xor_lt _ _ (xor_lt _ _ (aesG_by _ _) (aesG_by _ _)) (gm_lt _ (by decide))) (gm_lt _ (by decide))) (aesG_by _ _), mix2 (aesG (rst s f q)) c]) ?_
      refine RS (ok_indexN (2) Tryz.underlying158 size137 rfl rfl (rfl) (by decide)) ?_
      refine RS (ok_indexA _ Tryz.underlying137 info5 rfl rfl (rfl) (by omega)) ?_
      refine RN ?_
      refine ⟨_, eff_storeS (n := 182) (s := 1000009) info5 rfl rfl rfl hBb9 rfl (by first | (simp only [rowV_length]; omega) | (simp only [List.length_set, rowV_length]; omega)) (LV 2 rfl (LV 4 rfl (LV 5 rfl (LV 6 rfl (LV 8 rfl (LV 9 rfl (LV 12 rfl (LV 13 rfl (LV 14 rfl (LV 15 rfl (LV 16 rfl (LT 1000002 rfl (LT 1000004 rfl (LT 1000005 rfl (LB 1000006 rfl LN))))))))))))))), ?_⟩
      refine TL ?_
      refine RN ?_
      refine A.sub (KC 2 rfl (KC 4 rfl (KC 5 rfl (KC 6 rfl (KC 8 rfl (KC 9 rfl (KC 12 rfl (KC 13 rfl (KC 14 rfl (KC 15 rfl (KC 16 rfl (KC 1000002 rfl (KC 1000004 rfl (KC 1000005 rfl (KC 1000006 rfl (KC 1000009 rfl KN)))))))))))))))) ?_
      refine GE ?_
      refine TF 14 ?_
      refine RM rfl ?_
      refine RM rfl ?_
      refine RS (ok_call (refDouble_fn (aesG (rst s f q) (4 * c + 0)) (aesG_by _ _)) (A1 rfl)) ?_
      refine RM rfl ?_
      refine RBS rfl rfl rfl (nB (gm 2 (aesG (rst s f q) (4 * c + 0)) ^^^ aesG (rst s f q) (4 * c + 0))) (by rw [show IntKind.u8.bits = 8 from rfl, xor_u8N (gm_lt _ (by decide)) (aesG_by _ _)]) ?_
      refine RM rfl ?_
      refine RBS rfl rfl rfl (nB (gm 2 (aesG (rst s f q) (4 * c + 0)) ^^^ aesG (rst s f q) (4 * c + 0) ^^^ aesG (rst s f q) (4 * c + 1))) (by rw [show IntKind.u8.bits = 8 from rfl, xor_u8N (xor_lt _ _ (gm_lt _ (by decide)) (aesG_by _ _)) (aesG_by _ _)]) ?_
      refine RM rfl ?_
      refine RBS rfl rfl rfl (nB (gm 2 (aesG (rst s f q) (4 * c + 0)) ^^^ aesG (rst s f q) (4 * c + 0) ^^^ aesG (rst s f q) (4 * c + 1) ^^^ aesG (rst s f q) (4 * c + 2))) (by rw [show IntKind.u8.bits = 8 from rfl, xor_u8N (xor_lt _ _ (xor_lt _ _ (gm_lt _ (by decide)) (aesG_by _ _)) (aesG_by _ _)) (aesG_by _ _)]) ?_
      refine RM rfl ?_
      refine RS (ok_call (refDouble_fn (aesG (rst s f q) (4 * c + 3)) (aesG_by _ _)) (A1 rfl)) ?_
      refine RBS rfl rfl rfl (nB (mixS (aesG (rst s f q)) (4 * c + 3))) (by rw [show IntKind.u8.bits = 8 from rfl, xor_u8N (xor_lt _ _ (xor_lt _ _ (xor_lt _ _ (gm_lt _ (by decide)) (aesG_by _ _)) (aesG_by _ _)) (aesG_by _ _)) (gm_lt _ (by decide)), mix3 (aesG (rst s f q)) c]) ?_
      refine RS (ok_indexN (3) Tryz.underlying158 size137 rfl rfl (rfl) (by decide)) ?_
      refine RS (ok_indexA _ Tryz.underlying137 info5 rfl rfl (rfl) (by omega)) ?_
      refine RN ?_
      refine ⟨_, eff_storeS (n := 182) (s := 1000009) info5 rfl rfl rfl hBb9 rfl (by first | (simp only [rowV_length]; omega) | (simp only [List.length_set, rowV_length]; omega)) (LV 2 rfl (LV 4 rfl (LV 5 rfl (LV 6 rfl (LV 8 rfl (LV 9 rfl (LV 12 rfl (LT 1000002 rfl (LT 1000004 rfl (LT 1000005 rfl (LB 1000006 rfl LN))))))))))), ?_⟩
      refine TL ?_
      refine RN ?_
      refine End.sub (KC 2 rfl (KC 4 rfl (KC 5 rfl (KC 6 rfl (KC 8 rfl (KC 9 rfl (KC 12 rfl (KC 1000002 rfl (KC 1000004 rfl (KC 1000005 rfl (KC 1000006 rfl (KE 1000009 rfl (show blk b9 158 _ = blk b9 158 (rowV 16 (aesN2 (rst s f q) q (c + 1))) from congrArg _ (aesN2_four hq9 hc4 (by omega) (by omega) (by omega) (by omega) rfl rfl rfl rfl)) KN)))))))))))) ?_
      refine EN ?_
      refine GS ?_
      refine TL ?_
      refine RA rfl ?_
      refine RN ?_
      refine A.block ?_
      refine A.loop (ι := Nat) (fun r => r ≤ 4) (fun r => [(2, .v (.pointer (some ⟨b2, 0, none⟩))), (4, .v (.pointer (some ⟨b4, 0, none⟩))), (5, .v (.pointer (some ⟨b5, 0, none⟩))), (6, .v (.pointer (some ⟨b6, 0, none⟩))), (1000002, blk b2 154 (rowV 176 (s))), (1000004, blk b4 22 (List.replicate 16 (.int .u8 0))), (1000005, blk b5 156 subV), (8, .v (nI (q + 1))), (12, .v (nI c)), (17, .v (nI r)), (1000006, blk b6 158 (rowV 16 (aesM2 (rst s f q) (rst s f (q + 1)) c r))), (9, .v (.pointer (some ⟨b9, 0, none⟩))), (1000009, blk b9 158 (rowV 16 (aesN2 (rst s f q) q (c + 1))))]) (fun r => 4 - r) 0 ?_ ?_ ?_
      ·exact Nat.zero_le _
      ·exact (KC 2 rfl (KC 4 rfl (KC 5 rfl (KC 6 rfl (KC 1000002 rfl (KC 1000004 rfl (KC 1000005 rfl (KC 8 rfl (KC 12 rfl (KC 17 rfl (KC 1000006 rfl (KC 9 rfl (KE 1000009 rfl (by first | rfl | exact congrArg _ (aesN2_skip _ c hq9)) KN)))))))))))))
      intro r hr
      refine A.seq ?_
      refine GS ?_
      refine TL ?_
      refine RM rfl ?_
      refine RB rfl rfl rfl ?_
      refine RN ?_
      refine A.cond rfl (fun hc147 => ?_) (fun hc147 => ?_)
      ·have hr4 : r < 4 := by simp at hc147; omega
       refine A.skip ?_
       refine EN ?_
       refine A.seq ?_
       refine A.block ?_
       refine A.reg (by kernel_rfl) (by kernel_rfl) (.inr (by kernel_rfl)) ?_
       refine TD 18 ?_
       refine RM rfl ?_
       refine RM rfl ?_
       refine RM rfl ?_
       refine RM rfl ?_
       refine RS (ok_indexN _ Tryz.underlying158 size137 rfl rfl (rfl) (by omega)) ?_
       refine RS (ok_indexA _ Tryz.underlying137 info5 rfl rfl (rfl) (by omega)) ?_
       refine RS (ok_loadV (s := 1000009) (by decide) Tryz.underlying5 rfl rfl rfl (rowV_get (by omega))) ?_; refine RZ (nB (aesV (rst s f q) q (4 * c + r))) (v8 (aesN2_val hc4 hr4 (by omega))) ?_
       refine RM rfl ?_
       refine RBS rfl rfl rfl (nI (4 * (q + 1))) (by rw [wrap_i64 (by omega) (by omega)]; exact congrArg (Value.int .i64) (by omega)) ?_
       refine RM rfl ?_
       refine RBS rfl rfl rfl (nI (4 * (q + 1) + c)) (by rw [wrap_i64 (by omega) (by omega)]; exact congrArg (Value.int .i64) (by omega)) ?_
       refine RM rfl ?_
       refine RS (ok_indexN _ Tryz.underlying154 size137 rfl rfl (rfl) (by omega)) ?_
       refine RS (ok_indexA _ Tryz.underlying137 info5 rfl rfl (rfl) (by omega)) ?_
       refine RS (ok_loadV (s := 1000002) (by decide) Tryz.underlying5 rfl rfl rfl (rowV_get (by omega))) ?_; refine RZ (nB (keyS s (q + 1) (4 * c + r))) (v8 (congrArg s (by omega))) ?_
       refine RBS rfl rfl rfl (nB (rst s f (q + 1) (4 * c + r))) (by rw [show IntKind.u8.bits = 8 from rfl, xor_u8N (aesV_by _ _ _) (keyS_by hs _ _), rst_step s f hq10]) ?_
       refine RS (ok_indexN _ Tryz.underlying158 size137 rfl rfl (rfl) (by omega)) ?_
       refine RS (ok_indexA _ Tryz.underlying137 info5 rfl rfl (rfl) (by omega)) ?_
       refine RN ?_
       refine ⟨_, eff_storeS (n := 182) (s := 1000006) info5 rfl rfl rfl hBb6 rfl (by simp only [rowV_length]; omega) (LV 2 rfl (LV 4 rfl (LV 5 rfl (LV 6 rfl (LV 8 rfl (LV 9 rfl (LV 12 rfl (LV 17 rfl (LT 1000002 rfl (LT 1000004 rfl (LT 1000005 rfl (LB 1000009 rfl LN)))))))))))), ?_⟩
       refine TL ?_
       refine RN ?_
       refine End.normal_block ?_
       refine EN ?_
       refine GE ?_
       refine TL ?_
       refine RM rfl ?_
       refine RBS rfl rfl rfl (nI (r + 1)) (by rw [wrap_i64 (by omega) (by omega)]; exact congrArg (Value.int .i64) (by omega)) ?_
       refine RA rfl ?_
       refine RN ?_
       refine End.normal_then ?_
       refine End.again (r + 1) ?_ ?_ ?_
       ·show _ ≤ _; omega
       ·show _ - _ < _ - _; omega
       ·exact (KC 2 rfl (KC 4 rfl (KC 5 rfl (KC 6 rfl (KC 1000002 rfl (KC 1000004 rfl (KC 1000005 rfl (KC 8 rfl (KC 12 rfl (KC 17 rfl (KE 1000006 rfl (congrArg _ (aesM2_set hr4 hc4 (by omega) rfl)) (KC 9 rfl (KC 1000009 rfl KN)))))))))))))
      ·obtain rfl : r = 4 := by simp at hc147; omega
       refine A.exit ?_
       refine End.exit_then ?_
       refine End.exit_then ?_
       refine End.exit_here ?_
       refine End.normal_block ?_
       refine EN ?_
       refine GE ?_
       refine TL ?_
       refine RM rfl ?_
       refine RBS rfl rfl rfl (nI (c + 1)) (by rw [wrap_i64 (by omega) (by omega)]; exact congrArg (Value.int .i64) (by omega)) ?_
       refine RA rfl ?_
       refine RN ?_
       refine End.normal_then ?_
       refine End.again (c + 1) ?_ ?_ ?_
       ·show _ ≤ _; omega
       ·show _ - _ < _ - _; omega
       ·exact (KC 2 rfl (KC 4 rfl (KC 5 rfl (KC 6 rfl (KC 1000002 rfl (KC 1000004 rfl (KC 1000005 rfl (KC 8 rfl (KC 12 rfl (KE 1000006 rfl (congrArg _ (aesM2_next _ _ c)) (KC 9 rfl (KC 1000009 rfl KN))))))))))))
     ·have hq9 : ¬ q < 9 := by simp at hc89; omega
      refine A.skip ?_
      refine EN ?_
      refine GS ?_
      refine TL ?_
      refine RA rfl ?_
      refine RN ?_
      refine A.sub (KC 2 rfl (KC 4 rfl (KC 5 rfl (KC 6 rfl (KC 8 rfl (KC 9 rfl (KC 12 rfl (KC 17 rfl (KC 1000002 rfl (KC 1000004 rfl (KC 1000005 rfl (KC 1000006 rfl (KC 1000009 rfl KN))))))))))))) ?_
      refine A.block ?_
      refine A.loop (ι := Nat) (fun r => r ≤ 4) (fun r => [(2, .v (.pointer (some ⟨b2, 0, none⟩))), (4, .v (.pointer (some ⟨b4, 0, none⟩))), (5, .v (.pointer (some ⟨b5, 0, none⟩))), (6, .v (.pointer (some ⟨b6, 0, none⟩))), (1000002, blk b2 154 (rowV 176 (s))), (1000004, blk b4 22 (List.replicate 16 (.int .u8 0))), (1000005, blk b5 156 subV), (8, .v (nI (q + 1))), (12, .v (nI c)), (17, .v (nI r)), (1000006, blk b6 158 (rowV 16 (aesM2 (rst s f q) (rst s f (q + 1)) c r))), (9, .v (.pointer (some ⟨b9, 0, none⟩))), (1000009, blk b9 158 (rowV 16 (aesN2 (rst s f q) q (c + 1))))]) (fun r => 4 - r) 0 ?_ ?_ ?_
      ·exact Nat.zero_le _
      ·exact (KC 2 rfl (KC 4 rfl (KC 5 rfl (KC 6 rfl (KC 1000002 rfl (KC 1000004 rfl (KC 1000005 rfl (KC 8 rfl (KC 12 rfl (KC 17 rfl (KC 1000006 rfl (KC 9 rfl (KE 1000009 rfl (by first | rfl | exact congrArg _ (aesN2_skip _ c hq9)) KN)))))))))))))
      intro r hr
      refine A.seq ?_
      refine GS ?_
      refine TL ?_
      refine RM rfl ?_
      refine RB rfl rfl rfl ?_
      refine RN ?_
      refine A.cond rfl (fun hc147 => ?_) (fun hc147 => ?_)
      ·have hr4 : r < 4 := by simp at hc147; omega
       refine A.skip ?_
       refine EN ?_
       refine A.seq ?_
       refine A.block ?_
       refine A.reg (by kernel_rfl) (by kernel_rfl) (.inr (by kernel_rfl)) ?_
       refine TD 18 ?_
       refine RM rfl ?_
       refine RM rfl ?_
       refine RM rfl ?_
       refine RM rfl ?_
       refine RS (ok_indexN _ Tryz.underlying158 size137 rfl rfl (rfl) (by omega)) ?_
       refine RS (ok_indexA _ Tryz.underlying137 info5 rfl rfl (rfl) (by omega)) ?_
       refine RS (ok_loadV (s := 1000009) (by decide) Tryz.underlying5 rfl rfl rfl (rowV_get (by omega))) ?_; refine RZ (nB (aesV (rst s f q) q (4 * c + r))) (v8 (aesN2_val hc4 hr4 (by omega))) ?_
       refine RM rfl ?_
       refine RBS rfl rfl rfl (nI (4 * (q + 1))) (by rw [wrap_i64 (by omega) (by omega)]; exact congrArg (Value.int .i64) (by omega)) ?_
       refine RM rfl ?_
       refine RBS rfl rfl rfl (nI (4 * (q + 1) + c)) (by rw [wrap_i64 (by omega) (by omega)]; exact congrArg (Value.int .i64) (by omega)) ?_
       refine RM rfl ?_
       refine RS (ok_indexN _ Tryz.underlying154 size137 rfl rfl (rfl) (by omega)) ?_
       refine RS (ok_indexA _ Tryz.underlying137 info5 rfl rfl (rfl) (by omega)) ?_
       refine RS (ok_loadV (s := 1000002) (by decide) Tryz.underlying5 rfl rfl rfl (rowV_get (by omega))) ?_; refine RZ (nB (keyS s (q + 1) (4 * c + r))) (v8 (congrArg s (by omega))) ?_
       refine RBS rfl rfl rfl (nB (rst s f (q + 1) (4 * c + r))) (by rw [show IntKind.u8.bits = 8 from rfl, xor_u8N (aesV_by _ _ _) (keyS_by hs _ _), rst_step s f hq10]) ?_
       refine RS (ok_indexN _ Tryz.underlying158 size137 rfl rfl (rfl) (by omega)) ?_
       refine RS (ok_indexA _ Tryz.underlying137 info5 rfl rfl (rfl) (by omega)) ?_
       refine RN ?_
       refine ⟨_, eff_storeS (n := 182) (s := 1000006) info5 rfl rfl rfl hBb6 rfl (by simp only [rowV_length]; omega) (LV 2 rfl (LV 4 rfl (LV 5 rfl (LV 6 rfl (LV 8 rfl (LV 9 rfl (LV 12 rfl (LV 17 rfl (LT 1000002 rfl (LT 1000004 rfl (LT 1000005 rfl (LB 1000009 rfl LN)))))))))))), ?_⟩
       refine TL ?_
       refine RN ?_
       refine End.normal_block ?_
       refine EN ?_
       refine GE ?_
       refine TL ?_
       refine RM rfl ?_
       refine RBS rfl rfl rfl (nI (r + 1)) (by rw [wrap_i64 (by omega) (by omega)]; exact congrArg (Value.int .i64) (by omega)) ?_
       refine RA rfl ?_
       refine RN ?_
       refine End.normal_then ?_
       refine End.again (r + 1) ?_ ?_ ?_
       ·show _ ≤ _; omega
       ·show _ - _ < _ - _; omega
       ·exact (KC 2 rfl (KC 4 rfl (KC 5 rfl (KC 6 rfl (KC 1000002 rfl (KC 1000004 rfl (KC 1000005 rfl (KC 8 rfl (KC 12 rfl (KC 17 rfl (KE 1000006 rfl (congrArg _ (aesM2_set hr4 hc4 (by omega) rfl)) (KC 9 rfl (KC 1000009 rfl KN)))))))))))))
      ·obtain rfl : r = 4 := by simp at hc147; omega
       refine A.exit ?_
       refine End.exit_then ?_
       refine End.exit_then ?_
       refine End.exit_here ?_
       refine End.normal_block ?_
       refine EN ?_
       refine GE ?_
       refine TL ?_
       refine RM rfl ?_
       refine RBS rfl rfl rfl (nI (c + 1)) (by rw [wrap_i64 (by omega) (by omega)]; exact congrArg (Value.int .i64) (by omega)) ?_
       refine RA rfl ?_
       refine RN ?_
       refine End.normal_then ?_
       refine End.again (c + 1) ?_ ?_ ?_
       ·show _ ≤ _; omega
       ·show _ - _ < _ - _; omega
       ·exact (KC 2 rfl (KC 4 rfl (KC 5 rfl (KC 6 rfl (KC 1000002 rfl (KC 1000004 rfl (KC 1000005 rfl (KC 8 rfl (KC 12 rfl (KE 1000006 rfl (congrArg _ (aesM2_next _ _ c)) (KC 9 rfl (KC 1000009 rfl KN))))))))))))
    ·obtain rfl : c = 4 := by simp at hc69; omega
     refine A.exit ?_
     refine End.exit_then ?_
     refine End.exit_then ?_
     refine End.exit_here ?_
     refine End.normal_block ?_
     refine EN ?_
     refine GE ?_
     refine TL ?_
     refine RM rfl ?_
     refine RBS rfl rfl rfl (nI (q + 1 + 1)) (by rw [wrap_i64 (by omega) (by omega)]; exact congrArg (Value.int .i64) (by omega)) ?_
     refine RA rfl ?_
     refine RN ?_
     refine End.normal_then ?_
     refine End.again (q + 1) ?_ ?_ ?_
     ·show _ ≤ _; omega
     ·show _ - _ < _ - _; omega
     ·exact (KC 2 rfl (KC 4 rfl (KC 5 rfl (KC 6 rfl (KC 1000002 rfl (KC 1000004 rfl (KC 1000005 rfl (KC 8 rfl (KE 1000006 rfl (congrArg _ (aesM2_full _ _)) KN)))))))))
  ·obtain rfl : q = 10 := by simp at hc43; omega
   refine A.exit ?_
   refine End.exit_then ?_
   refine End.exit_then ?_
   refine End.exit_here ?_
   refine EN ?_
   refine GS ?_
   refine TN 0 ?_
   refine RN ?_
   refine ⟨_, _, eff_alloc (n := 182) (d := 18) (k := 1000018) zero22 (by decide), fun b18 hb18 => ?_⟩
   have hBb18 := hb18.1
   have hlt_b4_b18 : b4 < b18 := hb18.2 1000004 _ _ _ rfl
   refine TL ?_
   refine RN ?_
   refine A.seq ?_
   refine GS ?_
   refine TL ?_
   refine RA rfl ?_
   refine RN ?_
   refine A.block ?_
   refine A.loop (ι := Nat) (fun i => i ≤ 16) (fun i => [(4, .v (.pointer (some ⟨b4, 0, none⟩))), (6, .v (.pointer (some ⟨b6, 0, none⟩))), (18, .v (.pointer (some ⟨b18, 0, none⟩))), (19, .v (nI i)), (1000004, blk b4 22 (List.replicate 16 (.int .u8 0))), (1000006, blk b6 158 (rowV 16 (aesT (enc s f)))), (1000018, blk b18 22 (rowV 16 (cutF (enc s f) i)))]) (fun i => 16 - i) 0 ?_ ?_ ?_
   ·exact Nat.zero_le _
   ·exact (KC 4 rfl (KC 6 rfl (KC 18 rfl (KC 19 rfl (KC 1000004 rfl (KC 1000006 rfl (KE 1000018 rfl (congrArg _ (cutF_zero 16 _)) KN)))))))
   intro i hi'
   refine A.seq ?_
   refine GS ?_
   refine TL ?_
   refine RM rfl ?_
   refine RB rfl rfl rfl ?_
   refine RN ?_
   refine A.cond rfl (fun hc169 => ?_) (fun hc169 => ?_)
   ·have hi : i < 16 := by simp at hc169; omega
    refine A.skip ?_
    refine EN ?_
    refine A.seq ?_
    refine A.block ?_
    refine GE ?_
    refine TF 9 ?_
    refine RM rfl ?_
    refine RM rfl ?_
    refine RS (ok_rem rfl rfl (by decide)) ?_; refine RZ (nI (i % 4)) (by rw [tmod_lit _ (by decide)]; rfl) ?_
    refine RM rfl ?_
    refine RS (ok_div rfl rfl (by decide)) ?_; refine RZ (nI (i / 4)) (by rw [tdiv_lit _ (by decide), show Int.toNat 4 = 4 from rfl, wrapN_i64 (by omega)]) ?_
    refine RS (ok_indexN _ Tryz.underlying158 size137 rfl rfl (rfl) (by omega)) ?_
    refine RS (ok_indexA _ Tryz.underlying137 info5 rfl rfl (rfl) (by omega)) ?_
    refine RS (ok_loadV (s := 1000006) (by decide) Tryz.underlying5 rfl rfl rfl (rowV_get (by omega))) ?_; refine RZ (nB (enc s f i)) (v8 (congrArg (enc s f) (by omega))) ?_
    refine RS (ok_index0 _ Tryz.underlying22 info5 rfl rfl (rfl) (by omega)) ?_
    refine RN ?_
    refine ⟨_, eff_storeS (n := 182) (s := 1000018) info5 rfl rfl rfl hBb18 rfl (by simp only [rowV_length]; omega) (LV 4 rfl (LV 6 rfl (LV 18 rfl (LV 19 rfl (LB 1000004 rfl (LT 1000006 rfl LN)))))), ?_⟩
    refine TL ?_
    refine RN ?_
    refine End.normal_block ?_
    refine EN ?_
    refine GE ?_
    refine TL ?_
    refine RM rfl ?_
    refine RBS rfl rfl rfl (nI (i + 1)) (by rw [wrap_i64 (by omega) (by omega)]; exact congrArg (Value.int .i64) (by omega)) ?_
    refine RA rfl ?_
    refine RN ?_
    refine End.normal_then ?_
    refine End.again (i + 1) ?_ ?_ ?_
    ·show _ ≤ _; omega
    ·show _ - _ < _ - _; omega
    ·exact (KC 4 rfl (KC 6 rfl (KC 18 rfl (KC 19 rfl (KC 1000004 rfl (KC 1000006 rfl (KE 1000018 rfl (congrArg _ (cutF_set rfl rfl)) KN)))))))
   ·obtain rfl : i = 16 := by simp at hc169; omega
    refine A.exit ?_
    refine End.exit_then ?_
    refine End.exit_then ?_
    refine End.exit_here ?_
    refine EN ?_
    refine GS ?_
    refine TF 1 ?_
    refine RS (ok_loadA (s := 1000018) (by decide) Tryz.underlying22 rfl (size22.of (rowV_length _ _)) rfl rfl) ?_
    refine RN ?_
    refine ⟨_, eff_storeA (n := 182) (s := 1000004) (size22.of (rowV_length _ _)) rfl rfl (rowV_one _ _) hBb4 rfl (by first | (simp only [rowV_length]; done) | simp only [rowV_length, List.length_replicate]) (LV 4 rfl (LT 1000006 rfl (LB 1000018 rfl LN))), ?_⟩
    refine TL ?_
    refine RN ?_
    refine A.ret ?_
    exact End.cell1 (s := 1000004) rfl Tryz.underlying22 rfl (size22.of (rowV_length _ _)) rfl rfl (Le.v (congrArg aggV (cutF_full 16 _)))
theorem refEncrypt_fn (k f : Nat → Nat) (hk : By k) (hf : By f) : Fn Tryz.prog 90 [.v (aggV (rowV 16 (k))), .v (aggV (rowV 16 (f)))] (.v (aggV (rowV 16 (enc (expand k) f)))) := by
 refine Fn.of Tryz.func90 rfl (by kernel_rfl) Tryz.ntmps90 (by simp) (fun w => [(0, .v (aggV (rowV 16 (k)))), (1, .v (aggV (rowV 16 (f))))]) (fun w => (Start.v rfl (Start.v rfl Start.nil))) fun w₀ => ?_
 refine GS ?_
 refine TN 0 ?_
 refine RN ?_
 refine ⟨_, _, eff_box (n := 9) (d := 2) (k := 1000002) rfl (by decide), fun b2 hb2 => ?_⟩
 have hBb2 := hb2.1
 refine TN 1 ?_
 refine RN ?_
 refine ⟨_, _, eff_box (n := 9) (d := 3) (k := 1000003) rfl (by decide), fun b3 hb3 => ?_⟩
 have hBb3 := hb3.1
 have hlt_b2_b3 : b2 < b3 := hb3.2 1000002 _ _ _ rfl
 refine TN 2 ?_
 refine RN ?_
 refine ⟨_, _, eff_alloc (n := 9) (d := 4) (k := 1000004) zero22 (by decide), fun b4 hb4 => ?_⟩
 have hBb4 := hb4.1
 have hlt_b2_b4 : b2 < b4 := hb4.2 1000002 _ _ _ rfl
 have hlt_b3_b4 : b3 < b4 := hb4.2 1000003 _ _ _ rfl
 refine TL ?_
 refine RN ?_
 refine GD ?_
 refine TD 4 ?_
 refine RS (ok_loadA (s := 1000002) (by decide) Tryz.underlying22 rfl (size22.of (rowV_length _ _)) rfl rfl) ?_
 refine RS (ok_call (refExpand_fn k hk) (Args.cons rfl LA Args.nil)) ?_
 refine RS (ok_loadA (s := 1000003) (by decide) Tryz.underlying22 rfl (size22.of (rowV_length _ _)) rfl rfl) ?_
 refine RS (ok_call (refRounds_fn (expand k) f (expand_lt hk) hf) (Args.cons rfl LA (Args.cons rfl LA Args.nil))) ?_
 refine RN ?_
 refine ⟨_, eff_storeA (n := 9) (s := 1000004) (size22.of (rowV_length _ _)) rfl rfl (rowV_one _ _) hBb4 rfl (by first | (simp only [rowV_length]; done) | simp only [rowV_length, List.length_replicate]) (LV 4 rfl (LB 1000002 rfl (LB 1000003 rfl LN))), ?_⟩
 refine TL ?_
 refine RN ?_
 refine A.ret ?_
 exact End.cell1 (s := 1000004) rfl Tryz.underlying22 rfl (size22.of (rowV_length _ _)) rfl rfl (Le.refl _)
end Go.Proofs.YthadcgkcgpinhaaGreatDoor
namespace Go.Proofs.YthadcgkcgpinhaaGreatDoor
open Go Go.RowKit
set_option linter.unusedVariables false
set_option maxRecDepth 20000

theorem info1 : InfoIs Tryz.prog 1 (.nilFunc) 8 := by unfold InfoIs; kernel_rfl
theorem add_fnW (g : Nat) (f k : Nat → Nat) (hf : By f) (hk : By k) : FnW Tryz.prog 66 [] 115 g (rowV 16 (f)) (rowV 16 (addS f k)) ([ptr g, aggV (rowV 16 k)].map D.v) := by
 refine FnW.of (n := 21) (kb := 1000080) (kw := 1000081) Tryz.func66 rfl (by kernel_rfl) Tryz.ntmps66 (by simp) (by decide) (fun p hp => by cases hp) (by decide) (by decide) [(0, .v (ptr g)), (1, .v (aggV (rowV 16 k)))]
  (fun p hp => by simp only [List.mem_cons, List.not_mem_nil, or_false] at hp; rcases hp with rfl | rfl <;> exact ⟨_, rfl, rfl⟩) fun w₀ w₁ hw hM => ?_
 have hBg : w₀.heap.size ≤ g := Nat.le_of_eq hw
 refine GS ?_
 refine TN 0 ?_
 refine RN ?_
 refine ⟨_, _, eff_box (n := 21) (d := 3) (k := 1000003) rfl (by decide), fun b3 hb3 => ?_⟩
 have hBb3 := hb3.1
 refine TL ?_
 refine RN ?_
 refine GS ?_
 refine TL ?_
 refine RS (ok_loadA (s := 1000003) (by decide) Tryz.underlying22 rfl (size22.of (rfl)) rfl rfl) ?_
 refine RM rfl ?_
 refine RN ?_
 refine A.block ?_
 refine A.loop (ι := Nat) (fun i => i ≤ 16) (fun i => [(0, .v (ptr g)), (6, .v (aggV (rowV 16 k))), (7, .v (nI i)), (1000080, blk g 115 (rowV 16 (mid f (addS f k) i))), (1000081, wroteD 115 g w₁)]) (fun i => 16 - i) 0 ?_ ?_ ?_
 ·exact Nat.zero_le _
 ·exact (KC 0 rfl (KC 6 rfl (KC 7 rfl (KE 1000080 rfl (congrArg _ (mid_zero 16 f _)) (KC 1000081 rfl KN)))))
 intro i hi'
 refine GS ?_
 refine TL ?_
 refine RB rfl rfl rfl ?_
 refine RN ?_
 refine A.seq ?_
 refine A.cond rfl (fun hc8 => ?_) (fun hc8 => ?_)
 ·have hi : i < 16 := by simp at hc8; omega
  refine A.skip ?_
  refine EN ?_
  refine A.seq ?_
  refine A.block ?_
  refine GS ?_
  refine TL ?_
  refine RM rfl ?_
  refine RS (ok_indexV1 i Tryz.underlying22 Tryz.underlying5 rfl info5 rfl rfl rfl (by omega) (rowV_get (by omega))) ?_
  refine RA rfl ?_
  refine RA rfl ?_
  refine RN ?_
  refine A.reg (by kernel_rfl) (by kernel_rfl) (.inr (by kernel_rfl)) ?_
  refine TD 9 ?_
  refine RM rfl ?_
  refine RM rfl ?_
  refine RS (ok_nilCheck rfl) ?_
  refine RS (ok_index0 _ Tryz.underlying115 info5 rfl rfl (rfl) (by omega)) ?_
  refine RS (ok_loadV (s := 1000080) (by decide) Tryz.underlying5 rfl rfl rfl (rowV_get (by omega))) ?_; refine RZ (nB (f i)) (v8 (mid_at f _ i)) ?_
  refine RM rfl ?_
  refine RBS rfl rfl rfl (nB (addS f k i)) (by rw [show IntKind.u8.bits = 8 from rfl, xor_u8N (hf _) (hk _), show f i ^^^ k i = addS f k i from rfl]) ?_
  refine RS (ok_nilCheck rfl) ?_
  refine RS (ok_index0 _ Tryz.underlying115 info5 rfl rfl (rfl) (by omega)) ?_
  refine RN ?_
  refine ⟨_, eff_storeS (n := 21) (s := 1000080) info5 rfl rfl rfl hBg rfl (by simp only [rowV_length]; omega) (LV 0 rfl (LV 6 rfl (LV 7 rfl (LeftS.cons (t := 1000081) rfl (Surv.wrote) LN)))), ?_⟩
  refine TL ?_
  refine RN ?_
  refine End.normal_block ?_
  refine EN ?_
  refine GE ?_
  refine TL ?_
  refine RBS rfl rfl rfl (nI (i + 1)) (by rw [wrap_i64 (by omega) (by omega)]; exact congrArg (Value.int .i64) (by omega)) ?_
  refine RM rfl ?_
  refine RN ?_
  refine End.normal_then ?_
  refine End.again (i + 1) ?_ ?_ ?_
  ·show _ ≤ _; omega
  ·show _ - _ < _ - _; omega
  ·exact (KC 0 rfl (KC 6 rfl (KC 7 rfl (KE 1000080 rfl (congrArg _ (mid_set rfl rfl)) (KC 1000081 rfl KN)))))
 ·obtain rfl : i = 16 := by simp at hc8; omega
  refine A.exit ?_
  refine End.exit_then ?_
  refine End.exit_then ?_
  refine End.exit_here ?_
  exact End.wrote (kb := 1000080) (kw := 1000081) rfl rfl (mid_full 16 _ _) rfl
theorem substitute_fnW (g : Nat) (f : Nat → Nat) (hf : By f) : FnW Tryz.prog 68 [] 115 g (rowV 16 (f)) (rowV 16 (subS f)) ([ptr g].map D.v) := by
 refine FnW.of (n := 18) (kb := 1000080) (kw := 1000081) Tryz.func68 rfl (by kernel_rfl) Tryz.ntmps68 (by simp) (by decide) (fun p hp => by cases hp) (by decide) (by decide) [(0, .v (ptr g))]
  (fun p hp => by simp only [List.mem_cons, List.not_mem_nil, or_false] at hp; rcases hp with rfl <;> exact ⟨_, rfl, rfl⟩) fun w₀ w₁ hw hM => ?_
 have hBg : w₀.heap.size ≤ g := Nat.le_of_eq hw
 refine GS ?_
 refine TL ?_
 refine RM rfl ?_
 refine RM rfl ?_
 refine RN ?_
 refine A.block ?_
 refine A.loop (ι := Nat) (fun i => i ≤ 16) (fun i => [(0, .v (ptr g)), (4, .v (ptr g)), (5, .v (nI i)), (1000080, blk g 115 (rowV 16 (mid f (subS f) i))), (1000081, wroteD 115 g w₁)]) (fun i => 16 - i) 0 ?_ ?_ ?_
 ·exact Nat.zero_le _
 ·exact (KC 0 rfl (KC 4 rfl (KC 5 rfl (KE 1000080 rfl (congrArg _ (mid_zero 16 f _)) (KC 1000081 rfl KN)))))
 intro i hi'
 refine GS ?_
 refine TL ?_
 refine RB rfl rfl rfl ?_
 refine RN ?_
 refine A.seq ?_
 refine A.cond rfl (fun hc6 => ?_) (fun hc6 => ?_)
 ·have hi : i < 16 := by simp at hc6; omega
  refine A.skip ?_
  refine EN ?_
  refine A.seq ?_
  refine A.block ?_
  refine GD ?_
  refine TL ?_
  refine RM rfl ?_
  refine RS (ok_nilCheck rfl) ?_
  refine RS (ok_index0 _ Tryz.underlying115 info5 rfl rfl (rfl) (by omega)) ?_
  refine RS (ok_loadV (s := 1000080) (by decide) Tryz.underlying5 rfl rfl rfl (rowV_get (by omega))) ?_; refine RZ (nB (f i)) (v8 (mid_at f _ i)) ?_
  refine RA rfl ?_
  refine RA rfl ?_
  refine RN ?_
  refine A.reg (by kernel_rfl) (by kernel_rfl) (.inr (by kernel_rfl)) ?_
  refine TD 6 ?_
  refine RM rfl ?_
  refine RM rfl ?_
  refine RM rfl ?_
  refine RS (ok_call (Sub_fn (f i) (hf _)) (A1 rfl)) ?_; refine RZ (nB (subS f i)) (v8 (by rfl)) ?_
  refine RS (ok_nilCheck rfl) ?_
  refine RS (ok_index0 _ Tryz.underlying115 info5 rfl rfl (rfl) (by omega)) ?_
  refine RN ?_
  refine ⟨_, eff_storeS (n := 18) (s := 1000080) info5 rfl rfl rfl hBg rfl (by simp only [rowV_length]; omega) (LV 0 rfl (LV 4 rfl (LV 5 rfl (LeftS.cons (t := 1000081) rfl (Surv.wrote) LN)))), ?_⟩
  refine TL ?_
  refine RN ?_
  refine End.normal_block ?_
  refine EN ?_
  refine GE ?_
  refine TL ?_
  refine RBS rfl rfl rfl (nI (i + 1)) (by rw [wrap_i64 (by omega) (by omega)]; exact congrArg (Value.int .i64) (by omega)) ?_
  refine RM rfl ?_
  refine RN ?_
  refine End.normal_then ?_
  refine End.again (i + 1) ?_ ?_ ?_
  ·show _ ≤ _; omega
  ·show _ - _ < _ - _; omega
  ·exact (KC 0 rfl (KC 4 rfl (KC 5 rfl (KE 1000080 rfl (congrArg _ (mid_set rfl rfl)) (KC 1000081 rfl KN)))))
 ·obtain rfl : i = 16 := by simp at hc6; omega
  refine A.exit ?_
  refine End.exit_then ?_
  refine End.exit_then ?_
  refine End.exit_here ?_
  exact End.wrote (kb := 1000080) (kw := 1000081) rfl rfl (mid_full 16 _ _) rfl
set_option maxHeartbeats 1000000 in
theorem rotate_fnW (g : Nat) (f : Nat → Nat) : FnW Tryz.prog 69 [] 115 g (rowV 16 (f)) (rowV 16 (rotS f)) ([ptr g].map D.v) := by
 refine FnW.of (n := 32) (kb := 1000080) (kw := 1000081) Tryz.func69 rfl (by kernel_rfl) Tryz.ntmps69 (by simp) (by decide) (fun p hp => by cases hp) (by decide) (by decide) [(0, .v (ptr g))]
  (fun p hp => by simp only [List.mem_cons, List.not_mem_nil, or_false] at hp; rcases hp with rfl <;> exact ⟨_, rfl, rfl⟩) fun w₀ w₁ hw hM => ?_
 have hBg : w₀.heap.size ≤ g := Nat.le_of_eq hw
 refine GS ?_
 refine TN 3 ?_
 refine RM rfl ?_
 refine RS (ok_nilCheck rfl) ?_
 refine RS (ok_loadA (s := 1000080) (by decide) Tryz.underlying115 rfl (size115.of (rowV_length _ _)) rfl rfl) ?_
 refine RN ?_
 refine ⟨_, _, eff_allocW (n := 32) (d := 2) (k := 1000002) zero115 (by decide), fun b2 hb2 => ?_⟩
 have hBb2 := hb2.1
 have hlt_g_b2 : g < b2 := hb2.2.1 1000080 _ _ _ rfl
 have hw_b2 := hb2.2.2 1000081 _ _ _ rfl
 refine TF 4 ?_
 refine RN ?_
 refine ⟨_, eff_storeA (n := 32) (s := 1000002) (size115.of (rowV_length _ _)) rfl rfl (rowV_one _ _) hBb2 rfl (by first | (simp only [rowV_length]; done) | simp only [rowV_length, List.length_replicate]) (LV 0 rfl (LV 2 rfl (LB 1000080 rfl (LeftS.cons (t := 1000081) rfl (Surv.wroteN hw_b2) LN)))), ?_⟩
 refine TL ?_
 refine RN ?_
 refine GS ?_
 refine TL ?_
 refine RM rfl ?_
 refine RN ?_
 refine A.block ?_
 refine A.loop (ι := Nat) (fun c => c ≤ 4) (fun c => [(0, .v (ptr g)), (2, .v (.pointer (some ⟨b2, 0, none⟩))), (8, .v (nI c)), (1000002, blk b2 115 (rowV 16 (f))), (1000080, blk g 115 (rowV 16 (mid f (rotS f) (4 * c)))), (1000081, wroteD 115 g w₁)]) (fun c => 4 - c) 0 ?_ ?_ ?_
 ·exact Nat.zero_le _
 ·exact (KC 0 rfl (KC 2 rfl (KC 8 rfl (KC 1000002 rfl (KE 1000080 rfl (congrArg _ (mid_zero 16 f _)) (KC 1000081 rfl KN))))))
 intro c hc
 refine GS ?_
 refine TL ?_
 refine RB rfl rfl rfl ?_
 refine RN ?_
 refine A.seq ?_
 refine A.cond rfl (fun hc9 => ?_) (fun hc9 => ?_)
 ·have hc4 : c < 4 := by simp at hc9; omega
  refine A.skip ?_
  refine EN ?_
  refine A.seq ?_
  refine A.block ?_
  refine GS ?_
  refine TL ?_
  refine RM rfl ?_
  refine RA rfl ?_
  refine RN ?_
  refine GS ?_
  refine TL ?_
  refine RM rfl ?_
  refine RN ?_
  refine A.block ?_
  refine A.loop (ι := Nat) (fun r => r ≤ 4) (fun r => [(0, .v (ptr g)), (2, .v (.pointer (some ⟨b2, 0, none⟩))), (3, .v (nI c)), (8, .v (nI c)), (11, .v (nI r)), (1000002, blk b2 115 (rowV 16 (f))), (1000080, blk g 115 (rowV 16 (mid f (rotS f) (4 * c + r)))), (1000081, wroteD 115 g w₁)]) (fun r => 4 - r) 0 ?_ ?_ ?_
  ·exact Nat.zero_le _
  ·exact (KC 0 rfl (KC 2 rfl (KC 3 rfl (KC 8 rfl (KC 11 rfl (KC 1000002 rfl (KC 1000080 rfl (KC 1000081 rfl KN))))))))
  intro r hr
  refine GS ?_
  refine TL ?_
  refine RB rfl rfl rfl ?_
  refine RN ?_
  refine A.seq ?_
  refine A.cond rfl (fun hc12 => ?_) (fun hc12 => ?_)
  ·have hr4 : r < 4 := by simp at hc12; omega
   refine A.skip ?_
   refine EN ?_
   refine A.seq ?_
   refine A.block ?_
   refine GS ?_
   refine TL ?_
   refine RM rfl ?_
   refine RA rfl ?_
   refine RN ?_
   refine A.reg (by kernel_rfl) (by kernel_rfl) (.inr (by kernel_rfl)) ?_
   refine TD 16 ?_
   refine RM rfl ?_
   refine RM rfl ?_
   refine RBS rfl rfl rfl (nI (4 * c)) (by rw [wrap_i64 (by omega) (by omega)]; exact congrArg (Value.int .i64) (by omega)) ?_
   refine RM rfl ?_
   refine RBS rfl rfl rfl (nI (4 * c + r)) (by rw [wrap_i64 (by omega) (by omega)]; exact congrArg (Value.int .i64) (by omega)) ?_
   refine RM rfl ?_
   refine RM rfl ?_
   refine RBS rfl rfl rfl (nI (c + r)) (by rw [wrap_i64 (by omega) (by omega)]; exact congrArg (Value.int .i64) (by omega)) ?_
   refine RS (ok_rem rfl rfl (by decide)) ?_; refine RZ (nI ((c + r) % 4)) (by rw [tmod_lit _ (by decide)]; rfl) ?_
   refine RBS rfl rfl rfl (nI (4 * ((c + r) % 4))) (by rw [wrap_i64 (by omega) (by omega)]; exact congrArg (Value.int .i64) (by omega)) ?_
   refine RM rfl ?_
   refine RBS rfl rfl rfl (nI (4 * ((c + r) % 4) + r)) (by rw [wrap_i64 (by omega) (by omega)]; exact congrArg (Value.int .i64) (by omega)) ?_
   refine RS (ok_index0 _ Tryz.underlying115 info5 rfl rfl (rfl) (by omega)) ?_
   refine RS (ok_loadV (s := 1000002) (by decide) Tryz.underlying5 rfl rfl rfl (rowV_get (by omega))) ?_; refine RZ (nB (rotS f (4 * c + r))) (v8 (congrArg f (by omega))) ?_
   refine RS (ok_nilCheck rfl) ?_
   refine RS (ok_index0 _ Tryz.underlying115 info5 rfl rfl (rfl) (by omega)) ?_
   refine RN ?_
   refine ⟨_, eff_storeS (n := 32) (s := 1000080) info5 rfl rfl rfl hBg rfl (by simp only [rowV_length]; omega) (LV 0 rfl (LV 2 rfl (LV 3 rfl (LV 8 rfl (LV 11 rfl (LB 1000002 rfl (LeftS.cons (t := 1000081) rfl (Surv.wrote) LN))))))), ?_⟩
   refine TL ?_
   refine RN ?_
   refine End.normal_block ?_
   refine EN ?_
   refine GE ?_
   refine TL ?_
   refine RBS rfl rfl rfl (nI (r + 1)) (by rw [wrap_i64 (by omega) (by omega)]; exact congrArg (Value.int .i64) (by omega)) ?_
   refine RM rfl ?_
   refine RN ?_
   refine End.normal_then ?_
   refine End.again (r + 1) ?_ ?_ ?_
   ·show _ ≤ _; omega
   ·show _ - _ < _ - _; omega
   ·exact (KC 0 rfl (KC 2 rfl (KC 3 rfl (KC 8 rfl (KC 11 rfl (KC 1000002 rfl (KE 1000080 rfl (congrArg _ (mid_set rfl rfl)) (KC 1000081 rfl KN))))))))
  ·obtain rfl : r = 4 := by simp at hc12; omega
   refine A.exit ?_
   refine End.exit_then ?_
   refine End.exit_then ?_
   refine End.exit_here ?_
   refine End.normal_block ?_
   refine EN ?_
   refine GE ?_
   refine TL ?_
   refine RBS rfl rfl rfl (nI (c + 1)) (by rw [wrap_i64 (by omega) (by omega)]; exact congrArg (Value.int .i64) (by omega)) ?_
   refine RM rfl ?_
   refine RN ?_
   refine End.normal_then ?_
   refine End.again (c + 1) ?_ ?_ ?_
   ·show _ ≤ _; omega
   ·show _ - _ < _ - _; omega
   ·exact (KC 0 rfl (KC 2 rfl (KC 8 rfl (KC 1000002 rfl (KE 1000080 rfl (by rw [show 4 * (c + 1) = 4 * c + 4 from by omega]) (KC 1000081 rfl KN))))))
 ·obtain rfl : c = 4 := by simp at hc9; omega
  refine A.exit ?_
  refine End.exit_then ?_
  refine End.exit_then ?_
  refine End.exit_here ?_
  exact End.wrote (kb := 1000080) (kw := 1000081) rfl rfl (mid_full 16 _ _) rfl
theorem mixAt_fn (f : Nat → Nat) (p q c r : Nat) (hc : c < 4) (hr : r < 8) : FnM Tryz.prog 89 [(1000002, blk p 115 (rowV 16 f)), (1000003, blk q 3 [nI c])] [.v (nI r), .v (ptr p), .v (ptr q)] (.v (nB (f (4 * c + r % 4)))) := by
 refine FnM.of (n := 12) Tryz.func89 rfl (by kernel_rfl) Tryz.ntmps89 (by simp) (by decide) (fun w => [(0, .v (nI r)), (1, .v (ptr p)), (2, .v (ptr q)), (1000002, blk p 115 (rowV 16 f)), (1000003, blk q 3 [nI c])])
  (fun w => StartM.v rfl (StartM.v rfl (StartM.v rfl (StartM.m (by simp) (by decide) (StartM.m (by simp) (by decide) StartM.nil))))) fun w₀ hM => ?_
 refine GS ?_
 refine TL ?_
 refine RA rfl ?_
 refine RN ?_
 refine GS ?_
 refine TL ?_
 refine RS (ok_loadV (s := 1000003) (by decide) Tryz.underlying3 rfl rfl rfl (rfl)) ?_
 refine RBS rfl rfl rfl (nI (4 * c)) (by rw [wrap_i64 (by omega) (by omega)]; exact congrArg (Value.int .i64) (by omega)) ?_
 refine RM rfl ?_
 refine RS (ok_rem rfl rfl (by decide)) ?_; refine RZ (nI (r % 4)) (by rw [tmod_lit _ (by decide)]; rfl) ?_
 refine RBS rfl rfl rfl (nI (4 * c + r % 4)) (by rw [wrap_i64 (by omega) (by omega)]; exact congrArg (Value.int .i64) (by omega)) ?_
 refine RS (ok_index0 _ Tryz.underlying115 info5 rfl rfl (rfl) (by omega)) ?_
 refine RS (ok_loadV (s := 1000002) (by decide) Tryz.underlying5 rfl rfl rfl (rowV_get (by omega))) ?_; refine RZ (nB (f (4 * c + r % 4))) (v8 (by rfl)) ?_
 refine RA rfl ?_
 refine RN ?_
 refine A.ret ?_
 exact End.ret1 rfl rfl (by first | exact Le.refl _ | exact Le.old _ _)
theorem mixAt_v {f : Nat → Nat} {p q c : Nat} : ∀ x ∈ ([(1000002, blk p 115 (rowV 16 f)), (1000003, blk q 3 [nI c])] : Env), vbase ≤ x.1 := fun x hx => by
 simp only [List.mem_cons, List.not_mem_nil, or_false] at hx
 rcases hx with rfl | rfl
 ·exact vle rfl
 ·exact vle rfl
theorem zero3 : ZeroIs Tryz.prog 3 [.int .i64 0] := by unfold ZeroIs; kernel_rfl
set_option maxHeartbeats 2000000 in
theorem mix_fnW (g : Nat) (f : Nat → Nat) (hf : By f) : FnW Tryz.prog 70 [] 115 g (rowV 16 (f)) (rowV 16 (mixS f)) ([ptr g].map D.v) := by
 refine FnW.of (n := 49) (kb := 1000080) (kw := 1000081) Tryz.func70 rfl (by kernel_rfl) Tryz.ntmps70 (by simp) (by decide) (fun p hp => by cases hp) (by decide) (by decide) [(0, .v (ptr g))]
  (fun p hp => by simp only [List.mem_cons, List.not_mem_nil, or_false] at hp; rcases hp with rfl <;> exact ⟨_, rfl, rfl⟩) fun w₀ w₁ hw hM => ?_
 have hBg : w₀.heap.size ≤ g := Nat.le_of_eq hw
 refine GS ?_
 refine TN 3 ?_
 refine RM rfl ?_
 refine RS (ok_nilCheck rfl) ?_
 refine RS (ok_loadA (s := 1000080) (by decide) Tryz.underlying115 rfl (size115.of (rowV_length _ _)) rfl rfl) ?_
 refine RN ?_
 refine ⟨_, _, eff_allocW (n := 49) (d := 2) (k := 1000002) zero115 (by decide), fun b2 hb2 => ?_⟩
 have hBb2 := hb2.1
 have hlt_g_b2 : g < b2 := hb2.2.1 1000080 _ _ _ rfl
 have hw_b2 := hb2.2.2 1000081 _ _ _ rfl
 refine TF 4 ?_
 refine RN ?_
 refine ⟨_, eff_storeA (n := 49) (s := 1000002) (size115.of (rowV_length _ _)) rfl rfl (rowV_one _ _) hBb2 rfl (by first | (simp only [rowV_length]; done) | simp only [rowV_length, List.length_replicate]) (LV 0 rfl (LV 2 rfl (LB 1000080 rfl (LeftS.cons (t := 1000081) rfl (Surv.wroteN hw_b2) LN)))), ?_⟩
 refine TL ?_
 refine RN ?_
 refine GS ?_
 refine TL ?_
 refine RM rfl ?_
 refine RN ?_
 refine A.block ?_
 refine A.loop (ι := Nat) (fun c => c ≤ 4) (fun c => [(0, .v (ptr g)), (2, .v (.pointer (some ⟨b2, 0, none⟩))), (9, .v (nI c)), (1000002, blk b2 115 (rowV 16 (f))), (1000080, blk g 115 (rowV 16 (mid f (mixS f) (4 * c)))), (1000081, wroteD 115 g w₁)]) (fun c => 4 - c) 0 ?_ ?_ ?_
 ·exact Nat.zero_le _
 ·exact (KC 0 rfl (KC 2 rfl (KC 9 rfl (KC 1000002 rfl (KE 1000080 rfl (congrArg _ (mid_zero 16 f _)) (KC 1000081 rfl KN))))))
 intro c hc
 refine GS ?_
 refine TL ?_
 refine RB rfl rfl rfl ?_
 refine RN ?_
 refine A.seq ?_
 refine A.cond rfl (fun hc10 => ?_) (fun hc10 => ?_)
 ·have hc4 : c < 4 := by simp at hc10; omega
  refine A.skip ?_
  refine EN ?_
  refine A.seq ?_
  refine A.block ?_
  refine GS ?_
  refine TN 1 ?_
  refine RM rfl ?_
  refine RN ?_
  refine ⟨_, _, eff_allocW (n := 49) (d := 3) (k := 1000003) zero3 (by decide), fun b3 hb3 => ?_⟩
  have hBb3 := hb3.1
  have hw_b3 := hb3.2.2 1000081 _ _ _ rfl
  refine TF 2 ?_
  refine RN ?_
  refine ⟨_, eff_storeS (n := 49) (s := 1000003) info3 rfl rfl rfl hBb3 rfl (by decide) (LV 0 rfl (LV 2 rfl (LV 3 rfl (LV 9 rfl (LT 1000002 rfl (LT 1000080 rfl (LeftS.cons (t := 1000081) rfl (Surv.wroteN hw_b3) LN))))))), ?_⟩
  refine TL ?_
  refine RN ?_
  refine GS ?_
  refine TL ?_
  refine RS (ok_makeFuncN [ptr b2, ptr b3] ⟨rfl, rfl, trivial⟩) ?_
  refine RA rfl ?_
  refine RN ?_
  refine GS ?_
  refine TL ?_
  refine RM rfl ?_
  refine RN ?_
  refine A.block ?_
  refine A.loop (ι := Nat) (fun r => r ≤ 4) (fun r => [(0, .v (ptr g)), (2, .v (.pointer (some ⟨b2, 0, none⟩))), (3, .v (.pointer (some ⟨b3, 0, none⟩))), (4, .v (.func (.func 89) #[] #[ptr b2, ptr b3])), (9, .v (nI c)), (13, .v (nI r)), (1000002, blk b2 115 (rowV 16 (f))), (1000003, blk b3 3 [nI c]), (1000080, blk g 115 (rowV 16 (mid f (mixS f) (4 * c + r)))), (1000081, wroteD 115 g w₁)]) (fun r => 4 - r) 0 ?_ ?_ ?_
  ·exact Nat.zero_le _
  ·exact (KC 0 rfl (KC 2 rfl (KC 3 rfl (KC 4 rfl (KC 9 rfl (KC 13 rfl (KC 1000002 rfl (KC 1000003 rfl (KC 1000080 rfl (KC 1000081 rfl KN))))))))))
  intro r hr
  refine GS ?_
  refine TL ?_
  refine RB rfl rfl rfl ?_
  refine RN ?_
  refine A.seq ?_
  refine A.cond rfl (fun hc14 => ?_) (fun hc14 => ?_)
  ·have hr4 : r < 4 := by simp at hc14; omega
   refine A.skip ?_
   refine EN ?_
   refine A.seq ?_
   refine A.block ?_
   refine GS ?_
   refine TL ?_
   refine RM rfl ?_
   refine RA rfl ?_
   refine RN ?_
   refine A.reg (by kernel_rfl) (by kernel_rfl) (.inr (by kernel_rfl)) ?_
   refine TD 31 ?_
   refine RM rfl ?_
   refine RS (ok_loadV (s := 1000003) (by decide) Tryz.underlying3 rfl rfl rfl (rfl)) ?_
   refine RBS rfl rfl rfl (nI (4 * c)) (by rw [wrap_i64 (by omega) (by omega)]; exact congrArg (Value.int .i64) (by omega)) ?_
   refine RM rfl ?_
   refine RBS rfl rfl rfl (nI (4 * c + r)) (by rw [wrap_i64 (by omega) (by omega)]; exact congrArg (Value.int .i64) (by omega)) ?_
   refine RM rfl ?_
   refine RM rfl ?_
   refine RS (ok_callVM (mixAt_fn f b2 b3 c (r + 0) hc4 (by omega)) (KC 1000002 rfl (KC 1000003 rfl KN)) mixAt_v rfl (A1 rfl)) ?_
   refine RM rfl ?_
   refine RM rfl ?_
   refine RBS rfl rfl rfl (nI (r + 1)) (by rw [wrap_i64 (by omega) (by omega)]; exact congrArg (Value.int .i64) (by omega)) ?_
   refine RS (ok_callVM (mixAt_fn f b2 b3 c (r + 1) hc4 (by omega)) (KC 1000002 rfl (KC 1000003 rfl KN)) mixAt_v rfl (A1 rfl)) ?_
   refine RBS rfl rfl rfl (nB (f (4 * c + (r + 0) % 4) ^^^ f (4 * c + (r + 1) % 4))) (by rw [show IntKind.u8.bits = 8 from rfl, xor_u8N (hf _) (hf _)]) ?_
   refine RS (ok_call (Mul_fn 2 (f (4 * c + (r + 0) % 4) ^^^ f (4 * c + (r + 1) % 4)) (by decide) (xor_lt _ _ (hf _) (hf _))) (A2 rfl rfl)) ?_
   refine RM rfl ?_
   refine RM rfl ?_
   refine RBS rfl rfl rfl (nI (r + 1)) (by rw [wrap_i64 (by omega) (by omega)]; exact congrArg (Value.int .i64) (by omega)) ?_
   refine RS (ok_callVM (mixAt_fn f b2 b3 c (r + 1) hc4 (by omega)) (KC 1000002 rfl (KC 1000003 rfl KN)) mixAt_v rfl (A1 rfl)) ?_
   refine RBS rfl rfl rfl (nB (gm 2 (f (4 * c + (r + 0) % 4) ^^^ f (4 * c + (r + 1) % 4)) ^^^ f (4 * c + (r + 1) % 4))) (by rw [show IntKind.u8.bits = 8 from rfl, xor_u8N (gm_lt _ (by decide)) (hf _)]) ?_
   refine RM rfl ?_
   refine RM rfl ?_
   refine RBS rfl rfl rfl (nI (r + 2)) (by rw [wrap_i64 (by omega) (by omega)]; exact congrArg (Value.int .i64) (by omega)) ?_
   refine RS (ok_callVM (mixAt_fn f b2 b3 c (r + 2) hc4 (by omega)) (KC 1000002 rfl (KC 1000003 rfl KN)) mixAt_v rfl (A1 rfl)) ?_
   refine RBS rfl rfl rfl (nB (gm 2 (f (4 * c + (r + 0) % 4) ^^^ f (4 * c + (r + 1) % 4)) ^^^ f (4 * c + (r + 1) % 4) ^^^ f (4 * c + (r + 2) % 4))) (by rw [show IntKind.u8.bits = 8 from rfl, xor_u8N (xor_lt _ _ (gm_lt _ (by decide)) (hf _)) (hf _)]) ?_
   refine RM rfl ?_
   refine RM rfl ?_
   refine RBS rfl rfl rfl (nI (r + 3)) (by rw [wrap_i64 (by omega) (by omega)]; exact congrArg (Value.int .i64) (by omega)) ?_
   refine RS (ok_callVM (mixAt_fn f b2 b3 c (r + 3) hc4 (by omega)) (KC 1000002 rfl (KC 1000003 rfl KN)) mixAt_v rfl (A1 rfl)) ?_
   refine RBS rfl rfl rfl (nB (mixS f (4 * c + r))) (by rw [show IntKind.u8.bits = 8 from rfl, xor_u8N (xor_lt _ _ (xor_lt _ _ (gm_lt _ (by decide)) (hf _)) (hf _)) (hf _), mixS_at f c hr4]) ?_
   refine RS (ok_nilCheck rfl) ?_
   refine RS (ok_index0 _ Tryz.underlying115 info5 rfl rfl (rfl) (by omega)) ?_
   refine RN ?_
   refine ⟨_, eff_storeS (n := 49) (s := 1000080) info5 rfl rfl rfl hBg rfl (by simp only [rowV_length]; omega) (LV 0 rfl (LV 2 rfl (LV 3 rfl (LV 4 rfl (LV 9 rfl (LV 13 rfl (LB 1000002 rfl (LT 1000003 rfl (LeftS.cons (t := 1000081) rfl (Surv.wrote) LN))))))))), ?_⟩
   refine TL ?_
   refine RN ?_
   refine End.sub (KC 0 rfl (KC 2 rfl (KC 3 rfl (KC 4 rfl (KC 9 rfl (KC 13 rfl (KC 1000002 rfl (KC 1000003 rfl (KC 1000080 rfl (KC 1000081 rfl KN)))))))))) ?_
   refine End.normal_block ?_
   refine EN ?_
   refine GE ?_
   refine TL ?_
   refine RBS rfl rfl rfl (nI (r + 1)) (by rw [wrap_i64 (by omega) (by omega)]; exact congrArg (Value.int .i64) (by omega)) ?_
   refine RM rfl ?_
   refine RN ?_
   refine End.normal_then ?_
   refine End.again (r + 1) ?_ ?_ ?_
   ·show _ ≤ _; omega
   ·show _ - _ < _ - _; omega
   ·exact (KC 0 rfl (KC 2 rfl (KC 3 rfl (KC 4 rfl (KC 9 rfl (KC 13 rfl (KC 1000002 rfl (KC 1000003 rfl (KE 1000080 rfl (congrArg _ (mid_set rfl rfl)) (KC 1000081 rfl KN))))))))))
  ·obtain rfl : r = 4 := by simp at hc14; omega
   refine A.exit ?_
   refine End.exit_then ?_
   refine End.exit_then ?_
   refine End.exit_here ?_
   refine End.normal_block ?_
   refine EN ?_
   refine GE ?_
   refine TL ?_
   refine RBS rfl rfl rfl (nI (c + 1)) (by rw [wrap_i64 (by omega) (by omega)]; exact congrArg (Value.int .i64) (by omega)) ?_
   refine RM rfl ?_
   refine RN ?_
   refine End.normal_then ?_
   refine End.again (c + 1) ?_ ?_ ?_
   ·show _ ≤ _; omega
   ·show _ - _ < _ - _; omega
   ·exact (KC 0 rfl (KC 2 rfl (KC 9 rfl (KC 1000002 rfl (KE 1000080 rfl (by rw [show 4 * (c + 1) = 4 * c + 4 from by omega]) (KC 1000081 rfl KN))))))
 ·obtain rfl : c = 4 := by simp at hc10; omega
  refine A.exit ?_
  refine End.exit_then ?_
  refine End.exit_then ?_
  refine End.exit_here ?_
  exact End.wrote (kb := 1000080) (kw := 1000081) rfl rfl (mid_full 16 _ _) rfl
theorem carryOut_fnW (g : Nat) (us : List Value) (cs : Nat → List Value) (hl : us.length ≤ 1000) (h : ∀ (i : Nat) (u : Value), us[i]? = some u → Does Tryz.prog 115 g u (cs i) (cs (i + 1))) : FnW Tryz.prog 67 [] 115 g (cs 0) (cs us.length) [fresh 0 1 us us.length] := by
 refine FnW.ofD (n := 13) (kb := 1000080) (kw := 1000081) Tryz.func67 rfl (by kernel_rfl) Tryz.ntmps67 (by simp) (by decide) (fun p hp => by cases hp) (by decide) (by decide) [(0, fresh 0 1 us us.length)]
  (fun p hp => by simp only [List.mem_cons, List.not_mem_nil, or_false] at hp; rcases hp with rfl; rfl) fun w₀ w₁ hw hM => ?_
 have hBg : w₀.heap.size ≤ g := Nat.le_of_eq hw
 refine A.openAt (t := 0) (k := 1000070) rfl fun b => ?_
 refine GS ?_
 refine TL ?_
 refine RM rfl ?_
 refine RS (ok_lenV Tryz.underlying142 rfl) ?_
 refine RM rfl ?_
 refine RN ?_
 refine A.block ?_
 refine A.loop (ι := Nat) (fun i => i ≤ us.length) (fun i => [(4, .v (.slice (some ⟨b, 0, none⟩) us.length us.length)), (5, .v (nI (us.length))), (6, .v (nI i)), (1000070, blk b 1 us), (1000080, blk g 115 (cs i)), (1000081, wroteD 115 g w₁)]) (fun i => us.length - i) 0 ?_ ?_ ?_
 ·exact Nat.zero_le _
 ·exact (KC 4 rfl (KC 5 rfl (KC 6 rfl (KC 1000070 rfl (KC 1000080 rfl (KC 1000081 rfl KN))))))
 intro i hi'
 refine GS ?_
 refine TL ?_
 refine RB rfl rfl rfl ?_
 refine RN ?_
 refine A.seq ?_
 refine A.cond rfl (fun hc7 => ?_) (fun hc7 => ?_)
 ·have hi : i < us.length := by simp at hc7; omega
  obtain ⟨u, hu⟩ : ∃ u, us[i]? = some u := ⟨_, List.getElem?_eq_getElem hi⟩
  refine A.skip ?_
  refine EN ?_
  refine A.seq ?_
  refine A.block ?_
  refine GS ?_
  refine TL ?_
  refine RS (ok_indexV i Tryz.underlying142 info1 rfl rfl rfl hi) ?_
  refine RS (ok_loadV (s := 1000070) (by decide) Tryz.underlying1 rfl rfl rfl (by rw [Nat.zero_add]; exact hu)) ?_
  refine RA rfl ?_
  refine RN ?_
  refine GE ?_
  refine TF 1 ?_
  refine RM rfl ?_
  refine RN ?_
  refine ⟨_, eff_callF (n := 13) (s := 1000080) (h i u hu) rfl hBg rfl (by decide) (LV 4 rfl (LV 5 rfl (LV 6 rfl (LT 1000070 rfl (LeftS.cons (t := 1000081) rfl (Surv.wrote) LN))))), ?_⟩
  refine TL ?_
  refine RN ?_
  refine End.normal_block ?_
  refine EN ?_
  refine GE ?_
  refine TL ?_
  refine RBS rfl rfl rfl (nI (i + 1)) (by rw [wrap_i64 (by omega) (by omega)]; exact congrArg (Value.int .i64) (by omega)) ?_
  refine RM rfl ?_
  refine RN ?_
  refine End.normal_then ?_
  refine End.again (i + 1) ?_ ?_ ?_
  ·show _ ≤ _; omega
  ·show _ - _ < _ - _; omega
  ·exact (KC 4 rfl (KC 5 rfl (KC 6 rfl (KC 1000070 rfl (KC 1000080 rfl (KC 1000081 rfl KN))))))
 ·obtain rfl : i = us.length := by simp at hc7; omega
  refine A.exit ?_
  refine End.exit_then ?_
  refine End.exit_then ?_
  refine End.exit_here ?_
  exact End.wrote (kb := 1000080) (kw := 1000081) rfl rfl rfl rfl
theorem carry2 (g : Nat) {u₁ u₂ : Value} {x₀ x₁ x₂ : List Value} (h₁ : Does Tryz.prog 115 g u₁ x₀ x₁) (h₂ : Does Tryz.prog 115 g u₂ x₁ x₂) : FnW Tryz.prog 67 [] 115 g x₀ x₂ [fresh 0 1 [u₁, u₂] 2] :=
 carryOut_fnW g [u₁, u₂] (fun i => match i with | 0 => x₀ | 1 => x₁ | _ => x₂) (show 2 ≤ 1000 by decide) fun i u hu => by
  match i, hu with
  | 0, hu => simp at hu; subst hu; exact h₁
  | 1, hu => simp at hu; subst hu; exact h₂
  | i + 2, hu => simp at hu
theorem carry3 (g : Nat) {u₁ u₂ u₃ : Value} {x₀ x₁ x₂ x₃ : List Value} (h₁ : Does Tryz.prog 115 g u₁ x₀ x₁) (h₂ : Does Tryz.prog 115 g u₂ x₁ x₂) (h₃ : Does Tryz.prog 115 g u₃ x₂ x₃) : FnW Tryz.prog 67 [] 115 g x₀ x₃ [fresh 0 1 [u₁, u₂, u₃] 3] :=
 carryOut_fnW g [u₁, u₂, u₃] (fun i => match i with | 0 => x₀ | 1 => x₁ | 2 => x₂ | _ => x₃) (show 3 ≤ 1000 by decide) fun i u hu => by
  match i, hu with
  | 0, hu => simp at hu; subst hu; exact h₁
  | 1, hu => simp at hu; subst hu; exact h₂
  | 2, hu => simp at hu; subst hu; exact h₃
  | i + 3, hu => simp at hu
set_option maxHeartbeats 2000000 in
theorem Encrypt_fn (s f : Nat → Nat) (hs : ∀ i, s i < 256) (hf : By f) : Fn Tryz.prog 44 [.v (aggV (rowV 176 (s))), .v (aggV (rowV 16 (f)))] (.v (aggV (rowV 16 (enc s f)))) := by
 refine Fn.of Tryz.func44 rfl (by kernel_rfl) Tryz.ntmps44 (by simp) (fun w => [(0, .v (aggV (rowV 176 (s)))), (1, .v (aggV (rowV 16 (f))))]) (fun w => (Start.v rfl (Start.v rfl Start.nil))) fun w₀ => ?_
 refine GS ?_
 refine TN 0 ?_
 refine RN ?_
 refine ⟨_, _, eff_box (n := 32) (d := 2) (k := 1000002) rfl (by decide), fun b2 hb2 => ?_⟩
 have hBb2 := hb2.1
 refine TN 1 ?_
 refine RN ?_
 refine ⟨_, _, eff_box (n := 32) (d := 3) (k := 1000003) rfl (by decide), fun b3 hb3 => ?_⟩
 have hBb3 := hb3.1
 refine TN 2 ?_
 refine RN ?_
 refine ⟨_, _, eff_alloc (n := 32) (d := 4) (k := 1000004) zero22 (by decide), fun b4 hb4 => ?_⟩
 have hBb4 := hb4.1
 have hlt_b3_b4 : b3 < b4 := hb4.2 1000003 _ _ _ rfl
 refine TL ?_
 refine RN ?_
 refine GS ?_
 refine TN 1 ?_
 refine RS (ok_loadA (s := 1000003) (by decide) Tryz.underlying22 rfl (size22.of (rowV_length _ _)) rfl rfl) ?_
 refine RN ?_
 refine ⟨_, _, eff_alloc (n := 32) (d := 5) (k := 1000005) zero115 (by decide), fun b5 hb5 => ?_⟩
 have hBb5 := hb5.1
 refine TF 2 ?_
 refine RN ?_
 refine ⟨_, eff_storeA (n := 32) (s := 1000005) (size115.of (rowV_length _ _)) rfl rfl (rowV_one _ _) hBb5 rfl (by first | (simp only [rowV_length]; done) | simp only [rowV_length, List.length_replicate]) (LV 2 rfl (LV 4 rfl (LV 5 rfl (LT 1000002 rfl (LT 1000003 rfl (LT 1000004 rfl LN)))))), ?_⟩
 refine TL ?_
 refine RN ?_
 refine GS ?_
 refine TF 2 ?_
 refine RS (ok_indexN (0) Tryz.underlying81 size22 rfl rfl (rfl) (by decide)) ?_
 refine RS (ok_loadP (s := 1000002) (by decide) Tryz.underlying22 rfl size22 rfl rfl (by simp only [rowV_length]; omega) (rowV_part (g := keyS s (0)) (by omega) (fun i _ => congrArg s (by omega)))) ?_
 refine RN ?_
 refine ⟨_, eff_callW (n := 32) (s := 1000005) (add_fnW b5 (f) (keyS s (0)) hf (keyS_by hs _)) (fun p hp => by cases hp) (A2 rfl rfl) hBb5 rfl (by decide) (LV 2 rfl (LV 4 rfl (LV 5 rfl (LT 1000002 rfl (LT 1000003 rfl (LT 1000004 rfl LN)))))), ?_⟩
 refine TL ?_
 refine RN ?_
 refine A.seq ?_
 refine GS ?_
 refine TL ?_
 refine RA rfl ?_
 refine RN ?_
 refine A.block ?_
 refine A.loop (ι := Nat) (fun q => q ≤ 9) (fun q => [(2, .v (.pointer (some ⟨b2, 0, none⟩))), (4, .v (.pointer (some ⟨b4, 0, none⟩))), (5, .v (.pointer (some ⟨b5, 0, none⟩))), (1000002, blk b2 81 (rowV 176 (s))), (1000004, blk b4 22 (List.replicate 16 (.int .u8 0))), (6, .v (nI (q + 1))), (1000005, blk b5 115 (rowV 16 (encR s f q)))]) (fun q => 9 - q) 0 ?_ ?_ ?_
 ·exact Nat.zero_le _
 ·exact (KC 2 rfl (KC 4 rfl (KC 5 rfl (KC 1000002 rfl (KC 1000004 rfl (KC 6 rfl (KC 1000005 rfl KN)))))))
 intro q hq'
 refine A.seq ?_
 refine GS ?_
 refine TL ?_
 refine RM rfl ?_
 refine RB rfl rfl rfl ?_
 refine RN ?_
 refine A.cond rfl (fun hc12 => ?_) (fun hc12 => ?_)
 ·have hq : q < 9 := by simp at hc12; omega
  refine A.skip ?_
  refine EN ?_
  refine A.seq ?_
  refine A.block ?_
  refine GS ?_
  refine TF 4 ?_
  refine RS (ok_makeFuncM rfl) ?_
  refine RS (ok_makeFuncM rfl) ?_
  refine RS (ok_makeFuncM rfl) ?_
  refine RS (ok_buildF [.func (.func 68) #[ptr b5] #[], .func (.func 69) #[ptr b5] #[], .func (.func 70) #[ptr b5] #[]] Tryz.underlying142 info1 rfl (by decide) (by decide) rfl ⟨rfl, rfl, rfl, rfl, rfl, rfl, trivial⟩ rfl) ?_
  refine RN ?_
  refine ⟨_, eff_callW (n := 32) (s := 1000005) (carry3 b5 (substitute_fnW b5 (encR s f q) (encR_by hs hf q)).does (rotate_fnW b5 (subS (encR s f q))).does (mix_fnW b5 (rotS (subS (encR s f q))) (rotS_by (subS_by _))).does) (fun p hp => by cases hp) (Args.cons rfl (fresh_mono _ _ (Nat.zero_le _)) Args.nil) hBb5 rfl (by decide) (LV 2 rfl (LV 4 rfl (LV 5 rfl (LV 6 rfl (LT 1000002 rfl (LT 1000004 rfl LN)))))), ?_⟩
  refine TL ?_
  refine RN ?_
  refine GE ?_
  refine TF 3 ?_
  refine RM rfl ?_
  refine RS (ok_indexN _ Tryz.underlying81 size22 rfl rfl (rfl) (by omega)) ?_
  refine RS (ok_loadP (s := 1000002) (by decide) Tryz.underlying22 rfl size22 rfl rfl (by simp only [rowV_length]; omega) (rowV_part (g := keyS s (q + 1)) (by omega) (fun i _ => congrArg s (by omega)))) ?_
  refine RN ?_
  refine ⟨_, eff_callW (n := 32) (s := 1000005) (add_fnW b5 (mixS (rotS (subS (encR s f q)))) (keyS s (q + 1)) (mixS_by (rotS_by (subS_by _))) (keyS_by hs _)) (fun p hp => by cases hp) (A2 rfl rfl) hBb5 rfl (by decide) (LV 2 rfl (LV 4 rfl (LV 5 rfl (LV 6 rfl (LT 1000002 rfl (LT 1000004 rfl LN)))))), ?_⟩
  refine TL ?_
  refine RN ?_
  refine End.normal_block ?_
  refine EN ?_
  refine GE ?_
  refine TL ?_
  refine RM rfl ?_
  refine RBS rfl rfl rfl (nI (q + 1 + 1)) (by rw [wrap_i64 (by omega) (by omega)]; exact congrArg (Value.int .i64) (by omega)) ?_
  refine RA rfl ?_
  refine RN ?_
  refine End.normal_then ?_
  refine End.again (q + 1) ?_ ?_ ?_
  ·show _ ≤ _; omega
  ·show _ - _ < _ - _; omega
  ·exact (KC 2 rfl (KC 4 rfl (KC 5 rfl (KC 1000002 rfl (KC 1000004 rfl (KC 6 rfl (KC 1000005 rfl KN)))))))
 ·obtain rfl : q = 9 := by simp at hc12; omega
  refine A.exit ?_
  refine End.exit_then ?_
  refine End.exit_then ?_
  refine End.exit_here ?_
  refine EN ?_
  refine GS ?_
  refine TF 3 ?_
  refine RS (ok_makeFuncM rfl) ?_
  refine RS (ok_makeFuncM rfl) ?_
  refine RS (ok_buildF [.func (.func 68) #[ptr b5] #[], .func (.func 69) #[ptr b5] #[]] Tryz.underlying142 info1 rfl (by decide) (by decide) rfl ⟨rfl, rfl, rfl, rfl, trivial⟩ rfl) ?_
  refine RN ?_
  refine ⟨_, eff_callW (n := 32) (s := 1000005) (carry2 b5 (substitute_fnW b5 (encR s f 9) (encR_by hs hf 9)).does (rotate_fnW b5 (subS (encR s f 9))).does) (fun p hp => by cases hp) (Args.cons rfl (fresh_mono _ _ (Nat.zero_le _)) Args.nil) hBb5 rfl (by decide) (LV 2 rfl (LV 4 rfl (LV 5 rfl (LT 1000002 rfl (LT 1000004 rfl LN))))), ?_⟩
  refine TL ?_
  refine RN ?_
  refine GS ?_
  refine TF 2 ?_
  refine RS (ok_indexN (10) Tryz.underlying81 size22 rfl rfl (rfl) (by decide)) ?_
  refine RS (ok_loadP (s := 1000002) (by decide) Tryz.underlying22 rfl size22 rfl rfl (by simp only [rowV_length]; omega) (rowV_part (g := keyS s (10)) (by omega) (fun i _ => congrArg s (by omega)))) ?_
  refine RN ?_
  refine ⟨_, eff_callW (n := 32) (s := 1000005) (add_fnW b5 (rotS (subS (encR s f 9))) (keyS s (10)) (rotS_by (subS_by _)) (keyS_by hs _)) (fun p hp => by cases hp) (A2 rfl rfl) hBb5 rfl (by decide) (LV 4 rfl (LV 5 rfl (LT 1000002 rfl (LT 1000004 rfl LN)))), ?_⟩
  refine TL ?_
  refine RN ?_
  refine GS ?_
  refine TF 1 ?_
  refine RS (ok_loadA (s := 1000005) (by decide) Tryz.underlying115 rfl (size115.of (rowV_length _ _)) rfl rfl) ?_
  refine RN ?_
  refine ⟨_, eff_storeA (n := 32) (s := 1000004) (size22.of (rowV_length _ _)) rfl rfl (rowV_one _ _) hBb4 rfl (by first | (simp only [rowV_length]; done) | simp only [rowV_length, List.length_replicate]) (LV 4 rfl (LT 1000002 rfl (LT 1000005 rfl LN))), ?_⟩
  refine TL ?_
  refine RN ?_
  refine A.ret ?_
  exact End.cell1 (s := 1000004) rfl Tryz.underlying22 rfl (size22.of (rowV_length _ _)) rfl rfl (Le.refl _)
set_option maxHeartbeats 1000000 in
theorem next_fn (k : Nat → Nat) (p : Nat) (hk : By k) (hp : p < 256) : Fn Tryz.prog 64 [.v (aggV (rowV 16 (k))), .v (nB p)] (.v (aggV (rowV 16 (nextS k p)))) := by
 refine Fn.of Tryz.func64 rfl (by kernel_rfl) Tryz.ntmps64 (by simp) (fun w => [(0, .v (aggV (rowV 16 (k)))), (1, .v (nB p))]) (fun w => (Start.v rfl (Start.v rfl Start.nil))) fun w₀ => ?_
 refine GS ?_
 refine TN 0 ?_
 refine RN ?_
 refine ⟨_, _, eff_box (n := 55) (d := 2) (k := 1000002) rfl (by decide), fun b2 hb2 => ?_⟩
 have hBb2 := hb2.1
 refine TN 1 ?_
 refine RN ?_
 refine ⟨_, _, eff_alloc (n := 55) (d := 4) (k := 1000004) zero22 (by decide), fun b4 hb4 => ?_⟩
 have hBb4 := hb4.1
 have hlt_b2_b4 : b2 < b4 := hb4.2 1000002 _ _ _ rfl
 refine TL ?_
 refine RN ?_
 refine GS ?_
 refine TN 3 ?_
 refine RS (ok_sliceX (l := 12) (h := 16) (m := 16) Tryz.underlying22 info5 rfl (.inl ⟨_, _, rfl, rfl⟩) (.inr ⟨rfl, rfl, rfl⟩) (.inr ⟨rfl, rfl⟩) (by decide) (by decide) (by decide) (.inl (by decide))) ?_
 refine RS (ok_arrayAt Tryz.underlying137 rfl (by decide)) ?_
 refine RS (ok_loadP (s := 1000002) (by decide) Tryz.underlying137 rfl size137 rfl rfl (by simp only [rowV_length]; omega) (rowV_part (g := fun r => k (12 + r)) (by decide) (fun i _ => congrArg k (by omega)))) ?_
 refine RN ?_
 refine ⟨_, _, eff_alloc (n := 55) (d := 5) (k := 1000005) zero137 (by decide), fun b5 hb5 => ?_⟩
 have hBb5 := hb5.1
 refine TF 4 ?_
 refine RN ?_
 refine ⟨_, eff_storeA (n := 55) (s := 1000005) (size137.of (rowV_length _ _)) rfl rfl (rowV_one _ _) hBb5 rfl (by first | (simp only [rowV_length]; done) | simp only [rowV_length, List.length_replicate]) (LV 1 rfl (LV 2 rfl (LV 4 rfl (LV 5 rfl (LT 1000002 rfl (LT 1000004 rfl LN)))))), ?_⟩
 refine TL ?_
 refine RN ?_
 refine GD ?_
 refine RunTK.new 16 (by decide) rfl (.inr (by kernel_rfl)) ?_
 refine RS (ok_index0 (1) Tryz.underlying137 info5 rfl rfl (rfl) (by decide)) ?_
 refine RS (ok_loadV (s := 1000005) (by decide) Tryz.underlying5 rfl rfl rfl (rowV_get (by decide))) ?_; refine RZ (nB (k 13)) (v8 (by rfl)) ?_
 refine RS (ok_call (Sub_fn (k 13) (hk _)) (A1 rfl)) ?_
 refine RM rfl ?_
 refine RBS rfl rfl rfl (nB (sub8 (k 13) ^^^ p)) (by rw [show IntKind.u8.bits = 8 from rfl, xor_u8N (sub8_lt _) hp]) ?_
 refine RS (ok_index0 (2) Tryz.underlying137 info5 rfl rfl (rfl) (by decide)) ?_
 refine RS (ok_loadV (s := 1000005) (by decide) Tryz.underlying5 rfl rfl rfl (rowV_get (by decide))) ?_; refine RZ (nB (k 14)) (v8 (by rfl)) ?_
 refine RS (ok_call (Sub_fn (k 14) (hk _)) (A1 rfl)) ?_
 refine RS (ok_index0 (3) Tryz.underlying137 info5 rfl rfl (rfl) (by decide)) ?_
 refine RS (ok_loadV (s := 1000005) (by decide) Tryz.underlying5 rfl rfl rfl (rowV_get (by decide))) ?_; refine RZ (nB (k 15)) (v8 (by rfl)) ?_
 refine RS (ok_call (Sub_fn (k 15) (hk _)) (A1 rfl)) ?_
 refine RS (ok_index0 (0) Tryz.underlying137 info5 rfl rfl (rfl) (by decide)) ?_
 refine RS (ok_loadV (s := 1000005) (by decide) Tryz.underlying5 rfl rfl rfl (rowV_get (by decide))) ?_; refine RZ (nB (k 12)) (v8 (by rfl)) ?_
 refine RS (ok_call (Sub_fn (k 12) (hk _)) (A1 rfl)) ?_
 refine RS (ok_litA [_, _, _, _] Tryz.underlying137 info5 zero137 rfl ⟨rfl, rfl, rfl, rfl, rfl, rfl, rfl, rfl, trivial⟩ rfl) ?_; refine RZ (aggV (rowV 4 (wordS k p))) (congrArg aggV (word_row k p)) ?_
 refine RS (ok_allocF [b2, b4, b5] zero137 (Named.cons (s := 1000002) (by decide) rfl (Named.cons (s := 1000004) (by decide) rfl (Named.cons (s := 1000005) (by decide) rfl Named.nil)))) ?_
 refine RN ?_
 refine ⟨_, _, eff_storeF (n := 55) (d := 6) (k := 1000006) (size137.of (rowV_length _ _)) rfl rfl (rowV_one _ _) (by first | (simp only [rowV_length]; done) | simp only [rowV_length, List.length_replicate]) (fun b hb => (LV 1 rfl (LV 2 rfl (LV 4 rfl (LV 5 rfl (LV 12 rfl (LV 13 rfl (LV 14 rfl (LV 15 rfl (LV 16 rfl (LV 17 rfl (LV 18 rfl (LV 19 rfl (LV 20 rfl (LV 21 rfl (LV 22 rfl (LV 23 rfl (LV 24 rfl (LV 25 rfl (LV 26 rfl (LT 1000002 rfl (LT 1000004 rfl (LeftS.cons (t := 1000005) rfl (Surv.blk (Nat.ne_of_lt (hb.2 _ (by simp)))) LN))))))))))))))))))))))), fun b6 hb6 => ?_⟩
 have hBb6 := hb6.1
 have hlt_b2_b6 : b2 < b6 := hb6.2 _ (by simp)
 have hlt_b4_b6 : b4 < b6 := hb6.2 _ (by simp)
 have hlt_b5_b6 : b5 < b6 := hb6.2 _ (by simp)
 refine TL ?_
 refine RN ?_
 refine A.seq ?_
 refine GS ?_
 refine TL ?_
 refine RM rfl ?_
 refine RN ?_
 refine A.sub (KC 2 rfl (KC 4 rfl (KC 6 rfl (KC 27 rfl (KC 1000002 rfl (KC 1000004 rfl (KC 1000005 rfl (KC 1000006 rfl KN)))))))) ?_
 refine A.block ?_
 refine A.loop (ι := Nat) (fun c => c ≤ 4) (fun c => [(2, .v (.pointer (some ⟨b2, 0, none⟩))), (4, .v (.pointer (some ⟨b4, 0, none⟩))), (6, .v (.pointer (some ⟨b6, 0, none⟩))), (27, .v (nI c)), (1000004, blk b4 22 (List.replicate 16 (.int .u8 0))), (1000002, blk b2 22 (rowV 16 (mid k (nextS k p) (4 * c)))), (1000006, blk b6 137 (rowV 4 (fun q => accS k p q c)))]) (fun c => 4 - c) 0 ?_ ?_ ?_
 ·exact Nat.zero_le _
 ·exact (KC 2 rfl (KC 4 rfl (KC 6 rfl (KC 27 rfl (KC 1000004 rfl (KE 1000002 rfl (congrArg _ (mid_zero 16 k _)) (KC 1000006 rfl KN)))))))
 intro c hc
 refine GS ?_
 refine TL ?_
 refine RB rfl rfl rfl ?_
 refine RN ?_
 refine A.seq ?_
 refine A.cond rfl (fun hc28 => ?_) (fun hc28 => ?_)
 ·have hc4 : c < 4 := by simp at hc28; omega
  refine A.skip ?_
  refine EN ?_
  refine A.seq ?_
  refine A.block ?_
  refine GS ?_
  refine TL ?_
  refine RM rfl ?_
  refine RA rfl ?_
  refine RN ?_
  refine GS ?_
  refine TL ?_
  refine RM rfl ?_
  refine RN ?_
  refine A.block ?_
  refine A.loop (ι := Nat) (fun r => r ≤ 4) (fun r => [(2, .v (.pointer (some ⟨b2, 0, none⟩))), (4, .v (.pointer (some ⟨b4, 0, none⟩))), (6, .v (.pointer (some ⟨b6, 0, none⟩))), (7, .v (nI c)), (27, .v (nI c)), (30, .v (nI r)), (1000004, blk b4 22 (List.replicate 16 (.int .u8 0))), (1000002, blk b2 22 (rowV 16 (mid k (nextS k p) (4 * c + r)))), (1000006, blk b6 137 (rowV 4 (mid (fun q => accS k p q c) (fun q => accS k p q (c + 1)) r)))]) (fun r => 4 - r) 0 ?_ ?_ ?_
  ·exact Nat.zero_le _
  ·exact (KC 2 rfl (KC 4 rfl (KC 6 rfl (KC 7 rfl (KC 27 rfl (KC 30 rfl (KC 1000004 rfl (KC 1000002 rfl (KE 1000006 rfl (congrArg _ (mid_zero 4 _ _)) KN)))))))))
  intro r hr
  refine GS ?_
  refine TL ?_
  refine RB rfl rfl rfl ?_
  refine RN ?_
  refine A.seq ?_
  refine A.cond rfl (fun hc31 => ?_) (fun hc31 => ?_)
  ·have hr4 : r < 4 := by simp at hc31; omega
   refine A.skip ?_
   refine EN ?_
   refine A.seq ?_
   refine A.block ?_
   refine GS ?_
   refine TL ?_
   refine RM rfl ?_
   refine RA rfl ?_
   refine RN ?_
   refine GD ?_
   refine TD 11 ?_
   refine RM rfl ?_
   refine RBS rfl rfl rfl (nI (4 * c)) (by rw [wrap_i64 (by omega) (by omega)]; exact congrArg (Value.int .i64) (by omega)) ?_
   refine RM rfl ?_
   refine RBS rfl rfl rfl (nI (4 * c + r)) (by rw [wrap_i64 (by omega) (by omega)]; exact congrArg (Value.int .i64) (by omega)) ?_
   refine RS (ok_index0 _ Tryz.underlying22 info5 rfl rfl (rfl) (by omega)) ?_
   refine RS (ok_loadV (s := 1000002) (by decide) Tryz.underlying5 rfl rfl rfl (rowV_get (by omega))) ?_; refine RZ (nB (k (4 * c + r))) (v8 (mid_at k _ _)) ?_
   refine RM rfl ?_
   refine RS (ok_index0 _ Tryz.underlying137 info5 rfl rfl (rfl) (by omega)) ?_
   refine RS (ok_loadV (s := 1000006) (by decide) Tryz.underlying5 rfl rfl rfl (rowV_get (by omega))) ?_; refine RZ (nB (accS k p r c)) (v8 (mid_at (fun q => accS k p q c) _ _)) ?_
   refine RBS rfl rfl rfl (nB (nextS k p (4 * c + r))) (by rw [show IntKind.u8.bits = 8 from rfl, xor_u8N (hk _) (accS_lt hk hp _ _), nextS_col k p hr4]) ?_
   refine RS (ok_index0 _ Tryz.underlying22 info5 rfl rfl (rfl) (by omega)) ?_
   refine RN ?_
   refine ⟨_, eff_storeS (n := 55) (s := 1000002) info5 rfl rfl rfl hBb2 rfl (by simp only [rowV_length]; omega) (LV 2 rfl (LV 4 rfl (LV 6 rfl (LV 7 rfl (LV 8 rfl (LV 27 rfl (LV 30 rfl (LB 1000004 rfl (LT 1000006 rfl LN))))))))), ?_⟩
   refine TL ?_
   refine RN ?_
   refine A.sub (KC 2 rfl (KC 4 rfl (KC 6 rfl (KC 7 rfl (KC 8 rfl (KC 27 rfl (KC 30 rfl (KE 1000002 rfl (show blk b2 22 _ = blk b2 22 (rowV 16 (mid k (nextS k p) (4 * c + r + 1))) from congrArg _ (mid_set rfl rfl)) (KC 1000004 rfl (KC 1000006 rfl KN)))))))))) ?_
   refine GE ?_
   refine TF 8 ?_
   refine RM rfl ?_
   refine RM rfl ?_
   refine RBS rfl rfl rfl (nI (4 * c)) (by rw [wrap_i64 (by omega) (by omega)]; exact congrArg (Value.int .i64) (by omega)) ?_
   refine RM rfl ?_
   refine RBS rfl rfl rfl (nI (4 * c + r)) (by rw [wrap_i64 (by omega) (by omega)]; exact congrArg (Value.int .i64) (by omega)) ?_
   refine RS (ok_index0 _ Tryz.underlying22 info5 rfl rfl (rfl) (by omega)) ?_
   refine RS (ok_loadV (s := 1000002) (by decide) Tryz.underlying5 rfl rfl rfl (rowV_get (by omega))) ?_; refine RZ (nB (nextS k p (4 * c + r))) (v8 (if_pos (Nat.lt_succ_self _))) ?_
   refine RS (ok_index0 _ Tryz.underlying137 info5 rfl rfl (rfl) (by omega)) ?_
   refine RN ?_
   refine ⟨_, eff_storeS (n := 55) (s := 1000006) info5 rfl rfl rfl hBb6 rfl (by simp only [rowV_length]; omega) (LV 2 rfl (LV 4 rfl (LV 6 rfl (LV 7 rfl (LV 27 rfl (LV 30 rfl (LT 1000002 rfl (LT 1000004 rfl LN)))))))), ?_⟩
   refine TL ?_
   refine RN ?_
   refine End.normal_block ?_
   refine EN ?_
   refine GE ?_
   refine TL ?_
   refine RBS rfl rfl rfl (nI (r + 1)) (by rw [wrap_i64 (by omega) (by omega)]; exact congrArg (Value.int .i64) (by omega)) ?_
   refine RM rfl ?_
   refine RN ?_
   refine End.normal_then ?_
   refine End.again (r + 1) ?_ ?_ ?_
   ·show _ ≤ _; omega
   ·show _ - _ < _ - _; omega
   ·exact (KC 2 rfl (KC 4 rfl (KC 6 rfl (KC 7 rfl (KC 27 rfl (KC 30 rfl (KC 1000004 rfl (KC 1000002 rfl (KE 1000006 rfl (congrArg _ (mid_set rfl (nextS_at k p hr4))) KN)))))))))
  ·obtain rfl : r = 4 := by simp at hc31; omega
   refine A.exit ?_
   refine End.exit_then ?_
   refine End.exit_then ?_
   refine End.exit_here ?_
   refine End.normal_block ?_
   refine EN ?_
   refine GE ?_
   refine TL ?_
   refine RBS rfl rfl rfl (nI (c + 1)) (by rw [wrap_i64 (by omega) (by omega)]; exact congrArg (Value.int .i64) (by omega)) ?_
   refine RM rfl ?_
   refine RN ?_
   refine End.normal_then ?_
   refine End.again (c + 1) ?_ ?_ ?_
   ·show _ ≤ _; omega
   ·show _ - _ < _ - _; omega
   ·exact (KC 2 rfl (KC 4 rfl (KC 6 rfl (KC 27 rfl (KC 1000004 rfl (KE 1000002 rfl (by rw [show 4 * (c + 1) = 4 * c + 4 from by omega]) (KE 1000006 rfl (congrArg _ (mid_full 4 _ _)) KN)))))))
 ·obtain rfl : c = 4 := by simp at hc28; omega
  refine A.exit ?_
  refine End.exit_then ?_
  refine End.exit_then ?_
  refine End.exit_here ?_
  refine EN ?_
  refine GS ?_
  refine TF 1 ?_
  refine RS (ok_loadA (s := 1000002) (by decide) Tryz.underlying22 rfl (size22.of (rowV_length _ _)) rfl rfl) ?_
  refine RN ?_
  refine ⟨_, eff_storeA (n := 55) (s := 1000004) (size22.of (rowV_length _ _)) rfl rfl (rowV_one _ _) hBb4 rfl (by first | (simp only [rowV_length]; done) | simp only [rowV_length, List.length_replicate]) (LV 4 rfl (LB 1000002 rfl (LT 1000006 rfl LN))), ?_⟩
  refine TL ?_
  refine RN ?_
  refine A.ret ?_
  exact End.cell1 (s := 1000004) rfl Tryz.underlying22 rfl (size22.of (rowV_length _ _)) rfl rfl (Le.v (congrArg aggV (mid_full 16 _ _)))
theorem build81 (k : Nat → Nat) : Tryz.prog.built 81 (([aggV (rowV 16 k)].zipIdx 0).map fun x => (x.2, x.1)) = some (rowV 176 (fun j => if j < 16 then k j else 0)).toArray := by kernel_rfl
set_option maxHeartbeats 1000000 in
theorem Expand_fn (k : Nat → Nat) (hk : By k) : Fn Tryz.prog 43 [.v (aggV (rowV 16 (k)))] (.v (aggV (rowV 176 (expand k)))) := by
 refine Fn.of Tryz.func43 rfl (by kernel_rfl) Tryz.ntmps43 (by simp) (fun w => [(0, .v (aggV (rowV 16 (k))))]) (fun w => (Start.v rfl Start.nil)) fun w₀ => ?_
 refine GS ?_
 refine TN 0 ?_
 refine RN ?_
 refine ⟨_, _, eff_box (n := 22) (d := 1) (k := 1000001) rfl (by decide), fun b1 hb1 => ?_⟩
 have hBb1 := hb1.1
 refine TN 1 ?_
 refine RN ?_
 refine ⟨_, _, eff_alloc (n := 22) (d := 2) (k := 1000002) zero81 (by decide), fun b2 hb2 => ?_⟩
 have hBb2 := hb2.1
 refine TL ?_
 refine RN ?_
 refine GS ?_
 refine TN 2 ?_
 refine RS (ok_loadA (s := 1000001) (by decide) Tryz.underlying22 rfl (size22.of (rowV_length _ _)) rfl rfl) ?_
 refine RS (ok_litU [aggV (rowV 16 k)] _ ⟨rfl, rfl, trivial⟩ (build81 k)) ?_
 refine RN ?_
 refine ⟨_, _, eff_alloc (n := 22) (d := 3) (k := 1000003) zero81 (by decide), fun b3 hb3 => ?_⟩
 have hBb3 := hb3.1
 have hlt_b2_b3 : b2 < b3 := hb3.2 1000002 _ _ _ rfl
 refine TF 3 ?_
 refine RN ?_
 refine ⟨_, eff_storeA (n := 22) (s := 1000003) (size81.of (rowV_length _ _)) rfl rfl (rowV_one _ _) hBb3 rfl (by first | (simp only [rowV_length]; done) | simp only [rowV_length, List.length_replicate]) (LV 2 rfl (LV 3 rfl (LT 1000001 rfl (LB 1000002 rfl LN)))), ?_⟩
 refine TL ?_
 refine RN ?_
 refine A.seq ?_
 refine GS ?_
 refine TL ?_
 refine RA rfl ?_
 refine RN ?_
 refine A.block ?_
 refine A.loop (ι := Nat) (fun q => q ≤ 10) (fun q => [(2, .v (.pointer (some ⟨b2, 0, none⟩))), (3, .v (.pointer (some ⟨b3, 0, none⟩))), (4, .v (nI (q + 1))), (1000002, blk b2 81 (List.replicate 176 (.int .u8 0))), (1000003, blk b3 81 (rowV 176 (cutF (expand k) (16 * (q + 1)))))]) (fun q => 10 - q) 0 ?_ ?_ ?_
 ·exact Nat.zero_le _
 ·exact (KC 2 rfl (KC 3 rfl (KC 4 rfl (KC 1000002 rfl (KE 1000003 rfl (congrArg _ (expand_start k)) KN)))))
 intro q hq'
 refine A.seq ?_
 refine GS ?_
 refine TL ?_
 refine RM rfl ?_
 refine RB rfl rfl rfl ?_
 refine RN ?_
 refine A.cond rfl (fun hc8 => ?_) (fun hc8 => ?_)
 ·have hq : q < 10 := by simp at hc8; omega
  refine A.skip ?_
  refine EN ?_
  refine A.seq ?_
  refine A.block ?_
  refine A.reg (by kernel_rfl) (by kernel_rfl) (.inr (by kernel_rfl)) ?_
  refine TD 10 ?_
  refine RM rfl ?_
  refine RM rfl ?_
  refine RBS rfl rfl rfl (nI q) (by rw [wrap_i64 (by omega) (by omega)]; exact congrArg (Value.int .i64) (by omega)) ?_
  refine RS (ok_indexN _ Tryz.underlying81 size22 rfl rfl (rfl) (by omega)) ?_
  refine RS (ok_loadP (s := 1000003) (by decide) Tryz.underlying22 rfl size22 rfl rfl (by simp only [rowV_length]; omega) (rowV_part (g := roundK k q) (by omega) (fun i hi => expand_at k (by omega) hi))) ?_
  refine RM rfl ?_
  refine RBS rfl rfl rfl (nI q) (by rw [wrap_i64 (by omega) (by omega)]; exact congrArg (Value.int .i64) (by omega)) ?_
  refine RS (ok_call (Power_fn 2 ((q : Nat) : Int) (by decide)) (A2 rfl rfl)) ?_; refine RZ (nB (gpow 2 q)) (v8 (gpz_nat (by decide) q)) ?_
  refine RS (ok_call (next_fn (roundK k q) (gpow 2 q) (roundK_by hk q) (gpow_lt q)) (A2 rfl rfl)) ?_
  refine RS (ok_indexN _ Tryz.underlying81 size22 rfl rfl (rfl) (by omega)) ?_
  refine RN ?_
  refine ⟨_, eff_storeP (n := 22) (s := 1000003) (size22.of (rowV_length _ _)) rfl rfl (rowV_one _ _) hBb3 rfl (by simp only [rowV_length]; omega) (LV 2 rfl (LV 3 rfl (LV 4 rfl (LB 1000002 rfl LN)))), ?_⟩
  refine TL ?_
  refine RN ?_
  refine End.normal_block ?_
  refine EN ?_
  refine GE ?_
  refine TL ?_
  refine RM rfl ?_
  refine RBS rfl rfl rfl (nI (q + 1 + 1)) (by rw [wrap_i64 (by omega) (by omega)]; exact congrArg (Value.int .i64) (by omega)) ?_
  refine RA rfl ?_
  refine RN ?_
  refine End.normal_then ?_
  refine End.again (q + 1) ?_ ?_ ?_
  ·show _ ≤ _; omega
  ·show _ - _ < _ - _; omega
  ·exact (KC 2 rfl (KC 3 rfl (KC 4 rfl (KC 1000002 rfl (KE 1000003 rfl (congrArg _ (expand_put k (by omega))) KN)))))
 ·obtain rfl : q = 10 := by simp at hc8; omega
  refine A.exit ?_
  refine End.exit_then ?_
  refine End.exit_then ?_
  refine End.exit_here ?_
  refine EN ?_
  refine GS ?_
  refine TF 1 ?_
  refine RS (ok_loadA (s := 1000003) (by decide) Tryz.underlying81 rfl (size81.of (rowV_length _ _)) rfl rfl) ?_
  refine RN ?_
  refine ⟨_, eff_storeA (n := 22) (s := 1000002) (size81.of (rowV_length _ _)) rfl rfl (rowV_one _ _) hBb2 rfl (by first | (simp only [rowV_length]; done) | simp only [rowV_length, List.length_replicate]) (LV 2 rfl (LB 1000003 rfl LN)), ?_⟩
  refine TL ?_
  refine RN ?_
  refine A.ret ?_
  exact End.cell1 (s := 1000002) rfl Tryz.underlying81 rfl (size81.of (rowV_length _ _)) rfl rfl (Le.v (congrArg aggV (cutF_full 176 _)))
end Go.Proofs.YthadcgkcgpinhaaGreatDoor
namespace Go.Proofs.YthadcgkcgpinhaaGreatDoor
open Go Go.RowKit
set_option linter.unusedVariables false

/-- The bytes of a counter's block. -/
def ctrL (s c t : Nat) : List UInt8 := be 4 s ++ be 8 c ++ be 4 t
theorem ctrL_length (s c t : Nat) : (ctrL s c t).length = 16 := by simp [ctrL, be_length]
/-- A block of the key stream. -/
def ksB (k : Sta) (s c t : Nat) : Sta := enc (expand k) (byL (ctrL s c t))
theorem ksB_by {k : Sta} (hk : By k) (s c t : Nat) : By (ksB k s c t) := enc_by (expand_lt hk)
def ksAt (k : Sta) (s c o : Nat) : Nat := ksB k s c (o / 16) (o % 16)
theorem ksAt_lt {k : Sta} (hk : By k) (s c o : Nat) : ksAt k s c o < 256 := ksB_by hk _ _ _ _
def xorG (k : Sta) (s c o : Nat) (F : Nat → Nat) : Nat → Nat := fun i => F i ^^^ ksAt k s c (o + i)
theorem xorG_lt {k : Sta} (hk : By k) (s c o : Nat) {F : Nat → Nat} (hF : ∀ i, F i < 256) (i : Nat) : xorG k s c o F i < 256 := xor_lt _ _ (hF i) (ksB_by hk _ _ _ _)
def xorK (k : Sta) (s c o : Nat) (l : List UInt8) : List UInt8 := (List.range l.length).map fun i => UInt8.ofNat (xorG k s c o (byL l) i)
theorem xorK_length (k : Sta) (s c o : Nat) (l : List UInt8) : (xorK k s c o l).length = l.length := by simp [xorK]
theorem xorK_get {k : Sta} {s c o i : Nat} {l : List UInt8} (h : i < l.length) : (xorK k s c o l)[i]? = some (UInt8.ofNat (xorG k s c o (byL l) i)) := by simp [xorK, h]
theorem ofNat_byte {n : Nat} (h : n < 256) : byteV (UInt8.ofNat n) = .int .u8 ((n : Nat) : Int) := by
  unfold byteV
  rw [UInt8.toNat_ofNat', Nat.mod_eq_of_lt h]
theorem xorK_row {k : Sta} (hk : By k) (s c o : Nat) (l : List UInt8) {n : Nat} (hn : l.length = n) : (xorK k s c o l).map byteV = rowV n (xorG k s c o (byL l)) := by
  subst hn
  unfold xorK rowV
  rw [List.map_map]
  exact List.map_congr_left fun i _ => ofNat_byte (xorG_lt hk s c o (byL_lt l) i)
theorem byL_get {l : List UInt8} {i : Nat} (h : i < l.length) : l[i]? = some (UInt8.ofNat (byL l i)) := by
  rw [List.getElem?_eq_getElem h]
  congr 1
  unfold byL
  rw [List.getD_eq_getElem?_getD, List.getElem?_eq_getElem h, Option.getD_some, UInt8.ofNat_toNat]
theorem byL_xorK {k : Sta} (hk : By k) {s c o i : Nat} {l : List UInt8} (h : i < l.length) : byL (xorK k s c o l) i = xorG k s c o (byL l) i := by
  show ((xorK k s c o l).getD i 0).toNat = _
  rw [List.getD_eq_getElem?_getD, xorK_get h, Option.getD_some, UInt8.toNat_ofNat', Nat.mod_eq_of_lt (xorG_lt hk s c o (byL_lt l) i)]
theorem xorK_xorK {k : Sta} (hk : By k) (s c o : Nat) (l : List UInt8) : xorK k s c o (xorK k s c o l) = l := by
  apply List.ext_getElem?
  intro i
  rcases Nat.lt_or_ge i l.length with h | h
  · rw [xorK_get (by rw [xorK_length]; exact h), byL_get h]
    congr 2
    show byL (xorK k s c o l) i ^^^ ksAt k s c (o + i) = byL l i
    rw [byL_xorK hk h]
    show byL l i ^^^ ksAt k s c (o + i) ^^^ ksAt k s c (o + i) = byL l i
    rw [Nat.xor_assoc, Nat.xor_self, Nat.xor_zero]
  · rw [List.getElem?_eq_none (by rw [xorK_length, xorK_length]; exact h), List.getElem?_eq_none h]
/-! ### In blocks: a bytes of the first block are skipped, m bytes there are -/
def dnS (a m i : Nat) : Nat := min m (16 * i - a)
def skS (a i : Nat) : Nat := if i = 0 then a else 0
def rpS (a m i : Nat) : Nat := if dnS a m i = m then dnS a m (i - 1) else dnS a m i
theorem dnS_zero (a m : Nat) : dnS a m 0 = 0 := by unfold dnS; omega
theorem rpS_zero {a m : Nat} (hm : 0 < m) : rpS a m 0 = 0 := by unfold rpS; rw [dnS_zero, if_neg (by omega)]
theorem dnS_lt {a m i : Nat} (hm : 0 < m) (hi : i < (a + m - 1) / 16 + 1) : dnS a m i < m := by unfold dnS; omega
theorem rpS_lt {a m i : Nat} (hm : 0 < m) (hi : i < (a + m - 1) / 16 + 1) : rpS a m i = dnS a m i := by unfold rpS; rw [if_neg (by have := dnS_lt hm hi; omega)]
theorem skS_lt {a : Nat} (ha : a < 16) (i : Nat) : skS a i < 16 := by unfold skS; split <;> omega
theorem dnS_next {a m i : Nat} (ha : a < 16) (hm : 0 < m) (hi : i < (a + m - 1) / 16 + 1) : dnS a m i + min (m - dnS a m i) (16 - skS a i) = dnS a m (i + 1) := by
  unfold dnS skS
  split <;> omega
theorem dnS_end {a m : Nat} (ha : a < 16) (hm : 0 < m) : dnS a m ((a + m - 1) / 16 + 1) = m := by unfold dnS; omega
theorem rpS_next {a m i : Nat} (ha : a < 16) (hm : 0 < m) (hi : i < (a + m - 1) / 16 + 1) : (if m - dnS a m i = min (m - dnS a m i) (16 - skS a i) then dnS a m i else dnS a m i + min (m - dnS a m i) (16 - skS a i)) = rpS a m (i + 1) := by
  have h1 := dnS_next ha hm hi
  have h2 := dnS_lt hm hi
  unfold rpS
  rw [Nat.add_sub_cancel]
  by_cases h : dnS a m (i + 1) = m
  · rw [if_pos h, if_pos (by omega)]
  · rw [if_neg h, if_neg (by omega)]; exact h1
/-- The bytes of one block. -/
theorem xorG_block {k : Sta} {s c o m i j : Nat} {F : Nat → Nat} (hm : 0 < m) (hi : i < (o % 16 + m - 1) / 16 + 1) (hj : j < min (m - dnS (o % 16) m i) (16 - skS (o % 16) i)) :
    F (dnS (o % 16) m i + j) ^^^ ksB k s c (o / 16 + i) (skS (o % 16) i + j) = xorG k s c o F (dnS (o % 16) m i + j) := by
  have h : o + (dnS (o % 16) m i + j) = 16 * (o / 16 + i) + (skS (o % 16) i + j) ∧ skS (o % 16) i + j < 16 := by
    have h1 := dnS_lt hm hi
    have h2 := Nat.div_add_mod o 16
    have h3 := Nat.mod_lt o (show 0 < 16 by decide)
    generalize o % 16 = a at *
    generalize o / 16 = d at *
    unfold dnS skS at *
    split at hj <;> rename_i h0 <;> (first | rw [if_pos h0] | rw [if_neg h0]) <;> constructor <;> omega
  unfold xorG ksAt
  rw [h.1, show (16 * (o / 16 + i) + (skS (o % 16) i + j)) / 16 = o / 16 + i from by omega, show (16 * (o / 16 + i) + (skS (o % 16) i + j)) % 16 = skS (o % 16) i + j from by omega]
theorem skS_zero (a : Nat) : skS a 0 = a := if_pos rfl
theorem skS_succ (a i : Nat) : skS a (i + 1) = 0 := if_neg (Nat.succ_ne_zero i)
theorem copy_row (l : List UInt8) (xs : List Value) (hx : xs.length = l.length) (G : Nat → Nat) : xs.take 0 ++ (l.take l.length).map byteV ++ xs.drop (0 + min l.length l.length) = rowV l.length (mid (byL l) G 0) := by
  rw [← mid_zero, ← rowV_byL rfl, Nat.min_self, Nat.zero_add, List.take_zero, List.nil_append, List.take_length, List.drop_eq_nil_of_le (by omega), List.append_nil]
theorem ctr_flat (s c t : Nat) : [be 4 s, be 8 c, be 4 t].flatten = ctrL s c t := by simp [ctrL]
theorem eq16_all {f g : Sta} (h : (List.range 16).all (fun i => Nat.beq (f i) (g i)) = true) : Eq16 f g := fun i hi => Nat.eq_of_beq_eq_true (List.all_eq_true.1 h i (List.mem_range.2 hi))
theorem K_key (k : Nat → Nat) (r : List Value) : ((rowV 16 k ++ r).drop 0).take 16 = rowV 16 k := by rw [List.drop_zero]; exact List.take_left' (rowV_length _ _)
/-- Bytes out of a row of numbers. -/
def rowL (f : Nat → Nat) (o m : Nat) : List UInt8 := (List.range m).map fun j => UInt8.ofNat (f (o + j))
theorem rowL_length (f : Nat → Nat) (o m : Nat) : (rowL f o m).length = m := by simp [rowL]
theorem rowL_row {n o m : Nat} {f : Nat → Nat} (hf : ∀ i, f i < 256) (h : o + m ≤ n) : ((rowV n f).drop o).take m = (rowL f o m).map byteV := by
  rw [rowV_part (g := fun j => f (o + j)) h (fun _ _ => rfl)]
  unfold rowL rowV
  rw [List.map_map]
  exact List.map_congr_left fun i _ => (ofNat_byte (hf _)).symm
end Go.Proofs.YthadcgkcgpinhaaGreatDoor
namespace Go.Proofs.YthadcgkcgpinhaaGreatDoor
open Go Go.RowKit
variable {κ : Cx}

theorem tup_le2 {d₁ d₂ e₁ e₂ : D} (h₁ : Le d₁ e₁) (h₂ : Le d₂ e₂) : Le (tup [d₁, d₂]) (tup [e₁, e₂]) := by
  rintro B w x ⟨xs, rfl, hl, h⟩
  refine ⟨xs, rfl, hl, fun j e u he hu => ?_⟩
  match j, he with
  | 0, he => simp at he; subst he; exact h₁ _ _ _ (h 0 d₁ u rfl hu)
  | 1, he => simp at he; subst he; exact h₂ _ _ _ (h 1 d₂ u rfl hu)
  | j + 2, he => simp at he
/-- A contract: block g, whose cells are xs, is left with the cells ys, and u is returned; M tells of other memory. -/
structure FnWR (P : Program) (f : FuncId) (M : Env) (T g : Nat) (xs ys : List Value) (ds : List D) (u : Value) : Prop where
  body : ∃ fn, P.funcs[f]? = some fn ∧ (fn.name == "runtime.NumGoroutine") = false ∧ fn.body.isNone = false
  calls : ∀ (vs : List Value) (w : World), vs.length = ds.length → (∀ (j : Nat) (e : D) (u : Value), ds[j]? = some e → vs[j]? = some u → e.Of w u) → (∀ p ∈ M, p.2.Of w undef) → g < w.heap.size → w.heap[g]? = some (.cells xs.toArray T (0, 0)) →
    Calls P f vs.toArray w fun e w' => e = .returned u ∧ Wrote g T g w w' ∧ w'.heap[g]? = some (.cells ys.toArray T (0, 0))
section
variable {P : Program} {n B : Nat} {ops : Array Oper} {E : Env} {ty : TypeId} {pos : String} {after : Array Edge}
theorem eff_callWR {f : FuncId} {M : Env} {T g s dst : Nat} {xs ys : List Value} {ds : List D} {u : Value} {args : Array Operand} {argTypes : Array TypeId} {E' : Env} (hf : FnWR P f M T g xs ys ds u) (hM : ∀ p ∈ M, ∃ k, vbase ≤ k ∧ E.look k = some p.2) 
    (ha : Args E ds args.toList) (hg : B ≤ g) (hblk : E.look s = some (blk g T xs)) (hn : n ≤ vbase) (hdst : dst < n) (hl : LeftS B T g E' E) :
    Eff P n B ops ⟨some dst, .call { callee := .value (.func f), args := args, argTypes := argTypes }, ty, pos, after, none⟩ E ((dst, .v u) :: (s, blk g T ys) :: E') := by
  intro κ a w K Q h hK
  obtain ⟨fn, h1, h2, h3⟩ := hf.body
  have hfun : a.eval (.func f) = .func (.func f) #[] #[] := h.at_ (.func f) _ rfl
  have hrun : (execOp a.eval ⟨some dst, .call { callee := .value (.func f), args := args, argTypes := argTypes }, ty, pos, after, none⟩).run P w = .ok (.enter f (args.map a.eval)) w := by
    have h2' : ¬ fn.name = "runtime.NumGoroutine" := by simpa using h2
    have h3' : ¬ fn.body = none := by intro h; rw [h] at h3; cases h3
    simp [execOp, resolve, Deferred.ofValue, hfun, invoke, callFunc, h1, h2', h3']
  obtain ⟨hlt, hh⟩ := h.of s _ hblk
  have hcall := hf.calls (args.toList.map a.eval) w (by rw [List.length_map, ha.length]) (fun j e u he hu => by
    rw [List.getElem?_map] at hu
    cases hx : args.toList[j]? with
    | none => rw [hx] at hu; cases hu
    | some x =>
      rw [hx] at hu; injection hu with hu; subst hu
      obtain ⟨e', h4, h5⟩ := ha.nth he hx
      exact h5.of (h.at_ x _ h4)) (fun p hp => by
    obtain ⟨k, h4, h5⟩ := hM p hp
    have h6 := h.of k _ h5
    rwa [show a.tmps.getD k undef = undef from by
      rw [Array.getD_eq_getD_getElem?, Array.getElem?_eq_none (by rw [h.size]; omega)]; rfl] at h6) hlt hh
  have harr : (args.toList.map a.eval).toArray = args.map a.eval := by apply Array.ext'; simp
  rw [harr] at hcall
  rw [if_pos (by simp [Region.wanted])]
  refine opR (by nofun) ?_
  unfold Oper.wp
  rw [hrun, Oper.upon_enter]
  refine Calls.mono hcall ?_
  rintro e w' ⟨rfl, hw, hh'⟩
  have hwr : Wrote B T g w w' := ⟨hg, hw.os, hw.tape, hw.output, hw.size, hw.cel, hw.other⟩
  have hst := hl.st h hwr
  have hlt' : g < w'.heap.size := (Array.getElem?_eq_some_iff.1 hh').1
  exact hK _ _ (hwr.below h.base) (St.put (hst.push (d := blk g T ys) ⟨hlt', hh'⟩) hdst rfl)
theorem FnWR.of {f : FuncId} {fn : Func} {c : Code} {M : Env} {T g kb kw : Nat} {xs ys us : List Value} {u : Value} (hf : P.funcs[f]? = some fn) (hb : fn.body = some c) (hname : (fn.name == "runtime.NumGoroutine") = false) (hn : fn.ntmps = n) (hds : us.length ≤ n) (hnv : n ≤ vbase)
    (hMb : ∀ p ∈ M, vbase ≤ p.1) (hkb : vbase ≤ kb) (hkw : vbase ≤ kw) (args : Env) (hargs : ∀ p ∈ args, ∃ v, p.2 = .v v ∧ us[p.1]? = some v)
    (h : ∀ w₀ w₁ : World, w₀.heap.size = g → A Cx.top P w₀ n c (args ++ ((kb, blk g T xs) :: (kw, wroteD T g w₁) :: M)) (BP P fn fun e w' => e = .returned u ∧ Wrote g T g w₁ w' ∧ w'.heap[g]? = some (.cells ys.toArray T (0, 0)))) :
    FnWR P f M T g xs ys (us.map D.v) u := by
  refine ⟨⟨fn, hf, hname, by rw [hb]; rfl⟩, fun vs w hl hv hM hlt hh => ?_⟩
  have hvs : vs = us := by
    apply List.ext_getElem?
    intro j
    simp only [List.length_map] at hl
    rcases Nat.lt_or_ge j us.length with hj | hj
    · have h1 := hv j (.v us[j]) vs[j] (by simp [hj]) (List.getElem?_eq_getElem (by omega))
      rw [List.getElem?_eq_getElem hj, List.getElem?_eq_getElem (by omega)]
      exact congrArg some h1
    · rw [List.getElem?_eq_none hj, List.getElem?_eq_none (by omega)]
  subst hvs
  have hsz := cutW_size (w := w) (g := g) (Nat.le_of_lt hlt)
  refine callsIn_FR.1 (callsIn_of_wp_marks (F := FR none) (n := 0) hf hb trivial (h (cutW w g) w hsz _ w (cutW_below (Nat.le_of_lt hlt)) ⟨by rw [hsz]; omega, rfl, ?_, fun t e he => ?_⟩))
  · simp [hn]; omega
  · show e.Of w ((vs.toArray ++ Array.replicate (fn.ntmps - vs.toArray.size) undef).getD t undef)
    have hund : vbase ≤ t → (vs.toArray ++ Array.replicate (fn.ntmps - vs.toArray.size) undef).getD t undef = undef := fun ht => by
      rw [Array.getD_eq_getD_getElem?, Array.getElem?_eq_none (by simp [hn]; omega)]; rfl
    rcases List.mem_append.1 (look_mem he) with hm | hm
    · obtain ⟨v, h1, h2⟩ := hargs _ hm
      simp only at h1 h2
      have hj : t < vs.length := (List.getElem?_eq_some_iff.1 h2).1
      rw [Array.getD_eq_getD_getElem?, Array.getElem?_append_left (by simpa using hj)]
      subst h1
      simp [h2]; rfl
    · rcases List.mem_cons.1 hm with h1 | hm
      · injection h1 with h1 h2; subst h1; subst h2
        exact ⟨hlt, hh⟩
      · rcases List.mem_cons.1 hm with h1 | hm
        · injection h1 with h1 h2; subst h1; subst h2
          exact ⟨Nat.le_refl _, Nat.le_refl _, rfl, rfl, rfl, Nat.le_refl _, fun o ho => by rw [hh] at ho; injection ho with ho; exact ⟨_, _, ho.symm⟩, fun _ _ _ => rfl⟩
        · have h1 := hMb _ hm
          rw [hund h1]
          exact hM _ hm
theorem End.wroteR {w₀ w₁ : World} {fn : Func} {T g kb kw r : Nat} {xs ys : List Value} {u : Value} {x : Exit} (hex : x = .ret ∨ x = .normal) (hr : fn.results = #[.tmp r]) (he : E.look r = some (.v u)) (hb : E.look kb = some (blk g T xs)) (hx : xs = ys) (hw : E.look kw = some (wroteD T g w₁)) :
    End Cx.top w₀ n E (BP P fn (fun e w' => e = .returned u ∧ Wrote g T g w₁ w' ∧ w'.heap[g]? = some (.cells ys.toArray T (0, 0))) x) := fun a w _ hs => by
  subst hx
  have key : LeavesInM (FR none) 0 P fn a.tmps (fun e w' => e = .returned u ∧ Wrote g T g w₁ w' ∧ w'.heap[g]? = some (.cells xs.toArray T (0, 0))) a.defers .returning w := by
    rw [show a.defers = [] from hs.defers]
    have h1 : a.tmps.getD r undef = u := hs.of r _ he
    exact ⟨a.tmps.getD r undef, by simp [results, hr], by rw [h1], (hs.of kw _ hw).2, (hs.of kb _ hb).2⟩
  rcases hex with rfl | rfl
  · exact key
  · exact key
end

/-! ### Function values that hold two variables of several cells -/
section
variable {P : Program} {n : Nat} {w₀ : World} {E : Env}
/-- return of a variable's value, and of another value. -/
theorem End.cellT {fn : Func} {r s b r' : Nat} {T e : TypeId} {td : TypeDesc} {xs : List Value} {d d' e' : D} (hr : fn.results = #[.cell r T, .tmp r']) (ht : P.underlying T = some td) (hp : (match td with | .struct _ | .array _ _ => true | _ => false) = true) (hsz : SizeIs P T xs.length)
    (h1 : E.look r = some (.v (.pointer (some ⟨b, 0, none⟩)))) (h2 : E.look s = some (blk b e xs)) (hl : Le (.v (aggV xs)) d) (h1' : E.look r' = some e') (hl' : Le e' d') : End Cx.top w₀ n E (BP P fn (PostOf w₀ (tup [d, d'])) .ret) := fun a w g hs => by
  have h3 : a.tmps[r]?.getD undef = .pointer (some ⟨b, 0, none⟩) := by rw [← Array.getD_eq_getD_getElem?]; exact hs.of r _ h1
  obtain ⟨_, hh⟩ := hs.of s _ h2
  have k1 := run_loadVar_row (P := P) w b e T xs.toArray (0, 0) td hh ht hp (by simpa [SizeIs] using hsz)
  refine BP.ret hs.defers ⟨.tuple #[aggV xs, a.tmps.getD r' undef], by simp [results, hr, h3, asAddr, k1, aggV], _, rfl, g, [aggV xs, a.tmps.getD r' undef], rfl, rfl, fun j e u he hu => ?_⟩
  match j, he, hu with
  | 0, he, hu => simp at he hu; subst he; subst hu; exact hl.of rfl
  | 1, he, hu => simp only [List.getElem?_cons_succ, List.getElem?_cons_zero, Option.some.injEq] at he hu; subst he; subst hu; exact hl'.of (hs.of r' _ h1')
  | j + 2, he, _ => simp at he
def closR (base f : Nat) (e₁ : TypeId) (xs : List Value) (e₂ : TypeId) (ys : List Value) : D :=
  .p (fun B w x => ∃ p q, base ≤ p ∧ base ≤ q ∧ p ≠ q ∧ p < B ∧ q < B ∧ x = .func (.func f) #[] #[ptr p, ptr q] ∧ w.heap[p]? = some (.cells xs.toArray e₁ (0, 0)) ∧ w.heap[q]? = some (.cells ys.toArray e₂ (0, 0)))
    (fun _ _ _ _ g ⟨p, q, h1, h2, h3, h4, h5, h6, h7, h8⟩ => ⟨p, q, h1, h2, h3, h4, h5, h6, (g.block p h4).trans h7, (g.block q h5).trans h8⟩)
    (fun _ _ _ _ g ⟨p, q, h1, h2, h3, h4, h5, h6⟩ => ⟨p, q, h1, h2, h3, by omega, by omega, h6⟩)
theorem closR_mono {f : Nat} {e₁ e₂ : TypeId} {xs ys : List Value} (B B' : Nat) (h : B ≤ B') : Le (closR B' f e₁ xs e₂ ys) (closR B f e₁ xs e₂ ys) := fun _ _ _ ⟨p, q, h1, h2, h3⟩ => ⟨p, q, by omega, by omega, h3⟩
theorem End.closR {fn : Func} {r k₁ k₂ p q f : Nat} {e₁ e₂ : TypeId} {xs ys : List Value} {x : Exit} (hx : x = .ret ∨ x = .normal) (hr : fn.results = #[.tmp r]) (hp : w₀.heap.size ≤ p) (hq : w₀.heap.size ≤ q) (hpq : p ≠ q) (ht : E.look r = some (.v (.func (.func f) #[] #[ptr p, ptr q])))
    (h1 : E.look k₁ = some (blk p e₁ xs)) (h2 : E.look k₂ = some (blk q e₂ ys)) : End Cx.top w₀ n E (BP P fn (PostOf w₀ (Go.Proofs.YthadcgkcgpinhaaGreatDoor.closR w₀.heap.size f e₁ xs e₂ ys)) x) := fun a w g hs => by
  obtain ⟨h3, h4⟩ := hs.of k₁ _ h1
  obtain ⟨h5, h6⟩ := hs.of k₂ _ h2
  have key : ∃ v, (results fn a.tmps).run P w = .ok v w ∧ PostOf w₀ (Go.Proofs.YthadcgkcgpinhaaGreatDoor.closR w₀.heap.size f e₁ xs e₂ ys) (.returned v) w :=
    ⟨a.tmps.getD r undef, by simp [results, hr], _, rfl, g, p, q, hp, hq, hpq, h3, h5, hs.of r _ ht, h4, h6⟩
  rcases hx with rfl | rfl
  · exact BP.ret hs.defers key
  · exact BP.ret hs.defers key
theorem A.openClosR {c : Code} {Q : Exit → Act → World → Prop} {t k₁ k₂ f : Nat} {e₁ e₂ : TypeId} {xs ys : List Value} {B : Nat} (ht : E.look t = some (closR B f e₁ xs e₂ ys))
    (h : ∀ p q, B ≤ p → B ≤ q → p ≠ q → A κ P w₀ n c ((t, .v (.func (.func f) #[] #[ptr p, ptr q])) :: (k₁, blk p e₁ xs) :: (k₂, blk q e₂ ys) :: E) Q) : A κ P w₀ n c E Q := fun a w g hs => by
  obtain ⟨p, q, h1, h2, h3, h4, h5, h6, h7, h8⟩ := hs.of t _ ht
  exact h p q h1 h2 h3 a w g (((hs.push (t := k₂) (d := blk q e₂ ys) ⟨h5, h8⟩).push (t := k₁) (d := blk p e₁ xs) ⟨h4, h7⟩).push (d := .v _) h6)
/-- A slice that came in gets a name: of its value something is known in memory. -/
def valM (v : Value) (d : D) : D := .p (fun B w _ => d.OfB B w v) (fun _ _ _ _ g h => h.keep g) (fun _ _ _ _ g h => h.up g)
end
section
variable {P : Program} {B : Nat} {E : Env} {dst : Option Tmp} {ty : TypeId} {pos : String} {after : Array Edge} {guard : Option (Nat × Bool)}
/-- What a value means in memory that is known. -/
theorem OpOk.fact {o : Oper} {v : Value} {d : D} {s b : Nat} {e : TypeId} {xs : List Value} (h : OpOk P B o E (.v v)) (hs : vbase ≤ s) (hk : E.look s = some (blk b e xs)) (hd : ∀ B w, b < B → w.heap[b]? = some (.cells xs.toArray e (0, 0)) → d.OfB B w v) : OpOk P B o E d := fun ρ w hB hv hρ => by
  refine (h ρ w hB hv hρ).mono fun x w' hx => ⟨hx.1, ?_⟩
  obtain ⟨h1, h2⟩ := (hv s _ hs hk : (blk b e xs).Of w undef)
  have h3 : (blk b e xs).Of w' undef := D.Of.grow (d := blk b e xs) ⟨h1, h2⟩ hx.1
  obtain ⟨h4, h5⟩ := h3
  rw [show x = v from hx.2]
  exact hd _ _ h4 h5
theorem slice_byt {b o n c : Nat} {e : TypeId} {xs : List Value} (l : List UInt8) (hn : n = l.length) (hc : n ≤ c) (hm : c ≤ maxLen) (hl : (xs.drop o).take n = l.map byteV) (B : Nat) (w : World) (hb : b < B) (hh : w.heap[b]? = some (.cells xs.toArray e (0, 0))) : (byt l).OfB B w (.slice (some ⟨b, o, none⟩) n c) := by
  subst hn
  refine ⟨c, bytes_mk hc hm fun j u hu => ?_⟩
  rw [← hl, List.getElem?_take] at hu
  split at hu
  · rw [List.getElem?_drop] at hu
    refine ⟨_, rfl, hb, ?_⟩
    rw [add_lit0]
    simp [World.cell?, hh, hu]
  · cases hu
/-- Two strings, one behind the other. -/
theorem ok_addS {t t' : TypeId} {x y : Operand} {a b : List UInt8} (hx : E.at x = some (str a)) (hy : E.at y = some (str b)) (hl : a.length + b.length ≤ 9223372036854775807) : OpOk P B ⟨dst, .binOp .add t x y t', ty, pos, after, guard⟩ E (str (a ++ b)) := fun ρ w _ _ hρ => by
  have h1 : ρ x = .string ⟨a.toArray⟩ := hρ x (by simp [Op.operands]) _ hx
  have h2 : ρ y = .string ⟨b.toArray⟩ := hρ y (by simp [Op.operands]) _ hy
  have h3 : (⟨a.toArray⟩ ++ ⟨b.toArray⟩ : ByteArray) = ⟨(a ++ b).toArray⟩ := by
    apply ByteArray.ext
    simp [ByteArray.data_append]
  have h4 : ¬ (((⟨a.toArray⟩ : ByteArray).size + (⟨b.toArray⟩ : ByteArray).size : Nat) : Int) > IntKind.i64.max := by
    have e1 : (⟨a.toArray⟩ : ByteArray).size = a.length := by simp [ByteArray.size]
    have e2 : (⟨b.toArray⟩ : ByteArray).size = b.length := by simp [ByteArray.size]
    rw [e1, e2]
    simp only [IntKind.max, IntKind.signed, IntKind.bits]
    simp
    omega
  exact out_val (x := .string ⟨(a ++ b).toArray⟩) (w' := w) (by
    simp only [execOp, h1, h2]
    simp only [binOp, Op.stringOp, if_neg h4, h3, eqGuard, Sem.run_bind, Sem.run_pure]
    simp) ⟨Grow.refl w, rfl⟩
/-- Two truths compared. -/
theorem ok_eqBool {t t' : TypeId} {x y : Operand} {a b : Bool} (ht : P.underlying t = some .bool) (hx : E.at x = some (.v (.bool a))) (hy : E.at y = some (.v (.bool b))) : OpOk P B ⟨dst, .binOp .eql t x y t', ty, pos, after, guard⟩ E (.v (.bool (a == b))) := fun ρ w _ _ hρ => by
  have h1 : ρ x = .bool a := hρ x (by simp [Op.operands]) _ hx
  have h2 : ρ y = .bool b := hρ y (by simp [Op.operands]) _ hy
  have h3 := run_equalIn_bool' (P := P) w 9999 t a b ht
  exact out_val (w' := w) (by simp [execOp, h1, h2, eqGuard, binOp, Op.equal, Op.maxDepth, h3]) ⟨Grow.refl w, rfl⟩
/-- Part of a slice that is told exactly, up to the very end of its room too. -/
theorem ok_sliceE {t e : TypeId} {z : Value} {nb : Nat} {x : Operand} {lo hi mx : Option Operand} {b o len cap l h m : Nat} (ht : P.underlying t = some (.slice e)) (hs : InfoIs P e z nb) (hx : E.at x = some (.v (.slice (some ⟨b, o, none⟩) len cap)))
    (hlo : Bnd E lo l 0) (hhi : (∃ ho k, hi = some ho ∧ E.at ho = some (.v (.int k (h : Int)))) ∨ (hi = none ∧ mx = none ∧ h = len)) (hmx : Bnd E mx m cap) (hlh : l ≤ h) (hhm : h ≤ m) (hml : m ≤ cap) :
    OpOk P B ⟨dst, .slice t x lo hi mx, ty, pos, after, guard⟩ E (.v (.slice (some ⟨b, if m = l then o else o + l, none⟩) (h - l) (m - l))) := fun ρ w _ _ hρ => by
  have h1 : ρ x = _ := hρ x (by simp [Op.operands]) _ hx
  obtain ⟨info, hinfo, _, hsize, _⟩ := hs.get
  have hlo' := hlo.get (ρ := ρ) fun o ho u hu => hρ o (by simp [Op.operands, ho]) _ hu
  have hmx' := hmx.get (ρ := ρ) fun o ho u hu => hρ o (by simp [Op.operands, ho]) _ hu
  have hhi' : (∃ k, hi.map ρ = some (.int k (h : Int))) ∨ (hi.map ρ = none ∧ mx.map ρ = none ∧ h = len) := by
    rcases hhi with ⟨ho, k, rfl, hh⟩ | ⟨rfl, rfl, hh⟩
    · exact .inl ⟨k, by simp [show ρ ho = _ from hρ ho (by simp [Op.operands]) _ hh]⟩
    · exact .inr ⟨rfl, rfl, hh⟩
  have haddr : (if m = l then (⟨b, o, none⟩ : Addr) else (⟨b, o, none⟩ : Addr).add (l * 1)) = ⟨b, if m = l then o else o + l, none⟩ := by
    rw [add_lit0, Nat.mul_one]
    split <;> rfl
  have hr : (Instr.sliceAt t (.slice (some ⟨b, o, none⟩) len cap) (lo.map ρ) (hi.map ρ) (mx.map ρ)).run P w = .ok (.slice (some ⟨b, if m = l then o else o + l, none⟩) (h - l) (m - l)) w := by
    rw [← haddr]
    have hb := sliceBounds_run (P := P) (sl := true) w hlo' hhi' hmx' hlh hhm hml
    simp only [Instr.sliceAt, Instr.slice, Sem.run_bind, run_underlying ht, Result.andThen_ok, hb, sizeOf, typeInfo]
    simp [hinfo, hsize]
    split <;> rfl
  exact out_val (w' := w) (by simp only [execOp, h1, Sem.run_bind, hr, Result.andThen_ok, Sem.run_pure]) ⟨Grow.refl w, rfl⟩
/-- A slice at the head of a block that no one else has, as an array's address. -/
theorem ok_arrayF {t e e' : TypeId} {len m B' : Nat} {x : Operand} {xs : List Value} (ht : P.underlying t = some (.array len e)) (hx : E.at x = some (fresh B' e' xs m)) (hm : len ≤ m) :
    OpOk P B ⟨dst, .sliceToArrayPointer t x, ty, pos, after, guard⟩ E (freshV B' [] e' xs) := fun ρ w _ _ hρ => by
  obtain ⟨b, h1, h2, h3, h4⟩ := hρ x (by simp [Op.operands]) _ hx
  have : ¬ m < len := by omega
  exact out_val (x := .pointer (some ⟨b, 0, none⟩)) (w' := w) (by simp [execOp, h1, Instr.arrayAt, run_underlying ht, this]) ⟨Grow.refl w, b, rfl, h2, (fun _ h => by cases h), h3, h4⟩
/-- A load of the whole of such a block. -/
theorem ok_loadF {T e : TypeId} {td : TypeDesc} {x : Operand} {B' : Nat} {L : List Nat} {xs : List Value} (ht : P.underlying T = some td) (hp : (match td with | .struct _ | .array _ _ => true | _ => false) = true) (hsz : SizeIs P T xs.length)
    (hx : E.at x = some (freshV B' L e xs)) : OpOk P B ⟨dst, .load T x, ty, pos, after, guard⟩ E (.v (aggV xs)) := fun ρ w _ _ hρ => by
  obtain ⟨b, h1, _, _, _, hh⟩ := hρ x (by simp [Op.operands]) _ hx
  have := run_loadVar_row (P := P) w b e T xs.toArray (0, 0) td hh ht hp (by simpa [SizeIs] using hsz)
  exact out_val (w' := w) (by simp [execOp, h1, Instr.loadAt, Instr.sureAddr, this, aggV]) ⟨Grow.refl w, rfl⟩
/-- append to a slice of bytes that has no room: a new row of the call's own. -/
theorem ok_appendFull {t e : TypeId} {z : Value} {nb : Nat} {r x : Operand} {f g : D} {l m : List UInt8} (ht : P.underlying t = some (.slice e)) (hinfo : InfoIs P e z nb) (hnb : nb ≤ 64) (hz1 : z.cells.size = 1)
    (hr : E.at r = some g) (hg : Le g (bytes l l.length)) (hx : E.at x = some f) (hf : Le f (byt m)) (hl : 0 < l.length) (hpos : 0 < m.length) (hk : l.length + m.length ≤ 1099511627776) :
    OpOk P B ⟨dst, .call { callee := .builtin .append, args := #[r, x], argTypes := #[t, t] }, ty, pos, after, guard⟩ E (own B e (l.length + m.length) ((l ++ m).map byteV)) := fun ρ w hB hv hρ => by
  obtain ⟨i, hi, hz, hs, hby⟩ := hinfo.get
  obtain ⟨A1, hre, _, hlm, hrow1⟩ := bytes_open (l := l) (hg.of (hρ r (by simp [Op.operands, Call.operands]) _ hr))
  obtain ⟨c, hb⟩ := hf.of (hρ x (by simp [Op.operands, Call.operands]) _ hx)
  obtain ⟨A2, hxe, hle, hcm, hrow⟩ := bytes_open (l := m) hb
  have h1 : ∃ a1, A1 = some a1 := by
    cases l with
    | nil => simp at hl
    | cons b l => obtain ⟨ad, h, _⟩ := hrow1 0 (byteV b) rfl; exact ⟨ad, h⟩
  have h2 : ∃ a2, A2 = some a2 := by
    cases m with
    | nil => simp at hpos
    | cons b l => obtain ⟨ad, h, _⟩ := hrow 0 (byteV b) rfl; exact ⟨ad, h⟩
  obtain ⟨a1, rfl⟩ := h1
  obtain ⟨a2, rfl⟩ := h2
  have hbb : (l.length + m.length) * i.bytes ≤ (l.length + m.length) * 64 := Nat.mul_le_mul_left _ (by omega)
  obtain ⟨v', w', h2, h3, h4⟩ := run_append_arg_grows (P := P) w t ty e i z 1 i.bytes ht hi hz hs rfl hz1 (by omega) a1 l.length l.length (l.map byteV) (by simp) hrow1.cell a2 m.length c (m.map byteV) (by simp) hrow.cell (by omega) (by simp only [maxLen]; omega) (by omega)
  refine out_val (x := v') (w' := w') (by simp [execOp, resolve, invoke, builtin, hre, hxe, h2]) ⟨(Below.refl w.heap.size w).grown h4 (Nat.le_refl _) (fun g hg => by cases hg), ?_⟩
  rw [List.map_append]
  refine ⟨⟨h3.1, h3.2.imp id ?_⟩, fun g hg => ?_⟩
  · rintro ⟨g, cap, cur, h5, h6, h7⟩; exact ⟨g, cap, cur, h5, by omega, h7⟩
  · rcases h3.2 with ⟨hv', _⟩ | ⟨g', cap, cur, hv', _, hh', _⟩
    · rw [hv'] at hg; simp [Value.ownBlock] at hg
    · rw [hv'] at hg; simp [Value.ownBlock] at hg; subst hg
      rcases Nat.lt_or_ge g' w'.heap.size with h | h
      · exact h
      · rw [Array.getElem?_eq_none h] at hh'; cases hh'
end
end Go.Proofs.YthadcgkcgpinhaaGreatDoor
