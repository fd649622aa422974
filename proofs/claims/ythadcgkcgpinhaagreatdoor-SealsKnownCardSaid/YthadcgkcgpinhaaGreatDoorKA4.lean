/-
  OWN TEXTS of this seat, put together, part 4: C05a, C05b, Aes, Nest, C06a.
-/
import Derived.Test.YthadcgkcgpinhaaGreatDoorKA1
import Derived.Test.YthadcgkcgpinhaaGreatDoorKA3
import Derived.Test.YthadcgkcgpinhaaGreatDoorProg
import Derived.Test.YthadcgkcgpinhaaGreatDoorKA2
namespace Go.Proofs.YthadcgkcgpinhaaGreatDoor
open Go Go.RowKit
set_option linter.unusedVariables false
set_option maxRecDepth 20000

theorem zero156 : ZeroIs Tryz.prog 156 (List.replicate 256 (.int .u8 0)) := by unfold ZeroIs; kernel_rfl
theorem size156 : SizeIs Tryz.prog 156 256 := by unfold SizeIs; kernel_rfl

theorem red_yes {c m : Nat} (h : (red c m).testBit (14 - m) = true) : red c m ^^^ mask true (2 ^ (14 - m - 4)) ^^^ mask true (2 ^ (14 - m - 5)) ^^^ mask true (2 ^ (14 - m - 7)) ^^^ mask true (2 ^ (14 - m - 8)) = red c (m + 1) := by
 show _ = red c m ^^^ mask ((red c m).testBit (14 - m)) (redw (14 - m))
 rw [h]
 simp only [mask, cond_true, redw, Nat.xor_assoc]
theorem red_no {c m : Nat} (h : (red c m).testBit (14 - m) = false) : red c m = red c (m + 1) := by
 show _ = red c m ^^^ mask ((red c m).testBit (14 - m)) (redw (14 - m))
 rw [h]
 simp [mask]
/-- The first k powers of 3, in a row of 256. -/
def pwV (k : Nat) : List Value := (List.range 256).map fun x => .int .u8 (((if x < k then gpow 3 x else 0 : Nat)) : Int)
theorem pwV_length (k : Nat) : (pwV k).length = 256 := by simp [pwV]
theorem pwV_get {k x : Nat} (h : x < k) (hx : x < 256) : (pwV k)[x]? = some (nB (gpow 3 x)) := by simp [pwV, hx, h]
theorem pwV_set (k : Nat) : (pwV k).set k (nB (gpow 3 k)) = pwV (k + 1) := by
 unfold pwV
 rw [map_set_range]
 apply List.map_congr_left
 intro x _
 by_cases hx : x = k
 ·subst hx; rw [if_pos rfl, if_pos (by omega)]
 ·rw [if_neg hx]
  by_cases h : x < k
  ·rw [if_pos h, if_pos (by omega)]
  ·rw [if_neg h, if_neg (by omega)]
theorem pwV_one : (List.replicate 256 (.int .u8 0) : List Value).set 0 (.int .u8 1) = pwV 1 := by kernel_rfl
/-- The substitutes of the first k powers of 3, each at its place. -/
def stV5 (k : Nat) : List Value := (List.range 256).map fun x => .int .u8 (((if isP k x then sub8 x else 0 : Nat)) : Int)
/-- All substitutes. -/
def subV : List Value := (List.range 256).map fun x => nB (sub8 x)
theorem stV_length (k : Nat) : (stV5 k).length = 256 := by simp [stV5]
theorem subV_length : subV.length = 256 := by simp [subV]
theorem subV_get {x : Nat} (hx : x < 256) : subV[x]? = some (nB (sub8 x)) := by simp [subV, hx]
theorem subV_one : subV.all (·.oneCell') = true := by kernel_rfl
theorem stV_zero : (List.replicate 256 (.int .u8 0) : List Value) = stV5 0 := by kernel_rfl
theorem stV_set {k : Nat} (hk : k < 255) : (stV5 k).set (gpow 3 k) (nB (subst8 (gpow 3 (255 - k)))) = stV5 (k + 1) := by
 rw [inv3 (by omega), sub8_eq]
 unfold stV5
 rw [map_set_range]
 apply List.map_congr_left
 intro x _
 rw [isP_succ]
 by_cases hx : x = gpow 3 k
 ·subst hx; simp
 ·rw [if_neg hx]
  have : (gpow 3 k == x) = false := by simp [Ne.symm hx]
  rw [this, Bool.or_false]
theorem stV_full : (stV5 255).set 0 (nB (subst8 0)) = subV := by
 unfold stV5 subV
 rw [map_set_range]
 apply List.map_congr_left
 intro x hx
 by_cases h0 : x = 0
 ·subst h0; rw [if_pos rfl, ← sub8_eq, ginv_zero]
 ·rw [if_neg h0, isP_full (by omega) (List.mem_range.1 hx) h0]; rfl

theorem coefficients_fnB (a : Nat) (ha : a < 256) : FnB Tryz.prog 109 [.v (nB a)] (fun B => own B 3 8 (bitsV 8 a)) := by
 refine FnB.of Tryz.func109 rfl (by kernel_rfl) Tryz.ntmps109 (by simp) (fun w => [(0, .v (nB a))]) (fun w => (Start.v rfl Start.nil)) fun w₀ => ?_
 refine GS ?_
 refine TL ?_
 refine RA rfl ?_
 refine RN ?_
 refine GS ?_
 refine TL ?_
 refine RA rfl ?_
 refine RN ?_
 refine A.seq ?_
 refine GS ?_
 refine TL ?_
 refine RA rfl ?_
 refine RN ?_
 refine A.block ?_
 refine A.subL (SubL.cons (t := 0) rfl (Le.refl _) (SubL.cons (t := 3) rfl (own_nil (B := w₀.heap.size) (e := 3)) (SubL.cons (t := 4) rfl (Le.refl _) SubL.nil))) ?_
 refine A.loop (ι := Nat) (fun i => i ≤ 8) (fun i => [(0, .v (nB a)), (3, own w₀.heap.size 3 (i) (bitsV (i) a)), (4, .v (nI i))]) (fun i => 8 - i) 0 ?_ ?_ ?_
 ·exact Nat.zero_le _
 ·exact (KC 0 rfl (KE 3 rfl (by simp [bitsV]) (KC 4 rfl KN)))
 intro i hi
 refine A.seq ?_
 refine GS ?_
 refine TL ?_
 refine RM rfl ?_
 refine RB rfl rfl rfl ?_
 refine RN ?_
 refine A.cond rfl (fun hc6 => ?_) (fun hc6 => ?_)
 ·have hlt : i < 8 := by simp at hc6; omega
  refine A.skip ?_
  refine EN ?_
  refine A.seq ?_
  refine A.block ?_
  refine GE ?_
  refine TF 7 ?_
  refine RM rfl ?_
  refine RM rfl ?_
  refine RM rfl ?_
  refine RS (ok_shr rfl rfl (by omega)) ?_; refine RZ (nB (a / 2 ^ (i))) (by rw [Int.toNat_natCast, show min (i) IntKind.u8.bits = i from by simp only [IntKind.bits]; omega]; exact congrArg _ (shr_nat _ _)) ?_
  refine RS (ok_rem rfl rfl (by decide)) ?_; refine RZ (nB (a / 2 ^ i % 2)) (by rw [tmod_lit _ (by decide)]; rfl) ?_
  refine RS (ok_conv Tryz.underlying5 Tryz.underlying3 rfl) ?_; refine RZ (nI ((a.testBit i).toNat)) (by rw [wrapN_i64 (by omega), Nat.toNat_testBit]) ?_
  refine RS (ok_build [.v (nI ((a.testBit i).toNat))] Tryz.underlying54 info3 rfl (by decide) (by decide) rfl ⟨rfl, rfl, trivial⟩ (fun d hd w x h => by simp only [List.mem_cons, List.not_mem_nil, or_false] at hd; rcases hd with rfl; exact v_one rfl h)) ?_
  refine RN ?_
  refine ⟨_, eff_appendS (vs := [nI ((a.testBit i).toNat)]) Tryz.underlying54 info3 (by decide) rfl rfl rfl (le_lst _ _) (by simp [Value.oneCell']) (by simp; omega) (by decide) (fun g hg => (LV 0 rfl (LV 4 rfl LN))), ?_⟩
  refine TL ?_
  refine RA rfl ?_
  refine RN ?_
  refine End.normal_block ?_
  refine EN ?_
  refine GE ?_
  refine TL ?_
  refine RM rfl ?_
  refine RBS rfl rfl rfl (nI (i + 1)) (by rw [wrap_i64 (by omega) (by omega)]; first | rfl | (congr 1; omega)) ?_
  refine RA rfl ?_
  refine RN ?_
  refine End.normal_then ?_
  refine End.again (i + 1) ?_ ?_ ?_
  ·show _ ≤ _; omega
  ·show _ - _ < _ - _; omega
  ·exact (KC 0 rfl (KE 3 rfl (by rw [bitsV_succ]; rfl) (KC 4 rfl KN)))
 ·obtain rfl : i = 8 := by simp at hc6; omega
  refine A.exit ?_
  refine End.exit_then ?_
  refine End.exit_then ?_
  refine End.exit_here ?_
  refine EN ?_
  refine GS ?_
  refine TL ?_
  refine RM rfl ?_
  refine RA rfl ?_
  refine RN ?_
  refine A.ret ?_
  exact End.ret1 rfl rfl (by first | exact Le.refl _ | exact Le.old _ _)
set_option maxHeartbeats 4000000 in
theorem refMul_fn (a b : Nat) (ha : a < 256) (hb : b < 256) : Fn Tryz.prog 106 [.v (nB a), .v (nB b)] (.v (nB (gm a b))) := by
 refine Fn.of Tryz.func106 rfl (by kernel_rfl) Tryz.ntmps106 (by simp) (fun w => [(0, .v (nB a)), (1, .v (nB b))]) (fun w => (Start.v rfl (Start.v rfl Start.nil))) fun w₀ => ?_
 refine GS ?_
 refine TL ?_
 refine RA rfl ?_
 refine RN ?_
 refine GS ?_
 refine TL ?_
 refine RS (ok_make 15 Tryz.underlying54 info3 (by decide) rfl rfl rfl rfl rfl (by decide)) ?_
 refine RA rfl ?_
 refine RN ?_
 refine A.open (t := 5) (k := 1000005) rfl fun g hBg => ?_
 refine A.regsG _ (fun B => (OldOf.v (t := 0) rfl (OldOf.v (t := 1) rfl (OldOf.v (t := 5) rfl (OldOf.p (t := 1000005) rfl OldOf.nil))))) (by kernel_rfl) (by kernel_rfl) (.inl rfl) (fun B hB => ?_)
 refine TL ?_
 refine RM rfl ?_
 refine RS (ok_callB (coefficients_fnB a ha) (fun _ _ h => own_mono h) (A1 rfl)) ?_
 refine RM rfl ?_
 refine RS (ok_callB (coefficients_fnB b hb) (fun _ _ h => own_mono h) (A1 rfl)) ?_
 refine RA rfl ?_
 refine RA rfl ?_
 refine RN ?_
 refine A.sub (KC 5 rfl (KC 6 rfl (KC 7 rfl (KC 1000005 rfl KN)))) ?_
 refine A.ltBlk (k := 1000005) rfl fun hgB => ?_
 refine A.away (t := 6) (g := g) (B' := w₀.heap.size) rfl hgB hB ?_
 refine A.away (t := 7) (g := g) (B' := w₀.heap.size) rfl hgB hB ?_
 refine A.subL (SubL.cons (t := 5) rfl (Le.refl _) (SubL.cons (t := 6) rfl (Le.refl _) (SubL.cons (t := 7) rfl (Le.refl _) (SubL.cons (t := 1000005) rfl (Le.old _ _) SubL.nil)))) ?_
 refine A.seq ?_
 refine GS ?_
 refine TL ?_
 refine RA rfl ?_
 refine RN ?_
 refine A.block ?_
 refine A.loop (ι := Nat) (fun i => i ≤ 8) (fun i => [(5, .v (.slice (some ⟨g, 0, none⟩) 15 15)), (6, away g w₀.heap.size 3 8 (bitsV 8 a)), (7, away g w₀.heap.size 3 8 (bitsV 8 b)), (8, .v (nI i)), (1000005, blk g 3 (bitsV 15 (cml a b i)))]) (fun i => 8 - i) 0 ?_ ?_ ?_
 ·exact Nat.zero_le _
 ·exact (KC 5 rfl (KC 6 rfl (KC 7 rfl (KC 8 rfl (KE 1000005 rfl (by rw [show cml a b 0 = 0 from rfl, bitsV_zero]) KN)))))
 intro i hi
 refine A.seq ?_
 refine GS ?_
 refine TL ?_
 refine RM rfl ?_
 refine RB rfl rfl rfl ?_
 refine RN ?_
 refine A.cond rfl (fun hc19 => ?_) (fun hc19 => ?_)
 ·have hi8 : i < 8 := by simp at hc19; omega
  refine A.skip ?_
  refine EN ?_
  refine A.seq ?_
  refine A.block ?_
  refine GS ?_
  refine TL ?_
  refine RA rfl ?_
  refine RN ?_
  refine A.block ?_
  refine A.loop (ι := Nat) (fun k => k ≤ 8) (fun k => [(5, .v (.slice (some ⟨g, 0, none⟩) 15 15)), (6, away g w₀.heap.size 3 8 (bitsV 8 a)), (7, away g w₀.heap.size 3 8 (bitsV 8 b)), (8, .v (nI i)), (9, .v (nI k)), (1000005, blk g 3 (bitsV 15 (cml a b i ^^^ crow a b i k)))]) (fun k => 8 - k) 0 ?_ ?_ ?_
  ·exact Nat.zero_le _
  ·exact (KC 5 rfl (KC 6 rfl (KC 7 rfl (KC 8 rfl (KC 9 rfl (KE 1000005 rfl (by rw [show crow a b i 0 = 0 from rfl, Nat.xor_zero]) KN))))))
  intro k hk
  refine A.seq ?_
  refine GS ?_
  refine TL ?_
  refine RM rfl ?_
  refine RB rfl rfl rfl ?_
  refine RN ?_
  refine A.cond rfl (fun hc23 => ?_) (fun hc23 => ?_)
  ·have hk8 : k < 8 := by simp at hc23; omega
   have hx1 := bit_le ((cml a b i ^^^ crow a b i k).testBit (i + k))
   refine A.skip ?_
   refine EN ?_
   refine A.seq ?_
   refine A.block ?_
   refine A.reg (by kernel_rfl) (by kernel_rfl) (.inr (by kernel_rfl)) ?_
   refine TD 22 ?_
   refine RM rfl ?_
   refine RM rfl ?_
   refine RM rfl ?_
   refine RBS rfl rfl rfl (nI (i + k)) (by rw [wrap_i64 (by omega) (by omega)]; first | rfl | (congr 1; omega)) ?_
   refine RM rfl ?_
   refine RM rfl ?_
   refine RM rfl ?_
   refine RBS rfl rfl rfl (nI (i + k)) (by rw [wrap_i64 (by omega) (by omega)]; first | rfl | (congr 1; omega)) ?_
   refine RS (ok_indexV (i + k) Tryz.underlying54 info3 rfl rfl rfl (by omega)) ?_
   refine RS (ok_loadV (s := 1000005) (by decide) Tryz.underlying3 rfl rfl rfl (by rw [Nat.zero_add]; exact bitsV_get (by omega))) ?_
   refine RM rfl ?_
   refine RM rfl ?_
   refine RS (ok_index (d := .v (nI ((a.testBit i).toNat))) Tryz.underlying54 info3 rfl (away_le (bitsV_length _ _).symm) rfl (by omega) (by rw [List.getElem?_map, Int.toNat_natCast, bitsV_get (by omega)]; rfl)) ?_
   refine RS (ok_load Tryz.underlying3 rfl rfl) ?_
   refine RM rfl ?_
   refine RM rfl ?_
   refine RS (ok_index (d := .v (nI ((b.testBit k).toNat))) Tryz.underlying54 info3 rfl (away_le (bitsV_length _ _).symm) rfl (by omega) (by rw [List.getElem?_map, Int.toNat_natCast, bitsV_get (by omega)]; rfl)) ?_
   refine RS (ok_load Tryz.underlying3 rfl rfl) ?_
   refine RB rfl rfl rfl ?_
   refine RB rfl rfl rfl ?_
   refine RS (ok_rem rfl rfl (by decide)) ?_; refine RZ (nI (((cml a b i ^^^ crow a b i k).testBit (i + k) ^^ (a.testBit i && b.testBit k)).toNat)) (by cases (cml a b i ^^^ crow a b i k).testBit (i + k) <;> cases a.testBit i <;> cases b.testBit k <;> rfl) ?_
   refine RS (ok_indexV (i + k) Tryz.underlying54 info3 rfl rfl rfl (by omega)) ?_
   refine RN ?_
   refine ⟨_, eff_storeS (n := 110) (s := 1000005) info3 rfl rfl rfl hBg rfl (by simp only [bitsV_length]; omega) (LV 5 rfl (LeftS.cons (t := 6) rfl (Surv.away) (LeftS.cons (t := 7) rfl (Surv.away) (LV 8 rfl (LV 9 rfl LN))))), ?_⟩
   refine TL ?_
   refine RN ?_
   refine End.sub (KC 5 rfl (KC 6 rfl (KC 7 rfl (KC 8 rfl (KC 9 rfl (KC 1000005 rfl KN)))))) ?_
   refine End.normal_block ?_
   refine EN ?_
   refine GE ?_
   refine TL ?_
   refine RM rfl ?_
   refine RBS rfl rfl rfl (nI (k + 1)) (by rw [wrap_i64 (by omega) (by omega)]; first | rfl | (congr 1; omega)) ?_
   refine RA rfl ?_
   refine RN ?_
   refine End.normal_then ?_
   refine End.again (k + 1) ?_ ?_ ?_
   ·show _ ≤ _; omega
   ·show _ - _ < _ - _; omega
   ·exact (KC 5 rfl (KC 6 rfl (KC 7 rfl (KC 8 rfl (KC 9 rfl (KE 1000005 rfl (congrArg _ (by rw [Nat.zero_add, show crow a b i (k + 1) = crow a b i k ^^^ mask (a.testBit i && b.testBit k) (2 ^ (i + k)) from rfl, ← Nat.xor_assoc]; exact bitsV_set rfl)) KN))))))
  ·obtain rfl : k = 8 := by simp at hc23; omega
   refine A.exit ?_
   refine End.exit_then ?_
   refine End.exit_then ?_
   refine End.exit_here ?_
   refine End.normal_block ?_
   refine EN ?_
   refine GE ?_
   refine TL ?_
   refine RM rfl ?_
   refine RBS rfl rfl rfl (nI (i + 1)) (by rw [wrap_i64 (by omega) (by omega)]; first | rfl | (congr 1; omega)) ?_
   refine RA rfl ?_
   refine RN ?_
   refine End.normal_then ?_
   refine End.again (i + 1) ?_ ?_ ?_
   ·show _ ≤ _; omega
   ·show _ - _ < _ - _; omega
   ·exact (KC 5 rfl (KC 6 rfl (KC 7 rfl (KC 8 rfl (KC 1000005 rfl KN)))))
 ·obtain rfl : i = 8 := by simp at hc19; omega
  refine A.exit ?_
  refine End.exit_then ?_
  refine End.exit_then ?_
  refine End.exit_here ?_
  refine EN ?_
  refine A.seq ?_
  refine GS ?_
  refine TL ?_
  refine RA rfl ?_
  refine RN ?_
  refine A.block ?_
  refine A.loop (ι := Nat) (fun m => m ≤ 7) (fun m => [(5, .v (.slice (some ⟨g, 0, none⟩) 15 15)), (10, .v (nI (14 - m))), (1000005, blk g 3 (bitsV 15 (red (cml a b 8) m)))]) (fun m => 7 - m) 0 ?_ ?_ ?_
  ·exact Nat.zero_le _
  ·exact (KC 5 rfl (KC 10 rfl (KC 1000005 rfl KN)))
  intro m hm
  refine A.seq ?_
  refine GS ?_
  refine TL ?_
  refine RM rfl ?_
  refine RB rfl rfl rfl ?_
  refine RN ?_
  refine A.cond rfl (fun hc49 => ?_) (fun hc49 => ?_)
  ·have hm7 : m < 7 := by simp at hc49; omega
   refine A.skip ?_
   refine EN ?_
   refine A.seq ?_
   refine A.block ?_
   refine GS ?_
   refine TL ?_
   refine RM rfl ?_
   refine RM rfl ?_
   refine RS (ok_indexV (14 - m) Tryz.underlying54 info3 rfl rfl rfl (by omega)) ?_
   refine RS (ok_loadV (s := 1000005) (by decide) Tryz.underlying3 rfl rfl rfl (by rw [Nat.zero_add]; exact bitsV_get (by omega))) ?_
   refine RB rfl rfl rfl ?_
   refine RN ?_
   refine A.cond rfl (fun hc56 => ?_) (fun hc56 => ?_)
   ·have hbit : (red (cml a b 8) m).testBit (14 - m) = true := by revert hc56; cases (red (cml a b 8) m).testBit (14 - m) <;> simp
    refine GS ?_
    refine TF 10 ?_
    refine RM rfl ?_
    refine RM rfl ?_
    refine RBS rfl rfl rfl (nI (14 - m - 4)) (by rw [wrap_i64 (by omega) (by omega)]; first | rfl | (congr 1; omega)) ?_
    refine RM rfl ?_
    refine RM rfl ?_
    refine RBS rfl rfl rfl (nI (14 - m - 4)) (by rw [wrap_i64 (by omega) (by omega)]; first | rfl | (congr 1; omega)) ?_
    refine RS (ok_indexV (14 - m - 4) Tryz.underlying54 info3 rfl rfl rfl (by omega)) ?_
    refine RS (ok_loadV (s := 1000005) (by decide) Tryz.underlying3 rfl rfl rfl (by rw [Nat.zero_add]; exact bitsV_get (by omega))) ?_
    refine RBS rfl rfl rfl (nI (((red (cml a b 8) m).testBit (14 - m - 4) ^^ true).toNat)) (by cases (red (cml a b 8) m).testBit (14 - m - 4) <;> rfl) ?_
    refine RS (ok_indexV (14 - m - 4) Tryz.underlying54 info3 rfl rfl rfl (by omega)) ?_
    refine RN ?_
    refine ⟨_, eff_storeS (n := 110) (s := 1000005) info3 rfl rfl rfl hBg rfl (by simp only [bitsV_length]; omega) (LV 5 rfl (LV 10 rfl LN)), ?_⟩
    refine TL ?_
    refine RN ?_
    refine A.sub (KC 5 rfl (KC 10 rfl (KE 1000005 rfl (show blk g 3 _ = blk g 3 (bitsV 15 ((red (cml a b 8) m) ^^^ mask true (2 ^ (14 - m - 4)))) from congrArg _ (by rw [Nat.zero_add]; exact bitsV_set rfl)) KN))) ?_
    refine GS ?_
    refine TF 10 ?_
    refine RM rfl ?_
    refine RM rfl ?_
    refine RBS rfl rfl rfl (nI (14 - m - 5)) (by rw [wrap_i64 (by omega) (by omega)]; first | rfl | (congr 1; omega)) ?_
    refine RM rfl ?_
    refine RM rfl ?_
    refine RBS rfl rfl rfl (nI (14 - m - 5)) (by rw [wrap_i64 (by omega) (by omega)]; first | rfl | (congr 1; omega)) ?_
    refine RS (ok_indexV (14 - m - 5) Tryz.underlying54 info3 rfl rfl rfl (by omega)) ?_
    refine RS (ok_loadV (s := 1000005) (by decide) Tryz.underlying3 rfl rfl rfl (by rw [Nat.zero_add]; exact bitsV_get (by omega))) ?_
    refine RBS rfl rfl rfl (nI ((((red (cml a b 8) m) ^^^ mask true (2 ^ (14 - m - 4))).testBit (14 - m - 5) ^^ true).toNat)) (by cases ((red (cml a b 8) m) ^^^ mask true (2 ^ (14 - m - 4))).testBit (14 - m - 5) <;> rfl) ?_
    refine RS (ok_indexV (14 - m - 5) Tryz.underlying54 info3 rfl rfl rfl (by omega)) ?_
    refine RN ?_
    refine ⟨_, eff_storeS (n := 110) (s := 1000005) info3 rfl rfl rfl hBg rfl (by simp only [bitsV_length]; omega) (LV 5 rfl (LV 10 rfl LN)), ?_⟩
    refine TL ?_
    refine RN ?_
    refine A.sub (KC 5 rfl (KC 10 rfl (KE 1000005 rfl (show blk g 3 _ = blk g 3 (bitsV 15 (((red (cml a b 8) m) ^^^ mask true (2 ^ (14 - m - 4))) ^^^ mask true (2 ^ (14 - m - 5)))) from congrArg _ (by rw [Nat.zero_add]; exact bitsV_set rfl)) KN))) ?_
    refine GS ?_
    refine TF 10 ?_
    refine RM rfl ?_
    refine RM rfl ?_
    refine RBS rfl rfl rfl (nI (14 - m - 7)) (by rw [wrap_i64 (by omega) (by omega)]; first | rfl | (congr 1; omega)) ?_
    refine RM rfl ?_
    refine RM rfl ?_
    refine RBS rfl rfl rfl (nI (14 - m - 7)) (by rw [wrap_i64 (by omega) (by omega)]; first | rfl | (congr 1; omega)) ?_
    refine RS (ok_indexV (14 - m - 7) Tryz.underlying54 info3 rfl rfl rfl (by omega)) ?_
    refine RS (ok_loadV (s := 1000005) (by decide) Tryz.underlying3 rfl rfl rfl (by rw [Nat.zero_add]; exact bitsV_get (by omega))) ?_
    refine RBS rfl rfl rfl (nI (((((red (cml a b 8) m) ^^^ mask true (2 ^ (14 - m - 4))) ^^^ mask true (2 ^ (14 - m - 5))).testBit (14 - m - 7) ^^ true).toNat)) (by cases (((red (cml a b 8) m) ^^^ mask true (2 ^ (14 - m - 4))) ^^^ mask true (2 ^ (14 - m - 5))).testBit (14 - m - 7) <;> rfl) ?_
    refine RS (ok_indexV (14 - m - 7) Tryz.underlying54 info3 rfl rfl rfl (by omega)) ?_
    refine RN ?_
    refine ⟨_, eff_storeS (n := 110) (s := 1000005) info3 rfl rfl rfl hBg rfl (by simp only [bitsV_length]; omega) (LV 5 rfl (LV 10 rfl LN)), ?_⟩
    refine TL ?_
    refine RN ?_
    refine A.sub (KC 5 rfl (KC 10 rfl (KE 1000005 rfl (show blk g 3 _ = blk g 3 (bitsV 15 ((((red (cml a b 8) m) ^^^ mask true (2 ^ (14 - m - 4))) ^^^ mask true (2 ^ (14 - m - 5))) ^^^ mask true (2 ^ (14 - m - 7)))) from congrArg _ (by rw [Nat.zero_add]; exact bitsV_set rfl)) KN))) ?_
    refine GE ?_
    refine TF 10 ?_
    refine RM rfl ?_
    refine RM rfl ?_
    refine RBS rfl rfl rfl (nI (14 - m - 8)) (by rw [wrap_i64 (by omega) (by omega)]; first | rfl | (congr 1; omega)) ?_
    refine RM rfl ?_
    refine RM rfl ?_
    refine RBS rfl rfl rfl (nI (14 - m - 8)) (by rw [wrap_i64 (by omega) (by omega)]; first | rfl | (congr 1; omega)) ?_
    refine RS (ok_indexV (14 - m - 8) Tryz.underlying54 info3 rfl rfl rfl (by omega)) ?_
    refine RS (ok_loadV (s := 1000005) (by decide) Tryz.underlying3 rfl rfl rfl (by rw [Nat.zero_add]; exact bitsV_get (by omega))) ?_
    refine RBS rfl rfl rfl (nI ((((((red (cml a b 8) m) ^^^ mask true (2 ^ (14 - m - 4))) ^^^ mask true (2 ^ (14 - m - 5))) ^^^ mask true (2 ^ (14 - m - 7))).testBit (14 - m - 8) ^^ true).toNat)) (by cases ((((red (cml a b 8) m) ^^^ mask true (2 ^ (14 - m - 4))) ^^^ mask true (2 ^ (14 - m - 5))) ^^^ mask true (2 ^ (14 - m - 7))).testBit (14 - m - 8) <;> rfl) ?_
    refine RS (ok_indexV (14 - m - 8) Tryz.underlying54 info3 rfl rfl rfl (by omega)) ?_
    refine RN ?_
    refine ⟨_, eff_storeS (n := 110) (s := 1000005) info3 rfl rfl rfl hBg rfl (by simp only [bitsV_length]; omega) (LV 5 rfl (LV 10 rfl LN)), ?_⟩
    refine TL ?_
    refine RN ?_
    refine End.sub (KC 5 rfl (KC 10 rfl (KE 1000005 rfl (show blk g 3 _ = blk g 3 (bitsV 15 (((((red (cml a b 8) m) ^^^ mask true (2 ^ (14 - m - 4))) ^^^ mask true (2 ^ (14 - m - 5))) ^^^ mask true (2 ^ (14 - m - 7))) ^^^ mask true (2 ^ (14 - m - 8)))) from congrArg _ (by rw [Nat.zero_add]; exact bitsV_set rfl)) KN))) ?_
    refine End.normal_block ?_
    refine EN ?_
    refine GE ?_
    refine TL ?_
    refine RM rfl ?_
    refine RBS rfl rfl rfl (nI (14 - (m + 1))) (by rw [wrap_i64 (by omega) (by omega)]; first | rfl | (congr 1; omega)) ?_
    refine RA rfl ?_
    refine RN ?_
    refine End.normal_then ?_
    refine End.again (m + 1) ?_ ?_ ?_
    ·show _ ≤ _; omega
    ·show _ - _ < _ - _; omega
    ·exact (KC 5 rfl (KC 10 rfl (KE 1000005 rfl (congrArg _ (congrArg _ (by first | exact red_yes hbit | exact red_no hbit))) KN)))
   ·have hbit : (red (cml a b 8) m).testBit (14 - m) = false := by revert hc56; cases (red (cml a b 8) m).testBit (14 - m) <;> simp
    refine A.skip ?_
    refine End.normal_block ?_
    refine EN ?_
    refine GE ?_
    refine TL ?_
    refine RM rfl ?_
    refine RBS rfl rfl rfl (nI (14 - (m + 1))) (by rw [wrap_i64 (by omega) (by omega)]; first | rfl | (congr 1; omega)) ?_
    refine RA rfl ?_
    refine RN ?_
    refine End.normal_then ?_
    refine End.again (m + 1) ?_ ?_ ?_
    ·show _ ≤ _; omega
    ·show _ - _ < _ - _; omega
    ·exact (KC 5 rfl (KC 10 rfl (KE 1000005 rfl (congrArg _ (congrArg _ (by first | exact red_yes hbit | exact red_no hbit))) KN)))
  ·obtain rfl : m = 7 := by simp at hc49; omega
   refine A.exit ?_
   refine End.exit_then ?_
   refine End.exit_then ?_
   refine End.exit_here ?_
   refine EN ?_
   refine GS ?_
   refine TL ?_
   refine RA rfl ?_
   refine RN ?_
   refine A.seq ?_
   refine GS ?_
   refine TL ?_
   refine RA rfl ?_
   refine RN ?_
   refine A.block ?_
   refine A.loop (ι := Nat) (fun m => m ≤ 8) (fun m => [(5, .v (.slice (some ⟨g, 0, none⟩) 15 15)), (11, .v (nI ((red (cml a b 8) 7) % 256 / 2 ^ m))), (12, .v (.int .i64 ((m : Int) - 1))), (1000005, blk g 3 (bitsV 15 (red (cml a b 8) 7)))]) (fun m => m) 8 ?_ ?_ ?_
   ·exact Nat.le_refl _
   ·exact (KC 5 rfl (KE 11 rfl (congrArg (fun z : Int => D.v (.int .i64 z)) (show (0 : Int) = _ by omega)) (KC 12 rfl (KC 1000005 rfl KN))))
   intro m hm
   refine A.seq ?_
   refine GS ?_
   refine TL ?_
   refine RM rfl ?_
   refine RB rfl rfl rfl ?_
   refine RN ?_
   refine A.cond rfl (fun hc98 => ?_) (fun hc98 => ?_)
   ·obtain ⟨k, rfl⟩ : ∃ k, m = k + 1 := ⟨m - 1, by simp at hc98; omega⟩
    have hx1 := bit_le ((red (cml a b 8) 7).testBit k)
    have hx2 : (red (cml a b 8) 7) % 256 / 2 ^ (k + 1) ≤ 255 := Nat.le_trans (Nat.div_le_self _ _) (by omega)
    have hx3 : (0 : Int) ≤ (((red (cml a b 8) 7) % 256 / 2 ^ (k + 1) : Nat) : Int) := Int.natCast_nonneg _
    refine A.skip ?_
    refine EN ?_
    refine A.seq ?_
    refine A.block ?_
    refine GE ?_
    refine TL ?_
    refine RM rfl ?_
    refine RBS rfl rfl rfl (nI (2 * (red (cml a b 8) 7 % 256 / 2 ^ (k + 1)))) (by rw [wrap_i64 (by omega) (by omega)]; first | rfl | (congr 1; omega)) ?_
    refine RM rfl ?_
    refine RM rfl ?_; refine RZ (nI k) (by congr 1; omega) ?_
    refine RS (ok_indexV (k) Tryz.underlying54 info3 rfl rfl rfl (by omega)) ?_
    refine RS (ok_loadV (s := 1000005) (by decide) Tryz.underlying3 rfl rfl rfl (by rw [Nat.zero_add]; exact bitsV_get (by omega))) ?_
    refine RBS rfl rfl rfl (nI (red (cml a b 8) 7 % 256 / 2 ^ k)) (by rw [← out_step _ (show k < 8 by omega), wrap_i64 (by omega) (by omega)]; first | rfl | (congr 1; omega)) ?_
    refine RA rfl ?_
    refine RN ?_
    refine End.normal_block ?_
    refine EN ?_
    refine GE ?_
    refine TL ?_
    refine RM rfl ?_
    refine RBS rfl rfl rfl (.int .i64 ((k : Int) - 1)) (by rw [wrap_i64 (by omega) (by omega)]; congr 1; omega) ?_
    refine RA rfl ?_
    refine RN ?_
    refine End.normal_then ?_
    refine End.again k ?_ ?_ ?_
    ·show _ ≤ _; omega
    ·exact Nat.lt_succ_self _
    ·exact (KC 5 rfl (KC 11 rfl (KC 12 rfl (KC 1000005 rfl KN))))
   ·obtain rfl : m = 0 := by simp at hc98; omega
    refine A.exit ?_
    refine End.exit_then ?_
    refine End.exit_then ?_
    refine End.exit_here ?_
    refine EN ?_
    refine GS ?_
    refine TL ?_
    refine RM rfl ?_
    refine RS (ok_conv Tryz.underlying3 Tryz.underlying5 rfl) ?_; refine RZ (nB (gm a b)) (by rw [Nat.pow_zero, Nat.div_one, wrapN_u8 (Nat.mod_lt _ (by decide))]; exact congrArg (fun z : Nat => Value.int .u8 (z : Int)) (refm_eq ha hb)) ?_
    refine RA rfl ?_
    refine RN ?_
    refine A.ret ?_
    exact End.ret1 rfl rfl (by first | exact Le.refl _ | exact Le.old _ _)
set_option maxHeartbeats 1000000 in
theorem refSubst_fn (v : Nat) (hv : v < 256) : Fn Tryz.prog 108 [.v (nB v)] (.v (nB (subst8 v))) := by
 refine Fn.of Tryz.func108 rfl (by kernel_rfl) Tryz.ntmps108 (by simp) (fun w => [(0, .v (nB v))]) (fun w => (Start.v rfl Start.nil)) fun w₀ => ?_
 refine GS ?_
 refine TL ?_
 refine RA rfl ?_
 refine RN ?_
 refine GS ?_
 refine TL ?_
 refine RA rfl ?_
 refine RN ?_
 refine A.seq ?_
 refine GS ?_
 refine TL ?_
 refine RA rfl ?_
 refine RN ?_
 refine A.block ?_
 refine A.loop (ι := Nat) (fun c => c ≤ 8) (fun c => [(0, .v (nB v)), (3, .v (nI (sout v c))), (4, .v (.int .i64 (7 - (c : Int))))]) (fun c => 8 - c) 0 ?_ ?_ ?_
 ·exact Nat.zero_le _
 ·exact (KC 0 rfl (KC 3 rfl (KC 4 rfl KN)))
 intro c hc
 refine A.seq ?_
 refine GS ?_
 refine TL ?_
 refine RM rfl ?_
 refine RB rfl rfl rfl ?_
 refine RN ?_
 refine A.cond rfl (fun hc8 => ?_) (fun hc8 => ?_)
 ·have hc8' : c < 8 := by simp at hc8; omega
  have hs1 : sout v c < 256 := Nat.lt_of_lt_of_le (sout_lt v c) (show 2 ^ c ≤ 2 ^ 8 from Nat.pow_le_pow_right (by decide) (by omega))
  refine A.skip ?_
  refine EN ?_
  refine A.seq ?_
  refine A.block ?_
  refine GS ?_
  refine TL ?_
  refine RM rfl ?_; refine RZ (nI (7 - c)) (by congr 1; omega) ?_
  refine RS (ok_shr rfl rfl (by omega)) ?_; refine RZ (nI (ssum v (7 - c) 0)) (by rw [Int.toNat_natCast, show min (7 - c) IntKind.i64.bits = 7 - c from by simp only [IntKind.bits]; omega]; exact congrArg _ (shr_nat 99 _)) ?_
  refine RA rfl ?_
  refine RN ?_
  refine A.seq ?_
  refine GS ?_
  refine TL ?_
  refine RA rfl ?_
  refine RN ?_
  refine A.block ?_
  refine A.loop (ι := Nat) (fun e => e ≤ 5) (fun e => [(0, .v (nB v)), (3, .v (nI (sout v c))), (4, .v (.int .i64 (7 - (c : Int)))), (5, .v (nI (ssum v (7 - c) e))), (6, .v (nI (4 + e)))]) (fun e => 5 - e) 0 ?_ ?_ ?_
  ·exact Nat.zero_le _
  ·exact (KC 0 rfl (KC 3 rfl (KC 4 rfl (KC 5 rfl (KC 6 rfl KN)))))
  intro e he
  refine A.seq ?_
  refine GS ?_
  refine TL ?_
  refine RM rfl ?_
  refine RB rfl rfl rfl ?_
  refine RN ?_
  refine A.cond rfl (fun hc14 => ?_) (fun hc14 => ?_)
  ·have he5 : e < 5 := by simp at hc14; omega
   have hs2 := ssum_le hv (7 - c) e
   have hs3 := Nat.div_le_self v (2 ^ ((7 - c + (4 + e)) % 8))
   refine A.skip ?_
   refine EN ?_
   refine A.seq ?_
   refine A.block ?_
   refine GE ?_
   refine TL ?_
   refine RM rfl ?_
   refine RM rfl ?_
   refine RS (ok_conv Tryz.underlying5 Tryz.underlying3 rfl) ?_; refine RZ (nI v) (by rw [wrapN_i64 (by omega)]) ?_
   refine RM rfl ?_; refine RZ (nI (7 - c)) (by congr 1; omega) ?_
   refine RM rfl ?_
   refine RBS rfl rfl rfl (nI (7 - c + (4 + e))) (by rw [wrap_i64 (by omega) (by omega)]; first | rfl | (congr 1; omega)) ?_
   refine RS (ok_rem rfl rfl (by decide)) ?_; refine RZ (nI ((7 - c + (4 + e)) % 8)) (by rw [tmod_lit _ (by decide)]; rfl) ?_
   refine RS (ok_shr rfl rfl (by omega)) ?_; refine RZ (nI (v / 2 ^ ((7 - c + (4 + e)) % 8))) (by rw [Int.toNat_natCast, show min ((7 - c + (4 + e)) % 8) IntKind.i64.bits = (7 - c + (4 + e)) % 8 from by simp only [IntKind.bits]; omega]; exact congrArg _ (shr_nat _ _)) ?_
   refine RBS rfl rfl rfl (nI (ssum v (7 - c) (e + 1))) (by rw [← Int.natCast_add, wrapN_i64 (by omega)]; rfl) ?_
   refine RA rfl ?_
   refine RN ?_
   refine End.normal_block ?_
   refine EN ?_
   refine GE ?_
   refine TL ?_
   refine RM rfl ?_
   refine RBS rfl rfl rfl (nI (4 + (e + 1))) (by rw [wrap_i64 (by omega) (by omega)]; first | rfl | (congr 1; omega)) ?_
   refine RA rfl ?_
   refine RN ?_
   refine End.normal_then ?_
   refine End.again (e + 1) ?_ ?_ ?_
   ·show _ ≤ _; omega
   ·show _ - _ < _ - _; omega
   ·exact (KC 0 rfl (KC 3 rfl (KC 4 rfl (KC 5 rfl (KC 6 rfl KN)))))
  ·obtain rfl : e = 5 := by simp at hc14; omega
   refine A.exit ?_
   refine End.exit_then ?_
   refine End.exit_then ?_
   refine End.exit_here ?_
   refine EN ?_
   refine GE ?_
   refine TL ?_
   refine RM rfl ?_
   refine RBS rfl rfl rfl (nI (2 * sout v c)) (by rw [wrap_i64 (by omega) (by omega)]; first | rfl | (congr 1; omega)) ?_
   refine RM rfl ?_
   refine RS (ok_rem rfl rfl (by decide)) ?_; refine RZ (nI (ssum v (7 - c) 5 % 2)) (by rw [tmod_lit _ (by decide)]; rfl) ?_
   refine RBS rfl rfl rfl (nI (sout v (c + 1))) (by rw [← Int.natCast_add, wrapN_i64 (by omega)]; rfl) ?_
   refine RA rfl ?_
   refine RN ?_
   refine End.normal_block ?_
   refine EN ?_
   refine GE ?_
   refine TL ?_
   refine RM rfl ?_
   refine RBS rfl rfl rfl (.int .i64 (7 - ((c + 1 : Nat) : Int))) (by rw [wrap_i64 (by omega) (by omega)]; congr 1; omega) ?_
   refine RA rfl ?_
   refine RN ?_
   refine End.normal_then ?_
   refine End.again (c + 1) ?_ ?_ ?_
   ·show _ ≤ _; omega
   ·show _ - _ < _ - _; omega
   ·exact (KC 0 rfl (KC 3 rfl (KC 4 rfl KN)))
 ·obtain rfl : c = 8 := by simp at hc8; omega
  refine A.exit ?_
  refine End.exit_then ?_
  refine End.exit_then ?_
  refine End.exit_here ?_
  refine EN ?_
  refine GS ?_
  refine TL ?_
  refine RM rfl ?_
  refine RS (ok_conv Tryz.underlying3 Tryz.underlying5 rfl) ?_; refine RZ (nB (subst8 v)) (by rw [wrapN_u8 (sout_lt v 8)]; rfl) ?_
  refine RA rfl ?_
  refine RN ?_
  refine A.ret ?_
  exact End.ret1 rfl rfl (by first | exact Le.refl _ | exact Le.old _ _)
set_option maxHeartbeats 2000000 in
theorem refTable_fn  : Fn Tryz.prog 104 [] (.v (aggV subV)) := by
 refine Fn.of Tryz.func104 rfl (by kernel_rfl) Tryz.ntmps104 (by simp) (fun w => []) (fun w => Start.nil) fun w₀ => ?_
 refine GS ?_
 refine TN 0 ?_
 refine RN ?_
 refine ⟨_, _, eff_alloc (n := 46) (d := 0) (k := 1000000) zero156 (by decide), fun b0 hb0 => ?_⟩
 have hBb0 := hb0.1
 refine TL ?_
 refine RN ?_
 refine GS ?_
 refine TN 0 ?_
 refine RN ?_
 refine ⟨_, _, eff_alloc (n := 46) (d := 1) (k := 1000001) zero156 (by decide), fun b1 hb1 => ?_⟩
 have hBb1 := hb1.1
 have hlt_b0_b1 : b0 < b1 := hb1.2 1000000 _ _ _ rfl
 refine TL ?_
 refine RN ?_
 refine GS ?_
 refine TN 0 ?_
 refine RN ?_
 refine ⟨_, _, eff_alloc (n := 46) (d := 2) (k := 1000002) zero156 (by decide), fun b2 hb2 => ?_⟩
 have hBb2 := hb2.1
 have hlt_b0_b2 : b0 < b2 := hb2.2 1000000 _ _ _ rfl
 have hlt_b1_b2 : b1 < b2 := hb2.2 1000001 _ _ _ rfl
 refine TL ?_
 refine RN ?_
 refine GS ?_
 refine TF 1 ?_
 refine RS (ok_index0 (0) Tryz.underlying156 info5 rfl rfl (rfl) (by decide)) ?_
 refine RN ?_
 refine ⟨_, eff_storeS (n := 46) (s := 1000002) info5 rfl rfl rfl hBb2 rfl (by first | (rw [pwV_length]; omega) | (rw [List.length_replicate]; decide)) (LV 0 rfl (LV 1 rfl (LV 2 rfl (LB 1000000 rfl (LB 1000001 rfl LN))))), ?_⟩
 refine TL ?_
 refine RN ?_
 refine A.seq ?_
 refine GS ?_
 refine TL ?_
 refine RA rfl ?_
 refine RN ?_
 refine A.block ?_
 refine A.loop (ι := Nat) (fun q => q ≤ 255) (fun q => [(0, .v (.pointer (some ⟨b0, 0, none⟩))), (1, .v (.pointer (some ⟨b1, 0, none⟩))), (2, .v (.pointer (some ⟨b2, 0, none⟩))), (3, .v (nI (q + 1))), (1000000, blk b0 156 (List.replicate 256 (.int .u8 0))), (1000001, blk b1 156 (List.replicate 256 (.int .u8 0))), (1000002, blk b2 156 (pwV (q + 1)))]) (fun q => 255 - q) 0 ?_ ?_ ?_
 ·exact Nat.zero_le _
 ·exact (KC 0 rfl (KC 1 rfl (KC 2 rfl (KC 3 rfl (KC 1000000 rfl (KC 1000001 rfl (KE 1000002 rfl (congrArg _ pwV_one) KN)))))))
 intro q hq
 refine A.seq ?_
 refine GS ?_
 refine TL ?_
 refine RM rfl ?_
 refine RB rfl rfl rfl ?_
 refine RN ?_
 refine A.cond rfl (fun hc8 => ?_) (fun hc8 => ?_)
 ·have hlt : q < 255 := by simp at hc8; omega
  have hx := gpow_lt (a := 3) q
  refine A.skip ?_
  refine EN ?_
  refine A.seq ?_
  refine A.block ?_
  refine GS ?_
  refine TL ?_
  refine RM rfl ?_
  refine RBS rfl rfl rfl (nI q) (by rw [wrap_i64 (by omega) (by omega)]; exact congrArg (Value.int .i64) (by omega)) ?_
  refine RS (ok_index0 (q) Tryz.underlying156 info5 rfl rfl (rfl) (by omega)) ?_
  refine RS (ok_loadV (s := 1000002) (by decide) Tryz.underlying5 rfl rfl rfl (pwV_get (by omega) (by omega))) ?_
  refine RS (ok_conv Tryz.underlying5 Tryz.underlying3 rfl) ?_; refine RZ (nI (gpow 3 q)) (by rw [wrapN_i64 (by omega)]) ?_
  refine RBS rfl rfl rfl (nI (2 * (gpow 3 q))) (by rw [wrap_i64 (by omega) (by omega)]; first | rfl | (congr 1; omega)) ?_
  refine RA rfl ?_
  refine RN ?_
  refine A.seq ?_
  refine GS ?_
  refine TL ?_
  refine RM rfl ?_
  refine RB rfl rfl rfl ?_
  refine RN ?_
  refine A.cond rfl (fun hc18 => ?_) (fun hc18 => ?_)
  ·have hbr : (if 255 < 2 * gpow 3 q then (2 * gpow 3 q) ^^^ 283 else 2 * gpow 3 q) = (2 * gpow 3 q) ^^^ 283 := if_pos (by simp at hc18; omega)
   refine GE ?_
   refine TL ?_
   refine RM rfl ?_
   refine RBS rfl rfl rfl (nI ((2 * gpow 3 q) ^^^ 283)) (by rw [show IntKind.i64.bits = 64 from rfl, show (283 : Int) = ((283 : Nat) : Int) from rfl, xor_i64N (by omega) (by decide)]) ?_
   refine RA rfl ?_
   refine RN ?_
   refine EN ?_
   refine GE ?_
   refine TF 9 ?_
   refine RM rfl ?_
   refine RM rfl ?_
   refine RS (ok_conv Tryz.underlying3 Tryz.underlying5 rfl) ?_; refine RZ (nB ((if 255 < 2 * gpow 3 q then (2 * gpow 3 q) ^^^ 283 else 2 * gpow 3 q) % 256)) (by rw [hbr, wrap_u8N]) ?_
   refine RM rfl ?_
   refine RBS rfl rfl rfl (nI q) (by rw [wrap_i64 (by omega) (by omega)]; exact congrArg (Value.int .i64) (by omega)) ?_
   refine RS (ok_index0 (q) Tryz.underlying156 info5 rfl rfl (rfl) (by omega)) ?_
   refine RS (ok_loadV (s := 1000002) (by decide) Tryz.underlying5 rfl rfl rfl (pwV_get (by omega) (by omega))) ?_
   refine RBS rfl rfl rfl (nB (gpow 3 (q + 1))) (by rw [show IntKind.u8.bits = 8 from rfl, xor_u8N (Nat.mod_lt _ (by decide)) (gpow_lt _), pow3_step (gpow_lt _)]; rfl) ?_
   refine RS (ok_index0 (q + 1) Tryz.underlying156 info5 rfl rfl (rfl) (by omega)) ?_
   refine RN ?_
   refine ⟨_, eff_storeS (n := 46) (s := 1000002) info5 rfl rfl rfl hBb2 rfl (by first | (rw [pwV_length]; omega) | (rw [List.length_replicate]; decide)) (LV 0 rfl (LV 1 rfl (LV 2 rfl (LV 3 rfl (LB 1000000 rfl (LB 1000001 rfl LN)))))), ?_⟩
   refine TL ?_
   refine RN ?_
   refine End.normal_block ?_
   refine EN ?_
   refine GE ?_
   refine TL ?_
   refine RM rfl ?_
   refine RBS rfl rfl rfl (nI (q + 1 + 1)) (by rw [wrap_i64 (by omega) (by omega)]; exact congrArg (Value.int .i64) (by omega)) ?_
   refine RA rfl ?_
   refine RN ?_
   refine End.sub (KC 0 rfl (KC 1 rfl (KC 2 rfl (KC 3 rfl (KC 1000000 rfl (KC 1000001 rfl (KC 1000002 rfl KN))))))) ?_
   refine End.normal_then ?_
   refine End.again (q + 1) ?_ ?_ ?_
   ·show _ ≤ _; omega
   ·show _ - _ < _ - _; omega
   ·exact (KC 0 rfl (KC 1 rfl (KC 2 rfl (KC 3 rfl (KC 1000000 rfl (KC 1000001 rfl (KE 1000002 rfl (congrArg _ (pwV_set (q + 1))) KN)))))))
  ·have hbr : (if 255 < 2 * gpow 3 q then (2 * gpow 3 q) ^^^ 283 else 2 * gpow 3 q) = 2 * gpow 3 q := if_neg (by simp at hc18; omega)
   refine A.skip ?_
   refine EN ?_
   refine GE ?_
   refine TF 9 ?_
   refine RM rfl ?_
   refine RM rfl ?_
   refine RS (ok_conv Tryz.underlying3 Tryz.underlying5 rfl) ?_; refine RZ (nB ((if 255 < 2 * gpow 3 q then (2 * gpow 3 q) ^^^ 283 else 2 * gpow 3 q) % 256)) (by rw [hbr, wrap_u8N]) ?_
   refine RM rfl ?_
   refine RBS rfl rfl rfl (nI q) (by rw [wrap_i64 (by omega) (by omega)]; exact congrArg (Value.int .i64) (by omega)) ?_
   refine RS (ok_index0 (q) Tryz.underlying156 info5 rfl rfl (rfl) (by omega)) ?_
   refine RS (ok_loadV (s := 1000002) (by decide) Tryz.underlying5 rfl rfl rfl (pwV_get (by omega) (by omega))) ?_
   refine RBS rfl rfl rfl (nB (gpow 3 (q + 1))) (by rw [show IntKind.u8.bits = 8 from rfl, xor_u8N (Nat.mod_lt _ (by decide)) (gpow_lt _), pow3_step (gpow_lt _)]; rfl) ?_
   refine RS (ok_index0 (q + 1) Tryz.underlying156 info5 rfl rfl (rfl) (by omega)) ?_
   refine RN ?_
   refine ⟨_, eff_storeS (n := 46) (s := 1000002) info5 rfl rfl rfl hBb2 rfl (by first | (rw [pwV_length]; omega) | (rw [List.length_replicate]; decide)) (LV 0 rfl (LV 1 rfl (LV 2 rfl (LV 3 rfl (LB 1000000 rfl (LB 1000001 rfl LN)))))), ?_⟩
   refine TL ?_
   refine RN ?_
   refine End.normal_block ?_
   refine EN ?_
   refine GE ?_
   refine TL ?_
   refine RM rfl ?_
   refine RBS rfl rfl rfl (nI (q + 1 + 1)) (by rw [wrap_i64 (by omega) (by omega)]; exact congrArg (Value.int .i64) (by omega)) ?_
   refine RA rfl ?_
   refine RN ?_
   refine End.normal_then ?_
   refine End.again (q + 1) ?_ ?_ ?_
   ·show _ ≤ _; omega
   ·show _ - _ < _ - _; omega
   ·exact (KC 0 rfl (KC 1 rfl (KC 2 rfl (KC 3 rfl (KC 1000000 rfl (KC 1000001 rfl (KE 1000002 rfl (congrArg _ (pwV_set (q + 1))) KN)))))))
 ·obtain rfl : q = 255 := by simp at hc8; omega
  refine A.exit ?_
  refine End.exit_then ?_
  refine End.exit_then ?_
  refine End.exit_here ?_
  refine EN ?_
  refine A.seq ?_
  refine GS ?_
  refine TL ?_
  refine RA rfl ?_
  refine RN ?_
  refine A.block ?_
  refine A.loop (ι := Nat) (fun k => k ≤ 255) (fun k => [(0, .v (.pointer (some ⟨b0, 0, none⟩))), (1, .v (.pointer (some ⟨b1, 0, none⟩))), (2, .v (.pointer (some ⟨b2, 0, none⟩))), (5, .v (nI k)), (1000000, blk b0 156 (List.replicate 256 (.int .u8 0))), (1000001, blk b1 156 (stV5 k)), (1000002, blk b2 156 (pwV 256))]) (fun k => 255 - k) 0 ?_ ?_ ?_
  ·exact Nat.zero_le _
  ·exact (KC 0 rfl (KC 1 rfl (KC 2 rfl (KC 5 rfl (KC 1000000 rfl (KE 1000001 rfl (congrArg _ stV_zero) (KC 1000002 rfl KN)))))))
  intro k hk
  refine A.seq ?_
  refine GS ?_
  refine TL ?_
  refine RM rfl ?_
  refine RB rfl rfl rfl ?_
  refine RN ?_
  refine A.cond rfl (fun hc31 => ?_) (fun hc31 => ?_)
  ·have hlt : k < 255 := by simp at hc31; omega
   refine A.skip ?_
   refine EN ?_
   refine A.seq ?_
   refine A.block ?_
   refine A.reg (by kernel_rfl) (by kernel_rfl) (.inr (by kernel_rfl)) ?_
   refine TD 9 ?_
   refine RM rfl ?_
   refine RS (ok_index0 (k) Tryz.underlying156 info5 rfl rfl (rfl) (by omega)) ?_
   refine RS (ok_loadV (s := 1000002) (by decide) Tryz.underlying5 rfl rfl rfl (pwV_get (by omega) (by omega))) ?_
   refine RM rfl ?_
   refine RBS rfl rfl rfl (nI (255 - k)) (by rw [wrap_i64 (by omega) (by omega)]; exact congrArg (Value.int .i64) (by omega)) ?_
   refine RS (ok_index0 (255 - k) Tryz.underlying156 info5 rfl rfl (rfl) (by omega)) ?_
   refine RS (ok_loadV (s := 1000002) (by decide) Tryz.underlying5 rfl rfl rfl (pwV_get (by omega) (by omega))) ?_
   refine RS (ok_call (refSubst_fn (gpow 3 (255 - k)) (gpow_lt _)) (Args.cons rfl LA Args.nil)) ?_
   refine RS (ok_index0 (gpow 3 k) Tryz.underlying156 info5 rfl rfl (rfl) (gpow_lt _)) ?_
   refine RN ?_
   refine ⟨_, eff_storeS (n := 46) (s := 1000001) info5 rfl rfl rfl hBb1 rfl (by rw [stV_length]; first | exact gpow_lt _ | decide) (LV 0 rfl (LV 1 rfl (LV 2 rfl (LV 5 rfl (LB 1000000 rfl (LB 1000002 rfl LN)))))), ?_⟩
   refine TL ?_
   refine RN ?_
   refine End.normal_block ?_
   refine EN ?_
   refine GE ?_
   refine TL ?_
   refine RM rfl ?_
   refine RBS rfl rfl rfl (nI (k + 1)) (by rw [wrap_i64 (by omega) (by omega)]; exact congrArg (Value.int .i64) (by omega)) ?_
   refine RA rfl ?_
   refine RN ?_
   refine End.normal_then ?_
   refine End.again (k + 1) ?_ ?_ ?_
   ·show _ ≤ _; omega
   ·show _ - _ < _ - _; omega
   ·exact (KC 0 rfl (KC 1 rfl (KC 2 rfl (KC 5 rfl (KC 1000000 rfl (KE 1000001 rfl (congrArg _ (stV_set hlt)) (KC 1000002 rfl KN)))))))
  ·obtain rfl : k = 255 := by simp at hc31; omega
   refine A.exit ?_
   refine End.exit_then ?_
   refine End.exit_then ?_
   refine End.exit_here ?_
   refine EN ?_
   refine GS ?_
   refine TF 2 ?_
   refine RS (ok_call (refSubst_fn 0 (by decide)) (Args.cons rfl LA Args.nil)) ?_
   refine RS (ok_index0 (0) Tryz.underlying156 info5 rfl rfl (rfl) (by decide)) ?_
   refine RN ?_
   refine ⟨_, eff_storeS (n := 46) (s := 1000001) info5 rfl rfl rfl hBb1 rfl (by rw [stV_length]; first | exact gpow_lt _ | decide) (LV 0 rfl (LV 1 rfl (LB 1000000 rfl (LB 1000002 rfl LN)))), ?_⟩
   refine TL ?_
   refine RN ?_
   refine GS ?_
   refine TF 1 ?_
   refine RS (ok_loadA (s := 1000001) (by decide) Tryz.underlying156 rfl (size156.of (by rw [List.length_set, stV_length])) rfl rfl) ?_
   refine RN ?_
   refine ⟨_, eff_storeA (n := 46) (s := 1000000) (size156.of (by rw [List.length_set, stV_length])) rfl rfl (by rw [stV_full]; exact subV_one) hBb0 rfl (by rw [List.length_set, stV_length, List.length_replicate]) (LV 0 rfl (LB 1000001 rfl (LB 1000002 rfl LN))), ?_⟩
   refine TL ?_
   refine RN ?_
   refine A.ret ?_
   exact End.cell1 (s := 1000000) rfl Tryz.underlying156 rfl (size156.of (by rw [List.length_set, stV_length])) rfl rfl (Le.v (congrArg aggV stV_full))
end Go.Proofs.YthadcgkcgpinhaaGreatDoor
namespace Go.Proofs.YthadcgkcgpinhaaGreatDoor
open Go Go.RowKit
set_option linter.unusedVariables false
set_option maxRecDepth 20000
theorem bit7 {a : Nat} (ha : a < 256) : a / 128 = (a.testBit 7).toNat := by rw [Nat.toNat_testBit, show (2 : Nat) ^ 7 = 128 from rfl]; omega
theorem mask27 (t : Bool) : mask t 27 < 256 := Nat.lt_of_le_of_lt (mask_le t 27) (by decide)
theorem mask_lt (t : Bool) {c : Nat} (hc : c < 256) : mask t c < 256 := Nat.lt_of_le_of_lt (mask_le t c) hc

theorem mul1_fnW (g a : Nat) (ha : a < 256) : FnW Tryz.prog 100 [] 5 g [nB a] [nB (xt a)] ([ptr g].map D.v) := by
 refine FnW.of (n := 9) (kb := 1000080) (kw := 1000081) Tryz.func100 rfl (by kernel_rfl) Tryz.ntmps100 (by simp) (by decide) (fun p hp => by cases hp) (by decide) (by decide) [(0, .v (ptr g))]
  (fun p hp => by simp only [List.mem_cons, List.not_mem_nil, or_false] at hp; rcases hp with rfl; exact ⟨_, rfl, rfl⟩) fun w₀ w₁ hw hM => ?_
 have hBg : w₀.heap.size ≤ g := Nat.le_of_eq hw
 refine GS ?_
 refine TL ?_
 refine RS (ok_loadV (s := 1000080) (by decide) Tryz.underlying5 rfl rfl rfl (rfl)) ?_
 refine RS (ok_shr rfl rfl (by decide)) ?_; refine RZ (nB ((a.testBit 7).toNat)) (by rw [← bit7 ha]; exact congrArg _ (shr_nat a 7)) ?_
 refine RA rfl ?_
 refine RN ?_
 refine GE ?_
 refine TF 5 ?_
 refine RS (ok_loadV (s := 1000080) (by decide) Tryz.underlying5 rfl rfl rfl (rfl)) ?_
 refine RS (ok_shl rfl rfl (by decide)) ?_; refine RZ (nB (2 * a % 256)) (by rw [show (a : Int) * 2 ^ min (Int.toNat 1) IntKind.u8.bits = ((2 * a : Nat) : Int) from by rw [show min (Int.toNat 1) IntKind.u8.bits = 1 from rfl]; omega, wrap_u8N]) ?_
 refine RM rfl ?_
 refine RBS rfl rfl rfl (nB (mask (a.testBit 7) 27)) (by cases a.testBit 7 <;> rfl) ?_
 refine RBS rfl rfl rfl (nB (xt a)) (by rw [show IntKind.u8.bits = 8 from rfl, xor_u8N (Nat.mod_lt _ (by decide)) (mask27 _)]; rfl) ?_
 refine RN ?_
 refine ⟨_, eff_storeS (n := 9) (s := 1000080) info5 rfl rfl rfl hBg rfl (by simp) (LeftS.cons (t := 1000081) rfl (Surv.wrote) LN), ?_⟩
 refine TL ?_
 refine RN ?_
 exact End.wrote (kb := 1000080) (kw := 1000081) rfl rfl rfl rfl
set_option maxHeartbeats 1000000 in
theorem Mul_fn (a b : Nat) (ha : a < 256) (hb : b < 256) : Fn Tryz.prog 88 [.v (nB a), .v (nB b)] (.v (nB (gm a b))) := by
 refine Fn.of Tryz.func88 rfl (by kernel_rfl) Tryz.ntmps88 (by simp) (fun w => [(0, .v (nB a)), (1, .v (nB b))]) (fun w => (Start.v rfl (Start.v rfl Start.nil))) fun w₀ => ?_
 refine GS ?_
 refine TN 0 ?_
 refine RN ?_
 refine ⟨_, _, eff_box1 (n := 24) (d := 2) (k := 1000002) rfl rfl (by decide), fun b2 hb2 => ?_⟩
 have hBb2 := hb2.1
 refine TL ?_
 refine RA rfl ?_
 refine RN ?_
 refine GS ?_
 refine TL ?_
 refine RS (ok_makeFuncN [ptr b2] ⟨rfl, trivial⟩) ?_
 refine RA rfl ?_
 refine RN ?_
 refine GS ?_
 refine TL ?_
 refine RA rfl ?_
 refine RN ?_
 refine A.seq ?_
 refine GS ?_
 refine TL ?_
 refine RM rfl ?_
 refine RN ?_
 refine A.block ?_
 refine A.loop (ι := Nat) (fun i => i ≤ 8) (fun i => [(1, .v (nB b)), (2, .v (ptr b2)), (5, .v (.func (.func 100) #[] #[ptr b2])), (6, .v (nB (gacc a b i))), (9, .v (nI i)), (1000002, blk b2 5 [nB (xts a i)])]) (fun i => 8 - i) 0 ?_ ?_ ?_
 ·exact Nat.zero_le _
 ·exact (KC 1 rfl (KC 2 rfl (KC 5 rfl (KC 6 rfl (KC 9 rfl (KC 1000002 rfl KN))))))
 intro i hi
 refine GS ?_
 refine TL ?_
 refine RB rfl rfl rfl ?_
 refine RN ?_
 refine A.seq ?_
 refine A.cond rfl (fun hc10 => ?_) (fun hc10 => ?_)
 ·have hlt : i < 8 := by simp at hc10; omega
  refine A.skip ?_
  refine EN ?_
  refine A.seq ?_
  refine A.block ?_
  refine GS ?_
  refine TL ?_
  refine RM rfl ?_
  refine RA rfl ?_
  refine RN ?_
  refine GD ?_
  refine TL ?_
  refine RM rfl ?_
  refine RM rfl ?_
  refine RM rfl ?_
  refine RS (ok_shr rfl rfl (by omega)) ?_; refine RZ (nB (b / 2 ^ (i))) (by rw [Int.toNat_natCast, show min (i) IntKind.u8.bits = i from by simp only [IntKind.bits]; omega]; exact congrArg _ (shr_nat _ _)) ?_
  refine RBS rfl rfl rfl (nB ((b.testBit i).toNat)) (by rw [show IntKind.u8.bits = 8 from rfl, show (1 : Int) = ((1 : Nat) : Int) from rfl, and_u8N (Nat.lt_of_le_of_lt (Nat.div_le_self _ _) hb) (by decide), Nat.and_one_is_mod, Nat.toNat_testBit]) ?_
  refine RS (ok_loadV (s := 1000002) (by decide) Tryz.underlying5 rfl rfl rfl (rfl)) ?_
  refine RBS rfl rfl rfl (nB (mask (b.testBit i) (xts a i))) (by rw [← Int.natCast_mul, mask_mul, wrapN_u8 (mask_lt _ (xts_lt ha i))]) ?_
  refine RBS rfl rfl rfl (nB (gacc a b (i + 1))) (by rw [show IntKind.u8.bits = 8 from rfl, xor_u8N (gacc_lt b ha i) (mask_lt _ (xts_lt ha i))]; rfl) ?_
  refine RA rfl ?_
  refine RN ?_
  refine GE ?_
  refine TF 1 ?_
  refine RM rfl ?_
  refine RN ?_
  refine ⟨_, eff_callV (n := 24) (s := 1000002) (mul1_fnW b2 (xts a i) (xts_lt ha i)) rfl hBb2 rfl (by decide) (LV 1 rfl (LV 2 rfl (LV 5 rfl (LV 6 rfl (LV 9 rfl LN))))), ?_⟩
  refine TL ?_
  refine RN ?_
  refine End.normal_block ?_
  refine EN ?_
  refine GE ?_
  refine TL ?_
  refine RBS rfl rfl rfl (nI (i + 1)) (by rw [wrap_i64 (by omega) (by omega)]; first | rfl | (congr 1; omega)) ?_
  refine RM rfl ?_
  refine RN ?_
  refine End.normal_then ?_
  refine End.again (i + 1) ?_ ?_ ?_
  ·show _ ≤ _; omega
  ·show _ - _ < _ - _; omega
  ·exact (KC 1 rfl (KC 2 rfl (KC 5 rfl (KC 6 rfl (KC 9 rfl (KC 1000002 rfl KN))))))
 ·obtain rfl : i = 8 := by simp at hc10; omega
  refine A.exit ?_
  refine End.exit_then ?_
  refine End.exit_then ?_
  refine End.exit_here ?_
  refine EN ?_
  refine GS ?_
  refine TL ?_
  refine RM rfl ?_
  refine RA rfl ?_
  refine RN ?_
  refine A.ret ?_
  exact End.ret1 rfl rfl (by first | exact Le.refl _ | exact Le.old _ _)
theorem Power_fnA (n : Int) (h : n ≠ 0) : Fn Tryz.prog 65 [.v (nB 0), .v (.int .i64 n)] (.v (.int .u8 0)) := by
 refine Fn.of Tryz.func65 rfl (by kernel_rfl) Tryz.ntmps65 (by simp) (fun w => [(0, .v (nB 0)), (1, .v (.int .i64 n))]) (fun w => (Start.v rfl (Start.v rfl Start.nil))) fun w₀ => ?_
 refine GS ?_
 refine TL ?_
 refine RA rfl ?_
 refine RN ?_
 refine A.scope ?_
 refine A.seq ?_
 refine GS ?_
 refine TL ?_
 refine RM rfl ?_
 refine RBS rfl rfl rfl (.bool true) (by rfl) ?_
 refine RM rfl ?_
 refine RQ (ok_move rfl) ?_
 refine RQ (ok_bin rfl rfl rfl) ?_; refine RZ (.bool true) (by simp [h]) ?_
 refine RP rfl rfl ?_
 refine RN ?_
 refine A.yes rfl ?_
 refine GS ?_
 refine TL ?_
 refine RA rfl ?_
 refine RN ?_
 refine A.ret ?_
 refine End.ret_then ?_
 refine End.ret_scope ?_
 exact End.ret1 rfl rfl (by first | exact Le.refl _ | exact Le.old _ _)
set_option maxHeartbeats 2000000 in
theorem Power_fnB (a : Nat) (n : Int) (ha : a < 256) (h0 : a ≠ 0) : Fn Tryz.prog 65 [.v (nB a), .v (.int .i64 n)] (.v (nB (gpz a n))) := by
 obtain ⟨r, hr, hr1, hr2, hr3⟩ := tmod255 n
 obtain ⟨m, hm⟩ : ∃ m : Nat, (m : Int) = n % 255 := ⟨(n % 255).toNat, by omega⟩
 have hg : gpz a n = gpow a m := by rw [gpz_pos h0]; congr 1; omega
 refine Fn.of Tryz.func65 rfl (by kernel_rfl) Tryz.ntmps65 (by simp) (fun w => [(0, .v (nB a)), (1, .v (.int .i64 n))]) (fun w => (Start.v rfl (Start.v rfl Start.nil))) fun w₀ => ?_
 refine GS ?_
 refine TL ?_
 refine RA rfl ?_
 refine RN ?_
 refine A.scope ?_
 refine A.seq ?_
 refine GS ?_
 refine TL ?_
 refine RM rfl ?_
 refine RBS rfl rfl rfl (.bool false) (by simp; omega) ?_
 refine RM rfl ?_
 refine RK ?_
 refine RK ?_
 refine RP rfl rfl ?_
 refine RN ?_
 refine A.no rfl ?_
 refine A.skip ?_
 refine EN ?_
 refine GS ?_
 refine TL ?_
 refine RM rfl ?_
 refine RS (ok_rem rfl rfl (by decide)) ?_; refine RZ (.int .i64 r) (by rw [hr]) ?_
 refine RA rfl ?_
 refine RN ?_
 refine A.seq ?_
 refine GS ?_
 refine TL ?_
 refine RM rfl ?_
 refine RB rfl rfl rfl ?_
 refine RN ?_
 refine A.cond rfl (fun hc15 => ?_) (fun hc15 => ?_)
 ·have hneg : r < 0 := by simpa using hc15
  refine GE ?_
  refine TL ?_
  refine RM rfl ?_
  refine RBS rfl rfl rfl (nI m) (by rw [wrap_i64 (by omega) (by omega)]; exact congrArg (Value.int .i64) (by omega)) ?_
  refine RA rfl ?_
  refine RN ?_
  refine EN ?_
  refine GS ?_
  refine TL ?_
  refine RA rfl ?_
  refine RN ?_
  refine A.seq ?_
  refine A.label ?_
  refine EN ?_
  refine A.seq ?_
  refine A.block ?_
  refine A.loop (ι := Nat × Nat × Nat) (fun z => gm z.2.2 (gpow z.2.1 z.1) = gpow a m ∧ z.2.1 < 256 ∧ z.2.2 < 256 ∧ z.1 < 255) (fun z => [(0, .v (nB (z.2.1))), (1, .v (nI (z.1))), (5, .v (nB (z.2.2)))]) (fun z => z.1) (m, a, 1) ?_ ?_ ?_
  ·exact ⟨gm_one' (gpow_lt _), ha, by show 1 < 256; decide, by show m < 255; omega⟩
  ·exact (KC 0 rfl (KE 1 rfl (by first | rfl | exact congrArg (fun z : Int => D.v (.int .i64 z)) (show r = _ by omega)) (KC 5 rfl KN)))
  intro z hz
  obtain ⟨h1, h2, h3, h4⟩ := hz
  refine A.block ?_
  refine A.seq ?_
  refine A.block ?_
  refine GS ?_
  refine TL ?_
  refine RM rfl ?_
  refine RB rfl rfl rfl ?_
  refine RA rfl ?_
  refine RN ?_
  refine A.cond rfl (fun hc18 => ?_) (fun hc18 => ?_)
  ·have hn0 : z.1 = 0 := by simp at hc18; omega
   refine A.exit ?_
   refine End.exit_past (by decide) ?_
   refine End.exit_then ?_
   refine End.exit_past (by decide) ?_
   refine End.exit_then ?_
   refine End.exit_here ?_
   refine EN ?_
   refine GS ?_
   refine TL ?_
   refine RM rfl ?_; refine RZ (nB (gpz a n)) (congrArg (fun q : Nat => Value.int .u8 (q : Int)) (by rw [hg, ← h1, hn0]; exact (gm_one h3).symm)) ?_
   refine RA rfl ?_
   refine RN ?_
   refine A.ret ?_
   refine End.ret_scope ?_
   exact End.ret1 rfl rfl (by first | exact Le.refl _ | exact Le.old _ _)
  ·have hn0 : z.1 ≠ 0 := by simp at hc18; omega
   refine GS ?_
   refine TL ?_
   refine RM rfl ?_
   refine RBS rfl rfl rfl (nI (z.1 % 2)) (by rw [show IntKind.i64.bits = 64 from rfl, show (1 : Int) = ((1 : Nat) : Int) from rfl, and_i64N (by omega) (by decide), Nat.and_one_is_mod]) ?_
   refine RB rfl rfl rfl ?_
   refine RA rfl ?_
   refine RN ?_
   refine A.cond rfl (fun hc21 => ?_) (fun hc21 => ?_)
   ·have hodd : z.1 % 2 = 1 := by simp at hc21; omega
    refine GE ?_
    refine TL ?_
    refine RM rfl ?_
    refine RM rfl ?_
    refine RS (ok_call (Mul_fn z.2.2 z.2.1 h3 h2) (A2 rfl rfl)) ?_
    refine RA rfl ?_
    refine RN ?_
    refine End.normal_block ?_
    refine EN ?_
    refine GS ?_
    refine TL ?_
    refine RM rfl ?_
    refine RM rfl ?_
    refine RS (ok_call (Mul_fn z.2.1 z.2.1 h2 h2) (A2 rfl rfl)) ?_
    refine RA rfl ?_
    refine RN ?_
    refine GE ?_
    refine TL ?_
    refine RM rfl ?_
    refine RS (ok_shr rfl rfl (by decide)) ?_; refine RZ (nI (z.1 / 2)) (by rw [show min (Int.toNat 1) IntKind.i64.bits = 1 from rfl]; exact congrArg _ (shr_nat _ 1)) ?_
    refine RA rfl ?_
    refine RN ?_
    refine End.normal_block ?_
    refine End.normal_then ?_
    refine End.again (z.1 / 2, gm z.2.1 z.2.1, (if z.1 % 2 = 1 then gm z.2.2 z.2.1 else z.2.2)) ?_ ?_ ?_
    ·exact ⟨(gpow_step h2 h3).trans h1, gm_lt _ h2, by show (if z.1 % 2 = 1 then gm z.2.2 z.2.1 else z.2.2) < 256; split <;> first | exact gm_lt _ h3 | exact h3, by show z.1 / 2 < 255; omega⟩
    ·show z.1 / 2 < z.1; omega
    ·exact (KC 0 rfl (KC 1 rfl (KE 5 rfl (show _ = D.v (nB ((if z.1 % 2 = 1 then gm z.2.2 z.2.1 else z.2.2))) from by first | rw [if_pos hodd] | rw [if_neg hodd]) KN)))
   ·have hodd : ¬ z.1 % 2 = 1 := by simp at hc21; omega
    refine A.skip ?_
    refine End.normal_block ?_
    refine EN ?_
    refine GS ?_
    refine TL ?_
    refine RM rfl ?_
    refine RM rfl ?_
    refine RS (ok_call (Mul_fn z.2.1 z.2.1 h2 h2) (A2 rfl rfl)) ?_
    refine RA rfl ?_
    refine RN ?_
    refine GE ?_
    refine TL ?_
    refine RM rfl ?_
    refine RS (ok_shr rfl rfl (by decide)) ?_; refine RZ (nI (z.1 / 2)) (by rw [show min (Int.toNat 1) IntKind.i64.bits = 1 from rfl]; exact congrArg _ (shr_nat _ 1)) ?_
    refine RA rfl ?_
    refine RN ?_
    refine End.normal_block ?_
    refine End.normal_then ?_
    refine End.again (z.1 / 2, gm z.2.1 z.2.1, (if z.1 % 2 = 1 then gm z.2.2 z.2.1 else z.2.2)) ?_ ?_ ?_
    ·exact ⟨(gpow_step h2 h3).trans h1, gm_lt _ h2, by show (if z.1 % 2 = 1 then gm z.2.2 z.2.1 else z.2.2) < 256; split <;> first | exact gm_lt _ h3 | exact h3, by show z.1 / 2 < 255; omega⟩
    ·show z.1 / 2 < z.1; omega
    ·exact (KC 0 rfl (KC 1 rfl (KE 5 rfl (show _ = D.v (nB ((if z.1 % 2 = 1 then gm z.2.2 z.2.1 else z.2.2))) from by first | rw [if_pos hodd] | rw [if_neg hodd]) KN)))
 ·have hneg : ¬ r < 0 := by simpa using hc15
  refine A.skip ?_
  refine EN ?_
  refine GS ?_
  refine TL ?_
  refine RA rfl ?_
  refine RN ?_
  refine A.seq ?_
  refine A.label ?_
  refine EN ?_
  refine A.seq ?_
  refine A.block ?_
  refine A.loop (ι := Nat × Nat × Nat) (fun z => gm z.2.2 (gpow z.2.1 z.1) = gpow a m ∧ z.2.1 < 256 ∧ z.2.2 < 256 ∧ z.1 < 255) (fun z => [(0, .v (nB (z.2.1))), (1, .v (nI (z.1))), (5, .v (nB (z.2.2)))]) (fun z => z.1) (m, a, 1) ?_ ?_ ?_
  ·exact ⟨gm_one' (gpow_lt _), ha, by show 1 < 256; decide, by show m < 255; omega⟩
  ·exact (KC 0 rfl (KE 1 rfl (by first | rfl | exact congrArg (fun z : Int => D.v (.int .i64 z)) (show r = _ by omega)) (KC 5 rfl KN)))
  intro z hz
  obtain ⟨h1, h2, h3, h4⟩ := hz
  refine A.block ?_
  refine A.seq ?_
  refine A.block ?_
  refine GS ?_
  refine TL ?_
  refine RM rfl ?_
  refine RB rfl rfl rfl ?_
  refine RA rfl ?_
  refine RN ?_
  refine A.cond rfl (fun hc18 => ?_) (fun hc18 => ?_)
  ·have hn0 : z.1 = 0 := by simp at hc18; omega
   refine A.exit ?_
   refine End.exit_past (by decide) ?_
   refine End.exit_then ?_
   refine End.exit_past (by decide) ?_
   refine End.exit_then ?_
   refine End.exit_here ?_
   refine EN ?_
   refine GS ?_
   refine TL ?_
   refine RM rfl ?_; refine RZ (nB (gpz a n)) (congrArg (fun q : Nat => Value.int .u8 (q : Int)) (by rw [hg, ← h1, hn0]; exact (gm_one h3).symm)) ?_
   refine RA rfl ?_
   refine RN ?_
   refine A.ret ?_
   refine End.ret_scope ?_
   exact End.ret1 rfl rfl (by first | exact Le.refl _ | exact Le.old _ _)
  ·have hn0 : z.1 ≠ 0 := by simp at hc18; omega
   refine GS ?_
   refine TL ?_
   refine RM rfl ?_
   refine RBS rfl rfl rfl (nI (z.1 % 2)) (by rw [show IntKind.i64.bits = 64 from rfl, show (1 : Int) = ((1 : Nat) : Int) from rfl, and_i64N (by omega) (by decide), Nat.and_one_is_mod]) ?_
   refine RB rfl rfl rfl ?_
   refine RA rfl ?_
   refine RN ?_
   refine A.cond rfl (fun hc21 => ?_) (fun hc21 => ?_)
   ·have hodd : z.1 % 2 = 1 := by simp at hc21; omega
    refine GE ?_
    refine TL ?_
    refine RM rfl ?_
    refine RM rfl ?_
    refine RS (ok_call (Mul_fn z.2.2 z.2.1 h3 h2) (A2 rfl rfl)) ?_
    refine RA rfl ?_
    refine RN ?_
    refine End.normal_block ?_
    refine EN ?_
    refine GS ?_
    refine TL ?_
    refine RM rfl ?_
    refine RM rfl ?_
    refine RS (ok_call (Mul_fn z.2.1 z.2.1 h2 h2) (A2 rfl rfl)) ?_
    refine RA rfl ?_
    refine RN ?_
    refine GE ?_
    refine TL ?_
    refine RM rfl ?_
    refine RS (ok_shr rfl rfl (by decide)) ?_; refine RZ (nI (z.1 / 2)) (by rw [show min (Int.toNat 1) IntKind.i64.bits = 1 from rfl]; exact congrArg _ (shr_nat _ 1)) ?_
    refine RA rfl ?_
    refine RN ?_
    refine End.normal_block ?_
    refine End.normal_then ?_
    refine End.again (z.1 / 2, gm z.2.1 z.2.1, (if z.1 % 2 = 1 then gm z.2.2 z.2.1 else z.2.2)) ?_ ?_ ?_
    ·exact ⟨(gpow_step h2 h3).trans h1, gm_lt _ h2, by show (if z.1 % 2 = 1 then gm z.2.2 z.2.1 else z.2.2) < 256; split <;> first | exact gm_lt _ h3 | exact h3, by show z.1 / 2 < 255; omega⟩
    ·show z.1 / 2 < z.1; omega
    ·exact (KC 0 rfl (KC 1 rfl (KE 5 rfl (show _ = D.v (nB ((if z.1 % 2 = 1 then gm z.2.2 z.2.1 else z.2.2))) from by first | rw [if_pos hodd] | rw [if_neg hodd]) KN)))
   ·have hodd : ¬ z.1 % 2 = 1 := by simp at hc21; omega
    refine A.skip ?_
    refine End.normal_block ?_
    refine EN ?_
    refine GS ?_
    refine TL ?_
    refine RM rfl ?_
    refine RM rfl ?_
    refine RS (ok_call (Mul_fn z.2.1 z.2.1 h2 h2) (A2 rfl rfl)) ?_
    refine RA rfl ?_
    refine RN ?_
    refine GE ?_
    refine TL ?_
    refine RM rfl ?_
    refine RS (ok_shr rfl rfl (by decide)) ?_; refine RZ (nI (z.1 / 2)) (by rw [show min (Int.toNat 1) IntKind.i64.bits = 1 from rfl]; exact congrArg _ (shr_nat _ 1)) ?_
    refine RA rfl ?_
    refine RN ?_
    refine End.normal_block ?_
    refine End.normal_then ?_
    refine End.again (z.1 / 2, gm z.2.1 z.2.1, (if z.1 % 2 = 1 then gm z.2.2 z.2.1 else z.2.2)) ?_ ?_ ?_
    ·exact ⟨(gpow_step h2 h3).trans h1, gm_lt _ h2, by show (if z.1 % 2 = 1 then gm z.2.2 z.2.1 else z.2.2) < 256; split <;> first | exact gm_lt _ h3 | exact h3, by show z.1 / 2 < 255; omega⟩
    ·show z.1 / 2 < z.1; omega
    ·exact (KC 0 rfl (KC 1 rfl (KE 5 rfl (show _ = D.v (nB ((if z.1 % 2 = 1 then gm z.2.2 z.2.1 else z.2.2))) from by first | rw [if_pos hodd] | rw [if_neg hodd]) KN)))
set_option maxHeartbeats 2000000 in
theorem Power_fnC (a : Nat) (n : Int) (ha : a < 256) (h0 : a = 0) (hn : n = 0) : Fn Tryz.prog 65 [.v (nB a), .v (.int .i64 n)] (.v (nB (gpz a n))) := by
 obtain ⟨r, hr, hr1, hr2, hr3⟩ := tmod255 n
 obtain ⟨m, hm⟩ : ∃ m : Nat, (m : Int) = n % 255 := ⟨(n % 255).toNat, by omega⟩
 have hg : gpz a n = gpow a m := by subst hn; rw [show m = 0 from by omega, h0]; rfl
 refine Fn.of Tryz.func65 rfl (by kernel_rfl) Tryz.ntmps65 (by simp) (fun w => [(0, .v (nB a)), (1, .v (.int .i64 n))]) (fun w => (Start.v rfl (Start.v rfl Start.nil))) fun w₀ => ?_
 refine GS ?_
 refine TL ?_
 refine RA rfl ?_
 refine RN ?_
 refine A.scope ?_
 refine A.seq ?_
 refine GS ?_
 refine TL ?_
 refine RM rfl ?_
 refine RBS rfl rfl rfl (.bool true) (by simp [h0]) ?_
 refine RM rfl ?_
 refine RQ (ok_move rfl) ?_
 refine RQ (ok_bin rfl rfl rfl) ?_; refine RZ (.bool false) (by simp [hn]) ?_
 refine RP rfl rfl ?_
 refine RN ?_
 refine A.no rfl ?_
 refine A.skip ?_
 refine EN ?_
 refine GS ?_
 refine TL ?_
 refine RM rfl ?_
 refine RS (ok_rem rfl rfl (by decide)) ?_; refine RZ (.int .i64 r) (by rw [hr]) ?_
 refine RA rfl ?_
 refine RN ?_
 refine A.seq ?_
 refine GS ?_
 refine TL ?_
 refine RM rfl ?_
 refine RB rfl rfl rfl ?_
 refine RN ?_
 refine A.cond rfl (fun hc15 => ?_) (fun hc15 => ?_)
 ·have hneg : r < 0 := by simpa using hc15
  refine GE ?_
  refine TL ?_
  refine RM rfl ?_
  refine RBS rfl rfl rfl (nI m) (by rw [wrap_i64 (by omega) (by omega)]; exact congrArg (Value.int .i64) (by omega)) ?_
  refine RA rfl ?_
  refine RN ?_
  refine EN ?_
  refine GS ?_
  refine TL ?_
  refine RA rfl ?_
  refine RN ?_
  refine A.seq ?_
  refine A.label ?_
  refine EN ?_
  refine A.seq ?_
  refine A.block ?_
  refine A.loop (ι := Nat × Nat × Nat) (fun z => gm z.2.2 (gpow z.2.1 z.1) = gpow a m ∧ z.2.1 < 256 ∧ z.2.2 < 256 ∧ z.1 < 255) (fun z => [(0, .v (nB (z.2.1))), (1, .v (nI (z.1))), (5, .v (nB (z.2.2)))]) (fun z => z.1) (m, a, 1) ?_ ?_ ?_
  ·exact ⟨gm_one' (gpow_lt _), ha, by show 1 < 256; decide, by show m < 255; omega⟩
  ·exact (KC 0 rfl (KE 1 rfl (by first | rfl | exact congrArg (fun z : Int => D.v (.int .i64 z)) (show r = _ by omega)) (KC 5 rfl KN)))
  intro z hz
  obtain ⟨h1, h2, h3, h4⟩ := hz
  refine A.block ?_
  refine A.seq ?_
  refine A.block ?_
  refine GS ?_
  refine TL ?_
  refine RM rfl ?_
  refine RB rfl rfl rfl ?_
  refine RA rfl ?_
  refine RN ?_
  refine A.cond rfl (fun hc18 => ?_) (fun hc18 => ?_)
  ·have hn0 : z.1 = 0 := by simp at hc18; omega
   refine A.exit ?_
   refine End.exit_past (by decide) ?_
   refine End.exit_then ?_
   refine End.exit_past (by decide) ?_
   refine End.exit_then ?_
   refine End.exit_here ?_
   refine EN ?_
   refine GS ?_
   refine TL ?_
   refine RM rfl ?_; refine RZ (nB (gpz a n)) (congrArg (fun q : Nat => Value.int .u8 (q : Int)) (by rw [hg, ← h1, hn0]; exact (gm_one h3).symm)) ?_
   refine RA rfl ?_
   refine RN ?_
   refine A.ret ?_
   refine End.ret_scope ?_
   exact End.ret1 rfl rfl (by first | exact Le.refl _ | exact Le.old _ _)
  ·have hn0 : z.1 ≠ 0 := by simp at hc18; omega
   refine GS ?_
   refine TL ?_
   refine RM rfl ?_
   refine RBS rfl rfl rfl (nI (z.1 % 2)) (by rw [show IntKind.i64.bits = 64 from rfl, show (1 : Int) = ((1 : Nat) : Int) from rfl, and_i64N (by omega) (by decide), Nat.and_one_is_mod]) ?_
   refine RB rfl rfl rfl ?_
   refine RA rfl ?_
   refine RN ?_
   refine A.cond rfl (fun hc21 => ?_) (fun hc21 => ?_)
   ·have hodd : z.1 % 2 = 1 := by simp at hc21; omega
    refine GE ?_
    refine TL ?_
    refine RM rfl ?_
    refine RM rfl ?_
    refine RS (ok_call (Mul_fn z.2.2 z.2.1 h3 h2) (A2 rfl rfl)) ?_
    refine RA rfl ?_
    refine RN ?_
    refine End.normal_block ?_
    refine EN ?_
    refine GS ?_
    refine TL ?_
    refine RM rfl ?_
    refine RM rfl ?_
    refine RS (ok_call (Mul_fn z.2.1 z.2.1 h2 h2) (A2 rfl rfl)) ?_
    refine RA rfl ?_
    refine RN ?_
    refine GE ?_
    refine TL ?_
    refine RM rfl ?_
    refine RS (ok_shr rfl rfl (by decide)) ?_; refine RZ (nI (z.1 / 2)) (by rw [show min (Int.toNat 1) IntKind.i64.bits = 1 from rfl]; exact congrArg _ (shr_nat _ 1)) ?_
    refine RA rfl ?_
    refine RN ?_
    refine End.normal_block ?_
    refine End.normal_then ?_
    refine End.again (z.1 / 2, gm z.2.1 z.2.1, (if z.1 % 2 = 1 then gm z.2.2 z.2.1 else z.2.2)) ?_ ?_ ?_
    ·exact ⟨(gpow_step h2 h3).trans h1, gm_lt _ h2, by show (if z.1 % 2 = 1 then gm z.2.2 z.2.1 else z.2.2) < 256; split <;> first | exact gm_lt _ h3 | exact h3, by show z.1 / 2 < 255; omega⟩
    ·show z.1 / 2 < z.1; omega
    ·exact (KC 0 rfl (KC 1 rfl (KE 5 rfl (show _ = D.v (nB ((if z.1 % 2 = 1 then gm z.2.2 z.2.1 else z.2.2))) from by first | rw [if_pos hodd] | rw [if_neg hodd]) KN)))
   ·have hodd : ¬ z.1 % 2 = 1 := by simp at hc21; omega
    refine A.skip ?_
    refine End.normal_block ?_
    refine EN ?_
    refine GS ?_
    refine TL ?_
    refine RM rfl ?_
    refine RM rfl ?_
    refine RS (ok_call (Mul_fn z.2.1 z.2.1 h2 h2) (A2 rfl rfl)) ?_
    refine RA rfl ?_
    refine RN ?_
    refine GE ?_
    refine TL ?_
    refine RM rfl ?_
    refine RS (ok_shr rfl rfl (by decide)) ?_; refine RZ (nI (z.1 / 2)) (by rw [show min (Int.toNat 1) IntKind.i64.bits = 1 from rfl]; exact congrArg _ (shr_nat _ 1)) ?_
    refine RA rfl ?_
    refine RN ?_
    refine End.normal_block ?_
    refine End.normal_then ?_
    refine End.again (z.1 / 2, gm z.2.1 z.2.1, (if z.1 % 2 = 1 then gm z.2.2 z.2.1 else z.2.2)) ?_ ?_ ?_
    ·exact ⟨(gpow_step h2 h3).trans h1, gm_lt _ h2, by show (if z.1 % 2 = 1 then gm z.2.2 z.2.1 else z.2.2) < 256; split <;> first | exact gm_lt _ h3 | exact h3, by show z.1 / 2 < 255; omega⟩
    ·show z.1 / 2 < z.1; omega
    ·exact (KC 0 rfl (KC 1 rfl (KE 5 rfl (show _ = D.v (nB ((if z.1 % 2 = 1 then gm z.2.2 z.2.1 else z.2.2))) from by first | rw [if_pos hodd] | rw [if_neg hodd]) KN)))
 ·have hneg : ¬ r < 0 := by simpa using hc15
  refine A.skip ?_
  refine EN ?_
  refine GS ?_
  refine TL ?_
  refine RA rfl ?_
  refine RN ?_
  refine A.seq ?_
  refine A.label ?_
  refine EN ?_
  refine A.seq ?_
  refine A.block ?_
  refine A.loop (ι := Nat × Nat × Nat) (fun z => gm z.2.2 (gpow z.2.1 z.1) = gpow a m ∧ z.2.1 < 256 ∧ z.2.2 < 256 ∧ z.1 < 255) (fun z => [(0, .v (nB (z.2.1))), (1, .v (nI (z.1))), (5, .v (nB (z.2.2)))]) (fun z => z.1) (m, a, 1) ?_ ?_ ?_
  ·exact ⟨gm_one' (gpow_lt _), ha, by show 1 < 256; decide, by show m < 255; omega⟩
  ·exact (KC 0 rfl (KE 1 rfl (by first | rfl | exact congrArg (fun z : Int => D.v (.int .i64 z)) (show r = _ by omega)) (KC 5 rfl KN)))
  intro z hz
  obtain ⟨h1, h2, h3, h4⟩ := hz
  refine A.block ?_
  refine A.seq ?_
  refine A.block ?_
  refine GS ?_
  refine TL ?_
  refine RM rfl ?_
  refine RB rfl rfl rfl ?_
  refine RA rfl ?_
  refine RN ?_
  refine A.cond rfl (fun hc18 => ?_) (fun hc18 => ?_)
  ·have hn0 : z.1 = 0 := by simp at hc18; omega
   refine A.exit ?_
   refine End.exit_past (by decide) ?_
   refine End.exit_then ?_
   refine End.exit_past (by decide) ?_
   refine End.exit_then ?_
   refine End.exit_here ?_
   refine EN ?_
   refine GS ?_
   refine TL ?_
   refine RM rfl ?_; refine RZ (nB (gpz a n)) (congrArg (fun q : Nat => Value.int .u8 (q : Int)) (by rw [hg, ← h1, hn0]; exact (gm_one h3).symm)) ?_
   refine RA rfl ?_
   refine RN ?_
   refine A.ret ?_
   refine End.ret_scope ?_
   exact End.ret1 rfl rfl (by first | exact Le.refl _ | exact Le.old _ _)
  ·have hn0 : z.1 ≠ 0 := by simp at hc18; omega
   refine GS ?_
   refine TL ?_
   refine RM rfl ?_
   refine RBS rfl rfl rfl (nI (z.1 % 2)) (by rw [show IntKind.i64.bits = 64 from rfl, show (1 : Int) = ((1 : Nat) : Int) from rfl, and_i64N (by omega) (by decide), Nat.and_one_is_mod]) ?_
   refine RB rfl rfl rfl ?_
   refine RA rfl ?_
   refine RN ?_
   refine A.cond rfl (fun hc21 => ?_) (fun hc21 => ?_)
   ·have hodd : z.1 % 2 = 1 := by simp at hc21; omega
    refine GE ?_
    refine TL ?_
    refine RM rfl ?_
    refine RM rfl ?_
    refine RS (ok_call (Mul_fn z.2.2 z.2.1 h3 h2) (A2 rfl rfl)) ?_
    refine RA rfl ?_
    refine RN ?_
    refine End.normal_block ?_
    refine EN ?_
    refine GS ?_
    refine TL ?_
    refine RM rfl ?_
    refine RM rfl ?_
    refine RS (ok_call (Mul_fn z.2.1 z.2.1 h2 h2) (A2 rfl rfl)) ?_
    refine RA rfl ?_
    refine RN ?_
    refine GE ?_
    refine TL ?_
    refine RM rfl ?_
    refine RS (ok_shr rfl rfl (by decide)) ?_; refine RZ (nI (z.1 / 2)) (by rw [show min (Int.toNat 1) IntKind.i64.bits = 1 from rfl]; exact congrArg _ (shr_nat _ 1)) ?_
    refine RA rfl ?_
    refine RN ?_
    refine End.normal_block ?_
    refine End.normal_then ?_
    refine End.again (z.1 / 2, gm z.2.1 z.2.1, (if z.1 % 2 = 1 then gm z.2.2 z.2.1 else z.2.2)) ?_ ?_ ?_
    ·exact ⟨(gpow_step h2 h3).trans h1, gm_lt _ h2, by show (if z.1 % 2 = 1 then gm z.2.2 z.2.1 else z.2.2) < 256; split <;> first | exact gm_lt _ h3 | exact h3, by show z.1 / 2 < 255; omega⟩
    ·show z.1 / 2 < z.1; omega
    ·exact (KC 0 rfl (KC 1 rfl (KE 5 rfl (show _ = D.v (nB ((if z.1 % 2 = 1 then gm z.2.2 z.2.1 else z.2.2))) from by first | rw [if_pos hodd] | rw [if_neg hodd]) KN)))
   ·have hodd : ¬ z.1 % 2 = 1 := by simp at hc21; omega
    refine A.skip ?_
    refine End.normal_block ?_
    refine EN ?_
    refine GS ?_
    refine TL ?_
    refine RM rfl ?_
    refine RM rfl ?_
    refine RS (ok_call (Mul_fn z.2.1 z.2.1 h2 h2) (A2 rfl rfl)) ?_
    refine RA rfl ?_
    refine RN ?_
    refine GE ?_
    refine TL ?_
    refine RM rfl ?_
    refine RS (ok_shr rfl rfl (by decide)) ?_; refine RZ (nI (z.1 / 2)) (by rw [show min (Int.toNat 1) IntKind.i64.bits = 1 from rfl]; exact congrArg _ (shr_nat _ 1)) ?_
    refine RA rfl ?_
    refine RN ?_
    refine End.normal_block ?_
    refine End.normal_then ?_
    refine End.again (z.1 / 2, gm z.2.1 z.2.1, (if z.1 % 2 = 1 then gm z.2.2 z.2.1 else z.2.2)) ?_ ?_ ?_
    ·exact ⟨(gpow_step h2 h3).trans h1, gm_lt _ h2, by show (if z.1 % 2 = 1 then gm z.2.2 z.2.1 else z.2.2) < 256; split <;> first | exact gm_lt _ h3 | exact h3, by show z.1 / 2 < 255; omega⟩
    ·show z.1 / 2 < z.1; omega
    ·exact (KC 0 rfl (KC 1 rfl (KE 5 rfl (show _ = D.v (nB ((if z.1 % 2 = 1 then gm z.2.2 z.2.1 else z.2.2))) from by first | rw [if_pos hodd] | rw [if_neg hodd]) KN)))
theorem Power_fn (a : Nat) (n : Int) (ha : a < 256) : Fn Tryz.prog 65 [.v (nB a), .v (.int .i64 n)] (.v (nB (gpz a n))) := by
 by_cases h0 : a = 0
 ·by_cases hn : n = 0
  ·exact Power_fnC a n ha h0 hn
  ·subst h0
   rw [gpz_zero hn]
   exact Power_fnA n hn
 ·exact Power_fnB a n ha h0
theorem Inverse_fn (a : Nat) (ha : a < 256) : Fn Tryz.prog 98 [.v (nB a)] (.v (nB (ginv a))) := by
 refine Fn.of Tryz.func98 rfl (by kernel_rfl) Tryz.ntmps98 (by simp) (fun w => [(0, .v (nB a))]) (fun w => (Start.v rfl Start.nil)) fun w₀ => ?_
 refine GS ?_
 refine TL ?_
 refine RA rfl ?_
 refine RN ?_
 refine GS ?_
 refine TL ?_
 refine RM rfl ?_
 refine RS (ok_strIndex (l := itab) a Tryz.underlying9 rfl rfl rfl (itab_get ha)) ?_; refine RZ (nB (ginv a)) (rfl) ?_
 refine RA rfl ?_
 refine RN ?_
 refine A.ret ?_
 exact End.ret1 rfl rfl (by first | exact Le.refl _ | exact Le.old _ _)
theorem RotateLeft8_fn (a k : Nat) (ha : a < 256) (hk : k < 8) : Fn Tryz.prog 99 [.v (nB a), .v (nI k)] (.v (nB (rotl8 a k))) := by
 refine Fn.of Tryz.func99 rfl (by kernel_rfl) Tryz.ntmps99 (by simp) (fun w => [(0, .v (nB a)), (1, .v (nI k))]) (fun w => (Start.v rfl (Start.v rfl Start.nil))) fun w₀ => ?_
 refine GS ?_
 refine TL ?_
 refine RA rfl ?_
 refine RN ?_
 refine GS ?_
 refine TL ?_
 refine RM rfl ?_
 refine RS (ok_conv Tryz.underlying3 Tryz.underlying140 rfl) ?_; refine RZ (nQ k) (by rw [wrapN_u64 (by omega)]) ?_
 refine RBS rfl rfl rfl (nQ k) (by rw [show IntKind.u64.bits = 64 from rfl, show (7 : Int) = ((7 : Nat) : Int) from rfl, and_u64_nat (by omega) (by decide), show k &&& 7 = k % 8 from Nat.and_two_pow_sub_one_eq_mod k 3, Nat.mod_eq_of_lt hk]) ?_
 refine RA rfl ?_
 refine RN ?_
 refine GS ?_
 refine TL ?_
 refine RM rfl ?_
 refine RM rfl ?_
 refine RS (ok_shl rfl rfl (by omega)) ?_; refine RZ (nB (a * 2 ^ k % 256)) (by rw [Int.toNat_natCast, show min k IntKind.u8.bits = k from by simp only [IntKind.bits]; omega, show (a : Int) * 2 ^ k = ((a * 2 ^ k : Nat) : Int) from by simp, wrap_u8N]) ?_
 refine RM rfl ?_
 refine RM rfl ?_
 refine RBS rfl rfl rfl (nQ (8 - k)) (by rw [wrap_u64 (by omega) (by omega)]; exact congrArg (Value.int .u64) (by omega)) ?_
 refine RS (ok_shr rfl rfl (by omega)) ?_; refine RZ (nB (a / 2 ^ (8 - k))) (by rw [Int.toNat_natCast, show min (8 - k) IntKind.u8.bits = 8 - k from by simp only [IntKind.bits]; omega]; exact congrArg _ (shr_nat _ _)) ?_
 refine RBS rfl rfl rfl (nB (rotl8 a k)) (by rw [show IntKind.u8.bits = 8 from rfl, or_u8N (Nat.mod_lt _ (by decide)) (Nat.lt_of_le_of_lt (Nat.div_le_self _ _) ha)]; rfl) ?_
 refine RA rfl ?_
 refine RN ?_
 refine A.ret ?_
 exact End.ret1 rfl rfl (by first | exact Le.refl _ | exact Le.old _ _)
theorem xor_lt8 {a b : Nat} (ha : a < 256) (hb : b < 256) : a ^^^ b < 256 := Nat.xor_lt_two_pow (n := 8) ha hb
theorem Sub_fn (a : Nat) (ha : a < 256) : Fn Tryz.prog 87 [.v (nB a)] (.v (nB (sub8 a))) := by
 refine Fn.of Tryz.func87 rfl (by kernel_rfl) Tryz.ntmps87 (by simp) (fun w => [(0, .v (nB a))]) (fun w => (Start.v rfl Start.nil)) fun w₀ => ?_
 refine GS ?_
 refine TL ?_
 refine RA rfl ?_
 refine RN ?_
 refine GS ?_
 refine TL ?_
 refine RM rfl ?_
 refine RS (ok_call (Inverse_fn a ha) (Args.cons rfl LA Args.nil)) ?_
 refine RA rfl ?_
 refine RN ?_
 refine GS ?_
 refine TL ?_
 refine RM rfl ?_
 refine RM rfl ?_
 refine RS (ok_call (RotateLeft8_fn (ginv a) 1 (ginv_lt a) (by decide)) (Args.cons rfl LA (Args.cons rfl LA Args.nil))) ?_
 refine RBS rfl rfl rfl (nB ((ginv a) ^^^ rotl8 (ginv a) 1)) (by rw [show IntKind.u8.bits = 8 from rfl, xor_u8N (ginv_lt a) (rotl8_lt _ (ginv_lt a))]) ?_
 refine RM rfl ?_
 refine RS (ok_call (RotateLeft8_fn (ginv a) 2 (ginv_lt a) (by decide)) (Args.cons rfl LA (Args.cons rfl LA Args.nil))) ?_
 refine RBS rfl rfl rfl (nB ((ginv a) ^^^ rotl8 (ginv a) 1 ^^^ rotl8 (ginv a) 2)) (by rw [show IntKind.u8.bits = 8 from rfl, xor_u8N (xor_lt8 (ginv_lt a) (rotl8_lt _ (ginv_lt a))) (rotl8_lt _ (ginv_lt a))]) ?_
 refine RM rfl ?_
 refine RS (ok_call (RotateLeft8_fn (ginv a) 3 (ginv_lt a) (by decide)) (Args.cons rfl LA (Args.cons rfl LA Args.nil))) ?_
 refine RBS rfl rfl rfl (nB ((ginv a) ^^^ rotl8 (ginv a) 1 ^^^ rotl8 (ginv a) 2 ^^^ rotl8 (ginv a) 3)) (by rw [show IntKind.u8.bits = 8 from rfl, xor_u8N (xor_lt8 (xor_lt8 (ginv_lt a) (rotl8_lt _ (ginv_lt a))) (rotl8_lt _ (ginv_lt a))) (rotl8_lt _ (ginv_lt a))]) ?_
 refine RM rfl ?_
 refine RS (ok_call (RotateLeft8_fn (ginv a) 4 (ginv_lt a) (by decide)) (Args.cons rfl LA (Args.cons rfl LA Args.nil))) ?_
 refine RBS rfl rfl rfl (nB ((ginv a) ^^^ rotl8 (ginv a) 1 ^^^ rotl8 (ginv a) 2 ^^^ rotl8 (ginv a) 3 ^^^ rotl8 (ginv a) 4)) (by rw [show IntKind.u8.bits = 8 from rfl, xor_u8N (xor_lt8 (xor_lt8 (xor_lt8 (ginv_lt a) (rotl8_lt _ (ginv_lt a))) (rotl8_lt _ (ginv_lt a))) (rotl8_lt _ (ginv_lt a))) (rotl8_lt _ (ginv_lt a))]) ?_
 refine RBS rfl rfl rfl (nB (sub8 a)) (by rw [show IntKind.u8.bits = 8 from rfl, show (99 : Int) = ((99 : Nat) : Int) from rfl, xor_u8N (xor_lt8 (xor_lt8 (xor_lt8 (xor_lt8 (ginv_lt a) (rotl8_lt _ (ginv_lt a))) (rotl8_lt _ (ginv_lt a))) (rotl8_lt _ (ginv_lt a))) (rotl8_lt _ (ginv_lt a))) (by decide)]; rfl) ?_
 refine RA rfl ?_
 refine RN ?_
 refine A.ret ?_
 exact End.ret1 rfl rfl (by first | exact Le.refl _ | exact Le.old _ _)
end Go.Proofs.YthadcgkcgpinhaaGreatDoor
namespace Go.Proofs.YthadcgkcgpinhaaGreatDoor
open Go Go.RowKit
set_option maxRecDepth 100000
set_option linter.unusedVariables false

/-! ### Rows of bytes -/
/-- n bytes as values. -/
def rowV (n : Nat) (f : Nat → Nat) : List Value := (List.range n).map fun i => .int .u8 ((f i : Nat) : Int)
theorem rowV_length (n : Nat) (f : Nat → Nat) : (rowV n f).length = n := by simp [rowV]
theorem rowV_get {n i : Nat} {f : Nat → Nat} (h : i < n) : (rowV n f)[i]? = some (.int .u8 ((f i : Nat) : Int)) := by simp [rowV, h]
theorem rowV_one (n : Nat) (f : Nat → Nat) : (rowV n f).all (·.oneCell') = true := by
  rw [List.all_eq_true]
  intro u hu
  simp only [rowV, List.mem_map] at hu
  obtain ⟨i, _, rfl⟩ := hu
  rfl
theorem rowV_congr {n : Nat} {f g : Nat → Nat} (h : ∀ i < n, f i = g i) : rowV n f = rowV n g :=
  List.map_congr_left fun i hi => by rw [h i (List.mem_range.1 hi)]
theorem rowV_set {n k x : Nat} {f : Nat → Nat} : (rowV n f).set k (.int .u8 ((x : Nat) : Int)) = rowV n fun i => if i = k then x else f i := by
  unfold rowV
  rw [map_set_range]
  apply List.map_congr_left
  intro i _
  by_cases hi : i = k
  · simp only [hi, if_true]
  · simp only [hi, if_false]
theorem rowV_set' {n k x : Nat} {f g : Nat → Nat} (h : ∀ i < n, (if i = k then x else f i) = g i) : (rowV n f).set k (.int .u8 ((x : Nat) : Int)) = rowV n g := by
  rw [rowV_set]; exact rowV_congr h
theorem rowV_zero (n : Nat) : List.replicate n (.int .u8 0) = rowV n fun _ => 0 := by
  apply List.ext_getElem?
  intro j
  simp only [rowV, List.getElem?_map, List.getElem?_replicate]
  by_cases hj : j < n
  · simp [hj]
  · simp [hj]
theorem rowV_part {n o m : Nat} {f g : Nat → Nat} (h : o + m ≤ n) (hg : ∀ i < m, f (o + i) = g i) : ((rowV n f).drop o).take m = rowV m g := by
  apply List.ext_getElem?
  intro j
  rw [List.getElem?_take]
  split
  · rename_i hj
    rw [List.getElem?_drop, rowV_get (by omega), rowV_get hj, hg j hj]
  · rename_i hj
    rw [List.getElem?_eq_none (by rw [rowV_length]; omega)]
theorem rowV_put {n o m : Nat} {f g h : Nat → Nat} (hm : o + m ≤ n) (hh : ∀ i < n, (if o ≤ i ∧ i < o + m then g (i - o) else f i) = h i) : (rowV n f).take o ++ rowV m g ++ (rowV n f).drop (o + m) = rowV n h := by
  apply List.ext_getElem?
  intro j
  rcases Nat.lt_or_ge j n with hj | hj
  · rw [rowV_get hj, ← hh j hj]
    rcases Nat.lt_or_ge j o with h1 | h1
    · rw [List.getElem?_append_left (by simp [rowV_length]; omega), List.getElem?_append_left (by simp [rowV_length]; omega), List.getElem?_take, if_pos h1, rowV_get hj, if_neg (by omega)]
    · rcases Nat.lt_or_ge j (o + m) with h2 | h2
      · rw [List.getElem?_append_left (by simp [rowV_length]; omega), List.getElem?_append_right (by simp [rowV_length]; omega), if_pos ⟨h1, h2⟩]
        simp only [List.length_take, rowV_length]
        rw [Nat.min_eq_left (by omega), rowV_get (by omega)]
      · rw [List.getElem?_append_right (by simp [rowV_length]; omega), if_neg (by omega)]
        simp only [List.length_append, List.length_take, rowV_length]
        rw [Nat.min_eq_left (by omega), List.getElem?_drop, show o + m + (j - (o + m)) = j from by omega, rowV_get hj]
  · rw [List.getElem?_eq_none (by simp [rowV_length]; omega), List.getElem?_eq_none (by rw [rowV_length]; omega)]
/-- The bytes of a list. -/
def byL (l : List UInt8) (i : Nat) : Nat := (l.getD i 0).toNat
theorem byL_lt (l : List UInt8) (i : Nat) : byL l i < 256 := (l.getD i 0).toNat_lt
theorem rowV_byL {l : List UInt8} {n : Nat} (h : l.length = n) : l.map byteV = rowV n (byL l) := by
  apply List.ext_getElem?
  intro j
  rcases Nat.lt_or_ge j n with hj | hj
  · rw [rowV_get hj, List.getElem?_map, List.getElem?_eq_getElem (by omega), Option.map_some]
    simp only [byL, List.getD_eq_getElem?_getD, List.getElem?_eq_getElem (show j < l.length by omega), Option.getD_some]
    rfl
  · rw [List.getElem?_eq_none (by rw [List.length_map]; omega), List.getElem?_eq_none (by rw [rowV_length]; omega)]

/-! ### The transformations -/
abbrev Sta := Nat → Nat
/-- Bytes, at all places. -/
def By (f : Sta) : Prop := ∀ i, f i < 256
/-- The same 16 bytes. -/
def Eq16 (f g : Sta) : Prop := ∀ i < 16, f i = g i
theorem Eq16.refl (f : Sta) : Eq16 f f := fun _ _ => rfl
theorem Eq16.symm {f g : Sta} (h : Eq16 f g) : Eq16 g f := fun i hi => (h i hi).symm
theorem Eq16.trans {f g h : Sta} (a : Eq16 f g) (b : Eq16 g h) : Eq16 f h := fun i hi => (a i hi).trans (b i hi)
def addS (f k : Sta) : Sta := fun i => f i ^^^ k i
def subS (f : Sta) : Sta := fun i => sub8 (f i)
def rotS (f : Sta) : Sta := fun i => f (4 * ((i / 4 + i % 4) % 4) + i % 4)
/-- A byte of a column, behind. -/
def col (a : Nat → Nat) (r : Nat) : Nat := gm 2 (a (r % 4) ^^^ a ((r + 1) % 4)) ^^^ a ((r + 1) % 4) ^^^ a ((r + 2) % 4) ^^^ a ((r + 3) % 4)
def mixS (f : Sta) : Sta := fun i => col (fun r => f (4 * (i / 4) + r)) (i % 4)
theorem xor_lt (a b : Nat) (ha : a < 256) (hb : b < 256) : a ^^^ b < 256 := Nat.xor_lt_two_pow (n := 8) ha hb
theorem addS_by {f k : Sta} (hf : By f) (hk : By k) : By (addS f k) := fun i => xor_lt _ _ (hf i) (hk i)
theorem subS_by (f : Sta) : By (subS f) := fun _ => sub8_lt _
theorem rotS_by {f : Sta} (h : By f) : By (rotS f) := fun _ => h _
theorem col_lt {a : Nat → Nat} (h : ∀ r, a r < 256) (r : Nat) : col a r < 256 := xor_lt _ _ (xor_lt _ _ (xor_lt _ _ (gm_lt _ (by decide)) (h _)) (h _)) (h _)
theorem mixS_by {f : Sta} (h : By f) : By (mixS f) := fun _ => col_lt (fun _ => h _) _
theorem subS_eq {f g : Sta} (h : Eq16 f g) : Eq16 (subS f) (subS g) := fun i hi => by simp only [subS, h i hi]
theorem rotS_eq {f g : Sta} (h : Eq16 f g) : Eq16 (rotS f) (rotS g) := fun i _ => h _ (by omega)
theorem col_eq {a b : Nat → Nat} (h : ∀ r < 4, a r = b r) (r : Nat) : col a r = col b r := by
  simp only [col, h _ (show r % 4 < 4 by omega), h _ (show (r + 1) % 4 < 4 by omega), h _ (show (r + 2) % 4 < 4 by omega), h _ (show (r + 3) % 4 < 4 by omega)]
theorem mixS_eq {f g : Sta} (h : Eq16 f g) : Eq16 (mixS f) (mixS g) := fun i hi => col_eq (fun r hr => h _ (by omega)) _
theorem xor_lcomm (a b c : Nat) : a ^^^ (b ^^^ c) = b ^^^ (a ^^^ c) := by rw [← Nat.xor_assoc, Nat.xor_comm a b, Nat.xor_assoc]
theorem mixS_col (f : Sta) (c r : Nat) (hr : r < 4) : mixS f (4 * c + r) = col (fun r => f (4 * c + r)) r := by
  show col (fun q => f (4 * ((4 * c + r) / 4) + q)) ((4 * c + r) % 4) = _
  rw [show (4 * c + r) / 4 = c from by omega, show (4 * c + r) % 4 = r from by omega]
/-! ### The cipher -/
/-- A round key of a schedule, whose bytes stand side by side. -/
def keyS (s : Nat → Nat) (k : Nat) : Sta := fun i => s (16 * k + i)
def encR (s : Nat → Nat) (f : Sta) : Nat → Sta
  | 0 => addS f (keyS s 0)
  | r + 1 => addS (mixS (rotS (subS (encR s f r)))) (keyS s (r + 1))
def enc (s : Nat → Nat) (f : Sta) : Sta := addS (rotS (subS (encR s f 9))) (keyS s 10)
section
variable {s : Nat → Nat} {f g : Sta} (hs : ∀ i, s i < 256)
include hs
theorem keyS_by (k : Nat) : By (keyS s k) := fun _ => hs _
theorem encR_by (hf : By f) : ∀ r, By (encR s f r)
  | 0 => addS_by hf (keyS_by hs 0)
  | r + 1 => addS_by (mixS_by (rotS_by (subS_by _))) (keyS_by hs _)
theorem enc_by : By (enc s f) := addS_by (rotS_by (subS_by _)) (keyS_by hs _)
end
/-! ### The round keys -/
/-- The word that the first column of the next round key takes in. -/
def wordS (k : Sta) (p r : Nat) : Nat := sub8 (k (12 + (r + 1) % 4)) ^^^ (if r = 0 then p else 0)
/-- The sum of c columns of the key, and of the word. -/
def accS (k : Sta) (p r : Nat) : Nat → Nat
  | 0 => wordS k p r
  | c + 1 => k (4 * c + r) ^^^ accS k p r c
def nextS (k : Sta) (p : Nat) : Sta := fun i => accS k p (i % 4) (i / 4 + 1)
/-- The round keys of a key. -/
def roundK (k : Sta) : Nat → Sta
  | 0 => k
  | n + 1 => nextS (roundK k n) (gpow 2 n)
def expand (k : Sta) : Nat → Nat := fun j => roundK k (j / 16) (j % 16)
theorem accS_lt {k : Sta} {p : Nat} (hk : By k) (hp : p < 256) (r : Nat) : ∀ c, accS k p r c < 256
  | 0 => by
    show sub8 _ ^^^ _ < 256
    refine xor_lt _ _ (sub8_lt _) ?_
    split
    · exact hp
    · decide
  | c + 1 => xor_lt _ _ (hk _) (accS_lt hk hp r c)
theorem roundK_by {k : Sta} (hk : By k) : ∀ n, By (roundK k n)
  | 0 => hk
  | n + 1 => fun _ => accS_lt (roundK_by hk n) (gpow_lt n) _ _
theorem expand_lt {k : Sta} (hk : By k) (j : Nat) : expand k j < 256 := roundK_by hk _ _
theorem keyS_expand (k : Sta) (r : Nat) : Eq16 (keyS (expand k) r) (roundK k r) := fun i hi => by
  show roundK k ((16 * r + i) / 16) ((16 * r + i) % 16) = _
  rw [show (16 * r + i) / 16 = r from by omega, show (16 * r + i) % 16 = i from by omega]
theorem accS_eq {k g : Sta} (h : Eq16 k g) (p : Nat) {r : Nat} (hr : r < 4) : ∀ c, c ≤ 4 → accS k p r c = accS g p r c
  | 0, _ => by simp only [accS, wordS, h _ (show 12 + (r + 1) % 4 < 16 by omega)]
  | c + 1, hc => by simp only [accS, h _ (show 4 * c + r < 16 by omega), accS_eq h p hr c (by omega)]
theorem nextS_eq {k g : Sta} (h : Eq16 k g) (p : Nat) : Eq16 (nextS k p) (nextS g p) := fun i hi => accS_eq h p (by omega) _ (by omega)
/-! ### The definition's rows and words -/
theorem v8 {a b : Nat} (h : a = b) : Value.int .u8 ((a : Nat) : Int) = .int .u8 ((b : Nat) : Int) := by rw [h]
theorem gm2_all : (List.range 256).all (fun a => gm 2 a == if 127 < a then (2 * a % 256) ^^^ 27 else 2 * a % 256) = true := by kernel_rfl
theorem gm2_hi {a : Nat} (ha : a < 256) (h : 127 < a) : (2 * a % 256) ^^^ 27 = gm 2 a := by
  have h1 := eq_of_beq (all256 gm2_all ha)
  rw [h1, if_pos h]
theorem gm2_lo {a : Nat} (ha : a < 256) (h : ¬ 127 < a) : 2 * a % 256 = gm 2 a := by
  have h1 := eq_of_beq (all256 gm2_all ha)
  rw [h1, if_neg h]
/-- The words as far as they are made. -/
def wst (k : Sta) (n : Nat) : Nat → Nat := fun j => if j < n then expand k j else 0
theorem wst_zero (k : Sta) : List.replicate 176 (.int .u8 0) = rowV 176 (wst k 0) := by
  rw [rowV_zero]; exact rowV_congr fun i _ => by simp [wst]
theorem wst_set {k : Sta} {n o x : Nat} (ho : o = n) (hx : x = expand k n) : (rowV 176 (wst k n)).set o (.int .u8 ((x : Nat) : Int)) = rowV 176 (wst k (n + 1)) := by
  subst ho; subst hx
  refine rowV_set' fun i _ => ?_
  unfold wst
  by_cases h : i = o
  · subst h; rw [if_pos rfl, if_pos (by omega)]
  · rw [if_neg h]
    by_cases h1 : i < o
    · rw [if_pos h1, if_pos (by omega)]
    · rw [if_neg h1, if_neg (by omega)]
theorem wst_full (k : Sta) : rowV 176 (wst k 176) = rowV 176 (expand k) := rowV_congr fun i hi => by simp only [wst, if_pos hi]
theorem wst_get {k : Sta} {n j i : Nat} (h : j < n) (hi : j = i) : wst k n j = expand k i := by subst hi; exact if_pos h
theorem expand_key (k : Sta) {j : Nat} (h : j < 16) : expand k j = k j := by
  show roundK k (j / 16) (j % 16) = k j
  rw [show j / 16 = 0 from by omega, show j % 16 = j from by omega]; rfl
/-- The word that the definition takes in for the word i. -/
def tqS (k : Sta) (i : Nat) : Nat → Nat := fun q => if i % 4 = 0 then wordS (roundK k (i / 4 - 1)) (gpow 2 (i / 4 - 1)) q else expand k (4 * (i - 1) + q)
theorem tqS_lt {k : Sta} (hk : By k) (i q : Nat) : tqS k i q < 256 := by
  unfold tqS
  split
  · exact accS_lt (roundK_by hk _) (gpow_lt _) q 0
  · exact expand_lt hk _
theorem expand_step (k : Sta) {i q : Nat} (hi : 4 ≤ i) (hq : q < 4) : expand k (4 * (i - 4) + q) ^^^ tqS k i q = expand k (4 * i + q) := by
  obtain ⟨n, hn⟩ : ∃ n, i / 4 = n + 1 := ⟨i / 4 - 1, by omega⟩
  have e1 : expand k (4 * i + q) = accS (roundK k n) (gpow 2 n) q (i % 4 + 1) := by
    show roundK k ((4 * i + q) / 16) ((4 * i + q) % 16) = _
    rw [show (4 * i + q) / 16 = n + 1 from by omega, show (4 * i + q) % 16 = 4 * (i % 4) + q from by omega]
    show accS (roundK k n) (gpow 2 n) ((4 * (i % 4) + q) % 4) ((4 * (i % 4) + q) / 4 + 1) = _
    rw [show (4 * (i % 4) + q) % 4 = q from by omega, show (4 * (i % 4) + q) / 4 = i % 4 from by omega]
  have e2 : expand k (4 * (i - 4) + q) = roundK k n (4 * (i % 4) + q) := by
    show roundK k ((4 * (i - 4) + q) / 16) ((4 * (i - 4) + q) % 16) = _
    rw [show (4 * (i - 4) + q) / 16 = n from by omega, show (4 * (i - 4) + q) % 16 = 4 * (i % 4) + q from by omega]
  have e3 : tqS k i q = accS (roundK k n) (gpow 2 n) q (i % 4) := by
    unfold tqS
    by_cases h : i % 4 = 0
    · rw [if_pos h, h, show i / 4 - 1 = n from by omega]; rfl
    · rw [if_neg h]
      show roundK k ((4 * (i - 1) + q) / 16) ((4 * (i - 1) + q) % 16) = _
      rw [show (4 * (i - 1) + q) / 16 = n + 1 from by omega, show (4 * (i - 1) + q) % 16 = 4 * (i % 4 - 1) + q from by omega]
      show accS (roundK k n) (gpow 2 n) ((4 * (i % 4 - 1) + q) % 4) ((4 * (i % 4 - 1) + q) / 4 + 1) = _
      rw [show (4 * (i % 4 - 1) + q) % 4 = q from by omega, show (4 * (i % 4 - 1) + q) / 4 + 1 = i % 4 from by omega]
  rw [e1, e2, e3]; rfl
theorem word_row (k : Sta) (p : Nat) : [.int .u8 ((sub8 (k 13) ^^^ p : Nat) : Int), .int .u8 ((sub8 (k 14) : Nat) : Int), .int .u8 ((sub8 (k 15) : Nat) : Int), .int .u8 ((sub8 (k 12) : Nat) : Int)] = rowV 4 (wordS k p) := by
  simp [rowV, wordS, List.range_succ]
theorem tq_row (k : Sta) {i : Nat} (h0 : i % 4 = 0) (h4 : 4 ≤ i) : [.int .u8 ((sub8 (expand k (4 * (i - 1) + 1)) ^^^ gpow 2 ((i - 1) / 4) : Nat) : Int), .int .u8 ((sub8 (expand k (4 * (i - 1) + 2)) : Nat) : Int), .int .u8 ((sub8 (expand k (4 * (i - 1) + 3)) : Nat) : Int), .int .u8 ((sub8 (expand k (4 * (i - 1) + 0)) : Nat) : Int)] = rowV 4 (tqS k i) := by
  have e : ∀ q < 4, expand k (4 * (i - 1) + q) = roundK k (i / 4 - 1) (12 + q) := fun q hq => by
    show roundK k ((4 * (i - 1) + q) / 16) ((4 * (i - 1) + q) % 16) = _
    rw [show (4 * (i - 1) + q) / 16 = i / 4 - 1 from by omega, show (4 * (i - 1) + q) % 16 = 12 + q from by omega]
  rw [e 0 (by decide), e 1 (by decide), e 2 (by decide), e 3 (by decide), word_row, show (i - 1) / 4 = i / 4 - 1 from by omega]
  exact rowV_congr fun q _ => by simp only [tqS, if_pos h0]
theorem tq_skip (k : Sta) {i : Nat} (h0 : ¬ i % 4 = 0) : rowV 4 (fun q => expand k (4 * (i - 1) + q)) = rowV 4 (tqS k i) := rowV_congr fun q _ => by simp only [tqS, if_neg h0]

/-- A state as the definition's matrix, row by row. -/
def aesT (f : Sta) : Sta := fun x => f (4 * (x % 4) + x / 4)
def aesG (f : Sta) : Sta := rotS (subS f)
/-- The state behind q rounds. -/
def rst (s : Nat → Nat) (f : Sta) (q : Nat) : Sta := if q < 10 then encR s f q else enc s f
theorem rst_by {s : Nat → Nat} {f : Sta} (hs : ∀ i, s i < 256) (hf : By f) (q : Nat) : By (rst s f q) := by
  unfold rst; split
  · exact encR_by hs hf q
  · exact enc_by hs
theorem aesG_by (f : Sta) : By (aesG f) := rotS_by (subS_by f)
def aesM0 (s : Nat → Nat) (f : Sta) (i : Nat) : Sta := fun x => if 4 * (x % 4) + x / 4 < i then addS f (keyS s 0) (4 * (x % 4) + x / 4) else 0
theorem aesM0_zero (s : Nat → Nat) (f : Sta) : List.replicate 16 (.int .u8 0) = rowV 16 (aesM0 s f 0) := by
  rw [rowV_zero]; exact rowV_congr fun i _ => by simp [aesM0]
theorem aesM0_set {s : Nat → Nat} {f : Sta} {i o x : Nat} (hi : i < 16) (ho : o = 4 * (i % 4) + i / 4) (hx : x = addS f (keyS s 0) i) : (rowV 16 (aesM0 s f i)).set o (.int .u8 ((x : Nat) : Int)) = rowV 16 (aesM0 s f (i + 1)) := by
  subst ho; subst hx
  refine rowV_set' fun y hy => ?_
  unfold aesM0
  by_cases h : y = 4 * (i % 4) + i / 4
  · rw [if_pos h, if_pos (by omega), show 4 * (y % 4) + y / 4 = i from by omega]
  · rw [if_neg h]
    by_cases h1 : 4 * (y % 4) + y / 4 < i
    · rw [if_pos h1, if_pos (by omega)]
    · rw [if_neg h1, if_neg (by omega)]
theorem aesM0_full (s : Nat → Nat) (f : Sta) : rowV 16 (aesM0 s f 16) = rowV 16 (aesT (rst s f 0)) := rowV_congr fun x hx => by
  simp only [aesM0, if_pos (show 4 * (x % 4) + x / 4 < 16 by omega)]; rfl
def aesN1 (f : Sta) (z : Nat) : Sta := fun x => if x < z then aesT (aesG f) x else 0
theorem aesN1_zero (f : Sta) : List.replicate 16 (.int .u8 0) = rowV 16 (aesN1 f 0) := by
  rw [rowV_zero]; exact rowV_congr fun i _ => by simp [aesN1]
theorem aesN1_set {f : Sta} {r c o x : Nat} (hr : r < 4) (hc : c < 4) (ho : o = 4 * r + c) (hx : x = sub8 (f (4 * ((c + r) % 4) + r))) : (rowV 16 (aesN1 f (4 * r + c))).set o (.int .u8 ((x : Nat) : Int)) = rowV 16 (aesN1 f (4 * r + c + 1)) := by
  subst ho; subst hx
  refine rowV_set' fun y hy => ?_
  unfold aesN1
  by_cases h : y = 4 * r + c
  · rw [if_pos h, if_pos (by omega)]
    show _ = sub8 (f (4 * (((4 * (y % 4) + y / 4) / 4 + (4 * (y % 4) + y / 4) % 4) % 4) + (4 * (y % 4) + y / 4) % 4))
    have e1 : y % 4 = c := by omega
    have e2 : y / 4 = r := by omega
    rw [e1, e2, show (4 * c + r) / 4 = c from by omega, show (4 * c + r) % 4 = r from by omega]
  · rw [if_neg h]
    by_cases h1 : y < 4 * r + c
    · rw [if_pos h1, if_pos (by omega)]
    · rw [if_neg h1, if_neg (by omega)]
def aesN2 (f : Sta) (q c : Nat) : Sta := fun x => if x % 4 < c ∧ q < 9 then aesT (mixS (aesG f)) x else aesT (aesG f) x
theorem aesN1_full (f : Sta) (q : Nat) : rowV 16 (aesN1 f 16) = rowV 16 (aesN2 f q 0) := rowV_congr fun x hx => by
  simp only [aesN1, if_pos hx, aesN2, Nat.not_lt_zero, false_and, if_false]
theorem aesN2_get {f : Sta} {q c x r : Nat} (hc : c < 4) (hr : r < 4) (hx : x = 4 * r + c) : aesN2 f q c x = aesG f (4 * c + r) := by
  unfold aesN2
  rw [if_neg (by omega)]
  show aesG f _ = _
  congr 1; omega
theorem aesN2_four {f : Sta} {q c o0 o1 o2 o3 x0 x1 x2 x3 : Nat} (hq : q < 9) (hc : c < 4) (h0 : o0 = c) (h1 : o1 = 4 + c) (h2 : o2 = 8 + c) (h3 : o3 = 12 + c)
    (e0 : x0 = mixS (aesG f) (4 * c + 0)) (e1 : x1 = mixS (aesG f) (4 * c + 1)) (e2 : x2 = mixS (aesG f) (4 * c + 2)) (e3 : x3 = mixS (aesG f) (4 * c + 3)) :
    ((((rowV 16 (aesN2 f q c)).set o0 (.int .u8 ((x0 : Nat) : Int))).set o1 (.int .u8 ((x1 : Nat) : Int))).set o2 (.int .u8 ((x2 : Nat) : Int))).set o3 (.int .u8 ((x3 : Nat) : Int)) = rowV 16 (aesN2 f q (c + 1)) := by
  subst h0; subst h1; subst h2; subst h3; subst e0; subst e1; subst e2; subst e3
  rw [rowV_set, rowV_set, rowV_set, rowV_set]
  refine rowV_congr fun x hx => ?_
  have key : ∀ r, x = 4 * r + o0 → aesN2 f q (o0 + 1) x = mixS (aesG f) (4 * o0 + r) := fun r hr => by
    unfold aesN2
    rw [if_pos ⟨by omega, hq⟩]
    show mixS (aesG f) _ = _
    congr 1; omega
  by_cases g3 : x = 12 + o0
  · rw [if_pos g3, key 3 (by omega)]
  · rw [if_neg g3]
    by_cases g2 : x = 8 + o0
    · rw [if_pos g2, key 2 (by omega)]
    · rw [if_neg g2]
      by_cases g1 : x = 4 + o0
      · rw [if_pos g1, key 1 (by omega)]
      · rw [if_neg g1]
        by_cases g0 : x = o0
        · rw [if_pos g0, key 0 (by omega)]
        · rw [if_neg g0]
          unfold aesN2
          by_cases hh : x % 4 < o0
          · rw [if_pos ⟨hh, hq⟩, if_pos ⟨by omega, hq⟩]
          · rw [if_neg (by omega), if_neg (by omega)]
theorem aesN2_skip (f : Sta) {q : Nat} (c : Nat) (hq : ¬ q < 9) : rowV 16 (aesN2 f q c) = rowV 16 (aesN2 f q (c + 1)) := rowV_congr fun x _ => by
  unfold aesN2
  rw [if_neg (fun h => hq h.2), if_neg (fun h => hq h.2)]
/-- A byte behind the columns' step of a round. -/
def aesV (f : Sta) (q : Nat) : Sta := if q < 9 then mixS (aesG f) else aesG f
theorem aesV_by (f : Sta) (q : Nat) : By (aesV f q) := by
  unfold aesV; split
  · exact mixS_by (aesG_by f)
  · exact aesG_by f
theorem aesN2_val {f : Sta} {q c x r : Nat} (hc : c < 4) (hr : r < 4) (hx : x = 4 * r + c) : aesN2 f q (c + 1) x = aesV f q (4 * c + r) := by
  unfold aesN2 aesV
  have e : 4 * (x % 4) + x / 4 = 4 * c + r := by omega
  by_cases hq : q < 9
  · rw [if_pos ⟨by omega, hq⟩, if_pos hq]; show mixS (aesG f) _ = _; rw [e]
  · rw [if_neg (fun h => hq h.2), if_neg hq]; show aesG f _ = _; rw [e]
theorem rst_step (s : Nat → Nat) (f : Sta) {q : Nat} (hq : q < 10) (i : Nat) : aesV (rst s f q) q i ^^^ keyS s (q + 1) i = rst s f (q + 1) i := by
  unfold rst aesV
  rw [if_pos hq]
  by_cases h9 : q < 9
  · rw [if_pos h9, if_pos (by omega)]; rfl
  · obtain rfl : q = 9 := by omega
    rw [if_neg (by decide), if_neg (by decide)]; rfl
def aesM2 (f g : Sta) (c r : Nat) : Sta := fun x => if x % 4 < c ∨ (x % 4 = c ∧ x / 4 < r) then aesT g x else aesT f x
theorem aesM2_zero (f g : Sta) : rowV 16 (aesT f) = rowV 16 (aesM2 f g 0 0) := rowV_congr fun x _ => by simp [aesM2]
theorem aesM2_next (f g : Sta) (c : Nat) : rowV 16 (aesM2 f g c 4) = rowV 16 (aesM2 f g (c + 1) 0) := rowV_congr fun x hx => by
  unfold aesM2
  by_cases h : x % 4 < c + 1
  · rw [if_pos (by omega), if_pos (by omega)]
  · rw [if_neg (by omega), if_neg (by omega)]
theorem aesM2_full (f g : Sta) : rowV 16 (aesM2 f g 4 0) = rowV 16 (aesT g) := rowV_congr fun x hx => by
  unfold aesM2
  rw [if_pos (by omega)]
theorem aesM2_set {f g : Sta} {c r o x : Nat} (hr : r < 4) (hc : c < 4) (ho : o = 4 * r + c) (hx : x = g (4 * c + r)) : (rowV 16 (aesM2 f g c r)).set o (.int .u8 ((x : Nat) : Int)) = rowV 16 (aesM2 f g c (r + 1)) := by
  subst ho; subst hx
  refine rowV_set' fun y hy => ?_
  unfold aesM2
  by_cases h : y = 4 * r + c
  · rw [if_pos h, if_pos (by omega)]
    show g _ = g _
    congr 1; omega
  · rw [if_neg h]
    by_cases h1 : y % 4 < c ∨ (y % 4 = c ∧ y / 4 < r)
    · rw [if_pos h1, if_pos (by omega)]
    · rw [if_neg h1, if_neg (by omega)]
/-- A row that is filled from its head. -/
def cutF (f : Nat → Nat) (i : Nat) : Nat → Nat := fun j => if j < i then f j else 0
theorem cutF_zero (n : Nat) (f : Nat → Nat) : List.replicate n (.int .u8 0) = rowV n (cutF f 0) := by
  rw [rowV_zero]; exact rowV_congr fun i _ => by simp [cutF]
theorem cutF_set {n : Nat} {f : Nat → Nat} {i o x : Nat} (ho : o = i) (hx : x = f i) : (rowV n (cutF f i)).set o (.int .u8 ((x : Nat) : Int)) = rowV n (cutF f (i + 1)) := by
  subst ho; subst hx
  refine rowV_set' fun y hy => ?_
  unfold cutF
  by_cases h : y = o
  · subst h; rw [if_pos rfl, if_pos (by omega)]
  · rw [if_neg h]
    by_cases h1 : y < o
    · rw [if_pos h1, if_pos (by omega)]
    · rw [if_neg h1, if_neg (by omega)]
theorem cutF_full (n : Nat) (f : Nat → Nat) : rowV n (cutF f n) = rowV n f := rowV_congr fun i hi => by simp only [cutF, if_pos hi]
/-- A row that is rewritten from its head. -/
def mid (f g : Nat → Nat) (i : Nat) : Nat → Nat := fun j => if j < i then g j else f j
theorem mid_zero (n : Nat) (f g : Nat → Nat) : rowV n f = rowV n (mid f g 0) := rowV_congr fun i _ => by simp [mid]
theorem mid_set {n : Nat} {f g : Nat → Nat} {i o x : Nat} (ho : o = i) (hx : x = g i) : (rowV n (mid f g i)).set o (.int .u8 ((x : Nat) : Int)) = rowV n (mid f g (i + 1)) := by
  subst ho; subst hx
  refine rowV_set' fun y hy => ?_
  unfold mid
  by_cases h : y = o
  · subst h; rw [if_pos rfl, if_pos (by omega)]
  · rw [if_neg h]
    by_cases h1 : y < o
    · rw [if_pos h1, if_pos (by omega)]
    · rw [if_neg h1, if_neg (by omega)]
theorem mid_full (n : Nat) (f g : Nat → Nat) : rowV n (mid f g n) = rowV n g := rowV_congr fun i hi => by simp only [mid, if_pos hi]
theorem mid_at (f g : Nat → Nat) (i : Nat) : mid f g i i = f i := if_neg (Nat.lt_irrefl i)
theorem mix0 (a : Sta) (c : Nat) : gm 2 (a (4 * c + 0)) ^^^ gm 2 (a (4 * c + 1)) ^^^ a (4 * c + 1) ^^^ a (4 * c + 2) ^^^ a (4 * c + 3) = mixS a (4 * c + 0) := by
  rw [mixS_col a c 0 (by decide)]
  simp only [col, Nat.reduceMod, Nat.reduceAdd, gm_addR 2 _ _]
theorem mix1 (a : Sta) (c : Nat) : a (4 * c + 0) ^^^ gm 2 (a (4 * c + 1)) ^^^ gm 2 (a (4 * c + 2)) ^^^ a (4 * c + 2) ^^^ a (4 * c + 3) = mixS a (4 * c + 1) := by
  rw [mixS_col a c 1 (by decide)]
  simp only [col, Nat.reduceMod, Nat.reduceAdd, gm_addR 2 _ _]
  simp only [Nat.xor_assoc, Nat.xor_comm, xor_lcomm]
theorem mix2 (a : Sta) (c : Nat) : a (4 * c + 0) ^^^ a (4 * c + 1) ^^^ gm 2 (a (4 * c + 2)) ^^^ gm 2 (a (4 * c + 3)) ^^^ a (4 * c + 3) = mixS a (4 * c + 2) := by
  rw [mixS_col a c 2 (by decide)]
  simp only [col, Nat.reduceMod, Nat.reduceAdd, gm_addR 2 _ _]
  simp only [Nat.xor_assoc, Nat.xor_comm, xor_lcomm]
theorem mix3 (a : Sta) (c : Nat) : gm 2 (a (4 * c + 0)) ^^^ a (4 * c + 0) ^^^ a (4 * c + 1) ^^^ a (4 * c + 2) ^^^ gm 2 (a (4 * c + 3)) = mixS a (4 * c + 3) := by
  rw [mixS_col a c 3 (by decide)]
  simp only [col, Nat.reduceMod, Nat.reduceAdd, gm_addR 2 _ _]
  simp only [Nat.xor_assoc, Nat.xor_comm, xor_lcomm]

/-! ### The program's rows on their way -/
theorem mixS_at (f : Sta) (c : Nat) {r : Nat} (hr : r < 4) : gm 2 (f (4 * c + (r + 0) % 4) ^^^ f (4 * c + (r + 1) % 4)) ^^^ f (4 * c + (r + 1) % 4) ^^^ f (4 * c + (r + 2) % 4) ^^^ f (4 * c + (r + 3) % 4) = mixS f (4 * c + r) := by
  rw [mixS_col f c r hr]; rfl
theorem nextS_at (k : Sta) (p : Nat) {c r : Nat} (hr : r < 4) : nextS k p (4 * c + r) = accS k p r (c + 1) := by
  show accS k p ((4 * c + r) % 4) ((4 * c + r) / 4 + 1) = _
  rw [show (4 * c + r) % 4 = r from by omega, show (4 * c + r) / 4 = c from by omega]
theorem nextS_col (k : Sta) (p : Nat) {c r : Nat} (hr : r < 4) : k (4 * c + r) ^^^ accS k p r c = nextS k p (4 * c + r) := (nextS_at k p hr).symm
theorem expand_at (k : Sta) {q i : Nat} (hq : q < 10) (hi : i < 16) : cutF (expand k) (16 * (q + 1)) (0 + q * 16 + i) = roundK k q i := by
  unfold cutF
  rw [if_pos (by omega)]
  show roundK k ((0 + q * 16 + i) / 16) ((0 + q * 16 + i) % 16) = _
  rw [show (0 + q * 16 + i) / 16 = q from by omega, show (0 + q * 16 + i) % 16 = i from by omega]
theorem expand_start (k : Sta) : rowV 176 (fun j => if j < 16 then k j else 0) = rowV 176 (cutF (expand k) (16 * (0 + 1))) := rowV_congr fun j _ => by
  unfold cutF
  by_cases h : j < 16
  · rw [if_pos h, if_pos h, expand_key k h]
  · rw [if_neg h, if_neg h]
theorem expand_put (k : Sta) {q : Nat} (hq : q < 10) : (rowV 176 (cutF (expand k) (16 * (q + 1)))).take (0 + (q + 1) * 16) ++ rowV 16 (nextS (roundK k q) (gpow 2 q)) ++ (rowV 176 (cutF (expand k) (16 * (q + 1)))).drop (0 + (q + 1) * 16 + (rowV 16 (nextS (roundK k q) (gpow 2 q))).length) = rowV 176 (cutF (expand k) (16 * (q + 1 + 1))) := by
  rw [rowV_length]
  refine rowV_put (by omega) fun i hi => ?_
  unfold cutF
  by_cases h : 0 + (q + 1) * 16 ≤ i ∧ i < 0 + (q + 1) * 16 + 16
  · rw [if_pos h, if_pos (by omega)]
    show roundK k (q + 1) _ = roundK k (i / 16) (i % 16)
    rw [show i / 16 = q + 1 from by omega, show i - (0 + (q + 1) * 16) = i % 16 from by omega]
  · rw [if_neg h]
    by_cases h1 : i < 16 * (q + 1)
    · rw [if_pos h1, if_pos (by omega)]
    · rw [if_neg h1, if_neg (by omega)]

/-! ### Examples: the kernel goes through them round by round -/
def lst16 (l : List Nat) : Sta := fun i => l.getD i 0
def same16 (f : Sta) (l : List Nat) : Bool := (List.range 16).all fun i => f i == l.getD i 0
theorem same16_eq {f : Sta} {l : List Nat} (h : same16 f l = true) : Eq16 f (lst16 l) := fun i hi => eq_of_beq (List.all_eq_true.1 h i (List.mem_range.2 hi))
def chainK : List (List Nat) → Nat → Bool
  | l :: m :: r, n => same16 (nextS (lst16 l) (gpow 2 n)) m && chainK (m :: r) (n + 1)
  | _, _ => true
theorem chainK_at {k : Sta} : ∀ (r : List (List Nat)) (l : List Nat) (n : Nat), Eq16 (roundK k n) (lst16 l) → chainK (l :: r) n = true → ∀ j m, (l :: r)[j]? = some m → Eq16 (roundK k (n + j)) (lst16 m)
  | _, l, n, h, _, 0, m, hm => by
    simp only [List.getElem?_cons_zero, Option.some.injEq] at hm
    subst hm; exact h
  | [], l, n, _, _, j + 1, m, hm => by simp at hm
  | p :: r, l, n, h, hc, j + 1, m, hm => by
    simp only [chainK, Bool.and_eq_true] at hc
    have h1 : Eq16 (roundK k (n + 1)) (lst16 p) := (nextS_eq h _).trans (same16_eq hc.1)
    rw [show n + (j + 1) = n + 1 + j from by omega]
    exact chainK_at r p (n + 1) h1 hc.2 j m (by simpa using hm)
/-- All round keys of a key: their lists. -/
theorem keys_of {k : Sta} (L : List (List Nat)) {l : List Nat} {r : List (List Nat)} (hL : L = l :: r) (h : Eq16 k (lst16 l)) (hc : chainK L 0 = true) {j : Nat} {m : List Nat} (hm : L[j]? = some m) : Eq16 (keyS (expand k) j) (lst16 m) := by
  subst hL
  have h1 := chainK_at (k := k) r l 0 h hc j m hm
  rw [Nat.zero_add] at h1
  exact (keyS_expand k j).trans h1
/-- The states behind the rounds, told with the lists of the round keys. -/
def chainE : List (List Nat) → List (List Nat) → Bool
  | a :: b :: r, k :: ks => same16 (addS (mixS (aesG (lst16 a))) (lst16 k)) b && chainE (b :: r) ks
  | _, _ => true
theorem chainE_at {s : Nat → Nat} {f : Sta} : ∀ (r ks : List (List Nat)) (a : List Nat) (n : Nat), Eq16 (encR s f n) (lst16 a) → (∀ j m, ks[j]? = some m → Eq16 (keyS s (n + 1 + j)) (lst16 m)) → r.length ≤ ks.length → chainE (a :: r) ks = true →
    ∀ j m, (a :: r)[j]? = some m → Eq16 (encR s f (n + j)) (lst16 m)
  | _, _, a, n, h, _, _, _, 0, m, hm => by
    simp only [List.getElem?_cons_zero, Option.some.injEq] at hm
    subst hm; exact h
  | [], _, a, n, _, _, _, _, j + 1, m, hm => by simp at hm
  | b :: r, [], a, n, _, _, hl, _, j + 1, m, hm => by simp at hl
  | b :: r, k :: ks, a, n, h, hk, hl, hc, j + 1, m, hm => by
    simp only [chainE, Bool.and_eq_true] at hc
    have hk0 := hk 0 k rfl
    have h1 : Eq16 (encR s f (n + 1)) (lst16 b) := fun i hi => by
      have e1 := mixS_eq (rotS_eq (subS_eq h)) i hi
      have e2 := same16_eq hc.1 i hi
      show mixS (rotS (subS (encR s f n))) i ^^^ keyS s (n + 1) i = _
      rw [e1, hk0 i hi]; exact e2
    rw [show n + (j + 1) = n + 1 + j from by omega]
    refine chainE_at r ks b (n + 1) h1 (fun j m hm => ?_) (by simpa using hl) hc.2 j m (by simpa using hm)
    rw [show n + 1 + 1 + j = n + 1 + (j + 1) from by omega]
    exact hk (j + 1) m (by simpa using hm)
theorem enc_of {s : Nat → Nat} {f : Sta} (S K : List (List Nat)) {fl k0 k9 s0 s9 out : List Nat} {sr ks : List (List Nat)} (hf : Eq16 f (lst16 fl)) (hS : S = s0 :: sr) (hK : K = k0 :: ks) (hk : ∀ j m, K[j]? = some m → Eq16 (keyS s j) (lst16 m)) (hl : sr.length ≤ ks.length)
    (h0 : same16 (addS (lst16 fl) (lst16 k0)) s0 = true) (hc : chainE S ks = true) (h9 : S[9]? = some s9) (hk9 : K[10]? = some k9) (ho : same16 (addS (aesG (lst16 s9)) (lst16 k9)) out = true) : Eq16 (enc s f) (lst16 out) := by
  subst hS; subst hK
  have e0 : Eq16 (encR s f 0) (lst16 s0) := fun i hi => by
    show f i ^^^ keyS s 0 i = _
    rw [hf i hi, hk 0 k0 rfl i hi]; exact same16_eq h0 i hi
  have e9 := chainE_at sr ks s0 0 e0 (fun j m hm => by rw [show 0 + 1 + j = j + 1 from by omega]; exact hk (j + 1) m (by simpa using hm)) hl hc 9 s9 h9
  exact fun i hi => by
    have e1 := rotS_eq (subS_eq e9) i hi
    show rotS (subS (encR s f 9)) i ^^^ keyS s 10 i = _
    have hk10 := hk 10 k9 hk9 i hi
    rw [hk10]
    rw [show rotS (subS (encR s f 9)) i = rotS (subS (lst16 s9)) i from e1]
    exact same16_eq ho i hi
end Go.Proofs.YthadcgkcgpinhaaGreatDoor
namespace Go.Proofs.YthadcgkcgpinhaaGreatDoor
open Go Go.RowKit
variable {κ : Cx}

theorem SizeIs.get {P : Program} {T : TypeId} {m : Nat} (h : SizeIs P T m) : ∃ i, P.info? T = some i ∧ i.size = m := by
  unfold SizeIs at h
  cases hi : P.info? T with
  | none => rw [hi] at h; cases h
  | some i => rw [hi] at h; exact ⟨i, rfl, by simpa using h⟩
section
variable {P : Program} {n B : Nat} {ops : Array Oper} {E : Env} {dst : Option Tmp} {ty : TypeId} {pos : String} {after : Array Edge} {guard : Option (Nat × Bool)}
theorem ok_nilCheck {x : Operand} {ad : Addr} (hx : E.at x = some (.v (.pointer (some ad)))) : OpOk P B ⟨dst, .nilCheck x, ty, pos, after, guard⟩ E (.v (.pointer (some ad))) := fun ρ w _ _ hρ => by
  have h1 : ρ x = .pointer (some ad) := hρ x (by simp [Op.operands]) _ hx
  exact out_val (w' := w) (by simp [execOp, h1]) ⟨Grow.refl w, rfl⟩
/-- The address of an element of several cells, in an array behind a pointer. -/
theorem ok_indexN {t e : TypeId} {len sz : Nat} {x i : Operand} {b o : Nat} {k : IntKind} {j : Int} (m : Nat) (ht : P.underlying t = some (.array len e)) (hs : SizeIs P e sz) (hx : E.at x = some (.v (.pointer (some ⟨b, o, none⟩)))) (hi : E.at i = some (.v (.int k j)))
    (h0 : j = (m : Int)) (hn : m < len) : OpOk P B ⟨dst, .indexAddr t x i, ty, pos, after, guard⟩ E (.v (.pointer (some ⟨b, o + m * sz, none⟩))) := fun ρ w _ _ hρ => by
  have h1 : ρ x = _ := hρ x (by simp [Op.operands]) _ hx
  have hi' : ρ i = .int k j := hρ i (by simp [Op.operands]) _ hi
  obtain ⟨info, hinfo, hsize⟩ := hs.get
  refine out_val (w' := w) ?_ ⟨Grow.refl w, rfl⟩
  subst h0
  have hadd : (⟨b, o, none⟩ : Addr).add (m * sz) = ⟨b, o + m * sz, none⟩ := add_lit0 _ _ _
  simp [execOp, h1, hi', Instr.indexAt, Instr.sureAddr, asIntOf, run_underlying ht, sizeOf, typeInfo, hinfo, hsize, hadd]
  intro hle
  omega
/-- A method bound to its receiver. -/
theorem ok_makeFuncM {f : FuncId} {x : Operand} {u : Value} (hx : E.at x = some (.v u)) : OpOk P B ⟨dst, .makeFunc (.func f) #[x] #[], ty, pos, after, guard⟩ E (.v (.func (.func f) #[u] #[])) := fun ρ w _ _ hρ => by
  have h1 : ρ x = u := hρ x (by simp [Op.operands]) _ hx
  exact out_val (w' := w) (by simp [execOp, h1, Instr.makeFunc]) ⟨Grow.refl w, rfl⟩
/-- A slice literal of values that are known: a block of the call's own. -/
theorem ok_buildF {t e : TypeId} {m : Nat} {ps : Array (Nat × Operand)} {z : Value} {nb : Nat} (us : List Value) (ht : P.underlying t = some (.slice e)) (hinfo : InfoIs P e z nb) (hz1 : z.cells = #[z])
    (hn : 0 < m) (hn' : m ≤ 65536) (hl : us.length = m) (hp : LitD E us ps.toList 0) (h1 : us.all (·.oneCell') = true) :
    OpOk P B ⟨dst, .buildSlice t m ps, ty, pos, after, guard⟩ E (fresh B e us m) := fun ρ w hB _ hρ => by
  obtain ⟨i, hi, hz, hs, _⟩ := hinfo.get
  have h3 := hp.map (ρ := ρ) fun x hx v hv => hρ x (by simp [Op.operands]; simpa using hx) _ hv
  have h2 : (ps.map fun (i, x) => (i, ρ x)).toList = (us.zipIdx 0).map fun x => (x.2, x.1) := by rw [← h3]; simp
  have hz' : (Array.range (m * i.size)).map (z.cells[· % z.cells.size]!) = ([] ++ List.replicate m z).toArray := by
    rw [hs, hz1, Nat.mul_one]
    apply Array.ext
    · simp
    · intro j h1 h2; simp [Nat.mod_one]
  have hfill : Instr.fill (fun j => some (j * i.size, i.size)) ((Array.range (m * i.size)).map (z.cells[· % z.cells.size]!)) (ps.map fun (i, x) => (i, ρ x)).toList = some us.toArray := by
    rw [hz', h2, hs, fill_dense us [] (List.replicate m z) 0 (fun u hu => by simpa using (List.all_eq_true.1 h1) u hu) rfl (by simp [hl])]
    simp [hl]
  have hr := run_buildSlice (P := P) w t e m (ps.map fun (i, x) => (i, ρ x)) us.toArray i z ht hi hz (by rw [hs]; omega) (by rw [hs]; omega) hfill
  refine out_val (x := .slice (some ⟨w.heap.size, 0, none⟩) m m) (w' := w.alloc (.cells us.toArray e)) (by simp [execOp, hr]) ⟨Grow.alloc w _, w.heap.size, by rw [hl], hB, by simp, heap_alloc_new w _⟩
/-- A literal whose parts are told exactly, as the model fills them in. -/
theorem ok_litU {t : TypeId} {ps : Array (Nat × Operand)} (us ys : List Value) (hl : LitD E us ps.toList 0) (hb : P.built t ((us.zipIdx 0).map fun x => (x.2, x.1)) = some ys.toArray) : OpOk P B ⟨dst, .build t ps, ty, pos, after, guard⟩ E (.v (aggV ys)) :=
  ok_lit _ ys (fun _ hρ => hl.map hρ) hb
/-- Called without arguments, the function value u takes block g's cells from xs to ys. -/
def Does (P : Program) (T g : Nat) (u : Value) (xs ys : List Value) : Prop := ∃ (f : FuncId) (vs : List Value), u = .func (.func f) vs.toArray #[] ∧ FnW P f [] T g xs ys (vs.map D.v)
theorem FnW.does {f : FuncId} {T g : Nat} {xs ys vs : List Value} (h : FnW P f [] T g xs ys (vs.map D.v)) : Does P T g (.func (.func f) vs.toArray #[]) xs ys := ⟨f, vs, rfl, h⟩
theorem eff_callF {T g s dst : Nat} {x : Operand} {u : Value} {xs ys : List Value} {argTypes : Array TypeId} {E' : Env} (hf : Does P T g u xs ys) (hx : E.at x = some (.v u))
    (hg : B ≤ g) (hblk : E.look s = some (blk g T xs)) (hdst : dst < n) (hl : LeftS B T g E' E) :
    Eff P n B ops ⟨some dst, .call { callee := .value x, args := #[], argTypes := argTypes }, ty, pos, after, none⟩ E ((dst, .v (.tuple #[])) :: (s, blk g T ys) :: E') := by
  obtain ⟨f, vs, rfl, hf⟩ := hf
  intro κ a w K Q h hK
  obtain ⟨fn, h1, h2, h3⟩ := hf.body
  have hfun : a.eval x = .func (.func f) vs.toArray #[] := h.at_ x _ hx
  have hrun : (execOp a.eval ⟨some dst, .call { callee := .value x, args := #[], argTypes := argTypes }, ty, pos, after, none⟩).run P w = .ok (.enter f vs.toArray) w := by
    have h2' : ¬ fn.name = "runtime.NumGoroutine" := by simpa using h2
    have h3' : ¬ fn.body = none := by intro h; rw [h] at h3; cases h3
    simp [execOp, resolve, Deferred.ofValue, hfun, invoke, callFunc, h1, h2', h3']
  obtain ⟨hlt, hh⟩ := h.of s _ hblk
  have hcall := hf.calls vs w (by rw [List.length_map]) (fun j e u he hu => by
    rw [List.getElem?_map, hu] at he
    injection he with he; subst he; rfl) (fun p hp => by cases hp) hlt hh
  rw [if_pos (by simp [Region.wanted])]
  refine opR (by nofun) ?_
  unfold Oper.wp
  rw [hrun, Oper.upon_enter]
  refine Calls.mono hcall ?_
  rintro e w' ⟨rfl, hw, hh'⟩
  have hwr : Wrote B T g w w' := ⟨hg, hw.os, hw.tape, hw.output, hw.size, hw.cel, hw.other⟩
  have hst := hl.st h hwr
  have hlt' : g < w'.heap.size := (Array.getElem?_eq_some_iff.1 hh').1
  exact hK _ _ (hwr.below h.base) (St.put (hst.push (d := blk g T ys) ⟨hlt', hh'⟩) hdst rfl)
/-- The contract of a function that writes one block, with facts of its parameters that speak of other memory. -/
theorem FnW.ofD {f : FuncId} {fn : Func} {c : Code} {M : Env} {T g kb kw : Nat} {xs ys : List Value} {ds : List D} (hf : P.funcs[f]? = some fn) (hb : fn.body = some c) (hname : (fn.name == "runtime.NumGoroutine") = false) (hn : fn.ntmps = n) (hds : ds.length ≤ n) (hnv : n ≤ vbase)
    (hMb : ∀ p ∈ M, vbase ≤ p.1) (hkb : vbase ≤ kb) (hkw : vbase ≤ kw) (args : Env) (hargs : ∀ p ∈ args, ds[p.1]? = some p.2)
    (h : ∀ w₀ w₁ : World, w₀.heap.size = g → (∀ p ∈ M, p.2.OfB w₀.heap.size w₁ undef) → A Cx.top P w₀ n c (args ++ ((kb, blk g T xs) :: (kw, wroteD T g w₁) :: M)) (BP P fn fun e w' => e = .returned (.tuple #[]) ∧ Wrote g T g w₁ w' ∧ w'.heap[g]? = some (.cells ys.toArray T (0, 0)))) :
    FnW P f M T g xs ys ds := by
  refine ⟨⟨fn, hf, hname, by rw [hb]; rfl⟩, fun vs w hl hv hM hlt hh => ?_⟩
  have hsz := cutW_size (w := w) (g := g) (Nat.le_of_lt hlt)
  refine callsIn_FR.1 (callsIn_of_wp_marks (F := FR none) (n := 0) hf hb trivial (h (cutW w g) w hsz (by rw [hsz]; exact hM) _ w (cutW_below (Nat.le_of_lt hlt)) ⟨by rw [hsz]; omega, rfl, ?_, fun t e he => ?_⟩))
  · simp [hn]; omega
  · show e.Of w ((vs.toArray ++ Array.replicate (fn.ntmps - vs.toArray.size) undef).getD t undef)
    have hund : vbase ≤ t → (vs.toArray ++ Array.replicate (fn.ntmps - vs.toArray.size) undef).getD t undef = undef := fun ht => by
      rw [Array.getD_eq_getD_getElem?, Array.getElem?_eq_none (by simp [hn]; omega)]; rfl
    rcases List.mem_append.1 (look_mem he) with hm | hm
    · have h2 := hargs _ hm
      simp only at h2
      have hj : t < vs.length := by have := (List.getElem?_eq_some_iff.1 h2).1; omega
      rw [Array.getD_eq_getD_getElem?, Array.getElem?_append_left (by simpa using hj)]
      have h3 := hv t e vs[t] h2 (List.getElem?_eq_getElem hj)
      simpa [hj] using h3
    · rcases List.mem_cons.1 hm with h1 | hm
      · injection h1 with h1 h2; subst h1; subst h2
        exact ⟨hlt, hh⟩
      · rcases List.mem_cons.1 hm with h1 | hm
        · injection h1 with h1 h2; subst h1; subst h2
          exact ⟨Nat.le_refl _, Nat.le_refl _, rfl, rfl, rfl, Nat.le_refl _, fun o ho => by rw [hh] at ho; injection ho with ho; exact ⟨_, _, ho.symm⟩, fun _ _ _ => rfl⟩
        · have h1 := hMb _ hm
          rw [hund h1]
          exact D.OfB.up (hM _ hm) (Nat.le_of_lt hlt)
/-- A call of a function value that holds what us lists, and reads memory. -/
theorem ok_callVM {f : FuncId} {M : Env} {x : Operand} {us : List Value} {args : Array Operand} {argTypes : Array TypeId} {ds : List D} {d : D} (hf : FnM P f M (ds ++ us.map D.v) d) (hM : Sub M E) (hMb : ∀ p ∈ M, vbase ≤ p.1)
    (hx : E.at x = some (.v (.func (.func f) #[] us.toArray))) (ha : Args E ds args.toList) :
    OpOk P B ⟨dst, .call { callee := .value x, args := args, argTypes := argTypes }, ty, pos, after, guard⟩ E d := fun ρ w _ hv hρ => by
  obtain ⟨fn, h1, h2, h3⟩ := hf.body
  have hfun : ρ x = .func (.func f) #[] us.toArray := hρ x (by simp [Op.operands, Call.operands]) _ hx
  have hrun : (execOp ρ ⟨dst, .call { callee := .value x, args := args, argTypes := argTypes }, ty, pos, after, guard⟩).run P w = .ok (.enter f (args.map ρ ++ us.toArray)) w := by
    have h2' : ¬ fn.name = "runtime.NumGoroutine" := by simpa using h2
    have h3' : ¬ fn.body = none := by intro h; rw [h] at h3; cases h3
    simp [execOp, resolve, Deferred.ofValue, hfun, invoke, callFunc, h1, h2', h3']
  unfold Out
  rw [hrun]
  have := hf.calls (args.toList.map ρ ++ us) w (fun p hp => hv p.1 p.2 (hMb p hp) (hM p hp)) (by rw [List.length_append, List.length_append, List.length_map, List.length_map, ha.length]) fun j e u he hu => by
    rcases Nat.lt_or_ge j ds.length with hj | hj
    · rw [List.getElem?_append_left hj] at he
      rw [List.getElem?_append_left (by rw [List.length_map, ← ha.length]; exact hj), List.getElem?_map] at hu
      cases hx : args.toList[j]? with
      | none => rw [hx] at hu; cases hu
      | some x =>
        rw [hx] at hu; injection hu with hu; subst hu
        obtain ⟨e', h4, h5⟩ := ha.nth he hx
        exact h5.of (hρ x (by simp [Op.operands, Call.operands]; exact .inr (by simpa using List.mem_of_getElem? hx)) _ h4)
    · rw [List.getElem?_append_right hj, List.getElem?_map] at he
      rw [List.getElem?_append_right (by rw [List.length_map, ← ha.length]; exact hj), List.length_map, ← ha.length] at hu
      rw [hu] at he
      injection he with he; subst he; rfl
  have harr : (args.toList.map ρ ++ us).toArray = args.map ρ ++ us.toArray := by apply Array.ext'; simp
  rw [harr] at this
  exact this.mono fun e w' ⟨x, he, g, hx⟩ => ⟨x, he, g, hx⟩
end
section
variable {P : Program} {w₀ : World} {n : Nat} {c : Code} {E : Env} {Q : Exit → Act → World → Prop}
/-- A slice at the head of a block that no one else has gets the block's name, whatever its base. -/
theorem A.openAt {t k B' : Nat} {e : TypeId} {xs : List Value} {m : Nat} (ht : E.look t = some (fresh B' e xs m)) (h : ∀ b, A κ P w₀ n c ((t, .v (.slice (some ⟨b, 0, none⟩) m xs.length)) :: (k, blk b e xs) :: E) Q) : A κ P w₀ n c E Q := fun a w g hs => by
  obtain ⟨b, h1, _, h3, h4⟩ := hs.of t _ ht
  exact h b a w g ((hs.push (t := k) (d := blk b e xs) ⟨h3, h4⟩).push (d := .v _) h1)
end

/-! ### Variables of a function that writes one block -/
theorem Surv.wroteN {B T T' g b : Nat} {w₁ : World} (h : w₁.heap.size ≤ b) : Surv B T b (wroteD T' g w₁) := fun _ _ _ k ⟨h1, h2⟩ =>
  ⟨Nat.le_trans h1 k.size, ⟨h2.base, k.os.trans h2.os, k.tape.trans h2.tape, k.output.trans h2.output, Nat.le_trans h2.size k.size, h2.cel, fun j hj hne => (k.other j (Nat.lt_of_lt_of_le hj h1) (by omega)).trans (h2.other j hj hne)⟩⟩
/-- The number of a new block: above all that are known by name, and above what there was when the function was called. -/
def NewW (B : Nat) (E : Env) (b : Nat) : Prop := B ≤ b ∧ (∀ s b' e xs, E.look s = some (blk b' e xs) → b' < b) ∧ ∀ s T g w₁, E.look s = some (wroteD T g w₁) → w₁.heap.size ≤ b
theorem eff_allocW {P : Program} {n B : Nat} {ops : Array Oper} {E : Env} {ty : TypeId} {pos : String} {after : Array Edge} {T : TypeId} {zs : List Value} {d k : Nat} (hz : ZeroIs P T zs) (hdn : d < n) :
    EffG P n B ops ⟨some d, .alloc T, ty, pos, after, none⟩ E (NewW B E) (fun b => (d, .v (.pointer (some ⟨b, 0, none⟩))) :: (k, blk b T zs) :: E) := by
  obtain ⟨i, z, hi, hz, hc⟩ := hz.get
  intro κ a w K Q h hK
  have hrun : (execOp a.eval ⟨some d, .alloc T, ty, pos, after, none⟩).run P w = .ok (.value (.pointer (some ⟨w.heap.size, 0, none⟩))) (w.alloc (.cells zs.toArray T)) := by
    simp [execOp, Instr.alloc, zeroValue, typeInfo, hi, hz, newVar, newRow, hc]
  rw [if_pos (by simp [Region.wanted])]
  refine opR (by nofun) ?_
  unfold Oper.wp
  rw [hrun, Oper.upon_value]
  have hst := h.grow (Grow.alloc w (.cells zs.toArray T))
  refine hK w.heap.size _ _ ⟨h.base, fun s b' e ys hs => (h.of s _ hs).1, fun s T g w₁ hs => (h.of s _ hs).1⟩ ((Below.refl B w).alloc h.base _) (St.put (hst.push ?_) hdn rfl)
  exact ⟨by simp, heap_alloc_new w _⟩

/-! ### Equality of arrays of arrays -/
section
variable {P : Program} {B : Nat} {E : Env} {dst : Option Tmp} {ty : TypeId} {pos : String} {after : Array Edge} {guard : Option (Nat × Bool)}
end
end Go.Proofs.YthadcgkcgpinhaaGreatDoor
namespace Go.Proofs.YthadcgkcgpinhaaGreatDoor
open Go Go.RowKit
set_option linter.unusedVariables false
set_option maxRecDepth 20000

theorem zero137 : ZeroIs Tryz.prog 137 (List.replicate 4 (.int .u8 0)) := by unfold ZeroIs; kernel_rfl
theorem size137 : SizeIs Tryz.prog 137 4 := by unfold SizeIs; kernel_rfl
theorem zero154 : ZeroIs Tryz.prog 154 (List.replicate 176 (.int .u8 0)) := by unfold ZeroIs; kernel_rfl
theorem size154 : SizeIs Tryz.prog 154 176 := by unfold SizeIs; kernel_rfl
theorem zero158 : ZeroIs Tryz.prog 158 (List.replicate 16 (.int .u8 0)) := by unfold ZeroIs; kernel_rfl
theorem zero81 : ZeroIs Tryz.prog 81 (List.replicate 176 (.int .u8 0)) := by unfold ZeroIs; kernel_rfl
theorem size81 : SizeIs Tryz.prog 81 176 := by unfold SizeIs; kernel_rfl
theorem zero115 : ZeroIs Tryz.prog 115 (List.replicate 16 (.int .u8 0)) := by unfold ZeroIs; kernel_rfl
theorem size115 : SizeIs Tryz.prog 115 16 := by unfold SizeIs; kernel_rfl
theorem refDouble_fn (a : Nat) (ha : a < 256) : Fn Tryz.prog 105 [.v (nB a)] (.v (nB (gm 2 a))) := by
 refine Fn.of Tryz.func105 rfl (by kernel_rfl) Tryz.ntmps105 (by simp) (fun w => [(0, .v (nB a))]) (fun w => (Start.v rfl Start.nil)) fun w₀ => ?_
 refine GS ?_
 refine TL ?_
 refine RA rfl ?_
 refine RN ?_
 refine A.seq ?_
 refine GS ?_
 refine TL ?_
 refine RM rfl ?_
 refine RB rfl rfl rfl ?_
 refine RN ?_
 refine A.cond rfl (fun hc4 => ?_) (fun hc4 => ?_)
 ·have h : 127 < a := by simp at hc4; omega
  refine GS ?_
  refine TL ?_
  refine RM rfl ?_
  refine RS (ok_shl rfl rfl (by decide)) ?_; refine RZ (nB (2 * a % 256)) (by rw [show (a : Int) * 2 ^ min (Int.toNat 1) IntKind.u8.bits = ((2 * a : Nat) : Int) from by rw [show min (Int.toNat 1) IntKind.u8.bits = 1 from rfl]; omega, wrap_u8N]) ?_
  refine RBS rfl rfl rfl (nB (gm 2 a)) (by rw [show IntKind.u8.bits = 8 from rfl, show (27 : Int) = ((27 : Nat) : Int) from rfl, xor_u8N (Nat.mod_lt _ (by decide)) (by decide), gm2_hi ha h]) ?_
  refine RA rfl ?_
  refine RN ?_
  refine A.ret ?_
  refine End.ret_then ?_
  exact End.ret1 rfl rfl (by first | exact Le.refl _ | exact Le.old _ _)
 ·have h : ¬ 127 < a := by simp at hc4; omega
  refine A.skip ?_
  refine EN ?_
  refine GS ?_
  refine TL ?_
  refine RM rfl ?_
  refine RS (ok_shl rfl rfl (by decide)) ?_; refine RZ (nB (gm 2 a)) (by rw [show (a : Int) * 2 ^ min (Int.toNat 1) IntKind.u8.bits = ((2 * a : Nat) : Int) from by rw [show min (Int.toNat 1) IntKind.u8.bits = 1 from rfl]; omega, wrap_u8N, gm2_lo ha h]) ?_
  refine RA rfl ?_
  refine RN ?_
  refine A.ret ?_
  exact End.ret1 rfl rfl (by first | exact Le.refl _ | exact Le.old _ _)
set_option maxHeartbeats 2000000 in
theorem refExpand_fn (k : Nat → Nat) (hk : By k) : Fn Tryz.prog 102 [.v (aggV (rowV 16 (k)))] (.v (aggV (rowV 176 (expand k)))) := by
 refine Fn.of Tryz.func102 rfl (by kernel_rfl) Tryz.ntmps102 (by simp) (fun w => [(0, .v (aggV (rowV 16 (k))))]) (fun w => (Start.v rfl Start.nil)) fun w₀ => ?_
 refine GS ?_
 refine TN 0 ?_
 refine RN ?_
 refine ⟨_, _, eff_box (n := 78) (d := 1) (k := 1000001) rfl (by decide), fun b1 hb1 => ?_⟩
 have hBb1 := hb1.1
 refine TN 1 ?_
 refine RN ?_
 refine ⟨_, _, eff_alloc (n := 78) (d := 2) (k := 1000002) zero154 (by decide), fun b2 hb2 => ?_⟩
 have hBb2 := hb2.1
 refine TL ?_
 refine RN ?_
 refine GS ?_
 refine TN 0 ?_
 refine RN ?_
 refine ⟨_, _, eff_alloc (n := 78) (d := 3) (k := 1000003) zero154 (by decide), fun b3 hb3 => ?_⟩
 have hBb3 := hb3.1
 have hlt_b2_b3 : b2 < b3 := hb3.2 1000002 _ _ _ rfl
 refine TL ?_
 refine RN ?_
 refine GS ?_
 refine TN 1 ?_
 refine RS (ok_call refTable_fn Args.nil) ?_
 refine RN ?_
 refine ⟨_, _, eff_alloc (n := 78) (d := 4) (k := 1000004) zero156 (by decide), fun b4 hb4 => ?_⟩
 have hBb4 := hb4.1
 refine TF 2 ?_
 refine RN ?_
 refine ⟨_, eff_storeA (n := 78) (s := 1000004) (size156.of (subV_length)) rfl rfl (subV_one) hBb4 rfl (by rw [subV_length, List.length_replicate]) (LV 1 rfl (LV 2 rfl (LV 3 rfl (LV 4 rfl (LT 1000001 rfl (LT 1000002 rfl (LT 1000003 rfl LN))))))), ?_⟩
 refine TL ?_
 refine RN ?_
 refine GS ?_
 refine TL ?_
 refine RA rfl ?_
 refine RN ?_
 refine A.seq ?_
 refine GS ?_
 refine TL ?_
 refine RA rfl ?_
 refine RN ?_
 refine A.block ?_
 refine A.loop (ι := Nat) (fun i => i ≤ 44) (fun i => [(1, .v (.pointer (some ⟨b1, 0, none⟩))), (2, .v (.pointer (some ⟨b2, 0, none⟩))), (3, .v (.pointer (some ⟨b3, 0, none⟩))), (4, .v (.pointer (some ⟨b4, 0, none⟩))), (6, .v (nI i)), (1000001, blk b1 22 (rowV 16 (k))), (1000002, blk b2 154 (List.replicate 176 (.int .u8 0))), (1000004, blk b4 156 subV), (5, .v (nB (gpow 2 ((i - 1) / 4)))), (1000003, blk b3 154 (rowV 176 (wst k (4 * i))))]) (fun i => 44 - i) 0 ?_ ?_ ?_
 ·exact Nat.zero_le _
 ·exact (KC 1 rfl (KC 2 rfl (KC 3 rfl (KC 4 rfl (KC 6 rfl (KC 1000001 rfl (KC 1000002 rfl (KC 1000004 rfl (KC 5 rfl (KE 1000003 rfl (congrArg _ (wst_zero k)) KN))))))))))
 intro i hi
 refine A.seq ?_
 refine GS ?_
 refine TL ?_
 refine RM rfl ?_
 refine RB rfl rfl rfl ?_
 refine RN ?_
 refine A.cond rfl (fun hc12 => ?_) (fun hc12 => ?_)
 ·have hi44 : i < 44 := by simp at hc12; omega
  refine A.skip ?_
  refine EN ?_
  refine A.seq ?_
  refine A.block ?_
  refine A.seq ?_
  refine GS ?_
  refine TL ?_
  refine RM rfl ?_
  refine RB rfl rfl rfl ?_
  refine RN ?_
  refine A.cond rfl (fun hc16 => ?_) (fun hc16 => ?_)
  ·have h4 : i < 4 := by simp at hc16; omega
   refine A.seq ?_
   refine GS ?_
   refine TL ?_
   refine RA rfl ?_
   refine RN ?_
   refine A.block ?_
   refine A.loop (ι := Nat) (fun q => q ≤ 4) (fun q => [(1, .v (.pointer (some ⟨b1, 0, none⟩))), (2, .v (.pointer (some ⟨b2, 0, none⟩))), (3, .v (.pointer (some ⟨b3, 0, none⟩))), (4, .v (.pointer (some ⟨b4, 0, none⟩))), (6, .v (nI i)), (1000001, blk b1 22 (rowV 16 (k))), (1000002, blk b2 154 (List.replicate 176 (.int .u8 0))), (1000004, blk b4 156 subV), (5, .v (nB (gpow 2 ((i - 1) / 4)))), (7, .v (nI q)), (1000003, blk b3 154 (rowV 176 (wst k (4 * i + q))))]) (fun q => 4 - q) 0 ?_ ?_ ?_
   ·exact Nat.zero_le _
   ·exact (KC 1 rfl (KC 2 rfl (KC 3 rfl (KC 4 rfl (KC 6 rfl (KC 1000001 rfl (KC 1000002 rfl (KC 1000004 rfl (KC 5 rfl (KC 7 rfl (KC 1000003 rfl KN)))))))))))
   intro q hq'
   refine A.seq ?_
   refine GS ?_
   refine TL ?_
   refine RM rfl ?_
   refine RB rfl rfl rfl ?_
   refine RN ?_
   refine A.cond rfl (fun hc18 => ?_) (fun hc18 => ?_)
   ·have hq : q < 4 := by simp at hc18; omega
    refine A.skip ?_
    refine EN ?_
    refine A.seq ?_
    refine A.block ?_
    refine A.reg (by kernel_rfl) (by kernel_rfl) (.inr (by kernel_rfl)) ?_
    refine TD 10 ?_
    refine RM rfl ?_
    refine RM rfl ?_
    refine RM rfl ?_
    refine RBS rfl rfl rfl (nI (4 * i)) (by rw [wrap_i64 (by omega) (by omega)]; exact congrArg (Value.int .i64) (by omega)) ?_
    refine RM rfl ?_
    refine RBS rfl rfl rfl (nI (4 * i + q)) (by rw [wrap_i64 (by omega) (by omega)]; exact congrArg (Value.int .i64) (by omega)) ?_
    refine RS (ok_index0 _ Tryz.underlying22 info5 rfl rfl (rfl) (by omega)) ?_
    refine RS (ok_loadV (s := 1000001) (by decide) Tryz.underlying5 rfl rfl rfl (rowV_get (by omega))) ?_; refine RZ (nB (k (4 * i + q))) (v8 (by rfl)) ?_
    refine RS (ok_indexN _ Tryz.underlying154 size137 rfl rfl (rfl) (by omega)) ?_
    refine RS (ok_indexA _ Tryz.underlying137 info5 rfl rfl (rfl) (by omega)) ?_
    refine RN ?_
    refine ⟨_, eff_storeS (n := 78) (s := 1000003) info5 rfl rfl rfl hBb3 rfl (by simp only [rowV_length]; omega) (LV 1 rfl (LV 2 rfl (LV 3 rfl (LV 4 rfl (LV 5 rfl (LV 6 rfl (LV 7 rfl (LT 1000001 rfl (LB 1000002 rfl (LT 1000004 rfl LN)))))))))), ?_⟩
    refine TL ?_
    refine RN ?_
    refine End.normal_block ?_
    refine EN ?_
    refine GE ?_
    refine TL ?_
    refine RM rfl ?_
    refine RBS rfl rfl rfl (nI (q + 1)) (by rw [wrap_i64 (by omega) (by omega)]; exact congrArg (Value.int .i64) (by omega)) ?_
    refine RA rfl ?_
    refine RN ?_
    refine End.normal_then ?_
    refine End.again (q + 1) ?_ ?_ ?_
    ·show _ ≤ _; omega
    ·show _ - _ < _ - _; omega
    ·exact (KC 1 rfl (KC 2 rfl (KC 3 rfl (KC 4 rfl (KC 6 rfl (KC 1000001 rfl (KC 1000002 rfl (KC 1000004 rfl (KC 5 rfl (KC 7 rfl (KE 1000003 rfl (congrArg _ (wst_set (by omega) (expand_key k (by omega)).symm)) KN)))))))))))
   ·obtain rfl : q = 4 := by simp at hc18; omega
    refine A.exit ?_
    refine End.exit_then ?_
    refine End.exit_then ?_
    refine End.exit_here ?_
    refine EN ?_
    refine A.exit ?_
    refine End.exit_then ?_
    refine End.exit_here ?_
    refine EN ?_
    refine GE ?_
    refine TL ?_
    refine RM rfl ?_
    refine RBS rfl rfl rfl (nI (i + 1)) (by rw [wrap_i64 (by omega) (by omega)]; exact congrArg (Value.int .i64) (by omega)) ?_
    refine RA rfl ?_
    refine RN ?_
    refine End.normal_then ?_
    refine End.again (i + 1) ?_ ?_ ?_
    ·show _ ≤ _; omega
    ·show _ - _ < _ - _; omega
    ·exact (KC 1 rfl (KC 2 rfl (KC 3 rfl (KC 4 rfl (KC 6 rfl (KC 1000001 rfl (KC 1000002 rfl (KC 1000004 rfl (KE 5 rfl (congrArg (fun z : Nat => D.v (nB (gpow 2 z))) (by omega)) (KE 1000003 rfl (by rw [show 4 * (i + 1) = 4 * i + 4 from by omega]) KN))))))))))
  ·have h4 : 4 ≤ i := by simp at hc16; omega
   refine A.skip ?_
   refine EN ?_
   refine GS ?_
   refine TN 4 ?_
   refine RM rfl ?_
   refine RBS rfl rfl rfl (nI (i - 1)) (by rw [wrap_i64 (by omega) (by omega)]; exact congrArg (Value.int .i64) (by omega)) ?_
   refine RS (ok_indexN _ Tryz.underlying154 size137 rfl rfl (rfl) (by omega)) ?_
   refine RS (ok_loadP (s := 1000003) (by decide) Tryz.underlying137 rfl size137 rfl rfl (by simp only [rowV_length]; omega) (rowV_part (g := fun q => expand k (4 * (i - 1) + q)) (by omega) (fun q hq => wst_get (by omega) (by omega)))) ?_
   refine RN ?_
   refine ⟨_, _, eff_alloc (n := 78) (d := 8) (k := 1000008) zero137 (by decide), fun b8 hb8 => ?_⟩
   have hBb8 := hb8.1
   refine TF 5 ?_
   refine RN ?_
   refine ⟨_, eff_storeA (n := 78) (s := 1000008) (size137.of (rowV_length _ _)) rfl rfl (rowV_one _ _) hBb8 rfl (by first | (simp only [rowV_length]; done) | simp only [rowV_length, List.length_replicate]) (LV 1 rfl (LV 2 rfl (LV 3 rfl (LV 4 rfl (LV 5 rfl (LV 6 rfl (LV 8 rfl (LT 1000001 rfl (LT 1000002 rfl (LT 1000003 rfl (LT 1000004 rfl LN))))))))))), ?_⟩
   refine TL ?_
   refine RN ?_
   refine A.seq ?_
   refine GS ?_
   refine TL ?_
   refine RM rfl ?_
   refine RS (ok_rem rfl rfl (by decide)) ?_; refine RZ (nI (i % 4)) (by rw [tmod_lit _ (by decide)]; rfl) ?_
   refine RB rfl rfl rfl ?_
   refine RN ?_
   refine A.cond rfl (fun hc37 => ?_) (fun hc37 => ?_)
   ·have h0 : i % 4 = 0 := by simp at hc37; omega
    refine GD ?_
    refine TD 19 ?_
    refine RS (ok_index0 (1) Tryz.underlying137 info5 rfl rfl (rfl) (by decide)) ?_
    refine RS (ok_loadV (s := 1000008) (by decide) Tryz.underlying5 rfl rfl rfl (rowV_get (by decide))) ?_; refine RZ (nB (expand k (4 * (i - 1) + 1))) (v8 (by rfl)) ?_
    refine RS (ok_index0 _ Tryz.underlying156 info5 rfl rfl (rfl) (expand_lt hk _)) ?_
    refine RS (ok_loadV (s := 1000004) (by decide) Tryz.underlying5 rfl rfl rfl (subV_get (expand_lt hk _))) ?_
    refine RM rfl ?_
    refine RBS rfl rfl rfl (nB (sub8 (expand k (4 * (i - 1) + 1)) ^^^ gpow 2 ((i - 1) / 4))) (by rw [show IntKind.u8.bits = 8 from rfl, xor_u8N (sub8_lt _) (gpow_lt _)]) ?_
    refine RS (ok_index0 (2) Tryz.underlying137 info5 rfl rfl (rfl) (by decide)) ?_
    refine RS (ok_loadV (s := 1000008) (by decide) Tryz.underlying5 rfl rfl rfl (rowV_get (by decide))) ?_; refine RZ (nB (expand k (4 * (i - 1) + 2))) (v8 (by rfl)) ?_
    refine RS (ok_index0 _ Tryz.underlying156 info5 rfl rfl (rfl) (expand_lt hk _)) ?_
    refine RS (ok_loadV (s := 1000004) (by decide) Tryz.underlying5 rfl rfl rfl (subV_get (expand_lt hk _))) ?_
    refine RS (ok_index0 (3) Tryz.underlying137 info5 rfl rfl (rfl) (by decide)) ?_
    refine RS (ok_loadV (s := 1000008) (by decide) Tryz.underlying5 rfl rfl rfl (rowV_get (by decide))) ?_; refine RZ (nB (expand k (4 * (i - 1) + 3))) (v8 (by rfl)) ?_
    refine RS (ok_index0 _ Tryz.underlying156 info5 rfl rfl (rfl) (expand_lt hk _)) ?_
    refine RS (ok_loadV (s := 1000004) (by decide) Tryz.underlying5 rfl rfl rfl (subV_get (expand_lt hk _))) ?_
    refine RS (ok_index0 (0) Tryz.underlying137 info5 rfl rfl (rfl) (by decide)) ?_
    refine RS (ok_loadV (s := 1000008) (by decide) Tryz.underlying5 rfl rfl rfl (rowV_get (by decide))) ?_; refine RZ (nB (expand k (4 * (i - 1) + 0))) (v8 (by rfl)) ?_
    refine RS (ok_index0 _ Tryz.underlying156 info5 rfl rfl (rfl) (expand_lt hk _)) ?_
    refine RS (ok_loadV (s := 1000004) (by decide) Tryz.underlying5 rfl rfl rfl (subV_get (expand_lt hk _))) ?_
    refine RS (ok_litA [_, _, _, _] Tryz.underlying137 info5 zero137 rfl ⟨rfl, rfl, rfl, rfl, rfl, rfl, rfl, rfl, trivial⟩ rfl) ?_; refine RZ (aggV (rowV 4 (tqS k i))) (congrArg aggV (tq_row k h0 h4)) ?_
    refine RN ?_
    refine ⟨_, eff_storeA (n := 78) (s := 1000008) (size137.of (rowV_length _ _)) rfl rfl (rowV_one _ _) hBb8 rfl (by first | (simp only [rowV_length]; done) | simp only [rowV_length, List.length_replicate]) (LV 1 rfl (LV 2 rfl (LV 3 rfl (LV 4 rfl (LV 5 rfl (LV 6 rfl (LV 8 rfl (LT 1000001 rfl (LT 1000002 rfl (LT 1000003 rfl (LT 1000004 rfl LN))))))))))), ?_⟩
    refine TL ?_
    refine RN ?_
    refine A.sub (KC 1 rfl (KC 2 rfl (KC 3 rfl (KC 4 rfl (KC 5 rfl (KC 6 rfl (KC 8 rfl (KC 1000001 rfl (KC 1000002 rfl (KC 1000003 rfl (KC 1000004 rfl (KC 1000008 rfl KN)))))))))))) ?_
    refine GE ?_
    refine TL ?_
    refine RM rfl ?_
    refine RS (ok_call (refMul_fn (gpow 2 ((i - 1) / 4)) 2 (gpow_lt _) (by decide)) (A2 rfl rfl)) ?_; refine RZ (nB (gpow 2 (i / 4))) (v8 (by rw [show i / 4 = (i - 1) / 4 + 1 from by omega]; rfl)) ?_
    refine RA rfl ?_
    refine RN ?_
    refine EN ?_
    refine GS ?_
    refine TL ?_
    refine RA rfl ?_
    refine RN ?_
    refine A.block ?_
    refine A.loop (ι := Nat) (fun q => q ≤ 4) (fun q => [(1, .v (.pointer (some ⟨b1, 0, none⟩))), (2, .v (.pointer (some ⟨b2, 0, none⟩))), (3, .v (.pointer (some ⟨b3, 0, none⟩))), (4, .v (.pointer (some ⟨b4, 0, none⟩))), (6, .v (nI i)), (1000001, blk b1 22 (rowV 16 (k))), (1000002, blk b2 154 (List.replicate 176 (.int .u8 0))), (1000004, blk b4 156 subV), (5, .v (nB (gpow 2 (i / 4)))), (9, .v (nI q)), (8, .v (.pointer (some ⟨b8, 0, none⟩))), (1000008, blk b8 137 (rowV 4 (tqS k i))), (1000003, blk b3 154 (rowV 176 (wst k (4 * i + q))))]) (fun q => 4 - q) 0 ?_ ?_ ?_
    ·exact Nat.zero_le _
    ·exact (KC 1 rfl (KC 2 rfl (KC 3 rfl (KC 4 rfl (KC 6 rfl (KC 1000001 rfl (KC 1000002 rfl (KC 1000004 rfl (KE 5 rfl (congrArg (fun z : Nat => D.v (nB (gpow 2 z))) (by omega)) (KC 9 rfl (KC 8 rfl (KE 1000008 rfl (by first | rfl | exact congrArg _ (tq_skip k h0)) (KC 1000003 rfl KN)))))))))))))
    intro q hq'
    refine A.seq ?_
    refine GS ?_
    refine TL ?_
    refine RM rfl ?_
    refine RB rfl rfl rfl ?_
    refine RN ?_
    refine A.cond rfl (fun hc60 => ?_) (fun hc60 => ?_)
    ·have hq : q < 4 := by simp at hc60; omega
     refine A.skip ?_
     refine EN ?_
     refine A.seq ?_
     refine A.block ?_
     refine A.reg (by kernel_rfl) (by kernel_rfl) (.inr (by kernel_rfl)) ?_
     refine TD 14 ?_
     refine RM rfl ?_
     refine RM rfl ?_
     refine RM rfl ?_
     refine RBS rfl rfl rfl (nI (i - 4)) (by rw [wrap_i64 (by omega) (by omega)]; exact congrArg (Value.int .i64) (by omega)) ?_
     refine RM rfl ?_
     refine RS (ok_indexN _ Tryz.underlying154 size137 rfl rfl (rfl) (by omega)) ?_
     refine RS (ok_indexA _ Tryz.underlying137 info5 rfl rfl (rfl) (by omega)) ?_
     refine RS (ok_loadV (s := 1000003) (by decide) Tryz.underlying5 rfl rfl rfl (rowV_get (by omega))) ?_; refine RZ (nB (expand k (4 * (i - 4) + q))) (v8 (wst_get (by omega) (by omega))) ?_
     refine RM rfl ?_
     refine RS (ok_index0 _ Tryz.underlying137 info5 rfl rfl (rfl) (by omega)) ?_
     refine RS (ok_loadV (s := 1000008) (by decide) Tryz.underlying5 rfl rfl rfl (rowV_get (by omega))) ?_; refine RZ (nB (tqS k i q)) (v8 (by rfl)) ?_
     refine RBS rfl rfl rfl (nB (expand k (4 * i + q))) (by rw [show IntKind.u8.bits = 8 from rfl, xor_u8N (expand_lt hk _) (tqS_lt hk i q), expand_step k h4 hq]) ?_
     refine RS (ok_indexN _ Tryz.underlying154 size137 rfl rfl (rfl) (by omega)) ?_
     refine RS (ok_indexA _ Tryz.underlying137 info5 rfl rfl (rfl) (by omega)) ?_
     refine RN ?_
     refine ⟨_, eff_storeS (n := 78) (s := 1000003) info5 rfl rfl rfl hBb3 rfl (by simp only [rowV_length]; omega) (LV 1 rfl (LV 2 rfl (LV 3 rfl (LV 4 rfl (LV 5 rfl (LV 6 rfl (LV 8 rfl (LV 9 rfl (LT 1000001 rfl (LB 1000002 rfl (LT 1000004 rfl (LT 1000008 rfl LN)))))))))))), ?_⟩
     refine TL ?_
     refine RN ?_
     refine End.normal_block ?_
     refine EN ?_
     refine GE ?_
     refine TL ?_
     refine RM rfl ?_
     refine RBS rfl rfl rfl (nI (q + 1)) (by rw [wrap_i64 (by omega) (by omega)]; exact congrArg (Value.int .i64) (by omega)) ?_
     refine RA rfl ?_
     refine RN ?_
     refine End.normal_then ?_
     refine End.again (q + 1) ?_ ?_ ?_
     ·show _ ≤ _; omega
     ·show _ - _ < _ - _; omega
     ·exact (KC 1 rfl (KC 2 rfl (KC 3 rfl (KC 4 rfl (KC 6 rfl (KC 1000001 rfl (KC 1000002 rfl (KC 1000004 rfl (KC 5 rfl (KC 9 rfl (KC 8 rfl (KC 1000008 rfl (KE 1000003 rfl (congrArg _ (wst_set (by omega) rfl)) KN)))))))))))))
    ·obtain rfl : q = 4 := by simp at hc60; omega
     refine A.exit ?_
     refine End.exit_then ?_
     refine End.exit_then ?_
     refine End.exit_here ?_
     refine End.normal_block ?_
     refine EN ?_
     refine GE ?_
     refine TL ?_
     refine RM rfl ?_
     refine RBS rfl rfl rfl (nI (i + 1)) (by rw [wrap_i64 (by omega) (by omega)]; exact congrArg (Value.int .i64) (by omega)) ?_
     refine RA rfl ?_
     refine RN ?_
     refine End.normal_then ?_
     refine End.again (i + 1) ?_ ?_ ?_
     ·show _ ≤ _; omega
     ·show _ - _ < _ - _; omega
     ·exact (KC 1 rfl (KC 2 rfl (KC 3 rfl (KC 4 rfl (KC 6 rfl (KC 1000001 rfl (KC 1000002 rfl (KC 1000004 rfl (KE 5 rfl (congrArg (fun z : Nat => D.v (nB (gpow 2 z))) (by omega)) (KE 1000003 rfl (by rw [show 4 * (i + 1) = 4 * i + 4 from by omega]) KN))))))))))
   ·have h0 : ¬ i % 4 = 0 := by simp at hc37; omega
    refine A.skip ?_
    refine EN ?_
    refine GS ?_
    refine TL ?_
    refine RA rfl ?_
    refine RN ?_
    refine A.block ?_
    refine A.loop (ι := Nat) (fun q => q ≤ 4) (fun q => [(1, .v (.pointer (some ⟨b1, 0, none⟩))), (2, .v (.pointer (some ⟨b2, 0, none⟩))), (3, .v (.pointer (some ⟨b3, 0, none⟩))), (4, .v (.pointer (some ⟨b4, 0, none⟩))), (6, .v (nI i)), (1000001, blk b1 22 (rowV 16 (k))), (1000002, blk b2 154 (List.replicate 176 (.int .u8 0))), (1000004, blk b4 156 subV), (5, .v (nB (gpow 2 (i / 4)))), (9, .v (nI q)), (8, .v (.pointer (some ⟨b8, 0, none⟩))), (1000008, blk b8 137 (rowV 4 (tqS k i))), (1000003, blk b3 154 (rowV 176 (wst k (4 * i + q))))]) (fun q => 4 - q) 0 ?_ ?_ ?_
    ·exact Nat.zero_le _
    ·exact (KC 1 rfl (KC 2 rfl (KC 3 rfl (KC 4 rfl (KC 6 rfl (KC 1000001 rfl (KC 1000002 rfl (KC 1000004 rfl (KE 5 rfl (congrArg (fun z : Nat => D.v (nB (gpow 2 z))) (by omega)) (KC 9 rfl (KC 8 rfl (KE 1000008 rfl (by first | rfl | exact congrArg _ (tq_skip k h0)) (KC 1000003 rfl KN)))))))))))))
    intro q hq'
    refine A.seq ?_
    refine GS ?_
    refine TL ?_
    refine RM rfl ?_
    refine RB rfl rfl rfl ?_
    refine RN ?_
    refine A.cond rfl (fun hc60 => ?_) (fun hc60 => ?_)
    ·have hq : q < 4 := by simp at hc60; omega
     refine A.skip ?_
     refine EN ?_
     refine A.seq ?_
     refine A.block ?_
     refine A.reg (by kernel_rfl) (by kernel_rfl) (.inr (by kernel_rfl)) ?_
     refine TD 14 ?_
     refine RM rfl ?_
     refine RM rfl ?_
     refine RM rfl ?_
     refine RBS rfl rfl rfl (nI (i - 4)) (by rw [wrap_i64 (by omega) (by omega)]; exact congrArg (Value.int .i64) (by omega)) ?_
     refine RM rfl ?_
     refine RS (ok_indexN _ Tryz.underlying154 size137 rfl rfl (rfl) (by omega)) ?_
     refine RS (ok_indexA _ Tryz.underlying137 info5 rfl rfl (rfl) (by omega)) ?_
     refine RS (ok_loadV (s := 1000003) (by decide) Tryz.underlying5 rfl rfl rfl (rowV_get (by omega))) ?_; refine RZ (nB (expand k (4 * (i - 4) + q))) (v8 (wst_get (by omega) (by omega))) ?_
     refine RM rfl ?_
     refine RS (ok_index0 _ Tryz.underlying137 info5 rfl rfl (rfl) (by omega)) ?_
     refine RS (ok_loadV (s := 1000008) (by decide) Tryz.underlying5 rfl rfl rfl (rowV_get (by omega))) ?_; refine RZ (nB (tqS k i q)) (v8 (by rfl)) ?_
     refine RBS rfl rfl rfl (nB (expand k (4 * i + q))) (by rw [show IntKind.u8.bits = 8 from rfl, xor_u8N (expand_lt hk _) (tqS_lt hk i q), expand_step k h4 hq]) ?_
     refine RS (ok_indexN _ Tryz.underlying154 size137 rfl rfl (rfl) (by omega)) ?_
     refine RS (ok_indexA _ Tryz.underlying137 info5 rfl rfl (rfl) (by omega)) ?_
     refine RN ?_
     refine ⟨_, eff_storeS (n := 78) (s := 1000003) info5 rfl rfl rfl hBb3 rfl (by simp only [rowV_length]; omega) (LV 1 rfl (LV 2 rfl (LV 3 rfl (LV 4 rfl (LV 5 rfl (LV 6 rfl (LV 8 rfl (LV 9 rfl (LT 1000001 rfl (LB 1000002 rfl (LT 1000004 rfl (LT 1000008 rfl LN)))))))))))), ?_⟩
     refine TL ?_
     refine RN ?_
     refine End.normal_block ?_
     refine EN ?_
     refine GE ?_
     refine TL ?_
     refine RM rfl ?_
     refine RBS rfl rfl rfl (nI (q + 1)) (by rw [wrap_i64 (by omega) (by omega)]; exact congrArg (Value.int .i64) (by omega)) ?_
     refine RA rfl ?_
     refine RN ?_
     refine End.normal_then ?_
     refine End.again (q + 1) ?_ ?_ ?_
     ·show _ ≤ _; omega
     ·show _ - _ < _ - _; omega
     ·exact (KC 1 rfl (KC 2 rfl (KC 3 rfl (KC 4 rfl (KC 6 rfl (KC 1000001 rfl (KC 1000002 rfl (KC 1000004 rfl (KC 5 rfl (KC 9 rfl (KC 8 rfl (KC 1000008 rfl (KE 1000003 rfl (congrArg _ (wst_set (by omega) rfl)) KN)))))))))))))
    ·obtain rfl : q = 4 := by simp at hc60; omega
     refine A.exit ?_
     refine End.exit_then ?_
     refine End.exit_then ?_
     refine End.exit_here ?_
     refine End.normal_block ?_
     refine EN ?_
     refine GE ?_
     refine TL ?_
     refine RM rfl ?_
     refine RBS rfl rfl rfl (nI (i + 1)) (by rw [wrap_i64 (by omega) (by omega)]; exact congrArg (Value.int .i64) (by omega)) ?_
     refine RA rfl ?_
     refine RN ?_
     refine End.normal_then ?_
     refine End.again (i + 1) ?_ ?_ ?_
     ·show _ ≤ _; omega
     ·show _ - _ < _ - _; omega
     ·exact (KC 1 rfl (KC 2 rfl (KC 3 rfl (KC 4 rfl (KC 6 rfl (KC 1000001 rfl (KC 1000002 rfl (KC 1000004 rfl (KE 5 rfl (congrArg (fun z : Nat => D.v (nB (gpow 2 z))) (by omega)) (KE 1000003 rfl (by rw [show 4 * (i + 1) = 4 * i + 4 from by omega]) KN))))))))))
 ·obtain rfl : i = 44 := by simp at hc12; omega
  refine A.exit ?_
  refine End.exit_then ?_
  refine End.exit_then ?_
  refine End.exit_here ?_
  refine EN ?_
  refine GS ?_
  refine TF 1 ?_
  refine RS (ok_loadA (s := 1000003) (by decide) Tryz.underlying154 rfl (size154.of (rowV_length _ _)) rfl rfl) ?_
  refine RN ?_
  refine ⟨_, eff_storeA (n := 78) (s := 1000002) (size154.of (rowV_length _ _)) rfl rfl (rowV_one _ _) hBb2 rfl (by first | (simp only [rowV_length]; done) | simp only [rowV_length, List.length_replicate]) (LV 2 rfl (LT 1000001 rfl (LB 1000003 rfl (LT 1000004 rfl LN)))), ?_⟩
  refine TL ?_
  refine RN ?_
  refine A.ret ?_
  exact End.cell1 (s := 1000002) rfl Tryz.underlying154 rfl (size154.of (rowV_length _ _)) rfl rfl (Le.v (congrArg aggV (wst_full k)))
set_option maxHeartbeats 4000000 in
theorem refRounds_fn (s f : Nat → Nat) (hs : ∀ i, s i < 256) (hf : By f) : Fn Tryz.prog 101 [.v (aggV (rowV 176 (s))), .v (aggV (rowV 16 (f)))] (.v (aggV (rowV 16 (enc s f)))) := by
 refine Fn.of Tryz.func101 rfl (by kernel_rfl) Tryz.ntmps101 (by simp) (fun w => [(0, .v (aggV (rowV 176 (s)))), (1, .v (aggV (rowV 16 (f))))]) (fun w => (Start.v rfl (Start.v rfl Start.nil))) fun w₀ => ?_
 refine GS ?_
 refine TN 0 ?_
 refine RN ?_
 refine ⟨_, _, eff_box (n := 182) (d := 2) (k := 1000002) rfl (by decide), fun b2 hb2 => ?_⟩
 have hBb2 := hb2.1
 refine TN 1 ?_
 refine RN ?_
 refine ⟨_, _, eff_box (n := 182) (d := 3) (k := 1000003) rfl (by decide), fun b3 hb3 => ?_⟩
 have hBb3 := hb3.1
 refine TN 2 ?_
 refine RN ?_
 refine ⟨_, _, eff_alloc (n := 182) (d := 4) (k := 1000004) zero22 (by decide), fun b4 hb4 => ?_⟩
 have hBb4 := hb4.1
 have hlt_b3_b4 : b3 < b4 := hb4.2 1000003 _ _ _ rfl
 refine TL ?_
 refine RN ?_
 refine GS ?_
 refine TN 1 ?_
 refine RS (ok_call refTable_fn Args.nil) ?_
 refine RN ?_
 refine ⟨_, _, eff_alloc (n := 182) (d := 5) (k := 1000005) zero156 (by decide), fun b5 hb5 => ?_⟩
 have hBb5 := hb5.1
 refine TF 2 ?_
 refine RN ?_
 refine ⟨_, eff_storeA (n := 182) (s := 1000005) (size156.of (subV_length)) rfl rfl (subV_one) hBb5 rfl (by rw [subV_length, List.length_replicate]) (LV 2 rfl (LV 3 rfl (LV 4 rfl (LV 5 rfl (LT 1000002 rfl (LT 1000003 rfl (LT 1000004 rfl LN))))))), ?_⟩
 refine TL ?_
 refine RN ?_
 refine GS ?_
 refine TN 0 ?_
 refine RN ?_
 refine ⟨_, _, eff_alloc (n := 182) (d := 6) (k := 1000006) zero158 (by decide), fun b6 hb6 => ?_⟩
 have hBb6 := hb6.1
 refine TL ?_
 refine RN ?_
 refine A.seq ?_
 refine GS ?_
 refine TL ?_
 refine RA rfl ?_
 refine RN ?_
 refine A.block ?_
 refine A.loop (ι := Nat) (fun i => i ≤ 16) (fun i => [(2, .v (.pointer (some ⟨b2, 0, none⟩))), (4, .v (.pointer (some ⟨b4, 0, none⟩))), (5, .v (.pointer (some ⟨b5, 0, none⟩))), (6, .v (.pointer (some ⟨b6, 0, none⟩))), (1000002, blk b2 154 (rowV 176 (s))), (1000004, blk b4 22 (List.replicate 16 (.int .u8 0))), (1000005, blk b5 156 subV), (3, .v (.pointer (some ⟨b3, 0, none⟩))), (7, .v (nI i)), (1000003, blk b3 22 (rowV 16 (f))), (1000006, blk b6 158 (rowV 16 (aesM0 s f i)))]) (fun i => 16 - i) 0 ?_ ?_ ?_
 ·exact Nat.zero_le _
 ·exact (KC 2 rfl (KC 4 rfl (KC 5 rfl (KC 6 rfl (KC 1000002 rfl (KC 1000004 rfl (KC 1000005 rfl (KC 3 rfl (KC 7 rfl (KC 1000003 rfl (KE 1000006 rfl (congrArg _ (aesM0_zero s f)) KN)))))))))))
 intro i hi'
 refine A.seq ?_
 refine GS ?_
 refine TL ?_
 refine RM rfl ?_
 refine RB rfl rfl rfl ?_
 refine RN ?_
 refine A.cond rfl (fun hc22 => ?_) (fun hc22 => ?_)
 ·have hi : i < 16 := by simp at hc22; omega
  refine A.skip ?_
  refine EN ?_
  refine A.seq ?_
  refine A.block ?_
  refine A.reg (by kernel_rfl) (by kernel_rfl) (.inr (by kernel_rfl)) ?_
  refine TD 17 ?_
  refine RM rfl ?_
  refine RS (ok_rem rfl rfl (by decide)) ?_; refine RZ (nI (i % 4)) (by rw [tmod_lit _ (by decide)]; rfl) ?_
  refine RM rfl ?_
  refine RS (ok_div rfl rfl (by decide)) ?_; refine RZ (nI (i / 4)) (by rw [tdiv_lit _ (by decide), show Int.toNat 4 = 4 from rfl, wrapN_i64 (by omega)]) ?_
  refine RM rfl ?_
  refine RS (ok_index0 _ Tryz.underlying22 info5 rfl rfl (rfl) (by omega)) ?_
  refine RS (ok_loadV (s := 1000003) (by decide) Tryz.underlying5 rfl rfl rfl (rowV_get (by omega))) ?_; refine RZ (nB (f i)) (v8 (by rfl)) ?_
  refine RM rfl ?_
  refine RS (ok_div rfl rfl (by decide)) ?_; refine RZ (nI (i / 4)) (by rw [tdiv_lit _ (by decide), show Int.toNat 4 = 4 from rfl, wrapN_i64 (by omega)]) ?_
  refine RM rfl ?_
  refine RS (ok_rem rfl rfl (by decide)) ?_; refine RZ (nI (i % 4)) (by rw [tmod_lit _ (by decide)]; rfl) ?_
  refine RS (ok_indexN _ Tryz.underlying154 size137 rfl rfl (rfl) (by omega)) ?_
  refine RS (ok_indexA _ Tryz.underlying137 info5 rfl rfl (rfl) (by omega)) ?_
  refine RS (ok_loadV (s := 1000002) (by decide) Tryz.underlying5 rfl rfl rfl (rowV_get (by omega))) ?_; refine RZ (nB (keyS s 0 i)) (v8 (congrArg s (by omega))) ?_
  refine RBS rfl rfl rfl (nB (addS f (keyS s 0) i)) (by rw [show IntKind.u8.bits = 8 from rfl, xor_u8N (hf _) (keyS_by hs _ _), show f i ^^^ keyS s 0 i = addS f (keyS s 0) i from rfl]) ?_
  refine RS (ok_indexN _ Tryz.underlying158 size137 rfl rfl (rfl) (by omega)) ?_
  refine RS (ok_indexA _ Tryz.underlying137 info5 rfl rfl (rfl) (by omega)) ?_
  refine RN ?_
  refine ⟨_, eff_storeS (n := 182) (s := 1000006) info5 rfl rfl rfl hBb6 rfl (by simp only [rowV_length]; omega) (LV 2 rfl (LV 3 rfl (LV 4 rfl (LV 5 rfl (LV 6 rfl (LV 7 rfl (LT 1000002 rfl (LT 1000003 rfl (LT 1000004 rfl (LT 1000005 rfl LN)))))))))), ?_⟩
  refine TL ?_
  refine RN ?_
  refine End.normal_block ?_
  refine EN ?_
  refine GE ?_
  refine TL ?_
  refine RM rfl ?_
  refine RBS rfl rfl rfl (nI (i + 1)) (by rw [wrap_i64 (by omega) (by omega)]; exact congrArg (Value.int .i64) (by omega)) ?_
  refine RA rfl ?_
  refine RN ?_
  refine End.normal_then ?_
  refine End.again (i + 1) ?_ ?_ ?_
  ·show _ ≤ _; omega
  ·show _ - _ < _ - _; omega
  ·exact (KC 2 rfl (KC 4 rfl (KC 5 rfl (KC 6 rfl (KC 1000002 rfl (KC 1000004 rfl (KC 1000005 rfl (KC 3 rfl (KC 7 rfl (KC 1000003 rfl (KE 1000006 rfl (congrArg _ (aesM0_set hi (by omega) rfl)) KN)))))))))))
 ·obtain rfl : i = 16 := by simp at hc22; omega
  refine A.exit ?_
  refine End.exit_then ?_
  refine End.exit_then ?_
  refine End.exit_here ?_
  refine EN ?_
  refine A.seq ?_
  refine GS ?_
  refine TL ?_
  refine RA rfl ?_
  refine RN ?_
  refine A.block ?_
  refine A.loop (ι := Nat) (fun q => q ≤ 10) (fun q => [(2, .v (.pointer (some ⟨b2, 0, none⟩))), (4, .v (.pointer (some ⟨b4, 0, none⟩))), (5, .v (.pointer (some ⟨b5, 0, none⟩))), (6, .v (.pointer (some ⟨b6, 0, none⟩))), (1000002, blk b2 154 (rowV 176 (s))), (1000004, blk b4 22 (List.replicate 16 (.int .u8 0))), (1000005, blk b5 156 subV), (8, .v (nI (q + 1))), (1000006, blk b6 158 (rowV 16 (aesT (rst s f q))))]) (fun q => 10 - q) 0 ?_ ?_ ?_
  ·exact Nat.zero_le _
  ·exact (KC 2 rfl (KC 4 rfl (KC 5 rfl (KC 6 rfl (KC 1000002 rfl (KC 1000004 rfl (KC 1000005 rfl (KC 8 rfl (KE 1000006 rfl (congrArg _ (aesM0_full s f)) KN)))))))))
  intro q hq
  refine A.seq ?_
  refine GS ?_
  refine TL ?_
  refine RM rfl ?_
  refine RB rfl rfl rfl ?_
  refine RN ?_
  refine A.cond rfl (fun hc43 => ?_) (fun hc43 => ?_)
  ·have hq10 : q < 10 := by simp at hc43; omega
   refine A.skip ?_
   refine EN ?_
   refine A.seq ?_
   refine A.block ?_
   refine GS ?_
   refine TN 0 ?_
   refine RN ?_
   refine ⟨_, _, eff_alloc (n := 182) (d := 9) (k := 1000009) zero158 (by decide), fun b9 hb9 => ?_⟩
   have hBb9 := hb9.1
   have hlt_b6_b9 : b6 < b9 := hb9.2 1000006 _ _ _ rfl
   refine TL ?_
   refine RN ?_
   refine A.seq ?_
   refine GS ?_
   refine TL ?_
   refine RA rfl ?_
   refine RN ?_
   refine A.block ?_
   refine A.loop (ι := Nat) (fun r => r ≤ 4) (fun r => [(2, .v (.pointer (some ⟨b2, 0, none⟩))), (4, .v (.pointer (some ⟨b4, 0, none⟩))), (5, .v (.pointer (some ⟨b5, 0, none⟩))), (6, .v (.pointer (some ⟨b6, 0, none⟩))), (1000002, blk b2 154 (rowV 176 (s))), (1000004, blk b4 22 (List.replicate 16 (.int .u8 0))), (1000005, blk b5 156 subV), (8, .v (nI (q + 1))), (10, .v (nI r)), (1000006, blk b6 158 (rowV 16 (aesT (rst s f q)))), (9, .v (.pointer (some ⟨b9, 0, none⟩))), (1000009, blk b9 158 (rowV 16 (aesN1 (rst s f q) (4 * r))))]) (fun r => 4 - r) 0 ?_ ?_ ?_
   ·exact Nat.zero_le _
   ·exact (KC 2 rfl (KC 4 rfl (KC 5 rfl (KC 6 rfl (KC 1000002 rfl (KC 1000004 rfl (KC 1000005 rfl (KC 8 rfl (KC 10 rfl (KC 1000006 rfl (KC 9 rfl (KE 1000009 rfl (congrArg _ (aesN1_zero _)) KN))))))))))))
   intro r hr
   refine A.seq ?_
   refine GS ?_
   refine TL ?_
   refine RM rfl ?_
   refine RB rfl rfl rfl ?_
   refine RN ?_
   refine A.cond rfl (fun hc47 => ?_) (fun hc47 => ?_)
   ·have hr4 : r < 4 := by simp at hc47; omega
    refine A.skip ?_
    refine EN ?_
    refine A.seq ?_
    refine A.block ?_
    refine GS ?_
    refine TL ?_
    refine RA rfl ?_
    refine RN ?_
    refine A.block ?_
    refine A.loop (ι := Nat) (fun c => c ≤ 4) (fun c => [(2, .v (.pointer (some ⟨b2, 0, none⟩))), (4, .v (.pointer (some ⟨b4, 0, none⟩))), (5, .v (.pointer (some ⟨b5, 0, none⟩))), (6, .v (.pointer (some ⟨b6, 0, none⟩))), (1000002, blk b2 154 (rowV 176 (s))), (1000004, blk b4 22 (List.replicate 16 (.int .u8 0))), (1000005, blk b5 156 subV), (8, .v (nI (q + 1))), (10, .v (nI r)), (11, .v (nI c)), (1000006, blk b6 158 (rowV 16 (aesT (rst s f q)))), (9, .v (.pointer (some ⟨b9, 0, none⟩))), (1000009, blk b9 158 (rowV 16 (aesN1 (rst s f q) (4 * r + c))))]) (fun c => 4 - c) 0 ?_ ?_ ?_
    ·exact Nat.zero_le _
    ·exact (KC 2 rfl (KC 4 rfl (KC 5 rfl (KC 6 rfl (KC 1000002 rfl (KC 1000004 rfl (KC 1000005 rfl (KC 8 rfl (KC 10 rfl (KC 11 rfl (KC 1000006 rfl (KC 9 rfl (KC 1000009 rfl KN)))))))))))))
    intro c hc
    refine A.seq ?_
    refine GS ?_
    refine TL ?_
    refine RM rfl ?_
    refine RB rfl rfl rfl ?_
    refine RN ?_
    refine A.cond rfl (fun hc51 => ?_) (fun hc51 => ?_)
    ·have hc4 : c < 4 := by simp at hc51; omega
     refine A.skip ?_
     refine EN ?_
     refine A.seq ?_
     refine A.block ?_
     refine A.reg (by kernel_rfl) (by kernel_rfl) (.inr (by kernel_rfl)) ?_
     refine TD 14 ?_
     refine RM rfl ?_
     refine RM rfl ?_
     refine RM rfl ?_
     refine RM rfl ?_
     refine RM rfl ?_
     refine RBS rfl rfl rfl (nI (c + r)) (by rw [wrap_i64 (by omega) (by omega)]; exact congrArg (Value.int .i64) (by omega)) ?_
     refine RS (ok_rem rfl rfl (by decide)) ?_; refine RZ (nI ((c + r) % 4)) (by rw [tmod_lit _ (by decide)]; rfl) ?_
     refine RS (ok_indexN _ Tryz.underlying158 size137 rfl rfl (rfl) (by omega)) ?_
     refine RS (ok_indexA _ Tryz.underlying137 info5 rfl rfl (rfl) (by omega)) ?_
     refine RS (ok_loadV (s := 1000006) (by decide) Tryz.underlying5 rfl rfl rfl (rowV_get (by omega))) ?_; refine RZ (nB (rst s f q (4 * ((c + r) % 4) + r))) (v8 (congrArg (rst s f q) (by omega))) ?_
     refine RS (ok_index0 _ Tryz.underlying156 info5 rfl rfl (rfl) (rst_by hs hf _ _)) ?_
     refine RS (ok_loadV (s := 1000005) (by decide) Tryz.underlying5 rfl rfl rfl (subV_get (rst_by hs hf _ _))) ?_; refine RZ (nB (sub8 (rst s f q (4 * ((c + r) % 4) + r)))) (v8 (by rfl)) ?_
     refine RS (ok_indexN _ Tryz.underlying158 size137 rfl rfl (rfl) (by omega)) ?_
     refine RS (ok_indexA _ Tryz.underlying137 info5 rfl rfl (rfl) (by omega)) ?_
     refine RN ?_
     refine ⟨_, eff_storeS (n := 182) (s := 1000009) info5 rfl rfl rfl hBb9 rfl (by first | (simp only [rowV_length]; omega) | (simp only [List.length_set, rowV_length]; omega)) (LV 2 rfl (LV 4 rfl (LV 5 rfl (LV 6 rfl (LV 8 rfl (LV 9 rfl (LV 10 rfl (LV 11 rfl (LT 1000002 rfl (LT 1000004 rfl (LT 1000005 rfl (LB 1000006 rfl LN)))))))))))), ?_⟩
     refine TL ?_
     refine RN ?_
     refine End.normal_block ?_
     refine EN ?_
     refine GE ?_
     refine TL ?_
     refine RM rfl ?_
     refine RBS rfl rfl rfl (nI (c + 1)) (by rw [wrap_i64 (by omega) (by omega)]; exact congrArg (Value.int .i64) (by omega)) ?_
     refine RA rfl ?_
     refine RN ?_
     refine End.normal_then ?_
     refine End.again (c + 1) ?_ ?_ ?_
     ·show _ ≤ _; omega
     ·show _ - _ < _ - _; omega
     ·exact (KC 2 rfl (KC 4 rfl (KC 5 rfl (KC 6 rfl (KC 1000002 rfl (KC 1000004 rfl (KC 1000005 rfl (KC 8 rfl (KC 10 rfl (KC 11 rfl (KC 1000006 rfl (KC 9 rfl (KE 1000009 rfl (congrArg _ (aesN1_set hr4 hc4 (by omega) rfl)) KN)))))))))))))
    ·obtain rfl : c = 4 := by simp at hc51; omega
     refine A.exit ?_
     refine End.exit_then ?_
     refine End.exit_then ?_
     refine End.exit_here ?_
     refine End.normal_block ?_
     refine EN ?_
     refine GE ?_
     refine TL ?_
     refine RM rfl ?_
     refine RBS rfl rfl rfl (nI (r + 1)) (by rw [wrap_i64 (by omega) (by omega)]; exact congrArg (Value.int .i64) (by omega)) ?_
     refine RA rfl ?_
     refine RN ?_
     refine End.normal_then ?_
     refine End.again (r + 1) ?_ ?_ ?_
     ·show _ ≤ _; omega
     ·show _ - _ < _ - _; omega
     ·exact (KC 2 rfl (KC 4 rfl (KC 5 rfl (KC 6 rfl (KC 1000002 rfl (KC 1000004 rfl (KC 1000005 rfl (KC 8 rfl (KC 10 rfl (KC 1000006 rfl (KC 9 rfl (KE 1000009 rfl (by rw [show 4 * (r + 1) = 4 * r + 4 from by omega]) KN))))))))))))
   ·obtain rfl : r = 4 := by simp at hc47; omega
    refine A.exit ?_
    refine End.exit_then ?_
    refine End.exit_then ?_
    refine End.exit_here ?_
    refine EN ?_
    refine GS ?_
    refine TL ?_
    refine RA rfl ?_
    refine RN ?_
    refine A.block ?_
    refine A.loop (ι := Nat) (fun c => c ≤ 4) (fun c => [(2, .v (.pointer (some ⟨b2, 0, none⟩))), (4, .v (.pointer (some ⟨b4, 0, none⟩))), (5, .v (.pointer (some ⟨b5, 0, none⟩))), (6, .v (.pointer (some ⟨b6, 0, none⟩))), (1000002, blk b2 154 (rowV 176 (s))), (1000004, blk b4 22 (List.replicate 16 (.int .u8 0))), (1000005, blk b5 156 subV), (8, .v (nI (q + 1))), (12, .v (nI c)), (1000006, blk b6 158 (rowV 16 (aesM2 (rst s f q) (rst s f (q + 1)) c 0))), (9, .v (.pointer (some ⟨b9, 0, none⟩))), (1000009, blk b9 158 (rowV 16 (aesN2 (rst s f q) q c)))]) (fun c => 4 - c) 0 ?_ ?_ ?_
    ·exact Nat.zero_le _
    ·exact (KC 2 rfl (KC 4 rfl (KC 5 rfl (KC 6 rfl (KC 1000002 rfl (KC 1000004 rfl (KC 1000005 rfl (KC 8 rfl (KC 12 rfl (KE 1000006 rfl (congrArg _ (aesM2_zero _ _)) (KC 9 rfl (KE 1000009 rfl (congrArg _ (aesN1_full _ q)) KN))))))))))))
    intro c hc
    refine A.seq ?_
    refine GS ?_
    refine TL ?_
    refine RM rfl ?_
    refine RB rfl rfl rfl ?_
    refine RN ?_
    refine A.cond rfl (fun hc69 => ?_) (fun hc69 => ?_)
    ·have hc4 : c < 4 := by simp at hc69; omega
     refine A.skip ?_
     refine EN ?_
     refine A.seq ?_
     refine A.block ?_
     refine GD ?_
     refine TL ?_
     refine RM rfl ?_
     refine RS (ok_indexN (0) Tryz.underlying158 size137 rfl rfl (rfl) (by decide)) ?_
     refine RS (ok_indexA _ Tryz.underlying137 info5 rfl rfl (rfl) (by omega)) ?_
     refine RS (ok_loadV (s := 1000009) (by decide) Tryz.underlying5 rfl rfl rfl (rowV_get (by omega))) ?_; refine RZ (nB (aesG (rst s f q) (4 * c + 0))) (v8 (aesN2_get hc4 (by decide) (by omega))) ?_
     refine RM rfl ?_
     refine RS (ok_indexN (1) Tryz.underlying158 size137 rfl rfl (rfl) (by decide)) ?_
     refine RS (ok_indexA _ Tryz.underlying137 info5 rfl rfl (rfl) (by omega)) ?_
     refine RS (ok_loadV (s := 1000009) (by decide) Tryz.underlying5 rfl rfl rfl (rowV_get (by omega))) ?_; refine RZ (nB (aesG (rst s f q) (4 * c + 1))) (v8 (aesN2_get hc4 (by decide) (by omega))) ?_
     refine RM rfl ?_
     refine RS (ok_indexN (2) Tryz.underlying158 size137 rfl rfl (rfl) (by decide)) ?_
     refine RS (ok_indexA _ Tryz.underlying137 info5 rfl rfl (rfl) (by omega)) ?_
     refine RS (ok_loadV (s := 1000009) (by decide) Tryz.underlying5 rfl rfl rfl (rowV_get (by omega))) ?_; refine RZ (nB (aesG (rst s f q) (4 * c + 2))) (v8 (aesN2_get hc4 (by decide) (by omega))) ?_
     refine RM rfl ?_
     refine RS (ok_indexN (3) Tryz.underlying158 size137 rfl rfl (rfl) (by decide)) ?_
     refine RS (ok_indexA _ Tryz.underlying137 info5 rfl rfl (rfl) (by omega)) ?_
     refine RS (ok_loadV (s := 1000009) (by decide) Tryz.underlying5 rfl rfl rfl (rowV_get (by omega))) ?_; refine RZ (nB (aesG (rst s f q) (4 * c + 3))) (v8 (aesN2_get hc4 (by decide) (by omega))) ?_
     refine RA rfl ?_
     refine RA rfl ?_
     refine RA rfl ?_
     refine RA rfl ?_
     refine RN ?_
     refine A.seq ?_
     refine GS ?_
     refine TL ?_
     refine RM rfl ?_
     refine RB rfl rfl rfl ?_
     refine RN ?_
     refine A.cond rfl (fun hc89 => ?_) (fun hc89 => ?_)
     ·have hq9 : q < 9 := by simp at hc89; omega
      refine GS ?_
      refine TF 14 ?_
      refine RM rfl ?_
      refine RM rfl ?_
      refine RS (ok_call (refDouble_fn (aesG (rst s f q) (4 * c + 0)) (aesG_by _ _)) (A1 rfl)) ?_
      refine RM rfl ?_
      refine RS (ok_call (refDouble_fn (aesG (rst s f q) (4 * c + 1)) (aesG_by _ _)) (A1 rfl)) ?_
      refine RBS rfl rfl rfl (nB (gm 2 (aesG (rst s f q) (4 * c + 0)) ^^^ gm 2 (aesG (rst s f q) (4 * c + 1)))) (by rw [show IntKind.u8.bits = 8 from rfl, xor_u8N (gm_lt _ (by decide)) (gm_lt _ (by decide))]) ?_
      refine RM rfl ?_
      refine RBS rfl rfl rfl (nB (gm 2 (aesG (rst s f q) (4 * c + 0)) ^^^ gm 2 (aesG (rst s f q) (4 * c + 1)) ^^^ aesG (rst s f q) (4 * c + 1))) (by rw [show IntKind.u8.bits = 8 from rfl, xor_u8N (xor_lt _ _ (gm_lt _ (by decide)) (gm_lt _ (by decide))) (aesG_by _ _)]) ?_
      refine RM rfl ?_
      refine RBS rfl rfl rfl (nB (gm 2 (aesG (rst s f q) (4 * c + 0)) ^^^ gm 2 (aesG (rst s f q) (4 * c + 1)) ^^^ aesG (rst s f q) (4 * c + 1) ^^^ aesG (rst s f q) (4 * c + 2))) (by rw [show IntKind.u8.bits = 8 from rfl, xor_u8N (xor_lt _ _ (xor_lt _ _ (gm_lt _ (by decide)) (gm_lt _ (by decide))) (aesG_by _ _)) (aesG_by _ _)]) ?_
      refine RM rfl ?_
      refine RBS rfl rfl rfl (nB (mixS (aesG (rst s f q)) (4 * c + 0))) (by rw [show IntKind.u8.bits = 8 from rfl, xor_u8N (xor_lt _ _ (xor_lt _ _ (xor_lt _ _ (gm_lt _ (by decide)) (gm_lt _ (by decide))) (aesG_by _ _)) (aesG_by _ _)) (aesG_by _ _), mix0 (aesG (rst s f q)) c]) ?_
      refine RS (ok_indexN (0) Tryz.underlying158 size137 rfl rfl (rfl) (by decide)) ?_
      refine RS (ok_indexA _ Tryz.underlying137 info5 rfl rfl (rfl) (by omega)) ?_
      refine RN ?_
      refine ⟨_, eff_storeS (n := 182) (s := 1000009) info5 rfl rfl rfl hBb9 rfl (by first | (simp only [rowV_length]; omega) | (simp only [List.length_set, rowV_length]; omega)) (LV 2 rfl (LV 4 rfl (LV 5 rfl (LV 6 rfl (LV 8 rfl (LV 9 rfl (LV 12 rfl (LV 13 rfl (LV 14 rfl (LV 15 rfl (LV 16 rfl (LT 1000002 rfl (LT 1000004 rfl (LT 1000005 rfl (LB 1000006 rfl LN))))))))))))))), ?_⟩
      refine TL ?_
      refine RN ?_
      refine A.sub (KC 2 rfl (KC 4 rfl (KC 5 rfl (KC 6 rfl (KC 8 rfl (KC 9 rfl (KC 12 rfl (KC 13 rfl (KC 14 rfl (KC 15 rfl (KC 16 rfl (KC 1000002 rfl (KC 1000004 rfl (KC 1000005 rfl (KC 1000006 rfl (KC 1000009 rfl KN)))))))))))))))) ?_
      refine GS ?_
      refine TF 14 ?_
      refine RM rfl ?_
      refine RM rfl ?_
      refine RM rfl ?_
      refine RS (ok_call (refDouble_fn (aesG (rst s f q) (4 * c + 1)) (aesG_by _ _)) (A1 rfl)) ?_
      refine RBS rfl rfl rfl (nB (aesG (rst s f q) (4 * c + 0) ^^^ gm 2 (aesG (rst s f q) (4 * c + 1)))) (by rw [show IntKind.u8.bits = 8 from rfl, xor_u8N (aesG_by _ _) (gm_lt _ (by decide))]) ?_
      refine RM rfl ?_
      refine RS (ok_call (refDouble_fn (aesG (rst s f q) (4 * c + 2)) (aesG_by _ _)) (A1 rfl)) ?_
      refine RBS rfl rfl rfl (nB (aesG (rst s f q) (4 * c + 0) ^^^ gm 2 (aesG (rst s f q) (4 * c + 1)) ^^^ gm 2 (aesG (rst s f q) (4 * c + 2)))) (by rw [show IntKind.u8.bits = 8 from rfl, xor_u8N (xor_lt _ _ (aesG_by _ _) (gm_lt _ (by decide))) (gm_lt _ (by decide))]) ?_
      refine RM rfl ?_
      refine RBS rfl rfl rfl (nB (aesG (rst s f q) (4 * c + 0) ^^^ gm 2 (aesG (rst s f q) (4 * c + 1)) ^^^ gm 2 (aesG (rst s f q) (4 * c + 2)) ^^^ aesG (rst s f q) (4 * c + 2))) (by rw [show IntKind.u8.bits = 8 from rfl, xor_u8N (xor_lt _ _ (xor_lt _ _ (aesG_by _ _) (gm_lt _ (by decide))) (gm_lt _ (by decide))) (aesG_by _ _)]) ?_
      refine RM rfl ?_
      refine RBS rfl rfl rfl (nB (mixS (aesG (rst s f q)) (4 * c + 1))) (by rw [show IntKind.u8.bits = 8 from rfl, xor_u8N (xor_lt _ _ (xor_lt _ _ (xor_lt _ _ (aesG_by _ _) (gm_lt _ (by decide))) (gm_lt _ (by decide))) (aesG_by _ _)) (aesG_by _ _), mix1 (aesG (rst s f q)) c]) ?_
      refine RS (ok_indexN (1) Tryz.underlying158 size137 rfl rfl (rfl) (by decide)) ?_
      refine RS (ok_indexA _ Tryz.underlying137 info5 rfl rfl (rfl) (by omega)) ?_
      refine RN ?_
      refine ⟨_, eff_storeS (n := 182) (s := 1000009) info5 rfl rfl rfl hBb9 rfl (by first | (simp only [rowV_length]; omega) | (simp only [List.length_set, rowV_length]; omega)) (LV 2 rfl (LV 4 rfl (LV 5 rfl (LV 6 rfl (LV 8 rfl (LV 9 rfl (LV 12 rfl (LV 13 rfl (LV 14 rfl (LV 15 rfl (LV 16 rfl (LT 1000002 rfl (LT 1000004 rfl (LT 1000005 rfl (LB 1000006 rfl LN))))))))))))))), ?_⟩
      refine TL ?_
      refine RN ?_
      refine GS ?_
      refine TF 14 ?_
      refine RM rfl ?_
      refine RM rfl ?_
      refine RM rfl ?_
      refine RBS rfl rfl rfl (nB (aesG (rst s f q) (4 * c + 0) ^^^ aesG (rst s f q) (4 * c + 1))) (by rw [show IntKind.u8.bits = 8 from rfl, xor_u8N (aesG_by _ _) (aesG_by _ _)]) ?_
      refine RM rfl ?_
      refine RS (ok_call (refDouble_fn (aesG (rst s f q) (4 * c + 2)) (aesG_by _ _)) (A1 rfl)) ?_
      refine RBS rfl rfl rfl (nB (aesG (rst s f q) (4 * c + 0) ^^^ aesG (rst s f q) (4 * c + 1) ^^^ gm 2 (aesG (rst s f q) (4 * c + 2)))) (by rw [show IntKind.u8.bits = 8 from rfl, xor_u8N (xor_lt _ _ (aesG_by _ _) (aesG_by _ _)) (gm_lt _ (by decide))]) ?_
      refine RM rfl ?_
      refine RS (ok_call (refDouble_fn (aesG (rst s f q) (4 * c + 3)) (aesG_by _ _)) (A1 rfl)) ?_
      refine RBS rfl rfl rfl (nB (aesG (rst s f q) (4 * c + 0) ^^^ aesG (rst s f q) (4 * c + 1) ^^^ gm 2 (aesG (rst s f q) (4 * c + 2)) ^^^ gm 2 (aesG (rst s f q) (4 * c + 3)))) (by rw [show IntKind.u8.bits = 8 from rfl, xor_u8N (xor_lt _ _ (xor_lt _ _ (aesG_by _ _) (aesG_by _ _)) (gm_lt _ (by decide))) (gm_lt _ (by decide))]) ?_
      refine RM rfl ?_
      refine RBS rfl rfl rfl (nB (mixS (aesG (rst s f q)) (4 * c + 2))) (by rw [show IntKind.u8.bits = 8 from rfl, xor_u8N (xor_lt _ _ (xor_lt _ _ (xor_lt _ _ (aesG_by _ _) (aesG_by _ _)) (gm_lt _ (by decide))) (gm_lt _ (by decide))) (aesG_by _ _), mix2 (aesG (rst s f q)) c]) ?_
      refine RS (ok_indexN (2) Tryz.underlying158 size137 rfl rfl (rfl) (by decide)) ?_
      refine RS (ok_indexA _ Tryz.underlying137 info5 rfl rfl (rfl) (by omega)) ?_
      refine RN ?_
      refine ⟨_, eff_storeS (n := 182) (s := 1000009) info5 rfl rfl rfl hBb9 rfl (by first | (simp only [rowV_length]; omega) | (simp only [List.length_set, rowV_length]; omega)) (LV 2 rfl (LV 4 rfl (LV 5 rfl (LV 6 rfl (LV 8 rfl (LV 9 rfl (LV 12 rfl (LV 13 rfl (LV 14 rfl (LV 15 rfl (LV 16 rfl (LT 1000002 rfl (LT 1000004 rfl (LT 1000005 rfl (LB 1000006 rfl LN))))))))))))))), ?_⟩
      refine TL ?_
      refine RN ?_
      refine A.sub (KC 2 rfl (KC 4 rfl (KC 5 rfl (KC 6 rfl (KC 8 rfl (KC 9 rfl (KC 12 rfl (KC 13 rfl (KC 14 rfl (KC 15 rfl (KC 16 rfl (KC 1000002 rfl (KC 1000004 rfl (KC 1000005 rfl (KC 1000006 rfl (KC 1000009 rfl KN)))))))))))))))) ?_
      refine GE ?_
      refine TF 14 ?_
      refine RM rfl ?_
      refine RM rfl ?_
      refine RS (ok_call (refDouble_fn (aesG (rst s f q) (4 * c + 0)) (aesG_by _ _)) (A1 rfl)) ?_
      refine RM rfl ?_
      refine RBS rfl rfl rfl (nB (gm 2 (aesG (rst s f q) (4 * c + 0)) ^^^ aesG (rst s f q) (4 * c + 0))) (by rw [show IntKind.u8.bits = 8 from rfl, xor_u8N (gm_lt _ (by decide)) (aesG_by _ _)]) ?_
      refine RM rfl ?_
      refine RBS rfl rfl rfl (nB (gm 2 (aesG (rst s f q) (4 * c + 0)) ^^^ aesG (rst s f q) (4 * c + 0) ^^^ aesG (rst s f q) (4 * c + 1))) (by rw [show IntKind.u8.bits = 8 from rfl, xor_u8N (xor_lt _ _ (gm_lt _ (by decide)) (aesG_by _ _)) (aesG_by _ _)]) ?_
      refine RM rfl ?_
      refine RBS rfl rfl rfl (nB (gm 2 (aesG (rst s f q) (4 * c + 0)) ^^^ aesG (rst s f q) (4 * c + 0) ^^^ aesG (rst s f q) (4 * c + 1) ^^^ aesG (rst s f q) (4 * c + 2))) (by rw [show IntKind.u8.bits = 8 from rfl, xor_u8N (xor_lt _ _ (xor_lt _ _ (gm_lt _ (by decide)) (aesG_by _ _)) (aesG_by _ _)) (aesG_by _ _)]) ?_
      refine RM rfl ?_
      refine RS (ok_call (refDouble_fn (aesG (rst s f q) (4 * c + 3)) (aesG_by _ _)) (A1 rfl)) ?_
      refine RBS rfl rfl rfl (nB (mixS (aesG (rst s f q)) (4 * c + 3))) (by rw [show IntKind.u8.bits = 8 from rfl, xor_u8N (xor_lt _ _ (xor_lt _ _ (xor_lt _ _ (gm_lt _ (by decide)) (aesG_by _ _)) (aesG_by _ _)) (aesG_by _ _)) (gm_lt _ (by decide)), mix3 (aesG (rst s f q)) c]) ?_
      refine RS (ok_indexN (3) Tryz.underlying158 size137 rfl rfl (rfl) (by decide)) ?_
      refine RS (ok_indexA _ Tryz.underlying137 info5 rfl rfl (rfl) (by omega)) ?_
      refine RN ?_
      refine ⟨_, eff_storeS (n := 182) (s := 1000009) info5 rfl rfl rfl hBb9 rfl (by first | (simp only [rowV_length]; omega) | (simp only [List.length_set, rowV_length]; omega)) (LV 2 rfl (LV 4 rfl (LV 5 rfl (LV 6 rfl (LV 8 rfl (LV 9 rfl (LV 12 rfl (LT 1000002 rfl (LT 1000004 rfl (LT 1000005 rfl (LB 1000006 rfl LN))))))))))), ?_⟩
      refine TL ?_
      refine RN ?_
      refine End.sub (KC 2 rfl (KC 4 rfl (KC 5 rfl (KC 6 rfl (KC 8 rfl (KC 9 rfl (KC 12 rfl (KC 1000002 rfl (KC 1000004 rfl (KC 1000005 rfl (KC 1000006 rfl (KE 1000009 rfl (show blk b9 158 _ = blk b9 158 (rowV 16 (aesN2 (rst s f q) q (c + 1))) from congrArg _ (aesN2_four hq9 hc4 (by omega) (by omega) (by omega) (by omega) rfl rfl rfl rfl)) KN)))))))))))) ?_
      refine EN ?_
      refine GS ?_
      refine TL ?_
      refine RA rfl ?_
      refine RN ?_
      refine A.block ?_
      refine A.loop (ι := Nat) (fun r => r ≤ 4) (fun r => [(2, .v (.pointer (some ⟨b2, 0, none⟩))), (4, .v (.pointer (some ⟨b4, 0, none⟩))), (5, .v (.pointer (some ⟨b5, 0, none⟩))), (6, .v (.pointer (some ⟨b6, 0, none⟩))), (1000002, blk b2 154 (rowV 176 (s))), (1000004, blk b4 22 (List.replicate 16 (.int .u8 0))), (1000005, blk b5 156 subV), (8, .v (nI (q + 1))), (12, .v (nI c)), (17, .v (nI r)), (1000006, blk b6 158 (rowV 16 (aesM2 (rst s f q) (rst s f (q + 1)) c r))), (9, .v (.pointer (some ⟨b9, 0, none⟩))), (1000009, blk b9 158 (rowV 16 (aesN2 (rst s f q) q (c + 1))))]) (fun r => 4 - r) 0 ?_ ?_ ?_
      ·exact Nat.zero_le _
      ·exact (KC 2 rfl (KC 4 rfl (KC 5 rfl (KC 6 rfl (KC 1000002 rfl (KC 1000004 rfl (KC 1000005 rfl (KC 8 rfl (KC 12 rfl (KC 17 rfl (KC 1000006 rfl (KC 9 rfl (KE 1000009 rfl (by first | rfl | exact congrArg _ (aesN2_skip _ c hq9)) KN)))))))))))))
      intro r hr
      refine A.seq ?_
      refine GS ?_
      refine TL ?_
      refine RM rfl ?_
      refine RB rfl rfl rfl ?_
      refine RN ?_
      refine A.cond rfl (fun hc147 => ?_) (fun hc147 => ?_)
      ·have hr4 : r < 4 := by simp at hc147; omega
       refine A.skip ?_
       refine EN ?_
       refine A.seq ?_
       refine A.block ?_
       refine A.reg (by kernel_rfl) (by kernel_rfl) (.inr (by kernel_rfl)) ?_
       refine TD 18 ?_
       refine RM rfl ?_
       refine RM rfl ?_
       refine RM rfl ?_
       refine RM rfl ?_
       refine RS (ok_indexN _ Tryz.underlying158 size137 rfl rfl (rfl) (by omega)) ?_
       refine RS (ok_indexA _ Tryz.underlying137 info5 rfl rfl (rfl) (by omega)) ?_
       refine RS (ok_loadV (s := 1000009) (by decide) Tryz.underlying5 rfl rfl rfl (rowV_get (by omega))) ?_; refine RZ (nB (aesV (rst s f q) q (4 * c + r))) (v8 (aesN2_val hc4 hr4 (by omega))) ?_
       refine RM rfl ?_
       refine RBS rfl rfl rfl (nI (4 * (q + 1))) (by rw [wrap_i64 (by omega) (by omega)]; exact congrArg (Value.int .i64) (by omega)) ?_
       refine RM rfl ?_
       refine RBS rfl rfl rfl (nI (4 * (q + 1) + c)) (by rw [wrap_i64 (by omega) (by omega)]; exact congrArg (Value.int .i64) (by omega)) ?_
       refine RM rfl ?_
       refine RS (ok_indexN _ Tryz.underlying154 size137 rfl rfl (rfl) (by omega)) ?_
       refine RS (ok_indexA _ Tryz.underlying137 info5 rfl rfl (rfl) (by omega)) ?_
       refine RS (ok_loadV (s := 1000002) (by decide) Tryz.underlying5 rfl rfl rfl (rowV_get (by omega))) ?_; refine RZ (nB (keyS s (q + 1) (4 * c + r))) (v8 (congrArg s (by omega))) ?_
       refine RBS rfl rfl rfl (nB (rst s f (q + 1) (4 * c + r))) (by rw [show IntKind.u8.bits = 8 from rfl, xor_u8N (aesV_by _ _ _) (keyS_by hs _ _), rst_step s f hq10]) ?_
       refine RS (ok_indexN _ Tryz.underlying158 size137 rfl rfl (rfl) (by omega)) ?_
       refine RS (ok_indexA _ Tryz.underlying137 info5 rfl rfl (rfl) (by omega)) ?_
       refine RN ?_
       refine ⟨_, eff_storeS (n := 182) (s := 1000006) info5 rfl rfl rfl hBb6 rfl (by simp only [rowV_length]; omega) (LV 2 rfl (LV 4 rfl (LV 5 rfl (LV 6 rfl (LV 8 rfl (LV 9 rfl (LV 12 rfl (LV 17 rfl (LT 1000002 rfl (LT 1000004 rfl (LT 1000005 rfl (LB 1000009 rfl LN)))))))))))), ?_⟩
       refine TL ?_
       refine RN ?_
       refine End.normal_block ?_
       refine EN ?_
       refine GE ?_
       refine TL ?_
       refine RM rfl ?_
       refine RBS rfl rfl rfl (nI (r + 1)) (by rw [wrap_i64 (by omega) (by omega)]; exact congrArg (Value.int .i64) (by omega)) ?_
       refine RA rfl ?_
       refine RN ?_
       refine End.normal_then ?_
       refine End.again (r + 1) ?_ ?_ ?_
       ·show _ ≤ _; omega
       ·show _ - _ < _ - _; omega
       ·exact (KC 2 rfl (KC 4 rfl (KC 5 rfl (KC 6 rfl (KC 1000002 rfl (KC 1000004 rfl (KC 1000005 rfl (KC 8 rfl (KC 12 rfl (KC 17 rfl (KE 1000006 rfl (congrArg _ (aesM2_set hr4 hc4 (by omega) rfl)) (KC 9 rfl (KC 1000009 rfl KN)))))))))))))
      ·obtain rfl : r = 4 := by simp at hc147; omega
       refine A.exit ?_
       refine End.exit_then ?_
       refine End.exit_then ?_
       refine End.exit_here ?_
       refine End.normal_block ?_
       refine EN ?_
       refine GE ?_
       refine TL ?_
       refine RM rfl ?_
       refine RBS rfl rfl rfl (nI (c + 1)) (by rw [wrap_i64 (by omega) (by omega)]; exact congrArg (Value.int .i64) (by omega)) ?_
       refine RA rfl ?_
       refine RN ?_
       refine End.normal_then ?_
       refine End.again (c + 1) ?_ ?_ ?_
       ·show _ ≤ _; omega
       ·show _ - _ < _ - _; omega
       ·exact (KC 2 rfl (KC 4 rfl (KC 5 rfl (KC 6 rfl (KC 1000002 rfl (KC 1000004 rfl (KC 1000005 rfl (KC 8 rfl (KC 12 rfl (KE 1000006 rfl (congrArg _ (aesM2_next _ _ c)) (KC 9 rfl (KC 1000009 rfl KN))))))))))))
     ·have hq9 : ¬ q < 9 := by simp at hc89; omega
      refine A.skip ?_
      refine EN ?_
      refine GS ?_
      refine TL ?_
      refine RA rfl ?_
      refine RN ?_
      refine A.sub (KC 2 rfl (KC 4 rfl (KC 5 rfl (KC 6 rfl (KC 8 rfl (KC 9 rfl (KC 12 rfl (KC 17 rfl (KC 1000002 rfl (KC 1000004 rfl (KC 1000005 rfl (KC 1000006 rfl (KC 1000009 rfl KN))))))))))))) ?_
      refine A.block ?_
      refine A.loop (ι := Nat) (fun r => r ≤ 4) (fun r => [(2, .v (.pointer (some ⟨b2, 0, none⟩))), (4, .v (.pointer (some ⟨b4, 0, none⟩))), (5, .v (.pointer (some ⟨b5, 0, none⟩))), (6, .v (.pointer (some ⟨b6, 0, none⟩))), (1000002, blk b2 154 (rowV 176 (s))), (1000004, blk b4 22 (List.replicate 16 (.int .u8 0))), (1000005, blk b5 156 subV), (8, .v (nI (q + 1))), (12, .v (nI c)), (17, .v (nI r)), (1000006, blk b6 158 (rowV 16 (aesM2 (rst s f q) (rst s f (q + 1)) c r))), (9, .v (.pointer (some ⟨b9, 0, none⟩))), (1000009, blk b9 158 (rowV 16 (aesN2 (rst s f q) q (c + 1))))]) (fun r => 4 - r) 0 ?_ ?_ ?_
      ·exact Nat.zero_le _
      ·exact (KC 2 rfl (KC 4 rfl (KC 5 rfl (KC 6 rfl (KC 1000002 rfl (KC 1000004 rfl (KC 1000005 rfl (KC 8 rfl (KC 12 rfl (KC 17 rfl (KC 1000006 rfl (KC 9 rfl (KE 1000009 rfl (by first | rfl | exact congrArg _ (aesN2_skip _ c hq9)) KN)))))))))))))
      intro r hr
      refine A.seq ?_
      refine GS ?_
      refine TL ?_
      refine RM rfl ?_
      refine RB rfl rfl rfl ?_
      refine RN ?_
      refine A.cond rfl (fun hc147 => ?_) (fun hc147 => ?_)
      ·have hr4 : r < 4 := by simp at hc147; omega
       refine A.skip ?_
       refine EN ?_
       refine A.seq ?_
       refine A.block ?_
       refine A.reg (by kernel_rfl) (by kernel_rfl) (.inr (by kernel_rfl)) ?_
       refine TD 18 ?_
       refine RM rfl ?_
       refine RM rfl ?_
       refine RM rfl ?_
       refine RM rfl ?_
       refine RS (ok_indexN _ Tryz.underlying158 size137 rfl rfl (rfl) (by omega)) ?_
       refine RS (ok_indexA _ Tryz.underlying137 info5 rfl rfl (rfl) (by omega)) ?_
       refine RS (ok_loadV (s := 1000009) (by decide) Tryz.underlying5 rfl rfl rfl (rowV_get (by omega))) ?_; refine RZ (nB (aesV (rst s f q) q (4 * c + r))) (v8 (aesN2_val hc4 hr4 (by omega))) ?_
       refine RM rfl ?_
       refine RBS rfl rfl rfl (nI (4 * (q + 1))) (by rw [wrap_i64 (by omega) (by omega)]; exact congrArg (Value.int .i64) (by omega)) ?_
       refine RM rfl ?_
       refine RBS rfl rfl rfl (nI (4 * (q + 1) + c)) (by rw [wrap_i64 (by omega) (by omega)]; exact congrArg (Value.int .i64) (by omega)) ?_
       refine RM rfl ?_
       refine RS (ok_indexN _ Tryz.underlying154 size137 rfl rfl (rfl) (by omega)) ?_
       refine RS (ok_indexA _ Tryz.underlying137 info5 rfl rfl (rfl) (by omega)) ?_
       refine RS (ok_loadV (s := 1000002) (by decide) Tryz.underlying5 rfl rfl rfl (rowV_get (by omega))) ?_; refine RZ (nB (keyS s (q + 1) (4 * c + r))) (v8 (congrArg s (by omega))) ?_
       refine RBS rfl rfl rfl (nB (rst s f (q + 1) (4 * c + r))) (by rw [show IntKind.u8.bits = 8 from rfl, xor_u8N (aesV_by _ _ _) (keyS_by hs _ _), rst_step s f hq10]) ?_
       refine RS (ok_indexN _ Tryz.underlying158 size137 rfl rfl (rfl) (by omega)) ?_
       refine RS (ok_indexA _ Tryz.underlying137 info5 rfl rfl (rfl) (by omega)) ?_
       refine RN ?_
       refine ⟨_, eff_storeS (n := 182) (s := 1000006) info5 rfl rfl rfl hBb6 rfl (by simp only [rowV_length]; omega) (LV 2 rfl (LV 4 rfl (LV 5 rfl (LV 6 rfl (LV 8 rfl (LV 9 rfl (LV 12 rfl (LV 17 rfl (LT 1000002 rfl (LT 1000004 rfl (LT 1000005 rfl (LB 1000009 rfl LN)))))))))))), ?_⟩
       refine TL ?_
       refine RN ?_
       refine End.normal_block ?_
       refine EN ?_
       refine GE ?_
       refine TL ?_
       refine RM rfl ?_
       refine RBS rfl rfl rfl (nI (r + 1)) (by rw [wrap_i64 (by omega) (by omega)]; exact congrArg (Value.int .i64) (by omega)) ?_
       refine RA rfl ?_
       refine RN ?_
       refine End.normal_then ?_
       refine End.again (r + 1) ?_ ?_ ?_
       ·show _ ≤ _; omega
       ·show _ - _ < _ - _; omega
       ·exact (KC 2 rfl (KC 4 rfl (KC 5 rfl (KC 6 rfl (KC 1000002 rfl (KC 1000004 rfl (KC 1000005 rfl (KC 8 rfl (KC 12 rfl (KC 17 rfl (KE 1000006 rfl (congrArg _ (aesM2_set hr4 hc4 (by omega) rfl)) (KC 9 rfl (KC 1000009 rfl KN)))))))))))))
      ·obtain rfl : r = 4 := by simp at hc147; omega
       refine A.exit ?_
       refine End.exit_then ?_
       refine End.exit_then ?_
       refine End.exit_here ?_
       refine End.normal_block ?_
       refine EN ?_
       refine GE ?_
       refine TL ?_
       refine RM rfl ?_
       refine RBS rfl rfl rfl (nI (c + 1)) (by rw [wrap_i64 (by omega) (by omega)]; exact congrArg (Value.int .i64) (by omega)) ?_
       refine RA rfl ?_
       refine RN ?_
       refine End.normal_then ?_
       refine End.again (c + 1) ?_ ?_ ?_
       ·show _ ≤ _; omega
       ·show _ - _ < _ - _; omega
       ·exact (KC 2 rfl (KC 4 rfl (KC 5 rfl (KC 6 rfl (KC 1000002 rfl (KC 1000004 rfl (KC 1000005 rfl (KC 8 rfl (KC 12 rfl (KE 1000006 rfl (congrArg _ (aesM2_next _ _ c)) (KC 9 rfl (KC 1000009 rfl KN))))))))))))
    ·obtain rfl : c = 4 := by simp at hc69; omega
     refine A.exit ?_
     refine End.exit_then ?_
     refine End.exit_then ?_
     refine End.exit_here ?_
     refine End.normal_block ?_
     refine EN ?_
     refine GE ?_
     refine TL ?_
     refine RM rfl ?_
     refine RBS rfl rfl rfl (nI (q + 1 + 1)) (by rw [wrap_i64 (by omega) (by omega)]; exact congrArg (Value.int .i64) (by omega)) ?_
     refine RA rfl ?_
     refine RN ?_
     refine End.normal_then ?_
     refine End.again (q + 1) ?_ ?_ ?_
     ·show _ ≤ _; omega
     ·show _ - _ < _ - _; omega
     ·exact (KC 2 rfl (KC 4 rfl (KC 5 rfl (KC 6 rfl (KC 1000002 rfl (KC 1000004 rfl (KC 1000005 rfl (KC 8 rfl (KE 1000006 rfl (congrArg _ (aesM2_full _ _)) KN)))))))))
  ·obtain rfl : q = 10 := by simp at hc43; omega
   refine A.exit ?_
   refine End.exit_then ?_
   refine End.exit_then ?_
   refine End.exit_here ?_
   refine EN ?_
   refine GS ?_
   refine TN 0 ?_
   refine RN ?_
   refine ⟨_, _, eff_alloc (n := 182) (d := 18) (k := 1000018) zero22 (by decide), fun b18 hb18 => ?_⟩
   have hBb18 := hb18.1
   have hlt_b4_b18 : b4 < b18 := hb18.2 1000004 _ _ _ rfl
   refine TL ?_
   refine RN ?_
   refine A.seq ?_
   refine GS ?_
   refine TL ?_
   refine RA rfl ?_
   refine RN ?_
   refine A.block ?_
   refine A.loop (ι := Nat) (fun i => i ≤ 16) (fun i => [(4, .v (.pointer (some ⟨b4, 0, none⟩))), (6, .v (.pointer (some ⟨b6, 0, none⟩))), (18, .v (.pointer (some ⟨b18, 0, none⟩))), (19, .v (nI i)), (1000004, blk b4 22 (List.replicate 16 (.int .u8 0))), (1000006, blk b6 158 (rowV 16 (aesT (enc s f)))), (1000018, blk b18 22 (rowV 16 (cutF (enc s f) i)))]) (fun i => 16 - i) 0 ?_ ?_ ?_
   ·exact Nat.zero_le _
   ·exact (KC 4 rfl (KC 6 rfl (KC 18 rfl (KC 19 rfl (KC 1000004 rfl (KC 1000006 rfl (KE 1000018 rfl (congrArg _ (cutF_zero 16 _)) KN)))))))
   intro i hi'
   refine A.seq ?_
   refine GS ?_
   refine TL ?_
   refine RM rfl ?_
   refine RB rfl rfl rfl ?_
   refine RN ?_
   refine A.cond rfl (fun hc169 => ?_) (fun hc169 => ?_)
   ·have hi : i < 16 := by simp at hc169; omega
    refine A.skip ?_
    refine EN ?_
    refine A.seq ?_
    refine A.block ?_
    refine GE ?_
    refine TF 9 ?_
    refine RM rfl ?_
    refine RM rfl ?_
    refine RS (ok_rem rfl rfl (by decide)) ?_; refine RZ (nI (i % 4)) (by rw [tmod_lit _ (by decide)]; rfl) ?_
    refine RM rfl ?_
    refine RS (ok_div rfl rfl (by decide)) ?_; refine RZ (nI (i / 4)) (by rw [tdiv_lit _ (by decide), show Int.toNat 4 = 4 from rfl, wrapN_i64 (by omega)]) ?_
    refine RS (ok_indexN _ Tryz.underlying158 size137 rfl rfl (rfl) (by omega)) ?_
    refine RS (ok_indexA _ Tryz.underlying137 info5 rfl rfl (rfl) (by omega)) ?_
    refine RS (ok_loadV (s := 1000006) (by decide) Tryz.underlying5 rfl rfl rfl (rowV_get (by omega))) ?_; refine RZ (nB (enc s f i)) (v8 (congrArg (enc s f) (by omega))) ?_
    refine RS (ok_index0 _ Tryz.underlying22 info5 rfl rfl (rfl) (by omega)) ?_
    refine RN ?_
    refine ⟨_, eff_storeS (n := 182) (s := 1000018) info5 rfl rfl rfl hBb18 rfl (by simp only [rowV_length]; omega) (LV 4 rfl (LV 6 rfl (LV 18 rfl (LV 19 rfl (LB 1000004 rfl (LT 1000006 rfl LN)))))), ?_⟩
    refine TL ?_
    refine RN ?_
    refine End.normal_block ?_
    refine EN ?_
    refine GE ?_
    refine TL ?_
    refine RM rfl ?_
    refine RBS rfl rfl rfl (nI (i + 1)) (by rw [wrap_i64 (by omega) (by omega)]; exact congrArg (Value.int .i64) (by omega)) ?_
    refine RA rfl ?_
    refine RN ?_
    refine End.normal_then ?_
    refine End.again (i + 1) ?_ ?_ ?_
    ·show _ ≤ _; omega
    ·show _ - _ < _ - _; omega
    ·exact (KC 4 rfl (KC 6 rfl (KC 18 rfl (KC 19 rfl (KC 1000004 rfl (KC 1000006 rfl (KE 1000018 rfl (congrArg _ (cutF_set rfl rfl)) KN)))))))
   ·obtain rfl : i = 16 := by simp at hc169; omega
    refine A.exit ?_
    refine End.exit_then ?_
    refine End.exit_then ?_
    refine End.exit_here ?_
    refine EN ?_
    refine GS ?_
    refine TF 1 ?_
    refine RS (ok_loadA (s := 1000018) (by decide) Tryz.underlying22 rfl (size22.of (rowV_length _ _)) rfl rfl) ?_
    refine RN ?_
    refine ⟨_, eff_storeA (n := 182) (s := 1000004) (size22.of (rowV_length _ _)) rfl rfl (rowV_one _ _) hBb4 rfl (by first | (simp only [rowV_length]; done) | simp only [rowV_length, List.length_replicate]) (LV 4 rfl (LT 1000006 rfl (LB 1000018 rfl LN))), ?_⟩
    refine TL ?_
    refine RN ?_
    refine A.ret ?_
    exact End.cell1 (s := 1000004) rfl Tryz.underlying22 rfl (size22.of (rowV_length _ _)) rfl rfl (Le.v (congrArg aggV (cutF_full 16 _)))
theorem refEncrypt_fn (k f : Nat → Nat) (hk : By k) (hf : By f) : Fn Tryz.prog 90 [.v (aggV (rowV 16 (k))), .v (aggV (rowV 16 (f)))] (.v (aggV (rowV 16 (enc (expand k) f)))) := by
 refine Fn.of Tryz.func90 rfl (by kernel_rfl) Tryz.ntmps90 (by simp) (fun w => [(0, .v (aggV (rowV 16 (k)))), (1, .v (aggV (rowV 16 (f))))]) (fun w => (Start.v rfl (Start.v rfl Start.nil))) fun w₀ => ?_
 refine GS ?_
 refine TN 0 ?_
 refine RN ?_
 refine ⟨_, _, eff_box (n := 9) (d := 2) (k := 1000002) rfl (by decide), fun b2 hb2 => ?_⟩
 have hBb2 := hb2.1
 refine TN 1 ?_
 refine RN ?_
 refine ⟨_, _, eff_box (n := 9) (d := 3) (k := 1000003) rfl (by decide), fun b3 hb3 => ?_⟩
 have hBb3 := hb3.1
 have hlt_b2_b3 : b2 < b3 := hb3.2 1000002 _ _ _ rfl
 refine TN 2 ?_
 refine RN ?_
 refine ⟨_, _, eff_alloc (n := 9) (d := 4) (k := 1000004) zero22 (by decide), fun b4 hb4 => ?_⟩
 have hBb4 := hb4.1
 have hlt_b2_b4 : b2 < b4 := hb4.2 1000002 _ _ _ rfl
 have hlt_b3_b4 : b3 < b4 := hb4.2 1000003 _ _ _ rfl
 refine TL ?_
 refine RN ?_
 refine GD ?_
 refine TD 4 ?_
 refine RS (ok_loadA (s := 1000002) (by decide) Tryz.underlying22 rfl (size22.of (rowV_length _ _)) rfl rfl) ?_
 refine RS (ok_call (refExpand_fn k hk) (Args.cons rfl LA Args.nil)) ?_
 refine RS (ok_loadA (s := 1000003) (by decide) Tryz.underlying22 rfl (size22.of (rowV_length _ _)) rfl rfl) ?_
 refine RS (ok_call (refRounds_fn (expand k) f (expand_lt hk) hf) (Args.cons rfl LA (Args.cons rfl LA Args.nil))) ?_
 refine RN ?_
 refine ⟨_, eff_storeA (n := 9) (s := 1000004) (size22.of (rowV_length _ _)) rfl rfl (rowV_one _ _) hBb4 rfl (by first | (simp only [rowV_length]; done) | simp only [rowV_length, List.length_replicate]) (LV 4 rfl (LB 1000002 rfl (LB 1000003 rfl LN))), ?_⟩
 refine TL ?_
 refine RN ?_
 refine A.ret ?_
 exact End.cell1 (s := 1000004) rfl Tryz.underlying22 rfl (size22.of (rowV_length _ _)) rfl rfl (Le.refl _)
end Go.Proofs.YthadcgkcgpinhaaGreatDoor
