/-
  OWN TEXTS of this seat, put together, part 4: C13a, Laid, Rets, Once, C12b, C02a, C02b, C02c, C01c, C02g, St, C02h, Dig, C02d, C02e, C02f, C02i, C02j, C02k, C13b.
-/
import Derived.Test.YtlddnmblfgaimaaDoorM1
import Derived.Test.YtlddnmblfgaimaaDoorM3
import Derived.Test.YtlddnmblfgaimaaDoorTie
import Derived.ProofKit
import Derived.LaidMore
import Derived.Stop.Joined
import Derived.Test.YtlddnmblfgaimaaDoorM2
namespace Go.Proofs.YtlddnmblfgaimaaDoor
open Go Go.RowKit
set_option linter.unusedVariables false
set_option maxRecDepth 20000
set_option linter.unusedSimpArgs false
/-- How many bytes a node of each level has. -/
def sizV : List Value := [185, 137, 137, 137, 137, 137].map fun n : Int => Value.int .i64 n
abbrev tabS : Env := [(1900000, tab 0 sizV)]
abbrev allM (b T : Nat) (cs : List Value) : Env := [(1900000, blk b T cs)]
theorem tabS_v : ∀ p ∈ tabS, vbase ≤ p.1 := fun p hp => by
 simp only [tabS, List.mem_cons, List.not_mem_nil, or_false] at hp
 subst hp; decide
theorem tabS_hi {w : World} (h : ∀ p ∈ tabS, p.2.Of w undef) : 0 < w.heap.size := (h _ List.mem_cons_self).1
theorem siz_get {n : Nat} (h : n ≤ 5) : sizV[n]? = some (nI (NodT.sz n)) := by
 match n, h with
 | 0, _ => rfl
 | 1, _ => rfl
 | 2, _ => rfl
 | 3, _ => rfl
 | 4, _ => rfl
 | 5, _ => rfl
theorem zero36 : ZeroIs Tryd.prog 36 (recsV zerosR) := by unfold ZeroIs; kernel_rfl
theorem size36 : SizeIs Tryd.prog 36 140 := by unfold SizeIs; kernel_rfl
theorem infoP35 : InfoP Tryd.prog 35 (aggV RecT.zero.v) 35 56 := by unfold InfoP; kernel_rfl
theorem zero39 : ZeroIs Tryd.prog 39 (entsV zerosE) := by unfold ZeroIs; kernel_rfl
theorem size39 : SizeIs Tryd.prog 39 132 := by unfold SizeIs; kernel_rfl
theorem infoP38 : InfoP Tryd.prog 38 (aggV EntT.zero.v) 33 33 := by unfold InfoP; kernel_rfl
theorem zero44 : ZeroIs Tryd.prog 44 [.slice none 0 0] := by unfold ZeroIs; kernel_rfl
theorem zero3 : ZeroIs Tryd.prog 3 [.int .i64 0] := by unfold ZeroIs; kernel_rfl
theorem zero41 : ZeroIs Tryd.prog 41 (NodT.v (NodT.emp 0 0)) := by unfold ZeroIs; kernel_rfl
theorem size41 : SizeIs Tryd.prog 41 274 := by unfold SizeIs; kernel_rfl
theorem field41_0 : FieldIs Tryd.prog 41 0 0 1 := by unfold FieldIs; kernel_rfl
theorem field41_1 : FieldIs Tryd.prog 41 1 1 1 := by unfold FieldIs; kernel_rfl
theorem field41_2 : FieldIs Tryd.prog 41 2 2 140 := by unfold FieldIs; kernel_rfl
theorem field41_3 : FieldIs Tryd.prog 41 3 142 132 := by unfold FieldIs; kernel_rfl
theorem flat41 : flat Tryd.prog 6 41 = some (.u8 :: .u32 :: ((List.replicate 4 (.u8 :: .u32 :: .u64 :: List.replicate 32 .u8)).flatten ++ (List.replicate 4 (.u8 :: List.replicate 32 .u8)).flatten)) := by kernel_rfl
theorem isGroup_y (x : NodT) (hx : x.Fit) (h : x.l.toNat = 0) : Fn Tryd.prog 33 [.v (aggV x.v)] (.v (.bool true)) := by
 refine Fn.of Tryd.func33 rfl (by kernel_rfl) Tryd.ntmps33 (by simp) (fun w => [(0, .v (aggV x.v))]) (fun w => (Start.v rfl Start.nil)) fun w₀ => ?_
 refine GS ?_
 refine TN 0 ?_
 refine RN ?_
 refine ⟨_, _, eff_box (n := 6) (d := 1) (k := 1000001) rfl (by decide), fun b1 hb1 => ?_⟩
 have hBb1 := hb1.1
 refine TL ?_
 refine RA rfl ?_
 refine RN ?_
 refine GS ?_
 refine TL ?_
 refine RS (ok_field field41_0 (by decide) rfl) ?_
 refine RS (ok_loadV (s := 1000001) (by decide) Tryd.underlying5 rfl rfl rfl (rfl)) ?_
 refine RBS rfl rfl rfl (.bool true) (by first | rfl | (simp; done) | (simp; omega) | (simp [*]; done) | (simp [*]; omega)) ?_
 refine RA rfl ?_
 refine RN ?_
 refine A.ret ?_
 exact End.ret1 rfl rfl (by first | exact Le.refl _ | exact Le.old _ _)
theorem isGroup_n (x : NodT) (hx : x.Fit) (h : ¬ x.l.toNat = 0) : Fn Tryd.prog 33 [.v (aggV x.v)] (.v (.bool false)) := by
 refine Fn.of Tryd.func33 rfl (by kernel_rfl) Tryd.ntmps33 (by simp) (fun w => [(0, .v (aggV x.v))]) (fun w => (Start.v rfl Start.nil)) fun w₀ => ?_
 refine GS ?_
 refine TN 0 ?_
 refine RN ?_
 refine ⟨_, _, eff_box (n := 6) (d := 1) (k := 1000001) rfl (by decide), fun b1 hb1 => ?_⟩
 have hBb1 := hb1.1
 refine TL ?_
 refine RA rfl ?_
 refine RN ?_
 refine GS ?_
 refine TL ?_
 refine RS (ok_field field41_0 (by decide) rfl) ?_
 refine RS (ok_loadV (s := 1000001) (by decide) Tryd.underlying5 rfl rfl rfl (rfl)) ?_
 refine RBS rfl rfl rfl (.bool false) (by first | rfl | (simp; done) | (simp; omega) | (simp [*]; done) | (simp [*]; omega)) ?_
 refine RA rfl ?_
 refine RN ?_
 refine A.ret ?_
 exact End.ret1 rfl rfl (by first | exact Le.refl _ | exact Le.old _ _)
theorem allZeroR_fn (b T o m k : Nat) (cs : List Value) (L : List RecT) (hL : L.length = k) (hk : k ≤ 4) (hf : ∀ r ∈ L, r.Fit) (hc : (cs.drop o).take (L.length * 35) = L.flatMap RecT.v) (hl : o + k * 35 ≤ cs.length) : FnM Tryd.prog 46 (allM b T cs) [.v (.slice (some ⟨b, o, none⟩) k m)] (.v (.bool (decide (∀ i, i < k → (L.getD i RecT.zero).Z)))) := by
 refine FnM.of Tryd.func46 rfl (by kernel_rfl) Tryd.ntmps46 (by simp) (by decide) (fun w => [(0, .v (.slice (some ⟨b, o, none⟩) k m)), (1900000, blk b T cs)]) (fun w => (StartM.v rfl (StartM.m (by simp [allM]) (by decide) StartM.nil))) fun w₀ hM => ?_
 skip
 refine GS ?_
 refine TL ?_
 refine RA rfl ?_
 refine RN ?_
 refine GS ?_
 refine TN 0 ?_
 refine RN ?_
 refine ⟨_, _, eff_alloc (n := 16) (d := 3) (k := 1000003) zero35 (by decide), fun b3 hb3 => ?_⟩
 have hBb3 := hb3.1
 have hlt_b_b3 : b < b3 := hb3.2 1900000 _ _ _ rfl
 refine TL ?_
 refine RN ?_
 refine A.seq ?_
 refine GS ?_
 refine TL ?_
 refine RM rfl ?_
 refine RS (ok_lenV Tryd.underlying94 rfl) ?_
 refine RM rfl ?_
 refine RN ?_
 refine A.block ?_
 refine A.loop (ι := Nat) (fun i => i ≤ k ∧ ∀ j, j < i → (L.getD j RecT.zero).Z) (fun i => [(3, .v (ptr b3)), (6, .v (.slice (some ⟨b, o, none⟩) k m)), (7, .v (nI (k))), (8, .v (nI (i))), (1000003, blk b3 35 (RecT.v RecT.zero)), (1900000, blk b T cs)]) (fun i => k - i) 0 ?_ ?_ ?_
 ·exact ⟨Nat.zero_le _, fun j h => absurd h (Nat.not_lt_zero _)⟩
 ·exact (KC 3 rfl (KC 6 rfl (KC 7 rfl (KE 8 rfl (by rfl) (KE 1000003 rfl (by rfl) (KC 1900000 rfl KN))))))
 intro i hG
 refine GS ?_
 refine TL ?_
 refine RB rfl rfl rfl ?_
 refine RN ?_
 refine A.seq ?_
 refine A.cond rfl (fun hc9 => ?_) (fun hc9 => ?_)
 ·have hi : i < k := by simp at hc9; omega
  have hi' : i < L.length := by omega
  refine A.skip ?_
  refine EN ?_
  refine A.seq ?_
  refine A.block ?_
  refine GS ?_
  refine TN 2 ?_
  refine RS (ok_indexS i Tryd.underlying94 infoP35 rfl rfl rfl hi) ?_
  refine RS (ok_loadP (s := 1900000) (by decide) Tryd.underlying35 rfl size35 rfl rfl (by have := Nat.mul_le_mul_right 35 (Nat.succ_le_of_lt hi); rw [Nat.succ_mul] at this; omega) (rows_part (RecT.lens hf) hc hi' RecT.zero)) ?_
  refine RN ?_
  refine ⟨_, _, eff_alloc (n := 16) (d := 5) (k := 1000005) zero35 (by decide), fun b5 hb5 => ?_⟩
  have hBb5 := hb5.1
  have hlt_b3_b5 : b3 < b5 := hb5.2 1000003 _ _ _ rfl
  have hlt_b_b5 : b < b5 := hb5.2 1900000 _ _ _ rfl
  refine TF 3 ?_
  refine RN ?_
  refine ⟨_, eff_storeA (n := 16) (s := 1000005) (size35.of ((hf _ (getD_in L hi' _)).len)) rfl rfl (by first | exact NodT.one _ | exact RecT.one _ | exact EntT.one _ | exact RecT.all1 _ | exact EntT.all1 _ | exact all_byte _ | exact all_bytes _) hBb5 rfl (by first | rfl | (rw [(hf _ (getD_in L hi' _)).len]; rfl)) (LV 3 rfl (LV 5 rfl (LV 6 rfl (LV 7 rfl (LV 8 rfl (LB 1000003 rfl (LB 1900000 rfl LN))))))), ?_⟩
  refine TL ?_
  refine RN ?_
  refine GS ?_
  refine TL ?_
  refine RS (ok_loadA (s := 1000005) (by decide) Tryd.underlying35 rfl (size35.of ((hf _ (getD_in L hi' _)).len)) rfl rfl) ?_
  refine RS (ok_loadA (s := 1000003) (by decide) Tryd.underlying35 rfl (size35.of (rfl)) rfl rfl) ?_; refine RZ (aggV RecT.zero.v) (by rfl) ?_
  refine RS (ok_neqT (n := 4) (decide (L.getD i RecT.zero).Z) flat35 (by decide) (by kernel_rfl) (by kernel_rfl) rfl rfl (hf _ (getD_in L hi' _)).kin RecT.zero_fit.kin (RecT.dz _)) ?_
  refine RN ?_
  refine A.cond rfl (fun hc14 => ?_) (fun hc14 => ?_)
  ·have hz : ¬ (L.getD i RecT.zero).Z := by simpa using hc14
   refine GS ?_
   refine TL ?_
   refine RA rfl ?_
   refine RN ?_
   refine A.ret ?_
   refine End.ret_block ?_
   refine End.ret_then ?_
   refine End.ret_then ?_
   refine End.ret_block ?_
   refine End.ret_then ?_
   first | exact End.ret1 rfl rfl (Le.v (congrArg Value.bool (decide_eq_false (fun h => hz (h i hi))).symm)) | exact End.ret1 rfl rfl (Le.v (congrArg Value.bool (decide_eq_true (fun j hj => hG.2 j (by omega))).symm))
  ·have hz : (L.getD i RecT.zero).Z := by simpa using hc14
   refine A.skip ?_
   refine End.normal_block ?_
   refine EN ?_
   refine GE ?_
   refine TL ?_
   refine RBS rfl rfl rfl (nI (i + 1)) (wrap_eq (by omega) (by omega)) ?_
   refine RM rfl ?_
   refine RN ?_
   refine End.normal_then ?_
   refine End.again (i + 1) ?_ ?_ ?_
   ·exact ⟨by omega, fun j hj => (Nat.lt_or_ge j i).elim (hG.2 j) fun h => by rw [show j = i from by omega]; exact hz⟩
   ·show _ - _ < _ - _; omega
   ·exact (KC 3 rfl (KC 6 rfl (KC 7 rfl (KC 8 rfl (KC 1000003 rfl (KC 1900000 rfl KN))))))
 ·have hi2 : i = k := by have := hG.1; simp at hc9; omega
  refine A.exit ?_
  refine End.exit_then ?_
  refine End.exit_then ?_
  refine End.exit_here ?_
  refine EN ?_
  refine GS ?_
  refine TL ?_
  refine RA rfl ?_
  refine RN ?_
  refine A.ret ?_
  first | exact End.ret1 rfl rfl (Le.v (congrArg Value.bool (decide_eq_false (fun h => hz (h i hi))).symm)) | exact End.ret1 rfl rfl (Le.v (congrArg Value.bool (decide_eq_true (fun j hj => hG.2 j (by omega))).symm))
theorem allZeroE_fn (b T o m k : Nat) (cs : List Value) (L : List EntT) (hL : L.length = k) (hk : k ≤ 4) (hf : ∀ r ∈ L, r.Fit) (hc : (cs.drop o).take (L.length * 33) = L.flatMap EntT.v) (hl : o + k * 33 ≤ cs.length) : FnM Tryd.prog 47 (allM b T cs) [.v (.slice (some ⟨b, o, none⟩) k m)] (.v (.bool (decide (∀ i, i < k → (L.getD i EntT.zero).Z)))) := by
 refine FnM.of Tryd.func47 rfl (by kernel_rfl) Tryd.ntmps47 (by simp) (by decide) (fun w => [(0, .v (.slice (some ⟨b, o, none⟩) k m)), (1900000, blk b T cs)]) (fun w => (StartM.v rfl (StartM.m (by simp [allM]) (by decide) StartM.nil))) fun w₀ hM => ?_
 skip
 refine GS ?_
 refine TL ?_
 refine RA rfl ?_
 refine RN ?_
 refine GS ?_
 refine TN 0 ?_
 refine RN ?_
 refine ⟨_, _, eff_alloc (n := 16) (d := 3) (k := 1000003) zero38 (by decide), fun b3 hb3 => ?_⟩
 have hBb3 := hb3.1
 have hlt_b_b3 : b < b3 := hb3.2 1900000 _ _ _ rfl
 refine TL ?_
 refine RN ?_
 refine A.seq ?_
 refine GS ?_
 refine TL ?_
 refine RM rfl ?_
 refine RS (ok_lenV Tryd.underlying96 rfl) ?_
 refine RM rfl ?_
 refine RN ?_
 refine A.block ?_
 refine A.loop (ι := Nat) (fun i => i ≤ k ∧ ∀ j, j < i → (L.getD j EntT.zero).Z) (fun i => [(3, .v (ptr b3)), (6, .v (.slice (some ⟨b, o, none⟩) k m)), (7, .v (nI (k))), (8, .v (nI (i))), (1000003, blk b3 38 (EntT.v EntT.zero)), (1900000, blk b T cs)]) (fun i => k - i) 0 ?_ ?_ ?_
 ·exact ⟨Nat.zero_le _, fun j h => absurd h (Nat.not_lt_zero _)⟩
 ·exact (KC 3 rfl (KC 6 rfl (KC 7 rfl (KE 8 rfl (by rfl) (KE 1000003 rfl (by rfl) (KC 1900000 rfl KN))))))
 intro i hG
 refine GS ?_
 refine TL ?_
 refine RB rfl rfl rfl ?_
 refine RN ?_
 refine A.seq ?_
 refine A.cond rfl (fun hc9 => ?_) (fun hc9 => ?_)
 ·have hi : i < k := by simp at hc9; omega
  have hi' : i < L.length := by omega
  refine A.skip ?_
  refine EN ?_
  refine A.seq ?_
  refine A.block ?_
  refine GS ?_
  refine TN 2 ?_
  refine RS (ok_indexS i Tryd.underlying96 infoP38 rfl rfl rfl hi) ?_
  refine RS (ok_loadP (s := 1900000) (by decide) Tryd.underlying38 rfl size38 rfl rfl (by have := Nat.mul_le_mul_right 33 (Nat.succ_le_of_lt hi); rw [Nat.succ_mul] at this; omega) (rows_part (EntT.lens hf) hc hi' EntT.zero)) ?_
  refine RN ?_
  refine ⟨_, _, eff_alloc (n := 16) (d := 5) (k := 1000005) zero38 (by decide), fun b5 hb5 => ?_⟩
  have hBb5 := hb5.1
  have hlt_b3_b5 : b3 < b5 := hb5.2 1000003 _ _ _ rfl
  have hlt_b_b5 : b < b5 := hb5.2 1900000 _ _ _ rfl
  refine TF 3 ?_
  refine RN ?_
  refine ⟨_, eff_storeA (n := 16) (s := 1000005) (size38.of ((hf _ (getD_in L hi' _)).len)) rfl rfl (by first | exact NodT.one _ | exact RecT.one _ | exact EntT.one _ | exact RecT.all1 _ | exact EntT.all1 _ | exact all_byte _ | exact all_bytes _) hBb5 rfl (by first | rfl | (rw [(hf _ (getD_in L hi' _)).len]; rfl)) (LV 3 rfl (LV 5 rfl (LV 6 rfl (LV 7 rfl (LV 8 rfl (LB 1000003 rfl (LB 1900000 rfl LN))))))), ?_⟩
  refine TL ?_
  refine RN ?_
  refine GS ?_
  refine TL ?_
  refine RS (ok_loadA (s := 1000005) (by decide) Tryd.underlying38 rfl (size38.of ((hf _ (getD_in L hi' _)).len)) rfl rfl) ?_
  refine RS (ok_loadA (s := 1000003) (by decide) Tryd.underlying38 rfl (size38.of (rfl)) rfl rfl) ?_; refine RZ (aggV EntT.zero.v) (by rfl) ?_
  refine RS (ok_neqT (n := 4) (decide (L.getD i EntT.zero).Z) flat38 (by decide) (by kernel_rfl) (by kernel_rfl) rfl rfl (hf _ (getD_in L hi' _)).kin EntT.zero_fit.kin (EntT.dz _)) ?_
  refine RN ?_
  refine A.cond rfl (fun hc14 => ?_) (fun hc14 => ?_)
  ·have hz : ¬ (L.getD i EntT.zero).Z := by simpa using hc14
   refine GS ?_
   refine TL ?_
   refine RA rfl ?_
   refine RN ?_
   refine A.ret ?_
   refine End.ret_block ?_
   refine End.ret_then ?_
   refine End.ret_then ?_
   refine End.ret_block ?_
   refine End.ret_then ?_
   first | exact End.ret1 rfl rfl (Le.v (congrArg Value.bool (decide_eq_false (fun h => hz (h i hi))).symm)) | exact End.ret1 rfl rfl (Le.v (congrArg Value.bool (decide_eq_true (fun j hj => hG.2 j (by omega))).symm))
  ·have hz : (L.getD i EntT.zero).Z := by simpa using hc14
   refine A.skip ?_
   refine End.normal_block ?_
   refine EN ?_
   refine GE ?_
   refine TL ?_
   refine RBS rfl rfl rfl (nI (i + 1)) (wrap_eq (by omega) (by omega)) ?_
   refine RM rfl ?_
   refine RN ?_
   refine End.normal_then ?_
   refine End.again (i + 1) ?_ ?_ ?_
   ·exact ⟨by omega, fun j hj => (Nat.lt_or_ge j i).elim (hG.2 j) fun h => by rw [show j = i from by omega]; exact hz⟩
   ·show _ - _ < _ - _; omega
   ·exact (KC 3 rfl (KC 6 rfl (KC 7 rfl (KC 8 rfl (KC 1000003 rfl (KC 1900000 rfl KN))))))
 ·have hi2 : i = k := by have := hG.1; simp at hc9; omega
  refine A.exit ?_
  refine End.exit_then ?_
  refine End.exit_then ?_
  refine End.exit_here ?_
  refine EN ?_
  refine GS ?_
  refine TL ?_
  refine RA rfl ?_
  refine RN ?_
  refine A.ret ?_
  first | exact End.ret1 rfl rfl (Le.v (congrArg Value.bool (decide_eq_false (fun h => hz (h i hi))).symm)) | exact End.ret1 rfl rfl (Le.v (congrArg Value.bool (decide_eq_true (fun j hj => hG.2 j (by omega))).symm))
theorem checkPartsR_z (L : List RecT) (O : List EntT) (hL : L.length = 4) (hO : O.length = 4) (hf : ∀ r ∈ L, r.Fit) (hfo : ∀ r ∈ O, r.Fit) (hz : ¬ ∀ i, i < 4 → (O.getD i EntT.zero).Z) : Fn Tryd.prog 38 [.v (aggV (recsV L)), .v (.func (.func 39) #[] #[]), .v (aggV (entsV O))] (.v (.int .i64 (1))) := by
 refine Fn.of Tryd.func38 rfl (by kernel_rfl) Tryd.ntmps38 (by simp) (fun w => [(0, .v (aggV (recsV L))), (1, .v (.func (.func 39) #[] #[])), (2, .v (aggV (entsV O)))]) (fun w => (Start.v rfl (Start.v rfl (Start.v rfl Start.nil)))) fun w₀ => ?_
 refine GS ?_
 refine TN 0 ?_
 refine RN ?_
 refine ⟨_, _, eff_box (n := 24) (d := 3) (k := 1000003) rfl (by decide), fun b3 hb3 => ?_⟩
 have hBb3 := hb3.1
 refine TN 1 ?_
 refine RN ?_
 refine ⟨_, _, eff_box (n := 24) (d := 5) (k := 1000005) rfl (by decide), fun b5 hb5 => ?_⟩
 have hBb5 := hb5.1
 refine TL ?_
 refine RA rfl ?_
 refine RN ?_
 refine A.seq ?_
 refine GS ?_
 refine TL ?_
 refine RS (ok_sliceN 0 4 Tryd.underlying39 size38 rfl (.inr ⟨rfl, rfl⟩) (.inr ⟨rfl, rfl, rfl⟩) (.inr ⟨rfl, rfl⟩) (by decide) (by decide) (by decide)) ?_; refine RZ (.slice (some ⟨b5, 0, none⟩) 4 4) (by rfl) ?_
 refine RS (ok_callK 1000005 (allZeroE_fn b5 39 0 4 4 (entsV O) O hO (by decide) hfo (by rw [List.drop_zero, List.take_of_length_le (Nat.le_of_eq (flat_length (EntT.lens hfo)))]) (by rw [flat_length (EntT.lens hfo), hO]; decide)) (by decide) rfl (A1 rfl)) ?_; refine RZ (.bool false) (congrArg Value.bool (decide_eq_false hz)) ?_
 refine RS (ok_not rfl) ?_
 refine RN ?_
 refine A.yes rfl ?_
 refine GS ?_
 refine TL ?_
 refine RA rfl ?_
 refine RN ?_
 refine A.ret ?_
 refine End.ret_then ?_
 exact End.ret1 rfl rfl (by first | exact Le.refl _ | exact Le.old _ _)
theorem checkPartsR_fn (L : List RecT) (O : List EntT) (hL : L.length = 4) (hO : O.length = 4) (hf : ∀ r ∈ L, r.Fit) (hfo : ∀ r ∈ O, r.Fit) (hz : ∀ i, i < 4 → (O.getD i EntT.zero).Z) : Fn Tryd.prog 38 [.v (aggV (recsV L)), .v (.func (.func 39) #[] #[]), .v (aggV (entsV O))] (.v (.int .i64 (fst4 fun i => (L.getD i RecT.zero).ck))) := by
 refine Fn.of Tryd.func38 rfl (by kernel_rfl) Tryd.ntmps38 (by simp) (fun w => [(0, .v (aggV (recsV L))), (1, .v (.func (.func 39) #[] #[])), (2, .v (aggV (entsV O)))]) (fun w => (Start.v rfl (Start.v rfl (Start.v rfl Start.nil)))) fun w₀ => ?_
 refine GS ?_
 refine TN 0 ?_
 refine RN ?_
 refine ⟨_, _, eff_box (n := 24) (d := 3) (k := 1000003) rfl (by decide), fun b3 hb3 => ?_⟩
 have hBb3 := hb3.1
 refine TN 1 ?_
 refine RN ?_
 refine ⟨_, _, eff_box (n := 24) (d := 5) (k := 1000005) rfl (by decide), fun b5 hb5 => ?_⟩
 have hBb5 := hb5.1
 refine TL ?_
 refine RA rfl ?_
 refine RN ?_
 refine A.seq ?_
 refine GS ?_
 refine TL ?_
 refine RS (ok_sliceN 0 4 Tryd.underlying39 size38 rfl (.inr ⟨rfl, rfl⟩) (.inr ⟨rfl, rfl, rfl⟩) (.inr ⟨rfl, rfl⟩) (by decide) (by decide) (by decide)) ?_; refine RZ (.slice (some ⟨b5, 0, none⟩) 4 4) (by rfl) ?_
 refine RS (ok_callK 1000005 (allZeroE_fn b5 39 0 4 4 (entsV O) O hO (by decide) hfo (by rw [List.drop_zero, List.take_of_length_le (Nat.le_of_eq (flat_length (EntT.lens hfo)))]) (by rw [flat_length (EntT.lens hfo), hO]; decide)) (by decide) rfl (A1 rfl)) ?_; refine RZ (.bool true) (congrArg Value.bool (decide_eq_true hz)) ?_
 refine RS (ok_not rfl) ?_
 refine RN ?_
 refine A.no rfl ?_
 refine A.skip ?_
 refine EN ?_
 refine A.seq ?_
 refine GS ?_
 refine TL ?_
 refine RS (ok_loadA (s := 1000003) (by decide) Tryd.underlying36 rfl (size36.of (by rw [flat_length (RecT.lens hf), hL])) rfl rfl) ?_
 refine RM rfl ?_
 refine RN ?_
 refine A.block ?_
 refine A.loop (ι := Nat) (fun i => i ≤ 4 ∧ ∀ j, j < i → (L.getD j RecT.zero).ck = 0) (fun i => [(1, .v (.func (.func 39) #[] #[])), (13, .v (aggV (recsV L))), (14, .v (nI (i)))]) (fun i => 4 - i) 0 ?_ ?_ ?_
 ·exact ⟨Nat.zero_le _, fun j h => absurd h (Nat.not_lt_zero _)⟩
 ·exact (KC 1 rfl (KC 13 rfl (KE 14 rfl (by rfl) KN)))
 intro i hG
 refine GS ?_
 refine TL ?_
 refine RB rfl rfl rfl ?_
 refine RN ?_
 refine A.seq ?_
 refine A.cond rfl (fun hc15 => ?_) (fun hc15 => ?_)
 ·have hi : i < 4 := by simp at hc15; omega
  refine A.skip ?_
  refine EN ?_
  refine A.seq ?_
  refine A.block ?_
  refine GS ?_
  refine TN 1 ?_
  refine RS (ok_indexAgg i Tryd.underlying36 Tryd.underlying35 rfl size35 rfl rfl rfl hi (flat_getD (RecT.lens hf) (by omega) RecT.zero)) ?_
  refine RN ?_
  refine ⟨_, _, eff_alloc (n := 24) (d := 8) (k := 1000008) zero35 (by decide), fun b8 hb8 => ?_⟩
  have hBb8 := hb8.1
  refine TF 2 ?_
  refine RN ?_
  refine ⟨_, eff_storeA (n := 24) (s := 1000008) (size35.of ((hf (L.getD i RecT.zero) (getD_mem4 hL hi _)).len)) rfl rfl (by first | exact NodT.one _ | exact RecT.one _ | exact EntT.one _ | exact RecT.all1 _ | exact EntT.all1 _ | exact all_byte _ | exact all_bytes _) hBb8 rfl (by first | rfl | (rw [(hf (L.getD i RecT.zero) (getD_mem4 hL hi _)).len]; rfl)) (LV 1 rfl (LV 8 rfl (LV 13 rfl (LV 14 rfl LN)))), ?_⟩
  refine TL ?_
  refine RN ?_
  refine GS ?_
  refine TL ?_
  refine RM rfl ?_
  refine RS (ok_loadA (s := 1000008) (by decide) Tryd.underlying35 rfl (size35.of ((hf (L.getD i RecT.zero) (getD_mem4 hL hi _)).len)) rfl rfl) ?_
  refine RS (ok_callV0 (CheckR_fn (L.getD i RecT.zero).x (L.getD i RecT.zero).s (L.getD i RecT.zero).c (L.getD i RecT.zero).t (hf (L.getD i RecT.zero) (getD_mem4 hL hi _)).t) rfl (A1 rfl)) ?_; refine RZ (.int .i64 (L.getD i RecT.zero).ck) (rfl) ?_
  refine RA rfl ?_
  refine RN ?_
  refine GS ?_
  refine TL ?_
  refine RM rfl ?_
  refine RB rfl rfl rfl ?_
  refine RN ?_
  refine A.cond rfl (fun hc21 => ?_) (fun hc21 => ?_)
  ·have hk : (L.getD i RecT.zero).ck ≠ 0 := by simpa using hc21
   refine GS ?_
   refine TL ?_
   refine RM rfl ?_
   refine RA rfl ?_
   refine RN ?_
   refine A.ret ?_
   refine End.ret_block ?_
   refine End.ret_then ?_
   refine End.ret_then ?_
   refine End.ret_block ?_
   refine End.ret_then ?_
   first | exact End.ret1 rfl rfl (Le.v (congrArg (Value.int .i64) (fst4_at (f := fun i => (L.getD i RecT.zero).ck) hi hG.2 hk))) | exact End.ret1 rfl rfl (Le.v (congrArg (Value.int .i64) (fst4_no (f := fun i => (L.getD i RecT.zero).ck) (fun j hj => hG.2 j (by omega))).symm))
  ·have hk : (L.getD i RecT.zero).ck = 0 := by simpa using hc21
   refine A.skip ?_
   refine End.normal_block ?_
   refine EN ?_
   refine GE ?_
   refine TL ?_
   refine RBS rfl rfl rfl (nI (i + 1)) (wrap_eq (by omega) (by omega)) ?_
   refine RM rfl ?_
   refine RN ?_
   refine End.normal_then ?_
   refine End.again (i + 1) ?_ ?_ ?_
   ·exact ⟨by omega, fun j hj => (Nat.lt_or_ge j i).elim (hG.2 j) fun h => by rw [show j = i from by omega]; exact hk⟩
   ·show _ - _ < _ - _; omega
   ·exact (KC 1 rfl (KC 13 rfl (KC 14 rfl KN)))
 ·have hi2 : i = 4 := by have := hG.1; simp at hc15; omega
  refine A.exit ?_
  refine End.exit_then ?_
  refine End.exit_then ?_
  refine End.exit_here ?_
  refine EN ?_
  refine GS ?_
  refine TL ?_
  refine RA rfl ?_
  refine RN ?_
  refine A.ret ?_
  first | exact End.ret1 rfl rfl (Le.v (congrArg (Value.int .i64) (fst4_at (f := fun i => (L.getD i RecT.zero).ck) hi hG.2 hk))) | exact End.ret1 rfl rfl (Le.v (congrArg (Value.int .i64) (fst4_no (f := fun i => (L.getD i RecT.zero).ck) (fun j hj => hG.2 j (by omega))).symm))
theorem checkPartsE_z (L : List EntT) (O : List RecT) (hL : L.length = 4) (hO : O.length = 4) (hf : ∀ r ∈ L, r.Fit) (hfo : ∀ r ∈ O, r.Fit) (hz : ¬ ∀ i, i < 4 → (O.getD i RecT.zero).Z) : Fn Tryd.prog 40 [.v (aggV (entsV L)), .v (.func (.func 41) #[] #[]), .v (aggV (recsV O))] (.v (.int .i64 (1))) := by
 refine Fn.of Tryd.func40 rfl (by kernel_rfl) Tryd.ntmps40 (by simp) (fun w => [(0, .v (aggV (entsV L))), (1, .v (.func (.func 41) #[] #[])), (2, .v (aggV (recsV O)))]) (fun w => (Start.v rfl (Start.v rfl (Start.v rfl Start.nil)))) fun w₀ => ?_
 refine GS ?_
 refine TN 0 ?_
 refine RN ?_
 refine ⟨_, _, eff_box (n := 24) (d := 3) (k := 1000003) rfl (by decide), fun b3 hb3 => ?_⟩
 have hBb3 := hb3.1
 refine TN 1 ?_
 refine RN ?_
 refine ⟨_, _, eff_box (n := 24) (d := 5) (k := 1000005) rfl (by decide), fun b5 hb5 => ?_⟩
 have hBb5 := hb5.1
 refine TL ?_
 refine RA rfl ?_
 refine RN ?_
 refine A.seq ?_
 refine GS ?_
 refine TL ?_
 refine RS (ok_sliceN 0 4 Tryd.underlying36 size35 rfl (.inr ⟨rfl, rfl⟩) (.inr ⟨rfl, rfl, rfl⟩) (.inr ⟨rfl, rfl⟩) (by decide) (by decide) (by decide)) ?_; refine RZ (.slice (some ⟨b5, 0, none⟩) 4 4) (by rfl) ?_
 refine RS (ok_callK 1000005 (allZeroR_fn b5 36 0 4 4 (recsV O) O hO (by decide) hfo (by rw [List.drop_zero, List.take_of_length_le (Nat.le_of_eq (flat_length (RecT.lens hfo)))]) (by rw [flat_length (RecT.lens hfo), hO]; decide)) (by decide) rfl (A1 rfl)) ?_; refine RZ (.bool false) (congrArg Value.bool (decide_eq_false hz)) ?_
 refine RS (ok_not rfl) ?_
 refine RN ?_
 refine A.yes rfl ?_
 refine GS ?_
 refine TL ?_
 refine RA rfl ?_
 refine RN ?_
 refine A.ret ?_
 refine End.ret_then ?_
 exact End.ret1 rfl rfl (by first | exact Le.refl _ | exact Le.old _ _)
theorem checkPartsE_fn (L : List EntT) (O : List RecT) (hL : L.length = 4) (hO : O.length = 4) (hf : ∀ r ∈ L, r.Fit) (hfo : ∀ r ∈ O, r.Fit) (hz : ∀ i, i < 4 → (O.getD i RecT.zero).Z) : Fn Tryd.prog 40 [.v (aggV (entsV L)), .v (.func (.func 41) #[] #[]), .v (aggV (recsV O))] (.v (.int .i64 (fst4 fun i => (L.getD i EntT.zero).ck))) := by
 refine Fn.of Tryd.func40 rfl (by kernel_rfl) Tryd.ntmps40 (by simp) (fun w => [(0, .v (aggV (entsV L))), (1, .v (.func (.func 41) #[] #[])), (2, .v (aggV (recsV O)))]) (fun w => (Start.v rfl (Start.v rfl (Start.v rfl Start.nil)))) fun w₀ => ?_
 refine GS ?_
 refine TN 0 ?_
 refine RN ?_
 refine ⟨_, _, eff_box (n := 24) (d := 3) (k := 1000003) rfl (by decide), fun b3 hb3 => ?_⟩
 have hBb3 := hb3.1
 refine TN 1 ?_
 refine RN ?_
 refine ⟨_, _, eff_box (n := 24) (d := 5) (k := 1000005) rfl (by decide), fun b5 hb5 => ?_⟩
 have hBb5 := hb5.1
 refine TL ?_
 refine RA rfl ?_
 refine RN ?_
 refine A.seq ?_
 refine GS ?_
 refine TL ?_
 refine RS (ok_sliceN 0 4 Tryd.underlying36 size35 rfl (.inr ⟨rfl, rfl⟩) (.inr ⟨rfl, rfl, rfl⟩) (.inr ⟨rfl, rfl⟩) (by decide) (by decide) (by decide)) ?_; refine RZ (.slice (some ⟨b5, 0, none⟩) 4 4) (by rfl) ?_
 refine RS (ok_callK 1000005 (allZeroR_fn b5 36 0 4 4 (recsV O) O hO (by decide) hfo (by rw [List.drop_zero, List.take_of_length_le (Nat.le_of_eq (flat_length (RecT.lens hfo)))]) (by rw [flat_length (RecT.lens hfo), hO]; decide)) (by decide) rfl (A1 rfl)) ?_; refine RZ (.bool true) (congrArg Value.bool (decide_eq_true hz)) ?_
 refine RS (ok_not rfl) ?_
 refine RN ?_
 refine A.no rfl ?_
 refine A.skip ?_
 refine EN ?_
 refine A.seq ?_
 refine GS ?_
 refine TL ?_
 refine RS (ok_loadA (s := 1000003) (by decide) Tryd.underlying39 rfl (size39.of (by rw [flat_length (EntT.lens hf), hL])) rfl rfl) ?_
 refine RM rfl ?_
 refine RN ?_
 refine A.block ?_
 refine A.loop (ι := Nat) (fun i => i ≤ 4 ∧ ∀ j, j < i → (L.getD j EntT.zero).ck = 0) (fun i => [(1, .v (.func (.func 41) #[] #[])), (13, .v (aggV (entsV L))), (14, .v (nI (i)))]) (fun i => 4 - i) 0 ?_ ?_ ?_
 ·exact ⟨Nat.zero_le _, fun j h => absurd h (Nat.not_lt_zero _)⟩
 ·exact (KC 1 rfl (KC 13 rfl (KE 14 rfl (by rfl) KN)))
 intro i hG
 refine GS ?_
 refine TL ?_
 refine RB rfl rfl rfl ?_
 refine RN ?_
 refine A.seq ?_
 refine A.cond rfl (fun hc15 => ?_) (fun hc15 => ?_)
 ·have hi : i < 4 := by simp at hc15; omega
  refine A.skip ?_
  refine EN ?_
  refine A.seq ?_
  refine A.block ?_
  refine GS ?_
  refine TN 1 ?_
  refine RS (ok_indexAgg i Tryd.underlying39 Tryd.underlying38 rfl size38 rfl rfl rfl hi (flat_getD (EntT.lens hf) (by omega) EntT.zero)) ?_
  refine RN ?_
  refine ⟨_, _, eff_alloc (n := 24) (d := 8) (k := 1000008) zero38 (by decide), fun b8 hb8 => ?_⟩
  have hBb8 := hb8.1
  refine TF 2 ?_
  refine RN ?_
  refine ⟨_, eff_storeA (n := 24) (s := 1000008) (size38.of ((hf (L.getD i EntT.zero) (getD_mem4 hL hi _)).len)) rfl rfl (by first | exact NodT.one _ | exact RecT.one _ | exact EntT.one _ | exact RecT.all1 _ | exact EntT.all1 _ | exact all_byte _ | exact all_bytes _) hBb8 rfl (by first | rfl | (rw [(hf (L.getD i EntT.zero) (getD_mem4 hL hi _)).len]; rfl)) (LV 1 rfl (LV 8 rfl (LV 13 rfl (LV 14 rfl LN)))), ?_⟩
  refine TL ?_
  refine RN ?_
  refine GS ?_
  refine TL ?_
  refine RM rfl ?_
  refine RS (ok_loadA (s := 1000008) (by decide) Tryd.underlying38 rfl (size38.of ((hf (L.getD i EntT.zero) (getD_mem4 hL hi _)).len)) rfl rfl) ?_
  refine RS (ok_callV0 (CheckE_fn (L.getD i EntT.zero).x (L.getD i EntT.zero).t (hf (L.getD i EntT.zero) (getD_mem4 hL hi _)).t) rfl (A1 rfl)) ?_; refine RZ (.int .i64 (L.getD i EntT.zero).ck) (rfl) ?_
  refine RA rfl ?_
  refine RN ?_
  refine GS ?_
  refine TL ?_
  refine RM rfl ?_
  refine RB rfl rfl rfl ?_
  refine RN ?_
  refine A.cond rfl (fun hc21 => ?_) (fun hc21 => ?_)
  ·have hk : (L.getD i EntT.zero).ck ≠ 0 := by simpa using hc21
   refine GS ?_
   refine TL ?_
   refine RM rfl ?_
   refine RA rfl ?_
   refine RN ?_
   refine A.ret ?_
   refine End.ret_block ?_
   refine End.ret_then ?_
   refine End.ret_then ?_
   refine End.ret_block ?_
   refine End.ret_then ?_
   first | exact End.ret1 rfl rfl (Le.v (congrArg (Value.int .i64) (fst4_at (f := fun i => (L.getD i EntT.zero).ck) hi hG.2 hk))) | exact End.ret1 rfl rfl (Le.v (congrArg (Value.int .i64) (fst4_no (f := fun i => (L.getD i EntT.zero).ck) (fun j hj => hG.2 j (by omega))).symm))
  ·have hk : (L.getD i EntT.zero).ck = 0 := by simpa using hc21
   refine A.skip ?_
   refine End.normal_block ?_
   refine EN ?_
   refine GE ?_
   refine TL ?_
   refine RBS rfl rfl rfl (nI (i + 1)) (wrap_eq (by omega) (by omega)) ?_
   refine RM rfl ?_
   refine RN ?_
   refine End.normal_then ?_
   refine End.again (i + 1) ?_ ?_ ?_
   ·exact ⟨by omega, fun j hj => (Nat.lt_or_ge j i).elim (hG.2 j) fun h => by rw [show j = i from by omega]; exact hk⟩
   ·show _ - _ < _ - _; omega
   ·exact (KC 1 rfl (KC 13 rfl (KC 14 rfl KN)))
 ·have hi2 : i = 4 := by have := hG.1; simp at hc15; omega
  refine A.exit ?_
  refine End.exit_then ?_
  refine End.exit_then ?_
  refine End.exit_here ?_
  refine EN ?_
  refine GS ?_
  refine TL ?_
  refine RA rfl ?_
  refine RN ?_
  refine A.ret ?_
  first | exact End.ret1 rfl rfl (Le.v (congrArg (Value.int .i64) (fst4_at (f := fun i => (L.getD i EntT.zero).ck) hi hG.2 hk))) | exact End.ret1 rfl rfl (Le.v (congrArg (Value.int .i64) (fst4_no (f := fun i => (L.getD i EntT.zero).ck) (fun j hj => hG.2 j (by omega))).symm))
theorem nCheck_hi (x : NodT) (hx : x.Fit) (h : 5 < x.l.toNat) : Fn Tryd.prog 11 [.v (aggV x.v)] (.v (.int .i64 (1))) := by
 refine Fn.of Tryd.func11 rfl (by kernel_rfl) Tryd.ntmps11 (by simp) (fun w => [(0, .v (aggV x.v))]) (fun w => (Start.v rfl Start.nil)) fun w₀ => ?_
 refine GS ?_
 refine TN 0 ?_
 refine RN ?_
 refine ⟨_, _, eff_box (n := 20) (d := 1) (k := 1000001) rfl (by decide), fun b1 hb1 => ?_⟩
 have hBb1 := hb1.1
 refine TL ?_
 refine RA rfl ?_
 refine RN ?_
 refine A.seq ?_
 refine A.block ?_
 refine GS ?_
 refine TL ?_
 refine RS (ok_field field41_0 (by decide) rfl) ?_
 refine RS (ok_loadV (s := 1000001) (by decide) Tryd.underlying5 rfl rfl rfl (rfl)) ?_
 refine RBS rfl rfl rfl (.bool true) (by first | rfl | (simp; done) | (simp; omega) | (simp [*]; done) | (simp [*]; omega)) ?_
 refine RA rfl ?_
 refine RN ?_
 refine A.yes rfl ?_
 refine GS ?_
 refine TL ?_
 refine RA rfl ?_
 refine RN ?_
 refine A.ret ?_
 refine End.ret_block ?_
 refine End.ret_then ?_
 exact End.ret1 rfl rfl (by first | exact Le.refl _ | exact Le.old _ _)
theorem nCheck_Rz (x : NodT) (hx : x.Fit) (h : x.l.toNat = 0) (hz : ¬ ∀ i, i < 4 → (x.e i).Z) : Fn Tryd.prog 11 [.v (aggV x.v)] (.v (.int .i64 (1))) := by
 refine Fn.of Tryd.func11 rfl (by kernel_rfl) Tryd.ntmps11 (by simp) (fun w => [(0, .v (aggV x.v))]) (fun w => (Start.v rfl Start.nil)) fun w₀ => ?_
 refine GS ?_
 refine TN 0 ?_
 refine RN ?_
 refine ⟨_, _, eff_box (n := 20) (d := 1) (k := 1000001) rfl (by decide), fun b1 hb1 => ?_⟩
 have hBb1 := hb1.1
 refine TL ?_
 refine RA rfl ?_
 refine RN ?_
 refine A.seq ?_
 refine A.block ?_
 refine GS ?_
 refine TL ?_
 refine RS (ok_field field41_0 (by decide) rfl) ?_
 refine RS (ok_loadV (s := 1000001) (by decide) Tryd.underlying5 rfl rfl rfl (rfl)) ?_
 refine RBS rfl rfl rfl (.bool false) (by first | rfl | (simp; done) | (simp; omega) | (simp [*]; done) | (simp [*]; omega)) ?_
 refine RA rfl ?_
 refine RN ?_
 refine A.no rfl ?_
 refine GS ?_
 refine TL ?_
 refine RS (ok_loadA (s := 1000001) (by decide) Tryd.underlying41 rfl (size41.of (hx.len)) rfl rfl) ?_
 refine RS (ok_call (isGroup_y x hx h) (A1 rfl)) ?_
 refine RA rfl ?_
 refine RN ?_
 refine A.yes rfl ?_
 refine GS ?_
 refine TL ?_
 refine RS (ok_field field41_2 (by decide) rfl) ?_
 refine RS (ok_loadP (s := 1000001) (by decide) Tryd.underlying36 rfl size36 rfl rfl (by rw [hx.len]; decide) (hx.getR)) ?_
 refine RS (ok_field field41_3 (by decide) rfl) ?_
 refine RS (ok_loadP (s := 1000001) (by decide) Tryd.underlying39 rfl size39 rfl rfl (by rw [hx.len]; decide) (hx.getE)) ?_
 refine RS (ok_call (checkPartsR_z x.R x.E hx.lr hx.le hx.fr hx.fe hz) (A3 rfl rfl rfl)) ?_
 refine RA rfl ?_
 refine RN ?_
 refine A.ret ?_
 refine End.ret_block ?_
 refine End.ret_then ?_
 exact End.ret1 rfl rfl (by first | exact Le.refl _ | exact Le.old _ _)
theorem nCheck_R (x : NodT) (hx : x.Fit) (h : x.l.toNat = 0) (hz : ∀ i, i < 4 → (x.e i).Z) : Fn Tryd.prog 11 [.v (aggV x.v)] (.v (.int .i64 (fst4 fun i => (x.r i).ck))) := by
 refine Fn.of Tryd.func11 rfl (by kernel_rfl) Tryd.ntmps11 (by simp) (fun w => [(0, .v (aggV x.v))]) (fun w => (Start.v rfl Start.nil)) fun w₀ => ?_
 refine GS ?_
 refine TN 0 ?_
 refine RN ?_
 refine ⟨_, _, eff_box (n := 20) (d := 1) (k := 1000001) rfl (by decide), fun b1 hb1 => ?_⟩
 have hBb1 := hb1.1
 refine TL ?_
 refine RA rfl ?_
 refine RN ?_
 refine A.seq ?_
 refine A.block ?_
 refine GS ?_
 refine TL ?_
 refine RS (ok_field field41_0 (by decide) rfl) ?_
 refine RS (ok_loadV (s := 1000001) (by decide) Tryd.underlying5 rfl rfl rfl (rfl)) ?_
 refine RBS rfl rfl rfl (.bool false) (by first | rfl | (simp; done) | (simp; omega) | (simp [*]; done) | (simp [*]; omega)) ?_
 refine RA rfl ?_
 refine RN ?_
 refine A.no rfl ?_
 refine GS ?_
 refine TL ?_
 refine RS (ok_loadA (s := 1000001) (by decide) Tryd.underlying41 rfl (size41.of (hx.len)) rfl rfl) ?_
 refine RS (ok_call (isGroup_y x hx h) (A1 rfl)) ?_
 refine RA rfl ?_
 refine RN ?_
 refine A.yes rfl ?_
 refine GS ?_
 refine TL ?_
 refine RS (ok_field field41_2 (by decide) rfl) ?_
 refine RS (ok_loadP (s := 1000001) (by decide) Tryd.underlying36 rfl size36 rfl rfl (by rw [hx.len]; decide) (hx.getR)) ?_
 refine RS (ok_field field41_3 (by decide) rfl) ?_
 refine RS (ok_loadP (s := 1000001) (by decide) Tryd.underlying39 rfl size39 rfl rfl (by rw [hx.len]; decide) (hx.getE)) ?_
 refine RS (ok_call (checkPartsR_fn x.R x.E hx.lr hx.le hx.fr hx.fe hz) (A3 rfl rfl rfl)) ?_
 refine RA rfl ?_
 refine RN ?_
 refine A.ret ?_
 refine End.ret_block ?_
 refine End.ret_then ?_
 exact End.ret1 rfl rfl (by first | exact Le.refl _ | exact Le.old _ _)
theorem nCheck_Ez (x : NodT) (hx : x.Fit) (h5 : ¬ 5 < x.l.toNat) (h : ¬ x.l.toNat = 0) (hz : ¬ ∀ i, i < 4 → (x.r i).Z) : Fn Tryd.prog 11 [.v (aggV x.v)] (.v (.int .i64 (1))) := by
 refine Fn.of Tryd.func11 rfl (by kernel_rfl) Tryd.ntmps11 (by simp) (fun w => [(0, .v (aggV x.v))]) (fun w => (Start.v rfl Start.nil)) fun w₀ => ?_
 refine GS ?_
 refine TN 0 ?_
 refine RN ?_
 refine ⟨_, _, eff_box (n := 20) (d := 1) (k := 1000001) rfl (by decide), fun b1 hb1 => ?_⟩
 have hBb1 := hb1.1
 refine TL ?_
 refine RA rfl ?_
 refine RN ?_
 refine A.seq ?_
 refine A.block ?_
 refine GS ?_
 refine TL ?_
 refine RS (ok_field field41_0 (by decide) rfl) ?_
 refine RS (ok_loadV (s := 1000001) (by decide) Tryd.underlying5 rfl rfl rfl (rfl)) ?_
 refine RBS rfl rfl rfl (.bool false) (by first | rfl | (simp; done) | (simp; omega) | (simp [*]; done) | (simp [*]; omega)) ?_
 refine RA rfl ?_
 refine RN ?_
 refine A.no rfl ?_
 refine GS ?_
 refine TL ?_
 refine RS (ok_loadA (s := 1000001) (by decide) Tryd.underlying41 rfl (size41.of (hx.len)) rfl rfl) ?_
 refine RS (ok_call (isGroup_n x hx h) (A1 rfl)) ?_
 refine RA rfl ?_
 refine RN ?_
 refine A.no rfl ?_
 refine A.skip ?_
 refine End.normal_block ?_
 refine EN ?_
 refine GS ?_
 refine TL ?_
 refine RS (ok_field field41_3 (by decide) rfl) ?_
 refine RS (ok_loadP (s := 1000001) (by decide) Tryd.underlying39 rfl size39 rfl rfl (by rw [hx.len]; decide) (hx.getE)) ?_
 refine RS (ok_field field41_2 (by decide) rfl) ?_
 refine RS (ok_loadP (s := 1000001) (by decide) Tryd.underlying36 rfl size36 rfl rfl (by rw [hx.len]; decide) (hx.getR)) ?_
 refine RS (ok_call (checkPartsE_z x.E x.R hx.le hx.lr hx.fe hx.fr hz) (A3 rfl rfl rfl)) ?_
 refine RA rfl ?_
 refine RN ?_
 refine A.ret ?_
 exact End.ret1 rfl rfl (by first | exact Le.refl _ | exact Le.old _ _)
theorem nCheck_E (x : NodT) (hx : x.Fit) (h5 : ¬ 5 < x.l.toNat) (h : ¬ x.l.toNat = 0) (hz : ∀ i, i < 4 → (x.r i).Z) : Fn Tryd.prog 11 [.v (aggV x.v)] (.v (.int .i64 (fst4 fun i => (x.e i).ck))) := by
 refine Fn.of Tryd.func11 rfl (by kernel_rfl) Tryd.ntmps11 (by simp) (fun w => [(0, .v (aggV x.v))]) (fun w => (Start.v rfl Start.nil)) fun w₀ => ?_
 refine GS ?_
 refine TN 0 ?_
 refine RN ?_
 refine ⟨_, _, eff_box (n := 20) (d := 1) (k := 1000001) rfl (by decide), fun b1 hb1 => ?_⟩
 have hBb1 := hb1.1
 refine TL ?_
 refine RA rfl ?_
 refine RN ?_
 refine A.seq ?_
 refine A.block ?_
 refine GS ?_
 refine TL ?_
 refine RS (ok_field field41_0 (by decide) rfl) ?_
 refine RS (ok_loadV (s := 1000001) (by decide) Tryd.underlying5 rfl rfl rfl (rfl)) ?_
 refine RBS rfl rfl rfl (.bool false) (by first | rfl | (simp; done) | (simp; omega) | (simp [*]; done) | (simp [*]; omega)) ?_
 refine RA rfl ?_
 refine RN ?_
 refine A.no rfl ?_
 refine GS ?_
 refine TL ?_
 refine RS (ok_loadA (s := 1000001) (by decide) Tryd.underlying41 rfl (size41.of (hx.len)) rfl rfl) ?_
 refine RS (ok_call (isGroup_n x hx h) (A1 rfl)) ?_
 refine RA rfl ?_
 refine RN ?_
 refine A.no rfl ?_
 refine A.skip ?_
 refine End.normal_block ?_
 refine EN ?_
 refine GS ?_
 refine TL ?_
 refine RS (ok_field field41_3 (by decide) rfl) ?_
 refine RS (ok_loadP (s := 1000001) (by decide) Tryd.underlying39 rfl size39 rfl rfl (by rw [hx.len]; decide) (hx.getE)) ?_
 refine RS (ok_field field41_2 (by decide) rfl) ?_
 refine RS (ok_loadP (s := 1000001) (by decide) Tryd.underlying36 rfl size36 rfl rfl (by rw [hx.len]; decide) (hx.getR)) ?_
 refine RS (ok_call (checkPartsE_fn x.E x.R hx.le hx.lr hx.fe hx.fr hz) (A3 rfl rfl rfl)) ?_
 refine RA rfl ?_
 refine RN ?_
 refine A.ret ?_
 exact End.ret1 rfl rfl (by first | exact Le.refl _ | exact Le.old _ _)
theorem nCheck_fn (x : NodT) (hx : x.Fit) : Fn Tryd.prog 11 [.v (aggV x.v)] (.v (.int .i64 (x.ck))) := by
 by_cases h5 : 5 < x.l.toNat
 ·rw [NodT.ck_hi h5]; exact nCheck_hi x hx h5
 by_cases h : x.l.toNat = 0
 ·by_cases hz : ∀ i, i < 4 → (x.e i).Z
  ·rw [NodT.ck_R h hz]; exact nCheck_R x hx h hz
  ·rw [NodT.ck_Rz h hz]; exact nCheck_Rz x hx h hz
 ·by_cases hz : ∀ i, i < 4 → (x.r i).Z
  ·rw [NodT.ck_E h5 h hz]; exact nCheck_E x hx h5 h hz
  ·rw [NodT.ck_Ez h5 h hz]; exact nCheck_Ez x hx h5 h hz
theorem put_fnB (V K : Nat) (hv : V < 18446744073709551616) (hk : K ≤ 8) : FnB Tryd.prog 65 [.v (.int .u64 (V : Int)), .v (.int .i64 (K : Int))] (fun B => fresh B 5 ((be K V).map byteV) K) := by
 refine FnB.of Tryd.func65 rfl (by kernel_rfl) Tryd.ntmps65 (by simp) (fun w => [(0, .v (.int .u64 (V : Int))), (1, .v (.int .i64 (K : Int)))]) (fun w => (Start.v rfl (Start.v rfl Start.nil))) fun w₀ => ?_
 refine GS ?_
 refine TL ?_
 refine RA rfl ?_
 refine RN ?_
 refine GS ?_
 refine TL ?_
 refine RM rfl ?_
 refine RS (ok_make K Tryd.underlying44 info5 (by decide) rfl rfl rfl rfl rfl (by omega)) ?_
 refine RA rfl ?_
 refine RN ?_
 refine A.open (t := 5) (k := 1000000) rfl fun b hb => ?_
 refine A.seq ?_
 refine GS ?_
 refine TL ?_
 refine RM rfl ?_
 refine RM rfl ?_
 refine RN ?_
 refine A.block ?_
 refine A.loop (ι := Nat) (fun i => i ≤ K) (fun i => [(0, .v (.int .u64 (V : Int))), (1, .v (.int .i64 (K : Int))), (5, .v (.slice (some ⟨b, 0, none⟩) K K)), (9, .v (.int .i64 (K : Int))), (10, .v (.int .i64 (i : Int))), (1000000, blk b 5 (((be K V).take i).map byteV ++ List.replicate ((be K V).length - i) (.int .u8 0)))]) (fun i => K - i) 0 ?_ ?_ ?_
 ·exact Nat.zero_le _
 ·exact (KC 0 rfl (KC 1 rfl (KE 5 rfl (by simp) (KC 9 rfl (KC 10 rfl (KE 1000000 rfl (by simp [be_length]) KN))))))
 intro i hi
 refine GS ?_
 refine TL ?_
 refine RB rfl rfl rfl ?_
 refine RN ?_
 refine A.seq ?_
 refine A.cond rfl (fun hc11 => ?_) (fun hc11 => ?_)
 ·have hlt : i < K := by simpa using hc11
  refine A.skip ?_
  refine EN ?_
  refine A.seq ?_
  refine A.block ?_
  refine GS ?_
  refine TL ?_
  refine RM rfl ?_
  refine RA rfl ?_
  refine RN ?_
  refine GE ?_
  refine TF 11 ?_
  refine RM rfl ?_
  refine RM rfl ?_
  refine RM rfl ?_
  refine RM rfl ?_
  refine RBS rfl rfl rfl (nI (K - 1)) (by rw [wrap_i64 (by omega) (by omega)]; congr 1; omega) ?_
  refine RM rfl ?_
  refine RBS rfl rfl rfl (nI (K - 1 - i)) (by rw [wrap_i64 (by omega) (by omega)]; congr 1; omega) ?_
  refine RBS rfl rfl rfl (nI (8 * (K - 1 - i))) (by rw [wrap_i64 (by omega) (by omega)]; congr 1) ?_
  refine RS (ok_shr rfl rfl (by omega)) ?_; refine RZ (nQ (V / 256 ^ (K - 1 - i))) (by rw [Int.toNat_natCast, show min (8 * (K - 1 - i)) IntKind.u64.bits = 8 * (K - 1 - i) from by simp only [IntKind.bits]; omega, shr_nat, pow256]) ?_
  refine RS (ok_conv Tryd.underlying29 Tryd.underlying5 rfl) ?_; refine RZ (byteV (UInt8.ofNat (V / 256 ^ (K - 1 - i)))) (by rw [wrap_u8_nat]; rfl) ?_
  refine RS (ok_indexV i Tryd.underlying44 info5 rfl rfl rfl hlt) ?_
  refine RN ?_
  refine ⟨_, eff_store (n := 26) (s := 1000000) info5 rfl rfl rfl hb rfl (by simp [be_length]; omega) (Left.cons (t := 0) rfl (Stays.v _ _) (Left.cons (t := 1) rfl (Stays.v _ _) (Left.cons (t := 5) rfl (Stays.v _ _) (Left.cons (t := 9) rfl (Stays.v _ _) (Left.cons (t := 10) rfl (Stays.v _ _) Left.nil))))), ?_⟩
  refine TL ?_
  refine RN ?_
  refine End.normal_block ?_
  refine EN ?_
  refine GE ?_
  refine TL ?_
  refine RBS rfl rfl rfl (nI (i + 1)) (by rw [wrap_i64 (by omega) (by omega)]; congr 1) ?_
  refine RM rfl ?_
  refine RN ?_
  refine End.normal_then ?_
  refine End.again (i + 1) ?_ ?_ ?_
  ·show _ ≤ _; omega
  ·show _ - _ < _ - _; omega
  ·exact (KC 0 rfl (KC 1 rfl (KC 5 rfl (KC 9 rfl (KC 10 rfl (KE 1000000 rfl (by rw [Nat.zero_add]; exact congrArg _ (fill_step (be_get hlt))) KN))))))
 ·refine A.exit ?_
  refine End.exit_then ?_
  refine End.exit_then ?_
  refine End.exit_here ?_
  refine EN ?_
  refine GS ?_
  refine TL ?_
  refine RM rfl ?_
  refine RA rfl ?_
  refine RN ?_
  refine A.ret ?_
  have hK : i = K := by simp at hc11; omega
  subst hK
  exact End.fresh rfl hb rfl (by rw [List.length_map, be_length]) (k := 1000000) rfl (by rw [be_length, Nat.sub_self, List.replicate_zero, List.append_nil, List.take_of_length_le (by rw [be_length]; omega)])
theorem Put32_fnB (v : Nat) (hv : v < 4294967296) : FnB Tryd.prog 32 [.v (.int .u32 (v : Int))] (fun B => fresh B 5 ((be 4 v).map byteV) 4) := by
 refine FnB.of Tryd.func32 rfl (by kernel_rfl) Tryd.ntmps32 (by simp) (fun w => [(0, .v (.int .u32 (v : Int)))]) (fun w => (Start.v rfl Start.nil)) fun w₀ => ?_
 refine GS ?_
 refine TL ?_
 refine RA rfl ?_
 refine RN ?_
 refine GS ?_
 refine TL ?_
 refine RM rfl ?_
 refine RS (ok_conv Tryd.underlying28 Tryd.underlying29 rfl) ?_; refine RZ (.int .u64 (v : Int)) (by rw [wrap_u64 (by omega) (by omega)]) ?_
 refine RS (ok_callB (put_fnB v 4 (by omega) (by decide)) (fun _ _ => fresh_mono _ _) (A2 rfl rfl)) ?_
 refine RA rfl ?_
 refine RN ?_
 refine A.ret ?_
 exact End.ret1 rfl rfl (by first | exact Le.refl _ | exact Le.old _ _)
set_option maxHeartbeats 1000000 in
theorem writeRaw_fnL (B : Nat) (pa pb bs q N : Nat) (p l : List UInt8) (h0 : 0 < l.length) (hN : p.length + l.length ≤ N) (hN' : N ≤ 4096) (hBa : B ≤ pa) (hBs : B ≤ bs) (hq : bs < q) : FnL Tryd.prog 31 B [(3, pa), (5, bs)] [.slice (some ⟨q, 0, none⟩) l.length l.length, ptr pa, ptr pb] [(1000001, blk pa 3 [nI p.length]), (1000002, blk pb 44 [.slice (some ⟨bs, 0, none⟩) N N]), (1000003, blk bs 5 (wrt N p)), (1000004, blk q 5 (l.map byteV))] (fun _ _ => True) (fun _ => .tuple #[]) (fun b => [(1000001, blk pa 3 [nI (p.length + l.length)]), (1000003, blk bs 5 ((wrt N p).take (0 + p.length) ++ (l.take (N - p.length)).map byteV ++ (wrt N p).drop (0 + p.length + min l.length (N - p.length))))]) := by
 refine FnL.of (n := 11) (kw := 1000099) (ks := 1000098) Tryd.func31 rfl (by kernel_rfl) Tryd.ntmps31 (by simp) (by decide) (vbL_cons (vL rfl) (vbL_cons (vL rfl) (vbL_cons (vL rfl) (vbL_cons (vL rfl) vbL_nil)))) (vL rfl) (vL rfl) [(0, .v (.slice (some ⟨q, 0, none⟩) l.length l.length)), (1, .v (ptr pa)), (2, .v (ptr pb))]
  (fun p hp => by simp only [List.mem_cons, List.not_mem_nil, or_false] at hp; rcases hp with rfl | rfl | rfl <;> exact ⟨_, rfl, rfl⟩) fun w₀ w₁ hw hw₁ => ?_
 have hBpa : w₀.heap.size ≤ pa := by omega
 have hBbs : w₀.heap.size ≤ bs := by omega
 refine A.regL0 5 [0] (by kernel_rfl) (by kernel_rfl) (by kernel_rfl) (by kernel_rfl) [(1000001, blk pa 3 [nI (p.length + l.length)]), (1000003, blk bs 5 ((wrt N p).take (0 + p.length) ++ (l.take (N - p.length)).map byteV ++ (wrt N p).drop (0 + p.length + min l.length (N - p.length)))), (1000099, wroteL [(3, pa), (5, bs)] w₁)] ?_ ?_
 ·refine RS (ok_loadV (s := 1000001) (by decide) Tryd.underlying3 rfl rfl rfl (rfl)) ?_
  refine RS (ok_loadV (s := 1000002) (by decide) Tryd.underlying44 rfl rfl rfl (rfl)) ?_
  refine RS (ok_loadV (s := 1000001) (by decide) Tryd.underlying3 rfl rfl rfl (rfl)) ?_
  refine RS (ok_sliceS (l := p.length) (h := N) (m := N) Tryd.underlying44 info5 rfl (.inl ⟨_, _, rfl, rfl⟩) (.inr ⟨rfl, rfl, rfl⟩) (.inr ⟨rfl, rfl⟩) (by omega) (Nat.le_refl _) (Nat.le_refl _) (.inl (by omega))) ?_
  refine RS (OpOk.fact (ok_move rfl) (d := bytes l l.length) (s := 1000004) (by decide) rfl (slice_bytes l rfl (Nat.le_refl _) (by simp only [maxLen]; omega) (by rw [List.drop_zero, List.take_of_length_le (by simp)]))) ?_
  refine RN ?_
  intro S hS
  simp only [subs, List.map_cons, List.map_nil, List.cons_append, List.nil_append, List.mem_cons, List.not_mem_nil, or_false] at hS
  rcases hS with rfl | rfl
  ·refine ⟨2, Nat.le_of_ble_eq_true (by kernel_rfl), _, (KC 0 rfl (KC 1 rfl (KC 2 rfl (KC 4 rfl (KC 5 rfl (KC 6 rfl (KC 7 rfl (KC 8 rfl (KC 1000001 rfl (KC 1000002 rfl (KC 1000003 rfl (KC 1000004 rfl (KC 1000099 rfl KN))))))))))))), by kernel_rfl, _, rfl, _, eff_copyS (n := 11) (s := 1000003) Tryd.underlying44 info5 rfl rfl (le_byt _ _) hBbs rfl (by rw [wrt_len (by omega)]; omega) (by decide) (LV 0 rfl (LV 1 rfl (LV 2 rfl (LV 4 rfl (LV 5 rfl (LV 6 rfl (LV 7 rfl (LT 1000001 rfl (LT 1000002 rfl (LB 1000004 rfl (LeftS.cons (t := 1000099) rfl (Surv.wroteL (by simp)) LN))))))))))), ?_⟩
   refine AnyT.step 6 [] (by kernel_rfl) ?_
   refine NextT.pure (by kernel_rfl) rfl rfl rfl (OpOk.asV (nI (p.length + l.length)) (by rw [show min l.length (N - p.length) = l.length from by omega]; exact wrap_eq (by omega) (by omega)) (ok_bin rfl rfl rfl)) ?_ ?_
   ·refine AnyT.step 7 [] (by kernel_rfl) ?_
    refine NextT.eff rfl (eff_storeS (n := 11) (s := 1000001) info3 rfl rfl rfl hBpa rfl (by simp) (LV 0 rfl (LV 1 rfl (LV 2 rfl (LV 4 rfl (LV 5 rfl (LV 6 rfl (LV 7 rfl (LV 9 rfl (LV 10 rfl (LT 1000002 rfl (LT 1000003 rfl (LT 1000004 rfl (LeftS.cons (t := 1000099) rfl (Surv.wroteL (by simp)) LN)))))))))))))) ?_ ?_
    ·refine AnyT.last (by kernel_rfl) ?_
     exact (SubL.cons (t := 1000001) rfl (Le.refl _) (SubL.cons (t := 1000003) rfl (Le.refl _) (SubL.cons (t := 1000099) rfl (Le.refl _) SubL.nil)))
    exact trivial
   exact trivial
  ·refine ⟨3, Nat.le_of_ble_eq_true (by kernel_rfl), _, (KC 0 rfl (KC 1 rfl (KC 2 rfl (KC 5 rfl (KC 6 rfl (KC 7 rfl (KC 8 rfl (KC 1000001 rfl (KC 1000002 rfl (KC 1000003 rfl (KC 1000004 rfl (KC 1000099 rfl KN)))))))))))), by kernel_rfl, _, rfl, _, eff_copyS (n := 11) (s := 1000003) Tryd.underlying44 info5 rfl rfl (le_byt _ _) hBbs rfl (by rw [wrt_len (by omega)]; omega) (by decide) (LV 0 rfl (LV 1 rfl (LV 2 rfl (LV 5 rfl (LV 6 rfl (LV 7 rfl (LT 1000001 rfl (LT 1000002 rfl (LB 1000004 rfl (LeftS.cons (t := 1000099) rfl (Surv.wroteL (by simp)) LN)))))))))), ?_⟩
   refine AnyT.step 0 [] (by kernel_rfl) ?_
   refine NextT.pure (by kernel_rfl) rfl rfl rfl (ok_loadV (s := 1000001) (by decide) Tryd.underlying3 rfl rfl rfl (rfl)) ?_ ?_
   ·refine AnyT.step 6 [] (by kernel_rfl) ?_
    refine NextT.pure (by kernel_rfl) rfl rfl rfl (OpOk.asV (nI (p.length + l.length)) (by rw [show min l.length (N - p.length) = l.length from by omega]; exact wrap_eq (by omega) (by omega)) (ok_bin rfl rfl rfl)) ?_ ?_
    ·refine AnyT.step 7 [] (by kernel_rfl) ?_
     refine NextT.eff rfl (eff_storeS (n := 11) (s := 1000001) info3 rfl rfl rfl hBpa rfl (by simp) (LV 0 rfl (LV 1 rfl (LV 2 rfl (LV 4 rfl (LV 5 rfl (LV 6 rfl (LV 7 rfl (LV 9 rfl (LV 10 rfl (LT 1000002 rfl (LT 1000003 rfl (LT 1000004 rfl (LeftS.cons (t := 1000099) rfl (Surv.wroteL (by simp)) LN)))))))))))))) ?_ ?_
     ·refine AnyT.last (by kernel_rfl) ?_
      exact (SubL.cons (t := 1000001) rfl (Le.refl _) (SubL.cons (t := 1000003) rfl (Le.refl _) (SubL.cons (t := 1000099) rfl (Le.refl _) SubL.nil)))
     exact trivial
    exact trivial
   exact trivial
 ·exact End.wroteL0 (.inr rfl) rfl (kw := 1000099) rfl 0 trivial (by decide) (lookL_cons (k := 1000001) (vL rfl) rfl (lookL_cons (k := 1000003) (vL rfl) rfl lookL_nil))
theorem write_fnL (k₁ k₂ k₃ k₄ B : Nat) (pa pb bs q N : Nat) (p l : List UInt8) (h0 : 0 < l.length) (hN : p.length + l.length ≤ N) (hN' : N ≤ 4096) (hBa : B ≤ pa) (hBs : B ≤ bs) (hq : bs < q) :
  FnL Tryd.prog 31 B [(3, pa), (5, bs)] [.slice (some ⟨q, 0, none⟩) l.length l.length, ptr pa, ptr pb] [(k₁, blk pa 3 [nI p.length]), (k₂, blk pb 44 [.slice (some ⟨bs, 0, none⟩) N N]), (k₃, blk bs 5 (wrt N p)), (k₄, blk q 5 (l.map byteV))] (fun _ _ => True) (fun _ => .tuple #[]) (fun _ => [(k₁, blk pa 3 [nI (p ++ l).length]), (k₃, blk bs 5 (wrt N (p ++ l)))]) := by
 have h := writeRaw_fnL B pa pb bs q N p l h0 hN hN' hBa hBs hq
 rw [wrt_step hN, ← List.length_append] at h
 exact h.rekey rfl fun _ => rfl
set_option maxHeartbeats 1000000 in
theorem putRRaw_fnL (B : Nat) (pa pb bs N : Nat) (p : List UInt8) (L : List RecT) (hL : L.length = 4) (hf : ∀ r ∈ L, r.Fit) (hb : ∀ i, i < 4 → ¬ (L.getD i RecT.zero).Bad) (hN : p.length + 180 ≤ N) (hN' : N ≤ 4096) (hBa : B ≤ pa) (hBs : B ≤ bs) : FnL Tryd.prog 34 B [(3, pa), (5, bs)] [aggV (recsV L), .func (.func 35) #[] #[], .func (.func 31) #[] #[ptr pa, ptr pb]] [(1000101, blk pa 3 [nI p.length]), (1000102, blk pb 44 [.slice (some ⟨bs, 0, none⟩) N N]), (1000103, blk bs 5 (wrt N p))] (fun _ _ => True) (fun _ => .tuple #[]) (fun b => [(1000101, blk pa 3 [nI (p ++ (L.take 4).flatMap RecT.l).length]), (1000103, blk bs 5 (wrt N (p ++ (L.take 4).flatMap RecT.l)))]) := by
 refine FnL.of (n := 24) (kw := 1000099) (ks := 1000098) Tryd.func34 rfl (by kernel_rfl) Tryd.ntmps34 (by simp) (by decide) (vbL_cons (vL rfl) (vbL_cons (vL rfl) (vbL_cons (vL rfl) vbL_nil))) (vL rfl) (vL rfl) [(0, .v (aggV (recsV L))), (1, .v (.func (.func 35) #[] #[])), (2, .v (.func (.func 31) #[] #[ptr pa, ptr pb]))]
  (fun p hp => by simp only [List.mem_cons, List.not_mem_nil, or_false] at hp; rcases hp with rfl | rfl | rfl <;> exact ⟨_, rfl, rfl⟩) fun w₀ w₁ hw hw₁ => ?_
 have hBpa : w₀.heap.size ≤ pa := by omega
 have hBbs : w₀.heap.size ≤ bs := by omega
 refine GS ?_
 refine TN 0 ?_
 refine RN ?_
 refine ⟨_, _, eff_boxL (n := 24) (d := 3) (k := 1000003) rfl (by decide), fun b3 hb3 => ?_⟩
 have hBb3 := hb3.1
 have hw_b3 := hb3.2.2 1000099 _ _ rfl
 refine TL ?_
 refine RN ?_
 refine GS ?_
 refine TL ?_
 refine RS (ok_loadA (s := 1000003) (by decide) Tryd.underlying36 rfl (size36.of (by rw [flat_length (RecT.lens hf), hL])) rfl rfl) ?_
 refine RM rfl ?_
 refine RN ?_
 refine A.block ?_
 refine A.loop (ι := Nat) (fun i => i ≤ 4) (fun i => [(1, .v (.func (.func 35) #[] #[])), (2, .v (.func (.func 31) #[] #[ptr pa, ptr pb])), (10, .v (aggV (recsV L))), (11, .v (nI (i))), (1000101, blk pa 3 [nI (p ++ (L.take i).flatMap RecT.l).length]), (1000102, blk pb 44 [.slice (some ⟨bs, 0, none⟩) N N]), (1000103, blk bs 5 (wrt N (p ++ (L.take i).flatMap RecT.l))), (1000099, wroteL [(3, pa), (5, bs)] w₁)]) (fun i => 4 - i) 0 ?_ ?_ ?_
 ·exact Nat.zero_le _
 ·exact (KC 1 rfl (KC 2 rfl (KC 10 rfl (KE 11 rfl (by rfl) (KE 1000101 rfl (by rw [List.take_zero, List.flatMap_nil, List.append_nil]) (KC 1000102 rfl (KE 1000103 rfl (by rw [List.take_zero, List.flatMap_nil, List.append_nil]) (KC 1000099 rfl KN))))))))
 intro i hG
 refine GS ?_
 refine TL ?_
 refine RB rfl rfl rfl ?_
 refine RN ?_
 refine A.seq ?_
 refine A.cond rfl (fun hc12 => ?_) (fun hc12 => ?_)
 ·have hi : i < 4 := by simp at hc12; omega
  refine A.skip ?_
  refine EN ?_
  refine A.seq ?_
  refine A.block ?_
  refine GS ?_
  refine TN 1 ?_
  refine RS (ok_indexAgg i Tryd.underlying36 Tryd.underlying35 rfl size35 rfl rfl rfl hi (flat_getD (RecT.lens hf) (by omega) RecT.zero)) ?_
  refine RN ?_
  refine ⟨_, _, eff_allocL (n := 24) (d := 7) (k := 1000007) zero35 (by decide), fun b7 hb7 => ?_⟩
  have hBb7 := hb7.1
  have hw_b7 := hb7.2.2 1000099 _ _ rfl
  refine TF 2 ?_
  refine RN ?_
  refine ⟨_, eff_storeA (n := 24) (s := 1000007) (size35.of ((hf (L.getD i RecT.zero) (getD_mem4 hL hi _)).len)) rfl rfl (by first | exact NodT.one _ | exact RecT.one _ | exact EntT.one _ | exact RecT.all1 _ | exact EntT.all1 _ | exact all_byte _ | exact all_bytes _) hBb7 rfl (by first | rfl | (rw [(hf (L.getD i RecT.zero) (getD_mem4 hL hi _)).len]; rfl)) (LV 1 rfl (LV 2 rfl (LV 7 rfl (LV 10 rfl (LV 11 rfl (LeftS.cons (t := 1000099) rfl (Surv.wroteLN hw_b7) (LT 1000101 rfl (LT 1000102 rfl (LT 1000103 rfl LN))))))))), ?_⟩
  refine TL ?_
  refine RN ?_
  refine GS ?_
  refine TN 2 ?_
  refine RM rfl ?_
  refine RS (ok_loadA (s := 1000007) (by decide) Tryd.underlying35 rfl (size35.of ((hf (L.getD i RecT.zero) (getD_mem4 hL hi _)).len)) rfl rfl) ?_
  refine RN ?_
  refine ⟨_, _, eff_nameL (n := 24) (d := 17) (k := 1000017) rfl rfl (fun B' => ok_callVB (PutRecord_okB (L.getD i RecT.zero).x (L.getD i RecT.zero).s (L.getD i RecT.zero).c (L.getD i RecT.zero).t (hf (L.getD i RecT.zero) (getD_mem4 hL hi _)).t (hf (L.getD i RecT.zero) (getD_mem4 hL hi _)).s (hf (L.getD i RecT.zero) (getD_mem4 hL hi _)).c (hb i hi)) newD_mono rfl (A1 rfl)) (by decide) (by decide), fun b17 hb17 => ?_⟩
  have hBb17 := hb17.1
  have hlt_b7_b17 : b7 < b17 := hb17.2.1 1000007 _ _ _ rfl
  have hw_b17 := hb17.2.2 1000099 _ _ rfl
  have hlt_pa_b17 : pa < b17 := hb17.2.1 1000101 _ _ _ rfl
  have hlt_pb_b17 : pb < b17 := hb17.2.1 1000102 _ _ _ rfl
  have hlt_bs_b17 : bs < b17 := hb17.2.1 1000103 _ _ _ rfl
  refine TL ?_
  refine RM rfl ?_
  refine RS (ok_extractV rfl rfl) ?_; refine RZ (.slice (some ⟨b17, 0, none⟩) (L.getD i RecT.zero).l.length (L.getD i RecT.zero).l.length) (by rw [(hf (L.getD i RecT.zero) (getD_mem4 hL hi _)).lenL]) ?_
  refine RS (ok_extractV rfl rfl) ?_
  refine RA rfl ?_
  refine RA rfl ?_
  refine RN ?_
  refine GE ?_
  refine TF 2 ?_
  refine RM rfl ?_
  refine RM rfl ?_
  refine RN ?_
  refine ⟨_, eff_callL1 (n := 24) (vs := [.slice (some ⟨b17, 0, none⟩) (L.getD i RecT.zero).l.length (L.getD i RecT.zero).l.length]) (us := [ptr pa, ptr pb]) (write_fnL 1000101 1000102 1000103 1000017 w₀.heap.size pa pb bs b17 N (p ++ (L.take i).flatMap RecT.l) (L.getD i RecT.zero).l (by rw [(hf (L.getD i RecT.zero) (getD_mem4 hL hi _)).lenL]; decide) (by have h1 := (hf (L.getD i RecT.zero) (getD_mem4 hL hi _)).lenL; have h2 := flat_length (RecT.lensL (take_all hf i)); rw [List.length_take, hL] at h2; rw [List.length_append]; omega) hN' hBpa hBbs hlt_bs_b17) rfl (A1 rfl) (subL_M (KC 1000101 rfl (KC 1000102 rfl (KC 1000103 rfl (KC 1000017 rfl KN)))) (vbL_cons (vL rfl) (vbL_cons (vL rfl) (vbL_cons (vL rfl) (vbL_cons (vL rfl) vbL_nil))))) (vbL_cons (vL rfl) (vbL_cons (vL rfl) vbL_nil)) (gsL_cons (k := 1000101) hBpa rfl (gsL_cons (k := 1000103) hBbs rfl gsL_nil)) (by decide) (by decide) (LeftL.cons (LV 1 rfl (LV 2 rfl (LV 10 rfl (LV 11 rfl (LT 1000007 rfl (LT 1000017 rfl (LeftS.cons (t := 1000099) rfl (Surv.wroteL (by simp)) (LT 1000102 rfl LN)))))))) (LeftL.one (LV 1 rfl (LV 2 rfl (LV 10 rfl (LV 11 rfl (LT 1000007 rfl (LB 1000017 rfl (LeftS.cons (t := 1000099) rfl (Surv.wroteL (by simp)) (LT 1000102 rfl LN)))))))))), ?_⟩
  refine TL ?_
  refine RN ?_
  refine End.normal_block ?_
  refine EN ?_
  refine GE ?_
  refine TL ?_
  refine RBS rfl rfl rfl (nI (i + 1)) (wrap_eq (by omega) (by omega)) ?_
  refine RM rfl ?_
  refine RN ?_
  refine End.normal_then ?_
  refine End.again (i + 1) ?_ ?_ ?_
  ·show _ ≤ _; omega
  ·show _ - _ < _ - _; omega
  ·exact (KC 1 rfl (KC 2 rfl (KC 10 rfl (KC 11 rfl (KE 1000101 rfl (by rw [take_flat hL hi, List.append_assoc]) (KC 1000102 rfl (KE 1000103 rfl (by rw [take_flat hL hi, List.append_assoc]) (KC 1000099 rfl KN))))))))
 ·have hi2 : i = 4 := by simp at hc12; omega
  refine A.exit ?_
  refine End.exit_then ?_
  refine End.exit_then ?_
  refine End.exit_here ?_
  subst hi2
  exact End.wroteL0 (.inr rfl) rfl (kw := 1000099) rfl 0 trivial (by decide) (lookL_cons (k := 1000101) (vL rfl) rfl (lookL_cons (k := 1000103) (vL rfl) rfl lookL_nil))
theorem putR_fnL (k₁ k₂ k₃ B : Nat) (pa pb bs N : Nat) (p : List UInt8) (L : List RecT) (hL : L.length = 4) (hf : ∀ r ∈ L, r.Fit) (hb : ∀ i, i < 4 → ¬ (L.getD i RecT.zero).Bad) (hN : p.length + 180 ≤ N) (hN' : N ≤ 4096) (hBa : B ≤ pa) (hBs : B ≤ bs) :
  FnL Tryd.prog 34 B [(3, pa), (5, bs)] [aggV (recsV L), .func (.func 35) #[] #[], .func (.func 31) #[] #[ptr pa, ptr pb]] [(k₁, blk pa 3 [nI p.length]), (k₂, blk pb 44 [.slice (some ⟨bs, 0, none⟩) N N]), (k₃, blk bs 5 (wrt N p))] (fun _ _ => True) (fun _ => .tuple #[]) (fun _ => [(k₁, blk pa 3 [nI (p ++ L.flatMap RecT.l).length]), (k₃, blk bs 5 (wrt N (p ++ L.flatMap RecT.l)))]) := by
 have h := putRRaw_fnL B pa pb bs N p L hL hf hb hN hN' hBa hBs
 rw [List.take_of_length_le (Nat.le_of_eq hL)] at h
 exact h.rekey rfl fun _ => rfl
set_option maxHeartbeats 1000000 in
theorem putERaw_fnL (B : Nat) (pa pb bs N : Nat) (p : List UInt8) (L : List EntT) (hL : L.length = 4) (hf : ∀ r ∈ L, r.Fit) (hb : ∀ i, i < 4 → ¬ (L.getD i EntT.zero).Bad) (hN : p.length + 132 ≤ N) (hN' : N ≤ 4096) (hBa : B ≤ pa) (hBs : B ≤ bs) : FnL Tryd.prog 36 B [(3, pa), (5, bs)] [aggV (entsV L), .func (.func 37) #[] #[], .func (.func 31) #[] #[ptr pa, ptr pb]] [(1000101, blk pa 3 [nI p.length]), (1000102, blk pb 44 [.slice (some ⟨bs, 0, none⟩) N N]), (1000103, blk bs 5 (wrt N p))] (fun _ _ => True) (fun _ => .tuple #[]) (fun b => [(1000101, blk pa 3 [nI (p ++ (L.take 4).flatMap EntT.l).length]), (1000103, blk bs 5 (wrt N (p ++ (L.take 4).flatMap EntT.l)))]) := by
 refine FnL.of (n := 24) (kw := 1000099) (ks := 1000098) Tryd.func36 rfl (by kernel_rfl) Tryd.ntmps36 (by simp) (by decide) (vbL_cons (vL rfl) (vbL_cons (vL rfl) (vbL_cons (vL rfl) vbL_nil))) (vL rfl) (vL rfl) [(0, .v (aggV (entsV L))), (1, .v (.func (.func 37) #[] #[])), (2, .v (.func (.func 31) #[] #[ptr pa, ptr pb]))]
  (fun p hp => by simp only [List.mem_cons, List.not_mem_nil, or_false] at hp; rcases hp with rfl | rfl | rfl <;> exact ⟨_, rfl, rfl⟩) fun w₀ w₁ hw hw₁ => ?_
 have hBpa : w₀.heap.size ≤ pa := by omega
 have hBbs : w₀.heap.size ≤ bs := by omega
 refine GS ?_
 refine TN 0 ?_
 refine RN ?_
 refine ⟨_, _, eff_boxL (n := 24) (d := 3) (k := 1000003) rfl (by decide), fun b3 hb3 => ?_⟩
 have hBb3 := hb3.1
 have hw_b3 := hb3.2.2 1000099 _ _ rfl
 refine TL ?_
 refine RN ?_
 refine GS ?_
 refine TL ?_
 refine RS (ok_loadA (s := 1000003) (by decide) Tryd.underlying39 rfl (size39.of (by rw [flat_length (EntT.lens hf), hL])) rfl rfl) ?_
 refine RM rfl ?_
 refine RN ?_
 refine A.block ?_
 refine A.loop (ι := Nat) (fun i => i ≤ 4) (fun i => [(1, .v (.func (.func 37) #[] #[])), (2, .v (.func (.func 31) #[] #[ptr pa, ptr pb])), (10, .v (aggV (entsV L))), (11, .v (nI (i))), (1000101, blk pa 3 [nI (p ++ (L.take i).flatMap EntT.l).length]), (1000102, blk pb 44 [.slice (some ⟨bs, 0, none⟩) N N]), (1000103, blk bs 5 (wrt N (p ++ (L.take i).flatMap EntT.l))), (1000099, wroteL [(3, pa), (5, bs)] w₁)]) (fun i => 4 - i) 0 ?_ ?_ ?_
 ·exact Nat.zero_le _
 ·exact (KC 1 rfl (KC 2 rfl (KC 10 rfl (KE 11 rfl (by rfl) (KE 1000101 rfl (by rw [List.take_zero, List.flatMap_nil, List.append_nil]) (KC 1000102 rfl (KE 1000103 rfl (by rw [List.take_zero, List.flatMap_nil, List.append_nil]) (KC 1000099 rfl KN))))))))
 intro i hG
 refine GS ?_
 refine TL ?_
 refine RB rfl rfl rfl ?_
 refine RN ?_
 refine A.seq ?_
 refine A.cond rfl (fun hc12 => ?_) (fun hc12 => ?_)
 ·have hi : i < 4 := by simp at hc12; omega
  refine A.skip ?_
  refine EN ?_
  refine A.seq ?_
  refine A.block ?_
  refine GS ?_
  refine TN 1 ?_
  refine RS (ok_indexAgg i Tryd.underlying39 Tryd.underlying38 rfl size38 rfl rfl rfl hi (flat_getD (EntT.lens hf) (by omega) EntT.zero)) ?_
  refine RN ?_
  refine ⟨_, _, eff_allocL (n := 24) (d := 7) (k := 1000007) zero38 (by decide), fun b7 hb7 => ?_⟩
  have hBb7 := hb7.1
  have hw_b7 := hb7.2.2 1000099 _ _ rfl
  refine TF 2 ?_
  refine RN ?_
  refine ⟨_, eff_storeA (n := 24) (s := 1000007) (size38.of ((hf (L.getD i EntT.zero) (getD_mem4 hL hi _)).len)) rfl rfl (by first | exact NodT.one _ | exact RecT.one _ | exact EntT.one _ | exact RecT.all1 _ | exact EntT.all1 _ | exact all_byte _ | exact all_bytes _) hBb7 rfl (by first | rfl | (rw [(hf (L.getD i EntT.zero) (getD_mem4 hL hi _)).len]; rfl)) (LV 1 rfl (LV 2 rfl (LV 7 rfl (LV 10 rfl (LV 11 rfl (LeftS.cons (t := 1000099) rfl (Surv.wroteLN hw_b7) (LT 1000101 rfl (LT 1000102 rfl (LT 1000103 rfl LN))))))))), ?_⟩
  refine TL ?_
  refine RN ?_
  refine GS ?_
  refine TN 2 ?_
  refine RM rfl ?_
  refine RS (ok_loadA (s := 1000007) (by decide) Tryd.underlying38 rfl (size38.of ((hf (L.getD i EntT.zero) (getD_mem4 hL hi _)).len)) rfl rfl) ?_
  refine RN ?_
  refine ⟨_, _, eff_nameL (n := 24) (d := 17) (k := 1000017) rfl rfl (fun B' => ok_callVB (PutEntry_okB (L.getD i EntT.zero).x (L.getD i EntT.zero).t (hf (L.getD i EntT.zero) (getD_mem4 hL hi _)).t (hb i hi)) newD_mono rfl (A1 rfl)) (by decide) (by decide), fun b17 hb17 => ?_⟩
  have hBb17 := hb17.1
  have hlt_b7_b17 : b7 < b17 := hb17.2.1 1000007 _ _ _ rfl
  have hw_b17 := hb17.2.2 1000099 _ _ rfl
  have hlt_pa_b17 : pa < b17 := hb17.2.1 1000101 _ _ _ rfl
  have hlt_pb_b17 : pb < b17 := hb17.2.1 1000102 _ _ _ rfl
  have hlt_bs_b17 : bs < b17 := hb17.2.1 1000103 _ _ _ rfl
  refine TL ?_
  refine RM rfl ?_
  refine RS (ok_extractV rfl rfl) ?_; refine RZ (.slice (some ⟨b17, 0, none⟩) (L.getD i EntT.zero).l.length (L.getD i EntT.zero).l.length) (by rw [(hf (L.getD i EntT.zero) (getD_mem4 hL hi _)).lenL]) ?_
  refine RS (ok_extractV rfl rfl) ?_
  refine RA rfl ?_
  refine RA rfl ?_
  refine RN ?_
  refine GE ?_
  refine TF 2 ?_
  refine RM rfl ?_
  refine RM rfl ?_
  refine RN ?_
  refine ⟨_, eff_callL1 (n := 24) (vs := [.slice (some ⟨b17, 0, none⟩) (L.getD i EntT.zero).l.length (L.getD i EntT.zero).l.length]) (us := [ptr pa, ptr pb]) (write_fnL 1000101 1000102 1000103 1000017 w₀.heap.size pa pb bs b17 N (p ++ (L.take i).flatMap EntT.l) (L.getD i EntT.zero).l (by rw [(hf (L.getD i EntT.zero) (getD_mem4 hL hi _)).lenL]; decide) (by have h1 := (hf (L.getD i EntT.zero) (getD_mem4 hL hi _)).lenL; have h2 := flat_length (EntT.lensL (take_all hf i)); rw [List.length_take, hL] at h2; rw [List.length_append]; omega) hN' hBpa hBbs hlt_bs_b17) rfl (A1 rfl) (subL_M (KC 1000101 rfl (KC 1000102 rfl (KC 1000103 rfl (KC 1000017 rfl KN)))) (vbL_cons (vL rfl) (vbL_cons (vL rfl) (vbL_cons (vL rfl) (vbL_cons (vL rfl) vbL_nil))))) (vbL_cons (vL rfl) (vbL_cons (vL rfl) vbL_nil)) (gsL_cons (k := 1000101) hBpa rfl (gsL_cons (k := 1000103) hBbs rfl gsL_nil)) (by decide) (by decide) (LeftL.cons (LV 1 rfl (LV 2 rfl (LV 10 rfl (LV 11 rfl (LT 1000007 rfl (LT 1000017 rfl (LeftS.cons (t := 1000099) rfl (Surv.wroteL (by simp)) (LT 1000102 rfl LN)))))))) (LeftL.one (LV 1 rfl (LV 2 rfl (LV 10 rfl (LV 11 rfl (LT 1000007 rfl (LB 1000017 rfl (LeftS.cons (t := 1000099) rfl (Surv.wroteL (by simp)) (LT 1000102 rfl LN)))))))))), ?_⟩
  refine TL ?_
  refine RN ?_
  refine End.normal_block ?_
  refine EN ?_
  refine GE ?_
  refine TL ?_
  refine RBS rfl rfl rfl (nI (i + 1)) (wrap_eq (by omega) (by omega)) ?_
  refine RM rfl ?_
  refine RN ?_
  refine End.normal_then ?_
  refine End.again (i + 1) ?_ ?_ ?_
  ·show _ ≤ _; omega
  ·show _ - _ < _ - _; omega
  ·exact (KC 1 rfl (KC 2 rfl (KC 10 rfl (KC 11 rfl (KE 1000101 rfl (by rw [take_flat hL hi, List.append_assoc]) (KC 1000102 rfl (KE 1000103 rfl (by rw [take_flat hL hi, List.append_assoc]) (KC 1000099 rfl KN))))))))
 ·have hi2 : i = 4 := by simp at hc12; omega
  refine A.exit ?_
  refine End.exit_then ?_
  refine End.exit_then ?_
  refine End.exit_here ?_
  subst hi2
  exact End.wroteL0 (.inr rfl) rfl (kw := 1000099) rfl 0 trivial (by decide) (lookL_cons (k := 1000101) (vL rfl) rfl (lookL_cons (k := 1000103) (vL rfl) rfl lookL_nil))
theorem putE_fnL (k₁ k₂ k₃ B : Nat) (pa pb bs N : Nat) (p : List UInt8) (L : List EntT) (hL : L.length = 4) (hf : ∀ r ∈ L, r.Fit) (hb : ∀ i, i < 4 → ¬ (L.getD i EntT.zero).Bad) (hN : p.length + 132 ≤ N) (hN' : N ≤ 4096) (hBa : B ≤ pa) (hBs : B ≤ bs) :
  FnL Tryd.prog 36 B [(3, pa), (5, bs)] [aggV (entsV L), .func (.func 37) #[] #[], .func (.func 31) #[] #[ptr pa, ptr pb]] [(k₁, blk pa 3 [nI p.length]), (k₂, blk pb 44 [.slice (some ⟨bs, 0, none⟩) N N]), (k₃, blk bs 5 (wrt N p))] (fun _ _ => True) (fun _ => .tuple #[]) (fun _ => [(k₁, blk pa 3 [nI (p ++ L.flatMap EntT.l).length]), (k₃, blk bs 5 (wrt N (p ++ L.flatMap EntT.l)))]) := by
 have h := putERaw_fnL B pa pb bs N p L hL hf hb hN hN' hBa hBs
 rw [List.take_of_length_le (Nat.le_of_eq hL)] at h
 exact h.rekey rfl fun _ => rfl
set_option maxHeartbeats 2000000 in
theorem nPut_RB (x : NodT) (hx : x.Fit) (hk : x.ck = 0) (h0 : x.l.toNat = 0) : FnMB Tryd.prog 10 tabS [.v (aggV x.v)] (fun B => newD B 5 (fun b => .tuple #[.slice (some ⟨b, 0, none⟩) (NodT.sz x.l.toNat) (NodT.sz x.l.toNat), .int .i64 0]) (x.bl.map byteV)) := by
 have hk5 := NodT.ck_ok hk
 have hl5 := hk5.1
 refine FnMB.of Tryd.func10 rfl (by kernel_rfl) Tryd.ntmps10 (by simp) (by decide) (fun w => [(0, .v (aggV x.v)), (1900000, tab 0 (sizV))]) (fun w => (StartM.v rfl (StartM.m (by simp [tabS]) (by decide) StartM.nil))) fun w₀ hM => ?_
 have htab := tabS_hi hM
 refine GS ?_
 refine TN 0 ?_
 refine RN ?_
 refine ⟨_, _, eff_box (n := 40) (d := 1) (k := 1000001) rfl (by decide), fun b1 hb1 => ?_⟩
 have hBb1 := hb1.1
 refine TL ?_
 refine RA rfl ?_
 refine RA rfl ?_
 refine RN ?_
 refine A.seq ?_
 refine GS ?_
 refine TL ?_
 refine RS (ok_loadA (s := 1000001) (by decide) Tryd.underlying41 rfl (size41.of (hx.len)) rfl rfl) ?_
 refine RS (ok_call (nCheck_fn x hx) (A1 rfl)) ?_; refine RZ (.int .i64 0) (by rw [hk]) ?_
 refine RA rfl ?_
 refine RN ?_
 refine GS ?_
 refine TL ?_
 refine RM rfl ?_
 refine RBS rfl rfl rfl (.bool false) (by first | rfl | (simp; done) | (simp; omega) | (simp [*]; done) | (simp [*]; omega)) ?_
 refine RN ?_
 refine A.no rfl ?_
 refine A.skip ?_
 refine EN ?_
 refine GS ?_
 refine TN 4 ?_
 refine RS (ok_field field41_0 (by decide) rfl) ?_
 refine RS (ok_loadV (s := 1000001) (by decide) Tryd.underlying5 rfl rfl rfl (rfl)) ?_
 refine RS (ok_index0 x.l.toNat Tryd.underlying75 info3 rfl rfl rfl (by omega)) ?_
 refine RS (ok_loadVT (s := 1900000) (by decide) Tryd.underlying3 rfl rfl rfl (siz_get (by omega))) ?_
 refine RN ?_
 refine ⟨_, _, eff_nameF (c := (NodT.sz x.l.toNat)) (by simp) (n := 40) (d := 17) (k := 1000017) rfl rfl (fun B' => ok_make (NodT.sz x.l.toNat) Tryd.underlying44 info5 (by decide) rfl rfl rfl rfl rfl (by have := sz_le x.l.toNat; omega)) (by decide) (by decide), fun b17 hb17 => ?_⟩
 have hBb17 := hb17.1
 have hlt_b1_b17 : b1 < b17 := hb17.2 1000001 _ _ _ rfl
 refine TN 5 ?_
 refine RN ?_
 refine ⟨_, _, eff_alloc (n := 40) (d := 5) (k := 1000005) zero44 (by decide), fun b5 hb5 => ?_⟩
 have hBb5 := hb5.1
 refine TN 6 ?_
 refine RN ?_
 refine ⟨_, _, eff_alloc (n := 40) (d := 6) (k := 1000006) zero3 (by decide), fun b6 hb6 => ?_⟩
 have hBb6 := hb6.1
 refine TF 7 ?_
 refine RN ?_
 refine ⟨_, eff_storeS (n := 40) (s := 1000005) info44 rfl rfl rfl hBb5 rfl (by simp) (LV 1 rfl (LV 5 rfl (LV 6 rfl (LT 1000001 rfl (LT 1000006 rfl (LT 1000017 rfl (LeftS.cons (t := 1900000) rfl (Surv.tab (by omega)) LN))))))), ?_⟩
 refine TF 8 ?_
 refine RN ?_
 refine ⟨_, eff_storeS (n := 40) (s := 1000006) info3 rfl rfl rfl hBb6 rfl (by simp) (LV 1 rfl (LV 5 rfl (LV 6 rfl (LT 1000001 rfl (LT 1000005 rfl (LT 1000017 rfl (LeftS.cons (t := 1900000) rfl (Surv.tab (by omega)) LN))))))), ?_⟩
 refine TL ?_
 refine RN ?_
 refine A.sub (KC 1 rfl (KC 5 rfl (KC 6 rfl (KC 1000001 rfl (KC 1000005 rfl (KE 1000006 rfl (show _ = blk b6 3 [nI ([] : List UInt8).length] from rfl) (KE 1000017 rfl (show _ = blk b17 5 (wrt (NodT.sz x.l.toNat) []) from congrArg _ (wrt_zero _).symm) (KC 1900000 rfl KN)))))))) ?_
 refine GS ?_
 refine TL ?_
 refine RS (ok_makeFuncN [ptr b6, ptr b5] ⟨rfl, rfl, trivial⟩) ?_
 refine RA rfl ?_
 refine RN ?_
 refine GS ?_
 refine TN 3 ?_
 refine RM rfl ?_
 refine RS (ok_field field41_0 (by decide) rfl) ?_
 refine RS (ok_loadV (s := 1000001) (by decide) Tryd.underlying5 rfl rfl rfl (rfl)) ?_
 refine RN ?_
 refine ⟨_, _, eff_name (n := 40) (d := 22) (k := 1000022) rfl rfl (fun B' => ok_build1B Tryd.underlying44 info5 rfl rfl) (by decide) (by decide), fun b22 hb22 => ?_⟩
 have hBb22 := hb22.1
 have hlt_b1_b22 : b1 < b22 := hb22.2 1000001 _ _ _ rfl
 have hlt_b5_b22 : b5 < b22 := hb22.2 1000005 _ _ _ rfl
 have hlt_b6_b22 : b6 < b22 := hb22.2 1000006 _ _ _ rfl
 have hlt_b17_b22 : b17 < b22 := hb22.2 1000017 _ _ _ rfl
 refine TF 4 ?_
 refine RN ?_
 refine ⟨_, eff_callL1 (n := 40) (vs := [.slice (some ⟨b22, 0, none⟩) ([x.l] : List UInt8).length ([x.l] : List UInt8).length]) (us := [ptr b6, ptr b5]) (write_fnL 1000006 1000005 1000017 1000022 w₀.heap.size b6 b5 b17 b22 (NodT.sz x.l.toNat) (([] : List UInt8)) ([x.l]) (by rw [show [x.l].length = 1 from rfl]; decide) (by have := sz_le x.l.toNat; simp [be_length]; omega) (by have := sz_le x.l.toNat; omega) hBb6 hBb17 hlt_b17_b22) rfl (A1 rfl) (subL_M (KC 1000006 rfl (KC 1000005 rfl (KC 1000017 rfl (KC 1000022 rfl KN)))) (vbL_cons (vL rfl) (vbL_cons (vL rfl) (vbL_cons (vL rfl) (vbL_cons (vL rfl) vbL_nil))))) (vbL_cons (vL rfl) (vbL_cons (vL rfl) vbL_nil)) (gsL_cons (k := 1000006) hBb6 rfl (gsL_cons (k := 1000017) hBb17 rfl gsL_nil)) (by decide) (by decide) (LeftL.cons (LV 1 rfl (LV 5 rfl (LV 7 rfl (LT 1000001 rfl (LT 1000005 rfl (LT 1000022 rfl (LeftS.cons (t := 1900000) rfl (Surv.tab (by omega)) LN))))))) (LeftL.one (LV 1 rfl (LV 5 rfl (LV 7 rfl (LT 1000001 rfl (LT 1000005 rfl (LB 1000022 rfl (LeftS.cons (t := 1900000) rfl (Surv.tab (by omega)) LN))))))))), ?_⟩
 refine TL ?_
 refine RN ?_
 refine A.sub (KC 1 rfl (KC 5 rfl (KC 7 rfl (KC 1000001 rfl (KC 1000005 rfl (KC 1000006 rfl (KE 1000017 rfl (rfl) (KC 1000022 rfl (KC 1900000 rfl KN))))))))) ?_
 refine GS ?_
 refine TN 3 ?_
 refine RM rfl ?_
 refine RS (ok_field field41_1 (by decide) rfl) ?_
 refine RS (ok_loadV (s := 1000001) (by decide) Tryd.underlying28 rfl rfl rfl (rfl)) ?_
 refine RN ?_
 refine ⟨_, _, eff_nameF (c := 4) (by rw [List.length_map, be_length]) (n := 40) (d := 27) (k := 1000027) rfl rfl (fun B' => ok_callB (Put32_fnB x.j hx.j) (fun _ _ => fresh_mono _ _) (A1 rfl)) (by decide) (by decide), fun b27 hb27 => ?_⟩
 have hBb27 := hb27.1
 have hlt_b1_b27 : b1 < b27 := hb27.2 1000001 _ _ _ rfl
 have hlt_b5_b27 : b5 < b27 := hb27.2 1000005 _ _ _ rfl
 have hlt_b6_b27 : b6 < b27 := hb27.2 1000006 _ _ _ rfl
 have hlt_b17_b27 : b17 < b27 := hb27.2 1000017 _ _ _ rfl
 have hlt_b22_b27 : b22 < b27 := hb27.2 1000022 _ _ _ rfl
 refine TF 4 ?_
 refine RN ?_
 refine ⟨_, eff_callL1 (n := 40) (vs := [.slice (some ⟨b27, 0, none⟩) (be 4 x.j : List UInt8).length (be 4 x.j : List UInt8).length]) (us := [ptr b6, ptr b5]) (write_fnL 1000006 1000005 1000017 1000027 w₀.heap.size b6 b5 b17 b27 (NodT.sz x.l.toNat) ([] ++ [x.l]) (be 4 x.j) (by rw [be_length]; decide) (by have := sz_le x.l.toNat; simp [be_length]; omega) (by have := sz_le x.l.toNat; omega) hBb6 hBb17 hlt_b17_b27) rfl (A1 rfl) (subL_M (KC 1000006 rfl (KC 1000005 rfl (KC 1000017 rfl (KC 1000027 rfl KN)))) (vbL_cons (vL rfl) (vbL_cons (vL rfl) (vbL_cons (vL rfl) (vbL_cons (vL rfl) vbL_nil))))) (vbL_cons (vL rfl) (vbL_cons (vL rfl) vbL_nil)) (gsL_cons (k := 1000006) hBb6 rfl (gsL_cons (k := 1000017) hBb17 rfl gsL_nil)) (by decide) (by decide) (LeftL.cons (LV 1 rfl (LV 5 rfl (LV 7 rfl (LT 1000001 rfl (LT 1000005 rfl (LT 1000022 rfl (LT 1000027 rfl (LeftS.cons (t := 1900000) rfl (Surv.tab (by omega)) LN)))))))) (LeftL.one (LV 1 rfl (LV 5 rfl (LV 7 rfl (LT 1000001 rfl (LT 1000005 rfl (LB 1000022 rfl (LB 1000027 rfl (LeftS.cons (t := 1900000) rfl (Surv.tab (by omega)) LN)))))))))), ?_⟩
 refine TL ?_
 refine RN ?_
 refine A.seq ?_
 refine GS ?_
 refine TL ?_
 refine RS (ok_loadA (s := 1000001) (by decide) Tryd.underlying41 rfl (size41.of (hx.len)) rfl rfl) ?_
 refine RS (ok_call (isGroup_y x hx h0) (A1 rfl)) ?_
 refine RN ?_
 refine A.yes rfl ?_
 refine GE ?_
 refine TF 3 ?_
 refine RS (ok_field field41_2 (by decide) rfl) ?_
 refine RS (ok_loadP (s := 1000001) (by decide) Tryd.underlying36 rfl size36 rfl rfl (by rw [hx.len]; decide) (hx.getR)) ?_
 refine RM rfl ?_
 refine RN ?_
 refine ⟨_, eff_callL1 (n := 40) (vs := [aggV (recsV x.R), .func (.func 35) #[] #[], .func (.func 31) #[] #[ptr b6, ptr b5]]) (us := []) (putR_fnL 1000006 1000005 1000017 w₀.heap.size b6 b5 b17 (NodT.sz x.l.toNat) ([] ++ [x.l] ++ be 4 x.j) x.R hx.lr hx.fr (hk5.2.1 h0).2 (by unfold NodT.sz; simp [be_length, h0]) (by have := sz_le x.l.toNat; omega) hBb6 hBb17) rfl (A3 rfl rfl rfl) (subL_M (KC 1000006 rfl (KC 1000005 rfl (KC 1000017 rfl KN))) (vbL_cons (vL rfl) (vbL_cons (vL rfl) (vbL_cons (vL rfl) vbL_nil)))) (vbL_cons (vL rfl) (vbL_cons (vL rfl) vbL_nil)) (gsL_cons (k := 1000006) hBb6 rfl (gsL_cons (k := 1000017) hBb17 rfl gsL_nil)) (by decide) (by decide) (LeftL.cons (LV 5 rfl (LT 1000001 rfl (LT 1000005 rfl (LT 1000022 rfl (LT 1000027 rfl (LeftS.cons (t := 1900000) rfl (Surv.tab (by omega)) LN)))))) (LeftL.one (LV 5 rfl (LT 1000001 rfl (LT 1000005 rfl (LB 1000022 rfl (LB 1000027 rfl (LeftS.cons (t := 1900000) rfl (Surv.tab (by omega)) LN)))))))), ?_⟩
 refine TL ?_
 refine RN ?_
 refine EN ?_
 refine GS ?_
 refine TL ?_
 refine RS (ok_loadV (s := 1000005) (by decide) Tryd.underlying44 rfl rfl rfl (rfl)) ?_
 refine RA rfl ?_
 refine RA rfl ?_
 refine RN ?_
 refine A.ret ?_
 exact End.newTT (kg := 1000017) rfl rfl rfl rfl hBb17 rfl (by rw [wrt_full (by rw [bl_R h0, hx.bl_length]), bl_R h0])
set_option maxHeartbeats 2000000 in
theorem nPut_EB (x : NodT) (hx : x.Fit) (hk : x.ck = 0) (h0 : ¬ x.l.toNat = 0) : FnMB Tryd.prog 10 tabS [.v (aggV x.v)] (fun B => newD B 5 (fun b => .tuple #[.slice (some ⟨b, 0, none⟩) (NodT.sz x.l.toNat) (NodT.sz x.l.toNat), .int .i64 0]) (x.bl.map byteV)) := by
 have hk5 := NodT.ck_ok hk
 have hl5 := hk5.1
 refine FnMB.of Tryd.func10 rfl (by kernel_rfl) Tryd.ntmps10 (by simp) (by decide) (fun w => [(0, .v (aggV x.v)), (1900000, tab 0 (sizV))]) (fun w => (StartM.v rfl (StartM.m (by simp [tabS]) (by decide) StartM.nil))) fun w₀ hM => ?_
 have htab := tabS_hi hM
 refine GS ?_
 refine TN 0 ?_
 refine RN ?_
 refine ⟨_, _, eff_box (n := 40) (d := 1) (k := 1000001) rfl (by decide), fun b1 hb1 => ?_⟩
 have hBb1 := hb1.1
 refine TL ?_
 refine RA rfl ?_
 refine RA rfl ?_
 refine RN ?_
 refine A.seq ?_
 refine GS ?_
 refine TL ?_
 refine RS (ok_loadA (s := 1000001) (by decide) Tryd.underlying41 rfl (size41.of (hx.len)) rfl rfl) ?_
 refine RS (ok_call (nCheck_fn x hx) (A1 rfl)) ?_; refine RZ (.int .i64 0) (by rw [hk]) ?_
 refine RA rfl ?_
 refine RN ?_
 refine GS ?_
 refine TL ?_
 refine RM rfl ?_
 refine RBS rfl rfl rfl (.bool false) (by first | rfl | (simp; done) | (simp; omega) | (simp [*]; done) | (simp [*]; omega)) ?_
 refine RN ?_
 refine A.no rfl ?_
 refine A.skip ?_
 refine EN ?_
 refine GS ?_
 refine TN 4 ?_
 refine RS (ok_field field41_0 (by decide) rfl) ?_
 refine RS (ok_loadV (s := 1000001) (by decide) Tryd.underlying5 rfl rfl rfl (rfl)) ?_
 refine RS (ok_index0 x.l.toNat Tryd.underlying75 info3 rfl rfl rfl (by omega)) ?_
 refine RS (ok_loadVT (s := 1900000) (by decide) Tryd.underlying3 rfl rfl rfl (siz_get (by omega))) ?_
 refine RN ?_
 refine ⟨_, _, eff_nameF (c := (NodT.sz x.l.toNat)) (by simp) (n := 40) (d := 17) (k := 1000017) rfl rfl (fun B' => ok_make (NodT.sz x.l.toNat) Tryd.underlying44 info5 (by decide) rfl rfl rfl rfl rfl (by have := sz_le x.l.toNat; omega)) (by decide) (by decide), fun b17 hb17 => ?_⟩
 have hBb17 := hb17.1
 have hlt_b1_b17 : b1 < b17 := hb17.2 1000001 _ _ _ rfl
 refine TN 5 ?_
 refine RN ?_
 refine ⟨_, _, eff_alloc (n := 40) (d := 5) (k := 1000005) zero44 (by decide), fun b5 hb5 => ?_⟩
 have hBb5 := hb5.1
 refine TN 6 ?_
 refine RN ?_
 refine ⟨_, _, eff_alloc (n := 40) (d := 6) (k := 1000006) zero3 (by decide), fun b6 hb6 => ?_⟩
 have hBb6 := hb6.1
 refine TF 7 ?_
 refine RN ?_
 refine ⟨_, eff_storeS (n := 40) (s := 1000005) info44 rfl rfl rfl hBb5 rfl (by simp) (LV 1 rfl (LV 5 rfl (LV 6 rfl (LT 1000001 rfl (LT 1000006 rfl (LT 1000017 rfl (LeftS.cons (t := 1900000) rfl (Surv.tab (by omega)) LN))))))), ?_⟩
 refine TF 8 ?_
 refine RN ?_
 refine ⟨_, eff_storeS (n := 40) (s := 1000006) info3 rfl rfl rfl hBb6 rfl (by simp) (LV 1 rfl (LV 5 rfl (LV 6 rfl (LT 1000001 rfl (LT 1000005 rfl (LT 1000017 rfl (LeftS.cons (t := 1900000) rfl (Surv.tab (by omega)) LN))))))), ?_⟩
 refine TL ?_
 refine RN ?_
 refine A.sub (KC 1 rfl (KC 5 rfl (KC 6 rfl (KC 1000001 rfl (KC 1000005 rfl (KE 1000006 rfl (show _ = blk b6 3 [nI ([] : List UInt8).length] from rfl) (KE 1000017 rfl (show _ = blk b17 5 (wrt (NodT.sz x.l.toNat) []) from congrArg _ (wrt_zero _).symm) (KC 1900000 rfl KN)))))))) ?_
 refine GS ?_
 refine TL ?_
 refine RS (ok_makeFuncN [ptr b6, ptr b5] ⟨rfl, rfl, trivial⟩) ?_
 refine RA rfl ?_
 refine RN ?_
 refine GS ?_
 refine TN 3 ?_
 refine RM rfl ?_
 refine RS (ok_field field41_0 (by decide) rfl) ?_
 refine RS (ok_loadV (s := 1000001) (by decide) Tryd.underlying5 rfl rfl rfl (rfl)) ?_
 refine RN ?_
 refine ⟨_, _, eff_name (n := 40) (d := 22) (k := 1000022) rfl rfl (fun B' => ok_build1B Tryd.underlying44 info5 rfl rfl) (by decide) (by decide), fun b22 hb22 => ?_⟩
 have hBb22 := hb22.1
 have hlt_b1_b22 : b1 < b22 := hb22.2 1000001 _ _ _ rfl
 have hlt_b5_b22 : b5 < b22 := hb22.2 1000005 _ _ _ rfl
 have hlt_b6_b22 : b6 < b22 := hb22.2 1000006 _ _ _ rfl
 have hlt_b17_b22 : b17 < b22 := hb22.2 1000017 _ _ _ rfl
 refine TF 4 ?_
 refine RN ?_
 refine ⟨_, eff_callL1 (n := 40) (vs := [.slice (some ⟨b22, 0, none⟩) ([x.l] : List UInt8).length ([x.l] : List UInt8).length]) (us := [ptr b6, ptr b5]) (write_fnL 1000006 1000005 1000017 1000022 w₀.heap.size b6 b5 b17 b22 (NodT.sz x.l.toNat) (([] : List UInt8)) ([x.l]) (by rw [show [x.l].length = 1 from rfl]; decide) (by have := sz_le x.l.toNat; simp [be_length]; omega) (by have := sz_le x.l.toNat; omega) hBb6 hBb17 hlt_b17_b22) rfl (A1 rfl) (subL_M (KC 1000006 rfl (KC 1000005 rfl (KC 1000017 rfl (KC 1000022 rfl KN)))) (vbL_cons (vL rfl) (vbL_cons (vL rfl) (vbL_cons (vL rfl) (vbL_cons (vL rfl) vbL_nil))))) (vbL_cons (vL rfl) (vbL_cons (vL rfl) vbL_nil)) (gsL_cons (k := 1000006) hBb6 rfl (gsL_cons (k := 1000017) hBb17 rfl gsL_nil)) (by decide) (by decide) (LeftL.cons (LV 1 rfl (LV 5 rfl (LV 7 rfl (LT 1000001 rfl (LT 1000005 rfl (LT 1000022 rfl (LeftS.cons (t := 1900000) rfl (Surv.tab (by omega)) LN))))))) (LeftL.one (LV 1 rfl (LV 5 rfl (LV 7 rfl (LT 1000001 rfl (LT 1000005 rfl (LB 1000022 rfl (LeftS.cons (t := 1900000) rfl (Surv.tab (by omega)) LN))))))))), ?_⟩
 refine TL ?_
 refine RN ?_
 refine A.sub (KC 1 rfl (KC 5 rfl (KC 7 rfl (KC 1000001 rfl (KC 1000005 rfl (KC 1000006 rfl (KE 1000017 rfl (rfl) (KC 1000022 rfl (KC 1900000 rfl KN))))))))) ?_
 refine GS ?_
 refine TN 3 ?_
 refine RM rfl ?_
 refine RS (ok_field field41_1 (by decide) rfl) ?_
 refine RS (ok_loadV (s := 1000001) (by decide) Tryd.underlying28 rfl rfl rfl (rfl)) ?_
 refine RN ?_
 refine ⟨_, _, eff_nameF (c := 4) (by rw [List.length_map, be_length]) (n := 40) (d := 27) (k := 1000027) rfl rfl (fun B' => ok_callB (Put32_fnB x.j hx.j) (fun _ _ => fresh_mono _ _) (A1 rfl)) (by decide) (by decide), fun b27 hb27 => ?_⟩
 have hBb27 := hb27.1
 have hlt_b1_b27 : b1 < b27 := hb27.2 1000001 _ _ _ rfl
 have hlt_b5_b27 : b5 < b27 := hb27.2 1000005 _ _ _ rfl
 have hlt_b6_b27 : b6 < b27 := hb27.2 1000006 _ _ _ rfl
 have hlt_b17_b27 : b17 < b27 := hb27.2 1000017 _ _ _ rfl
 have hlt_b22_b27 : b22 < b27 := hb27.2 1000022 _ _ _ rfl
 refine TF 4 ?_
 refine RN ?_
 refine ⟨_, eff_callL1 (n := 40) (vs := [.slice (some ⟨b27, 0, none⟩) (be 4 x.j : List UInt8).length (be 4 x.j : List UInt8).length]) (us := [ptr b6, ptr b5]) (write_fnL 1000006 1000005 1000017 1000027 w₀.heap.size b6 b5 b17 b27 (NodT.sz x.l.toNat) ([] ++ [x.l]) (be 4 x.j) (by rw [be_length]; decide) (by have := sz_le x.l.toNat; simp [be_length]; omega) (by have := sz_le x.l.toNat; omega) hBb6 hBb17 hlt_b17_b27) rfl (A1 rfl) (subL_M (KC 1000006 rfl (KC 1000005 rfl (KC 1000017 rfl (KC 1000027 rfl KN)))) (vbL_cons (vL rfl) (vbL_cons (vL rfl) (vbL_cons (vL rfl) (vbL_cons (vL rfl) vbL_nil))))) (vbL_cons (vL rfl) (vbL_cons (vL rfl) vbL_nil)) (gsL_cons (k := 1000006) hBb6 rfl (gsL_cons (k := 1000017) hBb17 rfl gsL_nil)) (by decide) (by decide) (LeftL.cons (LV 1 rfl (LV 5 rfl (LV 7 rfl (LT 1000001 rfl (LT 1000005 rfl (LT 1000022 rfl (LT 1000027 rfl (LeftS.cons (t := 1900000) rfl (Surv.tab (by omega)) LN)))))))) (LeftL.one (LV 1 rfl (LV 5 rfl (LV 7 rfl (LT 1000001 rfl (LT 1000005 rfl (LB 1000022 rfl (LB 1000027 rfl (LeftS.cons (t := 1900000) rfl (Surv.tab (by omega)) LN)))))))))), ?_⟩
 refine TL ?_
 refine RN ?_
 refine A.seq ?_
 refine GS ?_
 refine TL ?_
 refine RS (ok_loadA (s := 1000001) (by decide) Tryd.underlying41 rfl (size41.of (hx.len)) rfl rfl) ?_
 refine RS (ok_call (isGroup_n x hx h0) (A1 rfl)) ?_
 refine RN ?_
 refine A.no rfl ?_
 refine GE ?_
 refine TF 3 ?_
 refine RS (ok_field field41_3 (by decide) rfl) ?_
 refine RS (ok_loadP (s := 1000001) (by decide) Tryd.underlying39 rfl size39 rfl rfl (by rw [hx.len]; decide) (hx.getE)) ?_
 refine RM rfl ?_
 refine RN ?_
 refine ⟨_, eff_callL1 (n := 40) (vs := [aggV (entsV x.E), .func (.func 37) #[] #[], .func (.func 31) #[] #[ptr b6, ptr b5]]) (us := []) (putE_fnL 1000006 1000005 1000017 w₀.heap.size b6 b5 b17 (NodT.sz x.l.toNat) ([] ++ [x.l] ++ be 4 x.j) x.E hx.le hx.fe (hk5.2.2 h0).2 (by unfold NodT.sz; simp [be_length, h0]) (by have := sz_le x.l.toNat; omega) hBb6 hBb17) rfl (A3 rfl rfl rfl) (subL_M (KC 1000006 rfl (KC 1000005 rfl (KC 1000017 rfl KN))) (vbL_cons (vL rfl) (vbL_cons (vL rfl) (vbL_cons (vL rfl) vbL_nil)))) (vbL_cons (vL rfl) (vbL_cons (vL rfl) vbL_nil)) (gsL_cons (k := 1000006) hBb6 rfl (gsL_cons (k := 1000017) hBb17 rfl gsL_nil)) (by decide) (by decide) (LeftL.cons (LV 5 rfl (LT 1000001 rfl (LT 1000005 rfl (LT 1000022 rfl (LT 1000027 rfl (LeftS.cons (t := 1900000) rfl (Surv.tab (by omega)) LN)))))) (LeftL.one (LV 5 rfl (LT 1000001 rfl (LT 1000005 rfl (LB 1000022 rfl (LB 1000027 rfl (LeftS.cons (t := 1900000) rfl (Surv.tab (by omega)) LN)))))))), ?_⟩
 refine TL ?_
 refine RN ?_
 refine EN ?_
 refine GS ?_
 refine TL ?_
 refine RS (ok_loadV (s := 1000005) (by decide) Tryd.underlying44 rfl rfl rfl (rfl)) ?_
 refine RA rfl ?_
 refine RA rfl ?_
 refine RN ?_
 refine A.ret ?_
 exact End.newTT (kg := 1000017) rfl rfl rfl rfl hBb17 rfl (by rw [wrt_full (by rw [bl_E h0, hx.bl_length]), bl_E h0])
theorem nPut_okB (x : NodT) (hx : x.Fit) (hk : x.ck = 0) : FnMB Tryd.prog 10 tabS [.v (aggV x.v)] (fun B => newD B 5 (fun b => .tuple #[.slice (some ⟨b, 0, none⟩) (NodT.sz x.l.toNat) (NodT.sz x.l.toNat), .int .i64 0]) (x.bl.map byteV)) := by
 by_cases h0 : x.l.toNat = 0
 ·exact nPut_RB x hx hk h0
 ·exact nPut_EB x hx hk h0
theorem nPut_bad (x : NodT) (hx : x.Fit) (hk : x.ck ≠ 0) : Fn Tryd.prog 10 [.v (aggV x.v)] (.v (.tuple #[.slice none 0 0, .int .i64 x.ck])) := by
 refine Fn.of Tryd.func10 rfl (by kernel_rfl) Tryd.ntmps10 (by simp) (fun w => [(0, .v (aggV x.v))]) (fun w => (Start.v rfl Start.nil)) fun w₀ => ?_
 refine GS ?_
 refine TN 0 ?_
 refine RN ?_
 refine ⟨_, _, eff_box (n := 40) (d := 1) (k := 1000001) rfl (by decide), fun b1 hb1 => ?_⟩
 have hBb1 := hb1.1
 refine TL ?_
 refine RA rfl ?_
 refine RA rfl ?_
 refine RN ?_
 refine A.seq ?_
 refine GS ?_
 refine TL ?_
 refine RS (ok_loadA (s := 1000001) (by decide) Tryd.underlying41 rfl (size41.of (hx.len)) rfl rfl) ?_
 refine RS (ok_call (nCheck_fn x hx) (A1 rfl)) ?_
 refine RA rfl ?_
 refine RN ?_
 refine GS ?_
 refine TL ?_
 refine RM rfl ?_
 refine RBS rfl rfl rfl (.bool true) (by first | rfl | (simp; done) | (simp; omega) | (simp [*]; done) | (simp [*]; omega)) ?_
 refine RN ?_
 refine A.yes rfl ?_
 refine GS ?_
 refine TL ?_
 refine RM rfl ?_
 refine RA rfl ?_
 refine RA rfl ?_
 refine RN ?_
 refine A.ret ?_
 refine End.ret_then ?_
 exact End.ret2V rfl rfl rfl
theorem nPut_ok (x : NodT) (hx : x.Fit) (hk : x.ck = 0) : FnM Tryd.prog 10 tabS [.v (aggV x.v)] (tup [bytes x.bl (NodT.sz x.l.toNat), .v (.int .i64 0)]) :=
 (nPut_okB x hx hk).fn fun B => newD_tup hx.bl_length (by have := sz_le x.l.toNat; simp only [maxLen]; omega)
end Go.Proofs.YtlddnmblfgaimaaDoor
namespace Go.Proofs.YtlddnmblfgaimaaDoor
open Go Go.RowKit Go.ChangeShapes Go.WideShapes Go.ChangeAt
theorem own' : ownKnob Tryd.prog.godebug = none := by kernel_rfl
theorem laidOut' : laidOutB Tryd.prog = true := by kernel_rfl
abbrev LAID : List (String × DataW Unit) := [("caisson/nodes.sizes", Rows.laid_caisson_nodes_sizes)]
theorem door_met (os : Os) (args : Array Value) : laidMetH Tryd.prog LAID ((World.doorLaid Tryd.prog 400 os).forCall (fun _ _ => 0) ⟨#[], args, []⟩).memory :=
  laidMetH_of_parts3 (fuel := 8) (laidMet_of_run' 8 (by kernel_rfl) (by kernel_rfl)) (by kernel_rfl) (by kernel_rfl)
theorem tabs_of_laid {W : World} (h : laidMetH Tryd.prog LAID W) : ∀ p ∈ tabS, p.2.Of W undef := by
  rw [MakeChecks.laidMetH_plain _ _ _ (by kernel_rfl)] at h
  obtain ⟨ps, hl, _, hr⟩ := h
  have hr' := fun b off hp => (hr b off hp).1
  intro p hp
  simp only [tabS, List.mem_cons, List.not_mem_nil, or_false] at hp
  rcases hp with rfl
  · have := tab_of_laid hl hr' (nm := "caisson/nodes.sizes") (d := Rows.laid_caisson_nodes_sizes) (by simp [LAID]) (g := 0) (by kernel_rfl) (T := 75) (by kernel_rfl) Tryd.underlying75 Tryd.underlying3 (by kernel_rfl) (by kernel_rfl) (by decide) (ns := [185, 137, 137, 137, 137, 137]) (by kernel_rfl)
    exact this
end Go.Proofs.YtlddnmblfgaimaaDoor
namespace Go.Proofs.YtlddnmblfgaimaaDoor
open Go Go.RowKit
/-- The operation yields v (or stores what is there) and changes nothing. -/
def NopOk (P : Program) (B : Nat) (o : Oper) (E : Env) (v : Value) : Prop := (∀ c, o.op ≠ .defer c) ∧
  ∀ (ρ : Operand → Value) (w : World), B ≤ w.heap.size → (∀ t e, vbase ≤ t → E.look t = some e → e.Of w undef) → (∀ x, x ∈ o.op.operands → ∀ e, E.at x = some e → e.Of w (ρ x)) → ((execOp ρ o).run P w = .ok (.value v) w ∧ o.dst ≠ none) ∨ ((execOp ρ o).run P w = .ok .skip w ∧ o.dst = none)
/-- An environment out of what was known and of what operations have yielded that stand before operation o. -/
inductive FromN (ops : Array Oper) (vals : List Value) (E0 : Env) (o : Oper) : Env → Prop
  | nil : FromN ops vals E0 o []
  | all : FromN ops vals E0 o E0
  | base {t : Nat} {d : D} {E : Env} (h : E0.look t = some d) (hr : FromN ops vals E0 o E) : FromN ops vals E0 o ((t, d) :: E)
  | op {t : Nat} {v : Value} {E : Env} (j : Nat) (he : (o.after.any fun e => Region.binds .any e && e.on == j) = true) (hd : (ops[j]?).bind (·.dst) = some t) (hv : vals[j]? = some v) (hr : FromN ops vals E0 o E) : FromN ops vals E0 o ((t, .v v) :: E)
inductive Nops (P : Program) (B : Nat) (ops : Array Oper) (vals : List Value) (E0 : Env) : Nat → List Oper → Prop
  | nil {i : Nat} : Nops P B ops vals E0 i []
  | cons {i : Nat} {o : Oper} {rest : List Oper} {v : Value} (E : Env) (hv : vals[i]? = some v) (hd : o.dst = none ∨ ∃ t, o.dst = some t ∧ (E0.look t = none ∨ E0.look t = some (.v v))) (hf : FromN ops vals E0 o E) (hok : NopOk P B o E v) (hr : Nops P B ops vals E0 (i + 1) rest) : Nops P B ops vals E0 i (o :: rest)
def downsN (ops : Array Oper) : Bool := (List.range ops.size).all fun i => match ops[i]? with
  | none => false
  | some o => o.guard.isNone && o.after.all (fun e => !Region.binds .any e || decide (e.on < i)) && (List.range ops.size).all fun j => match ops[j]? with
    | none => false
    | some q => j == i || o.dst == none || o.dst != q.dst
section
variable {P : Program} {n B : Nat} {ops : Array Oper} {κ : Cx} {Q : Exit → Act → World → Prop} {vals : List Value} {E0 : Env}
theorem Nops.nth {k : Nat} {l : List Oper} (h : Nops P B ops vals E0 k l) : ∀ {i : Nat} {o : Oper}, l[i]? = some o → ∃ E v, vals[k + i]? = some v ∧ (o.dst = none ∨ ∃ t, o.dst = some t ∧ (E0.look t = none ∨ E0.look t = some (.v v))) ∧ FromN ops vals E0 o E ∧ NopOk P B o E v := by
  induction h with
  | nil => intro i o hi; simp at hi
  | @cons k o0 rest v E hv hd hf hok _ ih =>
    intro i o hi
    cases i with
    | zero => simp at hi; subst hi; exact ⟨E, v, hv, hd, hf, hok⟩
    | succ i =>
      obtain ⟨E, v, h1, h2⟩ := ih (i := i) (by simpa using hi)
      exact ⟨E, v, by rw [show k + (i + 1) = k + 1 + i from by omega]; exact h1, h2⟩
theorem downs_get (h : downsN ops = true) {i : Nat} {o : Oper} (hi : ops[i]? = some o) : o.guard = none ∧ (∀ e ∈ o.after, Region.binds .any e = true → e.on < i) ∧ ∀ j q, ops[j]? = some q → j ≠ i → o.dst ≠ none → o.dst ≠ q.dst := by
  have hlt : i < ops.size := (Array.getElem?_eq_some_iff.1 hi).1
  have h1 := List.all_eq_true.1 h i (List.mem_range.2 hlt)
  simp only [hi, Bool.and_eq_true] at h1
  refine ⟨by simpa using h1.1.1, fun e he hb => ?_, fun j q hj hne hnn => ?_⟩
  · have h2 := Array.all_eq_true_iff_forall_mem.1 h1.1.2 e he
    simpa [hb] using h2
  · have h3 := List.all_eq_true.1 h1.2 j (List.mem_range.2 (Array.getElem?_eq_some_iff.1 hj).1)
    simp only [hj, Bool.or_eq_true, beq_iff_eq, bne_iff_ne, ne_eq] at h3
    rcases h3 with (h3 | h3) | h3
    · exact absurd h3 hne
    · exact absurd h3 hnn
    · exact h3
end
/-! ### Such operations -/
section
variable {P : Program} {B : Nat} {E : Env} {d : Tmp} {ty : TypeId} {pos : String} {after : Array Edge} {guard : Option (Nat × Bool)}
end
end Go.Proofs.YtlddnmblfgaimaaDoor
namespace Go.Proofs.YtlddnmblfgaimaaDoor
open Go Go.RowKit
/-- What stands at operation i: operation p is the store of ys into block b, of type T; every other one yields vals[i], from what is known and stays known (Eb), and from what operations have yielded that stand before it. -/
inductive Onces (P : Program) (B : Nat) (ops : Array Oper) (vals : List Value) (Eb : Env) (p b : Nat) (T : TypeId) (ys : List Value) : Nat → List Oper → Prop
  | nil {i : Nat} : Onces P B ops vals Eb p b T ys i []
  | cons {i : Nat} {o : Oper} {rest : List Oper} {t : Nat} {v : Value} (E : Env) (hp : i ≠ p) (hv : vals[i]? = some v) (ht : o.dst = some t) (hd : Eb.look t = none ∨ Eb.look t = some (.v v)) (hf : FromN ops vals Eb o E) (hok : OpOk P B o E (.v v)) (hr : Onces P B ops vals Eb p b T ys (i + 1) rest) : Onces P B ops vals Eb p b T ys i (o :: rest)
  | store {o : Oper} {rest : List Oper} {x y : Operand} {ty : TypeId} {pos : String} {after : Array Edge} (E : Env) (ho : o = ⟨none, .store T x y, ty, pos, after, none⟩) (hf : FromN ops vals Eb o E) (hx : E.at x = some (.v (.pointer (some ⟨b, 0, none⟩)))) (hy : E.at y = some (.v (aggV ys))) (hr : Onces P B ops vals Eb p b T ys (p + 1) rest) : Onces P B ops vals Eb p b T ys p (o :: rest)
section
variable {P : Program} {n B : Nat} {ops : Array Oper} {κ : Cx} {Q : Exit → Act → World → Prop} {vals : List Value} {Eb : Env} {p b k : Nat} {T : TypeId} {zs ys : List Value}
theorem Onces.nth {m : Nat} {l : List Oper} (h : Onces P B ops vals Eb p b T ys m l) : ∀ {i : Nat} {o : Oper}, l[i]? = some o →
    (m + i ≠ p ∧ ∃ E v t, vals[m + i]? = some v ∧ o.dst = some t ∧ (Eb.look t = none ∨ Eb.look t = some (.v v)) ∧ FromN ops vals Eb o E ∧ OpOk P B o E (.v v)) ∨
    (m + i = p ∧ ∃ E x y ty pos after, o = ⟨none, .store T x y, ty, pos, after, none⟩ ∧ FromN ops vals Eb o E ∧ E.at x = some (.v (.pointer (some ⟨b, 0, none⟩))) ∧ E.at y = some (.v (aggV ys))) := by
  induction h with
  | nil => intro i o hi; simp at hi
  | @cons m o0 rest t v E hp hv ht hd hf hok _ ih =>
    intro i o hi
    cases i with
    | zero => simp at hi; subst hi; exact .inl ⟨hp, E, v, t, hv, ht, hd, hf, hok⟩
    | succ i =>
      have := ih (i := i) (by simpa using hi)
      rwa [show m + 1 + i = m + (i + 1) from by omega] at this
  | @store o0 rest x y ty pos after E ho hf hx hy _ ih =>
    intro i o hi
    cases i with
    | zero => simp at hi; subst hi; exact .inr ⟨rfl, E, x, y, ty, pos, after, ho, hf, hx, hy⟩
    | succ i =>
      have := ih (i := i) (by simpa using hi)
      rwa [show p + 1 + i = p + (i + 1) from by omega] at this
/-! ### Step by step -/
theorem FromN.more {o : Oper} {pre r : List Value} {E : Env} (h : FromN ops pre Eb o E) : FromN ops (pre ++ r) Eb o E := by
  induction h with
  | nil => exact .nil
  | all => exact .all
  | base h _ ih => exact .base h ih
  | op j he hd hv _ ih => exact .op j he hd (by rw [List.getElem?_append_left (List.getElem?_eq_some_iff.1 hv).1]; exact hv) ih
def OncesK (P : Program) (B : Nat) (ops : Array Oper) (Eb : Env) (p b : Nat) (T : TypeId) (ys : List Value) (pre : List Value) (l : List Oper) (C : List Value → Prop) : Prop := ∃ r, Onces P B ops (pre ++ r) Eb p b T ys pre.length l ∧ C (pre ++ r)
theorem OncesK.nil {pre : List Value} {C : List Value → Prop} (h : C pre) : OncesK P B ops Eb p b T ys pre [] C := ⟨[], .nil, by simpa using h⟩
theorem OncesK.cons {pre : List Value} {C : List Value → Prop} {o : Oper} {rest : List Oper} {t : Nat} {v : Value} (E : Env) (hp : Nat.beq pre.length p = false) (ht : o.dst = some t) (hd : Eb.look t = none ∨ Eb.look t = some (.v v)) (hf : FromN ops pre Eb o E) (hok : OpOk P B o E (.v v)) (hr : OncesK P B ops Eb p b T ys (pre ++ [v]) rest C) :
    OncesK P B ops Eb p b T ys pre (o :: rest) C := by
  obtain ⟨r, h1, h2⟩ := hr
  rw [List.append_assoc] at h1 h2
  rw [List.length_append] at h1
  refine ⟨[v] ++ r, .cons E (fun h => ?_) (by simp) ht hd hf.more hok h1, h2⟩
  rw [h] at hp; simp at hp
theorem OncesK.store {pre : List Value} {C : List Value → Prop} {rest : List Oper} {x y : Operand} {ty : TypeId} {pos : String} {after : Array Edge} (E : Env) (hp : pre.length = p) (hf : FromN ops pre Eb ⟨none, .store T x y, ty, pos, after, none⟩ E) (hx : E.at x = some (.v (.pointer (some ⟨b, 0, none⟩)))) (hy : E.at y = some (.v (aggV ys)))
    (hr : OncesK P B ops Eb p b T ys (pre ++ [undef]) rest C) : OncesK P B ops Eb p b T ys pre (⟨none, .store T x y, ty, pos, after, none⟩ :: rest) C := by
  obtain ⟨r, h1, h2⟩ := hr
  rw [List.append_assoc] at h1 h2
  rw [List.length_append] at h1
  subst hp
  exact ⟨[undef] ++ r, .store E rfl hf.more hx hy h1, h2⟩
end
end Go.Proofs.YtlddnmblfgaimaaDoor
namespace Go.Proofs.YtlddnmblfgaimaaDoor
open Go Go.RowKit
set_option linter.unusedVariables false
set_option maxRecDepth 20000

theorem Parts_ok (n : Nat) (h1 : 1 ≤ n) (h2 : n ≤ 4096) (l j : Nat) (hl : l ≤ hg n) (hj : j < un n (l + 1))  : Fn Tryd.prog 45 [.v (nI (n)), .v (nI (l)), .v (nI (j))] (.v (.tuple #[nI (pts n l j), .int .i64 0])) := by
 refine Fn.of Tryd.func45 rfl (by kernel_rfl) Tryd.ntmps45 (by simp) (fun w => [(0, .v (nI (n))), (1, .v (nI (l))), (2, .v (nI (j)))]) (fun w => (Start.v rfl (Start.v rfl (Start.v rfl Start.nil)))) fun w₀ => ?_
 refine GS ?_
 refine TL ?_
 refine RA rfl ?_
 refine RA rfl ?_
 refine RN ?_
 refine GS ?_
 refine TN 1 ?_
 refine RM rfl ?_
 refine RN ?_
 refine ⟨_, _, eff_name (n := 22) (d := 11) (k := 1000011) rfl rfl (fun B' => ok_callB (shapeOf_fnB n h1 h2) (fun _ _ h => newD_mono _ _ h) (A1 rfl)) (by decide) (by decide), fun b11 hb11 => ?_⟩
 have hBb11 := hb11.1
 refine TN 5 ?_
 refine RM rfl ?_
 refine RM rfl ?_
 refine RS (ok_litS [(0, nI l), (1, nI j)] (plV l j) ⟨rfl, rfl, rfl, rfl, trivial⟩ (buildP _ _)) ?_
 refine RN ?_
 refine ⟨_, _, eff_alloc (n := 22) (d := 8) (k := 1000008) zero123 (by decide), fun b8 hb8 => ?_⟩
 have hBb8 := hb8.1
 refine TN 6 ?_
 refine RN ?_
 refine ⟨_, _, eff_alloc (n := 22) (d := 9) (k := 1000009) zero126 (by decide), fun b9 hb9 => ?_⟩
 have hBb9 := hb9.1
 refine TF 7 ?_
 refine RN ?_
 refine ⟨_, eff_storeA (n := 22) (s := 1000008) (size123.of (rfl)) rfl rfl (rfl) hBb8 rfl (rfl) (LV 8 rfl (LV 9 rfl (LV 14 rfl (LT 1000009 rfl (LT 1000011 rfl LN))))), ?_⟩
 refine TF 8 ?_
 refine RN ?_
 refine ⟨_, eff_storeA (n := 22) (s := 1000009) (size126.of (rfl)) rfl rfl (rfl) hBb9 rfl (rfl) (LV 8 rfl (LV 9 rfl (LT 1000008 rfl (LT 1000011 rfl LN)))), ?_⟩
 refine TL ?_
 refine RN ?_
 refine A.seq ?_
 refine GS ?_
 refine TL ?_
 refine RS (ok_loadA (s := 1000008) (by decide) Tryd.underlying123 rfl (size123.of (rfl)) rfl rfl) ?_
 refine RS (ok_loadA (s := 1000009) (by decide) Tryd.underlying126 rfl (size126.of (rfl)) rfl rfl) ?_
 refine RS (ok_callK 1000011 (has_y n b11 l j hl hj) (by decide) rfl (A2 rfl rfl)) ?_
 refine RS (ok_not rfl) ?_
 refine RN ?_
 refine A.no rfl ?_
 refine A.skip ?_
 refine EN ?_
 refine GS ?_
 refine TL ?_
 refine RS (ok_loadA (s := 1000008) (by decide) Tryd.underlying123 rfl (size123.of (rfl)) rfl rfl) ?_
 refine RS (ok_loadA (s := 1000009) (by decide) Tryd.underlying126 rfl (size126.of (rfl)) rfl rfl) ?_
 refine RS (ok_callK 1000011 (parts_fn n b11 h1 h2 l j hl hj) (by decide) rfl (A2 rfl rfl)) ?_
 refine RA rfl ?_
 refine RA rfl ?_
 refine RN ?_
 refine A.ret ?_
 exact End.ret2V rfl rfl rfl
theorem Parts_no (n : Nat) (h1 : 1 ≤ n) (h2 : n ≤ 4096) (l j : Int) (hp : ¬ IsP n l j)  : Fn Tryd.prog 45 [.v (nI (n)), .v (.int .i64 (l)), .v (.int .i64 (j))] (.v (.tuple #[.int .i64 0, .int .i64 1])) := by
 refine Fn.of Tryd.func45 rfl (by kernel_rfl) Tryd.ntmps45 (by simp) (fun w => [(0, .v (nI (n))), (1, .v (.int .i64 (l))), (2, .v (.int .i64 (j)))]) (fun w => (Start.v rfl (Start.v rfl (Start.v rfl Start.nil)))) fun w₀ => ?_
 refine GS ?_
 refine TL ?_
 refine RA rfl ?_
 refine RA rfl ?_
 refine RN ?_
 refine GS ?_
 refine TN 1 ?_
 refine RM rfl ?_
 refine RN ?_
 refine ⟨_, _, eff_name (n := 22) (d := 11) (k := 1000011) rfl rfl (fun B' => ok_callB (shapeOf_fnB n h1 h2) (fun _ _ h => newD_mono _ _ h) (A1 rfl)) (by decide) (by decide), fun b11 hb11 => ?_⟩
 have hBb11 := hb11.1
 refine TN 5 ?_
 refine RM rfl ?_
 refine RM rfl ?_
 refine RS (ok_litS [(0, .int .i64 (l)), (1, .int .i64 (j))] ([.int .i64 (l), .int .i64 (j)]) ⟨rfl, rfl, rfl, rfl, trivial⟩ (buildP _ _)) ?_
 refine RN ?_
 refine ⟨_, _, eff_alloc (n := 22) (d := 8) (k := 1000008) zero123 (by decide), fun b8 hb8 => ?_⟩
 have hBb8 := hb8.1
 refine TN 6 ?_
 refine RN ?_
 refine ⟨_, _, eff_alloc (n := 22) (d := 9) (k := 1000009) zero126 (by decide), fun b9 hb9 => ?_⟩
 have hBb9 := hb9.1
 refine TF 7 ?_
 refine RN ?_
 refine ⟨_, eff_storeA (n := 22) (s := 1000008) (size123.of (rfl)) rfl rfl (rfl) hBb8 rfl (rfl) (LV 8 rfl (LV 9 rfl (LV 14 rfl (LT 1000009 rfl (LT 1000011 rfl LN))))), ?_⟩
 refine TF 8 ?_
 refine RN ?_
 refine ⟨_, eff_storeA (n := 22) (s := 1000009) (size126.of (rfl)) rfl rfl (rfl) hBb9 rfl (rfl) (LV 8 rfl (LV 9 rfl (LT 1000008 rfl (LT 1000011 rfl LN)))), ?_⟩
 refine TL ?_
 refine RN ?_
 refine A.seq ?_
 refine GS ?_
 refine TL ?_
 refine RS (ok_loadA (s := 1000008) (by decide) Tryd.underlying123 rfl (size123.of (rfl)) rfl rfl) ?_
 refine RS (ok_loadA (s := 1000009) (by decide) Tryd.underlying126 rfl (size126.of (rfl)) rfl rfl) ?_
 refine RS (ok_callK 1000011 (has_n n b11 l j hp) (by decide) rfl (A2 rfl rfl)) ?_
 refine RS (ok_not rfl) ?_
 refine RN ?_
 refine A.yes rfl ?_
 refine GS ?_
 refine TL ?_
 refine RA rfl ?_
 refine RA rfl ?_
 refine RN ?_
 refine A.ret ?_
 refine End.ret_then ?_
 exact End.ret2V rfl rfl rfl
end Go.Proofs.YtlddnmblfgaimaaDoor
namespace Go.Proofs.YtlddnmblfgaimaaDoor
open Go Go.RowKit
set_option linter.unusedVariables false
set_option maxRecDepth 20000

end Go.Proofs.YtlddnmblfgaimaaDoor
namespace Go.Proofs.YtlddnmblfgaimaaDoor
open Go Go.RowKit
set_option linter.unusedVariables false
set_option maxRecDepth 20000

end Go.Proofs.YtlddnmblfgaimaaDoor
namespace Go.Proofs.YtlddnmblfgaimaaDoor
open Go Go.RowKit
set_option linter.unusedVariables false
set_option maxRecDepth 20000

end Go.Proofs.YtlddnmblfgaimaaDoor
namespace Go.Proofs.YtlddnmblfgaimaaDoor
open Go Go.RowKit
set_option linter.unusedVariables false
set_option maxRecDepth 20000

end Go.Proofs.YtlddnmblfgaimaaDoor
namespace Go.Proofs.YtlddnmblfgaimaaDoor
open Go Go.RowKit
set_option linter.unusedVariables false
set_option maxRecDepth 20000
end Go.Proofs.YtlddnmblfgaimaaDoor
namespace Go.Proofs.YtlddnmblfgaimaaDoor
open Go Go.RowKit

end Go.Proofs.YtlddnmblfgaimaaDoor
namespace Go.Proofs.YtlddnmblfgaimaaDoor
open Go Go.RowKit
set_option linter.unusedVariables false
set_option maxRecDepth 20000

end Go.Proofs.YtlddnmblfgaimaaDoor
namespace Go.Proofs.YtlddnmblfgaimaaDoor
open Go Go.RowKit
variable {κ : Cx}

/-! ### There is something of which it is known -/
/-! ### Digits -/
/-! ### Prime numbers by trial -/
end Go.Proofs.YtlddnmblfgaimaaDoor
namespace Go.Proofs.YtlddnmblfgaimaaDoor
open Go Go.RowKit
set_option linter.unusedVariables false
set_option maxRecDepth 20000

end Go.Proofs.YtlddnmblfgaimaaDoor
namespace Go.Proofs.YtlddnmblfgaimaaDoor
open Go Go.RowKit
set_option linter.unusedVariables false
set_option maxRecDepth 20000

end Go.Proofs.YtlddnmblfgaimaaDoor
namespace Go.Proofs.YtlddnmblfgaimaaDoor
open Go Go.RowKit
set_option linter.unusedVariables false
set_option maxRecDepth 20000

end Go.Proofs.YtlddnmblfgaimaaDoor
namespace Go.Proofs.YtlddnmblfgaimaaDoor
open Go Go.RowKit
set_option linter.unusedVariables false
set_option maxRecDepth 20000
end Go.Proofs.YtlddnmblfgaimaaDoor
namespace Go.Proofs.YtlddnmblfgaimaaDoor
open Go Go.RowKit
set_option linter.unusedVariables false
set_option maxRecDepth 20000

end Go.Proofs.YtlddnmblfgaimaaDoor
namespace Go.Proofs.YtlddnmblfgaimaaDoor
open Go Go.RowKit
set_option linter.unusedVariables false
set_option maxRecDepth 20000

end Go.Proofs.YtlddnmblfgaimaaDoor
namespace Go.Proofs.YtlddnmblfgaimaaDoor
open Go Go.RowKit
set_option linter.unusedVariables false
set_option maxRecDepth 20000
set_option linter.unusedSimpArgs false
/-! Parts of bytes. -/
def prt (k : Nat) (l : List UInt8) (i : Nat) : List UInt8 := (l.drop (k * i)).take k
theorem prt_len {k : Nat} {l : List UInt8} {i : Nat} (h : l.length = 4 * k) (hi : i < 4) : (prt k l i).length = k := by
 have := Nat.mul_le_mul_left k (Nat.succ_le_of_lt hi)
 rw [Nat.mul_succ] at this
 unfold prt
 rw [List.length_take, List.length_drop]; omega
theorem prt_byt (k : Nat) (l : List UInt8) (i : Nat) : lst (((l.map byteD).take (k * (i + 1))).drop (k * i)) = byt (prt k l i) := by
 unfold byt prt
 rw [List.map_take, List.map_drop, List.drop_take, show k * (i + 1) - k * i = k from by rw [Nat.mul_succ]; omega]
theorem prt_flat {α : Type} {v : α → List UInt8} {k : Nat} {L : List α} (hL : L.length = 4) (h : ∀ a ∈ L, (v a).length = k) {i : Nat} (hi : i < 4) (z : α) : prt k (L.flatMap v) i = v (L.getD i z) := by
 unfold prt
 rw [Nat.mul_comm]
 exact flat_getD h (by omega) z
theorem prt_back {k : Nat} {l : List UInt8} (h : l.length = 4 * k) : prt k l 0 ++ (prt k l 1 ++ (prt k l 2 ++ prt k l 3)) = l := by
 unfold prt
 rw [Nat.mul_zero, List.drop_zero, List.take_of_length_le (l := List.drop (k * 3) l) (by rw [List.length_drop]; omega), show k * 3 = k * 2 + k from by omega, ← List.drop_drop, List.take_append_drop, show k * 2 = k * 1 + k from by omega, ← List.drop_drop, List.take_append_drop, Nat.mul_one, List.take_append_drop]
def RecT.of (l : List UInt8) : RecT := ⟨pX l, gS (pN l), gC (pN l), pT l⟩
def EntT.of (l : List UInt8) : EntT := ⟨pX l, pD l⟩
theorem RecT.of_fit {l : List UInt8} (h : l.length = 45) : (RecT.of l).Fit := ⟨pT_len h, gS_lt _, gC_lt _⟩
theorem EntT.of_fit {l : List UInt8} (h : l.length = 33) : (EntT.of l).Fit := ⟨pD_len h⟩
theorem RecT.of_l {l : List UInt8} (h : l.length = 45) : (RecT.of l).l = l := rec_back h
theorem EntT.of_l {l : List UInt8} (h : l.length = 33) : (EntT.of l).l = l := ent_back h
theorem RecT.l_of {r : RecT} (h : r.Fit) : RecT.of r.l = r := by
 obtain ⟨h1, h2, h3, h4⟩ := rec_front (x := r.x) h.t h.s h.c
 unfold RecT.of RecT.l
 rw [h1, h2, h3, h4]
theorem EntT.l_of {r : EntT} (h : r.Fit) : EntT.of r.l = r := by
 obtain ⟨h1, h2⟩ := ent_front (x := r.x) h.t
 unfold EntT.of EntT.l
 rw [h1, h2]
def RecT.any (l : List UInt8) : RecT := if (RecT.of l).ck = 0 then RecT.of l else RecT.zero
def EntT.any (l : List UInt8) : EntT := if (EntT.of l).ck = 0 then EntT.of l else EntT.zero
theorem RecT.any_ok {l : List UInt8} (h : (RecT.of l).ck = 0) : RecT.any l = RecT.of l := if_pos h
theorem EntT.any_ok {l : List UInt8} (h : (EntT.of l).ck = 0) : EntT.any l = EntT.of l := if_pos h
theorem RecT.any_fit {l : List UInt8} (h : l.length = 45) : (RecT.any l).Fit := by unfold RecT.any; split; exact RecT.of_fit h; exact RecT.zero_fit
theorem EntT.any_fit {l : List UInt8} (h : l.length = 33) : (EntT.any l).Fit := by unfold EntT.any; split; exact EntT.of_fit h; exact EntT.zero_fit
theorem pg_store {α β : Type} {v : α → List β} {k : Nat} {z : α} {f : Nat → α} (hz : (v z).length = k) (hf : ∀ i, i < 4 → (v (f i)).length = k) {i : Nat} (hi : i < 4) :
  ((pg z f i).flatMap v).take (0 + i * k) ++ v (f i) ++ ((pg z f i).flatMap v).drop (0 + i * k + (v (f i)).length) = (pg z f (i + 1)).flatMap v := by
 rw [Nat.zero_add, hf i hi, flat_set (fun a ha => (pg_mem ha).elim (fun e => e ▸ hz) fun ⟨j, hj, _, e⟩ => e ▸ hf j hj) (by rw [pg_length]; exact hi) (hf i hi), pg_set z f hi]
theorem pg_lens {α β : Type} {v : α → List β} {k : Nat} {z : α} {f : Nat → α} (hz : (v z).length = k) (hf : ∀ i, i < 4 → (v (f i)).length = k) (i : Nat) : ((pg z f i).flatMap v).length = 4 * k := by
 rw [flat_length (fun a ha => (pg_mem ha).elim (fun e => e ▸ hz) fun ⟨j, hj, _, e⟩ => e ▸ hf j hj), pg_length]
/-! The node of bytes. -/
def szN (l : List UInt8) : Int := if l.length = 0 then 6 else if 5 < (pX l).toNat then 1 else if l.length < NodT.sz (pX l).toNat then 6 else if NodT.sz (pX l).toNat < l.length then 5 else 0
def jN (l : List UInt8) : Nat := (getV ((l.drop 1).take 4) 4).toNat
abbrev rN (l : List UInt8) (i : Nat) : RecT := RecT.of (prt 45 (l.drop 5) i)
abbrev eN (l : List UInt8) (i : Nat) : EntT := EntT.of (prt 33 (l.drop 5) i)
def gtN (l : List UInt8) : NodT := if (pX l).toNat = 0 then ⟨pX l, jN l, pg RecT.zero (rN l) 4, zerosE⟩ else ⟨pX l, jN l, zerosR, pg EntT.zero (eN l) 4⟩
def geN (l : List UInt8) : Int := if szN l ≠ 0 then szN l else if (pX l).toNat = 0 then fst4 fun i => (rN l i).ck else fst4 fun i => (eN l i).ck
theorem jN_lt (l : List UInt8) : jN l < 4294967296 := by
 unfold jN getV
 split
 ·rename_i h; have := num_lt ((l.drop 1).take 4); rw [h] at this; omega
 ·decide
theorem szN_ok {l : List UInt8} (h : szN l = 0) : 0 < l.length ∧ (pX l).toNat ≤ 5 ∧ l.length = NodT.sz (pX l).toNat := by
 unfold szN at h
 split at h
 ·cases h
 ·split at h
  ·cases h
  ·split at h
   ·cases h
   ·split at h
    ·cases h
    ·omega
theorem lenR {l : List UInt8} (h : szN l = 0) (h0 : (pX l).toNat = 0) : l.length = 185 ∧ (l.drop 5).length = 4 * 45 := by
 have h1 := (szN_ok h).2.2
 rw [h0] at h1
 refine ⟨h1, ?_⟩
 rw [List.length_drop, h1]; rfl
theorem lenE {l : List UInt8} (h : szN l = 0) (h0 : ¬ (pX l).toNat = 0) : l.length = 137 ∧ (l.drop 5).length = 4 * 33 := by
 have h1 := (szN_ok h).2.2
 unfold NodT.sz at h1
 rw [if_neg h0] at h1
 refine ⟨h1, ?_⟩
 rw [List.length_drop, h1]
theorem gtN_R {l : List UInt8} (h0 : (pX l).toNat = 0) : gtN l = ⟨pX l, jN l, pg RecT.zero (rN l) 4, zerosE⟩ := if_pos h0
theorem gtN_E {l : List UInt8} (h0 : ¬ (pX l).toNat = 0) : gtN l = ⟨pX l, jN l, zerosR, pg EntT.zero (eN l) 4⟩ := if_neg h0
theorem geN_sz {l : List UInt8} (h : szN l ≠ 0) : geN l = szN l := if_pos h
theorem geN_R {l : List UInt8} (h : szN l = 0) (h0 : (pX l).toNat = 0) : geN l = fst4 fun i => (rN l i).ck := by unfold geN; rw [if_neg (by simp [h]), if_pos h0]
theorem geN_E {l : List UInt8} (h : szN l = 0) (h0 : ¬ (pX l).toNat = 0) : geN l = fst4 fun i => (eN l i).ck := by unfold geN; rw [if_neg (by simp [h]), if_neg h0]
theorem zr_get {i : Nat} : (zerosR.getD i RecT.zero) = RecT.zero := by
 unfold zerosR
 rw [List.getD_eq_getElem?_getD, List.getElem?_replicate]; split <;> rfl
theorem ze_get {i : Nat} : (zerosE.getD i EntT.zero) = EntT.zero := by
 unfold zerosE
 rw [List.getD_eq_getElem?_getD, List.getElem?_replicate]; split <;> rfl
theorem gtN_fit {l : List UInt8} (h : szN l = 0) : (gtN l).Fit := by
 by_cases h0 : (pX l).toNat = 0
 ·rw [gtN_R h0]
  exact ⟨jN_lt l, pg_length _ _ _, rfl, fun a ha => (pg_mem ha).elim (fun e => e ▸ RecT.zero_fit) fun ⟨j, hj, _, e⟩ => e ▸ RecT.of_fit (prt_len (lenR h h0).2 hj), NodT.ze_fit⟩
 ·rw [gtN_E h0]
  exact ⟨jN_lt l, rfl, pg_length _ _ _, NodT.zr_fit, fun a ha => (pg_mem ha).elim (fun e => e ▸ EntT.zero_fit) fun ⟨j, hj, _, e⟩ => e ▸ EntT.of_fit (prt_len (lenE h h0).2 hj)⟩
theorem geN_szN {l : List UInt8} (h : geN l = 0) : szN l = 0 := by
 by_cases hs : szN l = 0
 ·exact hs
 ·rw [geN_sz hs] at h; exact h
theorem gtN_ck {l : List UInt8} (h : geN l = 0) : (gtN l).ck = 0 := by
 have hs := geN_szN h
 by_cases h0 : (pX l).toNat = 0
 ·rw [geN_R hs h0] at h
  rw [gtN_R h0]
  refine NodT.ok_R h0 (fun i hi => by unfold NodT.e; rw [ze_get]; exact EntT.z_iff.2 rfl) fun i hi => ?_
  unfold NodT.r
  rw [pg_getD _ _ _ hi, if_pos hi]
  exact RecT.ck_zero.1 (fst4_zero h i hi)
 ·rw [geN_E hs h0] at h
  rw [gtN_E h0]
  refine NodT.ok_E (by have := (szN_ok hs).2.1; show ¬ 5 < (pX l).toNat; omega) h0 (fun i hi => by unfold NodT.r; rw [zr_get]; exact RecT.z_iff.2 rfl) fun i hi => ?_
  unfold NodT.e
  rw [pg_getD _ _ _ hi, if_pos hi]
  exact EntT.ck_zero.1 (fst4_zero h i hi)
theorem pg_flat {α β : Type} {v : α → List β} (z : α) (f : Nat → α) : (pg z f 4).flatMap v = v (f 0) ++ (v (f 1) ++ (v (f 2) ++ v (f 3))) := by simp [pg, List.range, List.range.loop]
theorem front5 {l : List UInt8} (h : 5 ≤ l.length) : pX l :: (be 4 (jN l) ++ l.drop 5) = l := by
 unfold jN
 rw [be_getV (by rw [List.length_take, List.length_drop]; omega), show 5 = 1 + 4 from rfl, ← List.drop_drop, List.take_append_drop, ← pX_drop (by omega)]
theorem gtN_bl {l : List UInt8} (h : szN l = 0) : (gtN l).bl = l := by
 by_cases h0 : (pX l).toNat = 0
 ·obtain ⟨h1, h2⟩ := lenR h h0
  rw [gtN_R h0]
  unfold NodT.bl
  rw [if_pos h0]
  show pX l :: (be 4 (jN l) ++ (pg RecT.zero (rN l) 4).flatMap RecT.l) = l
  rw [pg_flat, RecT.of_l (prt_len h2 (by decide)), RecT.of_l (prt_len h2 (by decide)), RecT.of_l (prt_len h2 (by decide)), RecT.of_l (prt_len h2 (by decide)), prt_back h2, front5 (by omega)]
 ·obtain ⟨h1, h2⟩ := lenE h h0
  rw [gtN_E h0]
  unfold NodT.bl
  rw [if_neg h0]
  show pX l :: (be 4 (jN l) ++ (pg EntT.zero (eN l) 4).flatMap EntT.l) = l
  rw [pg_flat, EntT.of_l (prt_len h2 (by decide)), EntT.of_l (prt_len h2 (by decide)), EntT.of_l (prt_len h2 (by decide)), EntT.of_l (prt_len h2 (by decide)), prt_back h2, front5 (by omega)]
/-! A node out of its own bytes. -/
theorem bl_x (x : NodT) : pX x.bl = x.l := rfl
theorem bl_j {x : NodT} (hx : x.Fit) : jN x.bl = x.j := by
 unfold jN NodT.bl
 rw [List.drop_one, List.tail_cons, List.take_left' (be_length 4 x.j), getV, if_pos (be_length 4 x.j), num_be, Nat.mod_eq_of_lt (by have := hx.j; omega), Int.toNat_natCast]
theorem bl_drop (x : NodT) : x.bl.drop 5 = if x.l.toNat = 0 then x.R.flatMap RecT.l else x.E.flatMap EntT.l := by
 unfold NodT.bl
 rw [show 5 = 4 + 1 from rfl, List.drop_succ_cons, List.drop_left' (be_length 4 x.j)]
theorem bl_sz {x : NodT} (hx : x.Fit) (hl : x.l.toNat ≤ 5) : szN x.bl = 0 := by
 have h1 := hx.bl_length
 have h2 := sz_le x.l.toNat
 unfold szN
 rw [bl_x, if_neg (by omega), if_neg (by omega), if_neg (by omega), if_neg (by omega)]
theorem rest_zero {α : Type} {L : List α} {z : α} {Z : α → Prop} (hz : ∀ a, Z a → a = z) (hL : L.length = 4) (h : ∀ i, i < 4 → Z (L.getD i z)) : L = List.replicate 4 z :=
 ext4 hL (by simp) z fun i hi => by rw [hz _ (h i hi), List.getD_eq_getElem?_getD, List.getElem?_replicate, if_pos hi]; rfl
theorem bl_back {x : NodT} (hx : x.Fit) (hk : x.ck = 0) : gtN x.bl = x ∧ geN x.bl = 0 := by
 obtain ⟨h5, hR, hE⟩ := NodT.ck_ok hk
 have hs := bl_sz hx h5
 by_cases h0 : x.l.toNat = 0
 ·have hd := bl_drop x
  rw [if_pos h0] at hd
  have hp : ∀ i, i < 4 → rN x.bl i = x.r i := fun i hi => by
   unfold rN
   rw [hd, prt_flat hx.lr (RecT.lensL hx.fr) hi RecT.zero]; exact RecT.l_of (hx.r i)
  refine ⟨?_, ?_⟩
  ·rw [gtN_R (l := x.bl) h0, bl_x, bl_j hx]
   have h1 : pg RecT.zero (rN x.bl) 4 = x.R := ext4 (pg_length _ _ _) hx.lr RecT.zero fun i hi => by rw [pg_getD _ _ _ hi, if_pos hi, hp i hi]; rfl
   have h2 : zerosE = x.E := (rest_zero (fun _ h => EntT.z_iff.1 h) hx.le (hR h0).1).symm
   rw [h1, h2]
  ·rw [geN_R hs h0]
   exact fst4_no fun i hi => by rw [hp i hi]; exact RecT.ck_zero.2 ((hR h0).2 i hi)
 ·have hd := bl_drop x
  rw [if_neg h0] at hd
  have hp : ∀ i, i < 4 → eN x.bl i = x.e i := fun i hi => by
   unfold eN
   rw [hd, prt_flat hx.le (EntT.lensL hx.fe) hi EntT.zero]; exact EntT.l_of (hx.e i)
  refine ⟨?_, ?_⟩
  ·rw [gtN_E (l := x.bl) h0, bl_x, bl_j hx]
   have h1 : pg EntT.zero (eN x.bl) 4 = x.E := ext4 (pg_length _ _ _) hx.le EntT.zero fun i hi => by rw [pg_getD _ _ _ hi, if_pos hi, hp i hi]; rfl
   have h2 : zerosR = x.R := (rest_zero (fun _ h => RecT.z_iff.1 h) hx.lr (hE h0).1).symm
   rw [h1, h2]
  ·rw [geN_E hs h0]
   exact fst4_no fun i hi => by rw [hp i hi]; exact EntT.ck_zero.2 ((hE h0).2 i hi)
/-! Whether a node fits. -/
open Classical in
noncomputable def ftN (n : Int) (x : NodT) : Int := if ¬ (1 ≤ n ∧ n ≤ 4096) then 1 else if x.ck ≠ 0 then x.ck else if ¬ IsP n.toNat x.l.toNat x.j then 17 else if ∀ i, pts n.toNat x.l.toNat x.j ≤ i → i < 4 → (x.r i).Z ∧ (x.e i).Z then 0 else 17
theorem ft_bad {n : Int} {x : NodT} (h : ¬ (1 ≤ n ∧ n ≤ 4096)) : ftN n x = 1 := if_pos h
theorem ft_ck {n : Nat} {x : NodT} (h1 : 1 ≤ n) (h2 : n ≤ 4096) (h : x.ck ≠ 0) : ftN n x = x.ck := by unfold ftN; rw [if_neg (by omega), if_pos h]
theorem ft_no {n : Nat} {x : NodT} (h1 : 1 ≤ n) (h2 : n ≤ 4096) (h : x.ck = 0) (hp : ¬ IsP n x.l.toNat x.j) : ftN n x = 17 := by unfold ftN; rw [if_neg (by omega), if_neg (by simp [h]), Int.toNat_natCast, if_pos hp]
theorem ft_ok {n : Nat} {x : NodT} (h1 : 1 ≤ n) (h2 : n ≤ 4096) (h : x.ck = 0) (hp : IsP n x.l.toNat x.j) (hz : ∀ i, pts n x.l.toNat x.j ≤ i → i < 4 → (x.r i).Z ∧ (x.e i).Z) : ftN n x = 0 := by unfold ftN; rw [if_neg (by omega), if_neg (by simp [h]), Int.toNat_natCast, if_neg (fun h => h hp), if_pos hz]
theorem ft_part {n : Nat} {x : NodT} (h1 : 1 ≤ n) (h2 : n ≤ 4096) (h : x.ck = 0) (hp : IsP n x.l.toNat x.j) (hz : ¬ ∀ i, pts n x.l.toNat x.j ≤ i → i < 4 → (x.r i).Z ∧ (x.e i).Z) : ftN n x = 17 := by unfold ftN; rw [if_neg (by omega), if_neg (by simp [h]), Int.toNat_natCast, if_neg (fun h => h hp), if_neg hz]
theorem NodT.Fit.rec_drop {x : NodT} (h : x.Fit) {m : Nat} (hm : m ≤ 4) : (x.v.drop (if 4 = m then 0 + 2 else 0 + 2 + m * 35)).take ((x.R.drop m).length * 35) = (x.R.drop m).flatMap RecT.v := by
 by_cases h4 : 4 = m
 ·subst h4
  rw [show x.R.drop 4 = [] from List.drop_eq_nil_of_le (by rw [h.lr]; exact Nat.le_refl _)]
  rw [List.length_nil, Nat.zero_mul, List.take_zero, List.flatMap_nil]
 ·rw [if_neg h4, Nat.zero_add, ← List.drop_drop]
  show List.take _ (List.drop (m * 35) (recsV x.R ++ entsV x.E)) = _
  rw [List.drop_append_of_le_length (by rw [h.lenR]; omega), recsV, flat_drop (RecT.lens h.fr), List.take_left' (flat_length (fun a ha => (h.fr a (List.mem_of_mem_drop ha)).len))]
theorem NodT.Fit.ent_drop {x : NodT} (h : x.Fit) {m : Nat} (hm : m ≤ 4) : (x.v.drop (if 4 = m then 0 + 142 else 0 + 142 + m * 33)).take ((x.E.drop m).length * 33) = (x.E.drop m).flatMap EntT.v := by
 by_cases h4 : 4 = m
 ·subst h4
  rw [show x.E.drop 4 = [] from List.drop_eq_nil_of_le (by rw [h.le]; exact Nat.le_refl _)]
  rw [List.length_nil, Nat.zero_mul, List.take_zero, List.flatMap_nil]
 ·rw [if_neg h4, Nat.zero_add, ← List.drop_drop]
  show List.take _ (List.drop (m * 33) (List.drop 140 (recsV x.R ++ entsV x.E))) = _
  rw [List.drop_left' h.lenR, entsV, flat_drop (EntT.lens h.fe), List.take_of_length_le (Nat.le_of_eq (flat_length (fun a ha => (h.fe a (List.mem_of_mem_drop ha)).len)))]
theorem drop_getD {α : Type} (L : List α) (m i : Nat) (z : α) : (L.drop m).getD i z = L.getD (m + i) z := by rw [List.getD_eq_getElem?_getD, List.getD_eq_getElem?_getD, List.getElem?_drop]
/-! Parts that are replaced. -/
noncomputable def cpN (x : NodT) (n : Int) (has : Bool) : Int := if ¬ (0 ≤ n ∧ n < 4) then 1 else if x.ck ≠ 0 then x.ck else if has = false then 1 else 0
noncomputable def wrE (x : NodT) (n : Int) (r : RecT) : Int := if cpN x n (decide (x.l.toNat = 0)) ≠ 0 then cpN x n (decide (x.l.toNat = 0)) else r.ck
noncomputable def weE (x : NodT) (n : Int) (r : EntT) : Int := if cpN x n (!(decide (x.l.toNat = 0))) ≠ 0 then cpN x n (!(decide (x.l.toNat = 0))) else r.ck
noncomputable def wrX (x : NodT) (n : Int) (r : RecT) : NodT := if wrE x n r = 0 then { x with R := x.R.set n.toNat r } else NodT.emp 0 0
noncomputable def weX (x : NodT) (n : Int) (r : EntT) : NodT := if weE x n r = 0 then { x with E := x.E.set n.toNat r } else NodT.emp 0 0
theorem cp_ok {x : NodT} {n : Int} {b : Bool} (h : cpN x n b = 0) : 0 ≤ n ∧ n < 4 ∧ x.ck = 0 ∧ b = true := by
 unfold cpN at h
 split at h
 ·cases h
 ·split at h
  ·rename_i h1; exact absurd h h1
  ·split at h
   ·cases h
   ·refine ⟨by omega, by omega, by simp_all, by simp_all⟩
/-! How many are used. -/
def usN (x : NodT) : Nat := cnt (fun i => if x.l.toNat = 0 then decide ((x.r i).x.toNat ≠ 0) else decide ((x.e i).x.toNat ≠ 0)) 4
theorem cnt_ext {p q : Nat → Bool} : ∀ {n : Nat}, (∀ i, i < n → p i = q i) → cnt p n = cnt q n
 | 0, _ => rfl
 | n + 1, h => by rw [cnt, cnt, cnt_ext (fun i hi => h i (by omega)), h n (by omega)]
theorem buildX0 (a : UInt8) : Tryd.prog.built 41 [(0, byteV a)] = some (NodT.emp a 0).v.toArray := by kernel_rfl
theorem buildX (a : UInt8) (j : Nat) : Tryd.prog.built 41 [(0, byteV a), (1, .int .u32 (j : Int))] = some (NodT.emp a j).v.toArray := by kernel_rfl

theorem sub_byt (l : List UInt8) (a b : Nat) : lst (((l.map byteD).take b).drop a) = byt ((l.drop a).take (b - a)) := by
 unfold byt
 rw [List.map_take, List.map_drop, List.drop_take]
theorem end_byt (l : List UInt8) (a : Nat) : lst (((l.map byteD).take l.length).drop a) = byt (l.drop a) := by
 unfold byt
 rw [List.take_of_length_le (by rw [List.length_map]; exact Nat.le_refl _), List.map_drop]
theorem setR_emp (a : UInt8) (j : Nat) {L : List RecT} (h : (recsV L).length = 140) : (NodT.emp a j).v.take (0 + 2) ++ recsV L ++ (NodT.emp a j).v.drop (0 + 2 + (recsV L).length) = (⟨a, j, L, zerosE⟩ : NodT).v := by
 rw [h]
 show [byteV a, nW j] ++ recsV L ++ List.drop 140 (recsV zerosR ++ entsV zerosE) = _
 rw [List.drop_left' (by rfl), List.append_assoc]; rfl
theorem setE_emp (a : UInt8) (j : Nat) {L : List EntT} (h : (entsV L).length = 132) : (NodT.emp a j).v.take (0 + 142) ++ entsV L ++ (NodT.emp a j).v.drop (0 + 142 + (entsV L).length) = (⟨a, j, zerosR, L⟩ : NodT).v := by
 rw [h, List.drop_eq_nil_of_le (by rw [show (NodT.emp a j).v.length = 274 from rfl]; decide), List.append_nil]
 show ([byteV a, nW j] ++ List.take 140 (recsV zerosR ++ entsV zerosE)) ++ entsV L = _
 rw [List.take_left' (by rfl), List.append_assoc]; rfl
theorem px_get {l : List UInt8} (h : ¬ l.length = 0) : (l.map byteD)[0]? = some (byteD (pX l)) := by cases l with | nil => exact absurd rfl h | cons a l => rfl
theorem nSize_fn (l : List UInt8)  : FnM Tryd.prog 48 tabS [byt l] (.v (.int .i64 (szN l))) := by
 refine FnM.of Tryd.func48 rfl (by kernel_rfl) Tryd.ntmps48 (by simp) (by decide) (fun w => [(0, old w.heap.size (byt l)), (1900000, tab 0 (sizV))]) (fun w => (StartM.old rfl (StartM.m (by simp [tabS]) (by decide) StartM.nil))) fun w₀ hM => ?_
 have htab := tabS_hi hM
 refine GS ?_
 refine TL ?_
 refine RA rfl ?_
 refine RN ?_
 refine A.seq ?_
 refine A.block ?_
 refine GS ?_
 refine TL ?_
 refine RM rfl ?_
 refine RS (ok_lenB Tryd.underlying44 rfl LA) ?_
 refine RB rfl rfl rfl ?_
 refine RA rfl ?_
 refine RN ?_
 refine A.cond rfl (fun hc3 => ?_) (fun hc3 => ?_)
 ·have h0 : l.length = 0 := by simp at hc3; simp [hc3]
  refine GS ?_
  refine TL ?_
  refine RA rfl ?_
  refine RN ?_
  refine A.ret ?_
  refine End.ret_block ?_
  refine End.ret_then ?_
  exact End.ret1 rfl rfl (Le.v (congrArg (Value.int .i64) (by unfold szN; first | rw [if_pos h0] | rw [if_neg h0, if_pos h5] | rw [if_neg h0, if_neg h5, if_pos h6] | rw [if_neg h0, if_neg h5, if_neg h6, if_pos h7] | rw [if_neg h0, if_neg h5, if_neg h6, if_neg h7])))
 ·have h0 : ¬ l.length = 0 := by simp at hc3; simp [hc3]
  refine GS ?_
  refine TL ?_
  refine RM rfl ?_
  refine RS (ok_index (d := byteD (pX l)) Tryd.underlying44 info5 rfl LA rfl (by decide) (px_get h0)) ?_
  refine RS (ok_load Tryd.underlying5 rfl rfl) ?_
  refine RB rfl rfl rfl ?_
  refine RA rfl ?_
  refine RN ?_
  refine A.cond rfl (fun hc7 => ?_) (fun hc7 => ?_)
  ·have h5 : 5 < (pX l).toNat := by simp at hc7; omega
   refine GS ?_
   refine TL ?_
   refine RA rfl ?_
   refine RN ?_
   refine A.ret ?_
   refine End.ret_block ?_
   refine End.ret_then ?_
   exact End.ret1 rfl rfl (Le.v (congrArg (Value.int .i64) (by unfold szN; first | rw [if_pos h0] | rw [if_neg h0, if_pos h5] | rw [if_neg h0, if_neg h5, if_pos h6] | rw [if_neg h0, if_neg h5, if_neg h6, if_pos h7] | rw [if_neg h0, if_neg h5, if_neg h6, if_neg h7])))
  ·have h5 : ¬ 5 < (pX l).toNat := by simp at hc7; omega
   refine GS ?_
   refine TL ?_
   refine RM rfl ?_
   refine RS (ok_lenB Tryd.underlying44 rfl LA) ?_
   refine RM rfl ?_
   refine RS (ok_index (d := byteD (pX l)) Tryd.underlying44 info5 rfl LA rfl (by decide) (px_get h0)) ?_
   refine RS (ok_load Tryd.underlying5 rfl rfl) ?_
   refine RS (ok_index0 (pX l).toNat Tryd.underlying75 info3 rfl rfl rfl (by omega)) ?_
   refine RS (ok_loadVT (s := 1900000) (by decide) Tryd.underlying3 rfl rfl rfl (siz_get (by omega))) ?_
   refine RB rfl rfl rfl ?_
   refine RA rfl ?_
   refine RN ?_
   refine A.cond rfl (fun hc12 => ?_) (fun hc12 => ?_)
   ·have h6 : l.length < NodT.sz (pX l).toNat := by simp at hc12; omega
    refine GS ?_
    refine TL ?_
    refine RA rfl ?_
    refine RN ?_
    refine A.ret ?_
    refine End.ret_block ?_
    refine End.ret_then ?_
    exact End.ret1 rfl rfl (Le.v (congrArg (Value.int .i64) (by unfold szN; first | rw [if_pos h0] | rw [if_neg h0, if_pos h5] | rw [if_neg h0, if_neg h5, if_pos h6] | rw [if_neg h0, if_neg h5, if_neg h6, if_pos h7] | rw [if_neg h0, if_neg h5, if_neg h6, if_neg h7])))
   ·have h6 : ¬ l.length < NodT.sz (pX l).toNat := by simp at hc12; omega
    refine GS ?_
    refine TL ?_
    refine RM rfl ?_
    refine RS (ok_lenB Tryd.underlying44 rfl LA) ?_
    refine RM rfl ?_
    refine RS (ok_index (d := byteD (pX l)) Tryd.underlying44 info5 rfl LA rfl (by decide) (px_get h0)) ?_
    refine RS (ok_load Tryd.underlying5 rfl rfl) ?_
    refine RS (ok_index0 (pX l).toNat Tryd.underlying75 info3 rfl rfl rfl (by omega)) ?_
    refine RS (ok_loadVT (s := 1900000) (by decide) Tryd.underlying3 rfl rfl rfl (siz_get (by omega))) ?_
    refine RB rfl rfl rfl ?_
    refine RA rfl ?_
    refine RN ?_
    refine A.sub (KC 21 rfl (KC 1900000 rfl KN)) ?_
    refine A.cond rfl (fun hc21 => ?_) (fun hc21 => ?_)
    ·have h7 : NodT.sz (pX l).toNat < l.length := by simp at hc21; omega
     refine GS ?_
     refine TL ?_
     refine RA rfl ?_
     refine RN ?_
     refine A.ret ?_
     refine End.ret_block ?_
     refine End.ret_then ?_
     exact End.ret1 rfl rfl (Le.v (congrArg (Value.int .i64) (by unfold szN; first | rw [if_pos h0] | rw [if_neg h0, if_pos h5] | rw [if_neg h0, if_neg h5, if_pos h6] | rw [if_neg h0, if_neg h5, if_neg h6, if_pos h7] | rw [if_neg h0, if_neg h5, if_neg h6, if_neg h7])))
    ·have h7 : ¬ NodT.sz (pX l).toNat < l.length := by simp at hc21; omega
     refine A.skip ?_
     refine End.normal_block ?_
     refine EN ?_
     refine GS ?_
     refine TL ?_
     refine RA rfl ?_
     refine RN ?_
     refine A.ret ?_
     exact End.ret1 rfl rfl (Le.v (congrArg (Value.int .i64) (by unfold szN; first | rw [if_pos h0] | rw [if_neg h0, if_pos h5] | rw [if_neg h0, if_neg h5, if_pos h6] | rw [if_neg h0, if_neg h5, if_neg h6, if_pos h7] | rw [if_neg h0, if_neg h5, if_neg h6, if_neg h7])))
theorem GetRecord_any (l : List UInt8) (h : l.length = 45) : Fn Tryd.prog 51 [byt l] (.v (.tuple #[aggV (RecT.any l).v, .int .i64 (RecT.of l).ck])) := by
 by_cases hk : (RecT.of l).ck = 0
 ·rw [RecT.any_ok hk, hk]; exact GetRecord_ok l h (RecT.ck_zero.1 hk)
 ·rw [show RecT.any l = RecT.zero from if_neg hk, (RecT.of l).ck_one.resolve_left hk]; exact GetRecord_bad l h (RecT.ck_bad hk)
theorem nytR {f : Nat → Int} {i : Nat} (hF : fst4 f ≠ 0) (hG : i < 4 ∧ ∀ j, j < i → f j = 0) (hk : f i = 0) : i + 1 < 4 ∧ ∀ j, j < i + 1 → f j = 0 := by
 have h1 : ∀ j, j < i + 1 → f j = 0 := fun j hj => (Nat.lt_or_ge j i).elim (hG.2 j) fun h => by rw [show j = i from by omega]; exact hk
 refine ⟨?_, h1⟩
 rcases Nat.lt_or_ge (i + 1) 4 with h | h
 ·exact h
 ·exact absurd (fst4_no fun k hk => h1 k (by omega)) hF
theorem getPartsR_ok (l : List UInt8) (h : l.length = 4 * 45) (hF : (fst4 fun i => (RecT.of (prt 45 l i)).ck) = 0) : Fn Tryd.prog 50 [byt l, .v (.func (.func 51) #[] #[])] (.v (.tuple #[aggV (recsV (pg RecT.zero (fun i => RecT.of (prt 45 l i)) 4)), .int .i64 0])) := by
 refine Fn.of Tryd.func50 rfl (by kernel_rfl) Tryd.ntmps50 (by simp) (fun w => [(0, old w.heap.size (byt l)), (1, .v (.func (.func 51) #[] #[]))]) (fun w => (Start.old rfl (Start.v rfl Start.nil))) fun w₀ => ?_
 refine GS ?_
 refine TN 0 ?_
 refine RN ?_
 refine ⟨_, _, eff_alloc (n := 40) (d := 4) (k := 1000004) zero36 (by decide), fun b4 hb4 => ?_⟩
 have hBb4 := hb4.1
 refine TL ?_
 refine RA rfl ?_
 refine RN ?_
 refine GS ?_
 refine TN 0 ?_
 refine RN ?_
 refine ⟨_, _, eff_alloc (n := 40) (d := 6) (k := 1000006) zero36 (by decide), fun b6 hb6 => ?_⟩
 have hBb6 := hb6.1
 have hlt_b4_b6 : b4 < b6 := hb6.2 1000004 _ _ _ rfl
 refine TL ?_
 refine RN ?_
 refine GS ?_
 refine TL ?_
 refine RM rfl ?_
 refine RS (ok_lenB Tryd.underlying44 rfl LA) ?_
 refine RS (ok_div rfl rfl (by decide)) ?_; refine RZ (nI (45)) (by rw [h, tdiv_lit _ (by decide)]; rfl) ?_
 refine RA rfl ?_
 refine RN ?_
 refine A.seq ?_
 refine GS ?_
 refine TL ?_
 refine RM rfl ?_
 refine RN ?_
 refine A.block ?_
 refine A.loop (ι := Nat) (fun i => i ≤ 4) (fun i => [(0, old w₀.heap.size (byt l)), (1, .v (.func (.func 51) #[] #[])), (4, .v (ptr b4)), (6, .v (ptr b6)), (7, .v (nI (45))), (14, .v (nI (i))), (1000004, blk b4 36 (recsV zerosR)), (1000006, blk b6 36 (recsV (pg RecT.zero (fun i => RecT.of (prt 45 l i)) i)))]) (fun i => 4 - i) 0 ?_ ?_ ?_
 ·exact Nat.zero_le _
 ·exact (KC 0 rfl (KC 1 rfl (KC 4 rfl (KC 6 rfl (KC 7 rfl (KE 14 rfl (by rfl) (KC 1000004 rfl (KE 1000006 rfl (by rfl) KN))))))))
 intro i hG
 refine GS ?_
 refine TL ?_
 refine RB rfl rfl rfl ?_
 refine RN ?_
 refine A.seq ?_
 refine A.cond rfl (fun hc15 => ?_) (fun hc15 => ?_)
 ·have hi : i < 4 := by simp at hc15; omega
  have hk : (RecT.of (prt 45 l i)).ck = 0 := fst4_zero (f := fun i => (RecT.of (prt 45 l i)).ck) hF i hi
  refine A.skip ?_
  refine EN ?_
  refine A.seq ?_
  refine A.block ?_
  refine GS ?_
  refine TL ?_
  refine RM rfl ?_
  refine RA rfl ?_
  refine RN ?_
  refine GS ?_
  refine TN 14 ?_
  refine RM rfl ?_
  refine RM rfl ?_
  refine RM rfl ?_
  refine RM rfl ?_
  refine RBS rfl rfl rfl (nI (45 * i)) (wrap_eq (by omega) (by omega)) ?_
  refine RM rfl ?_
  refine RM rfl ?_
  refine RBS rfl rfl rfl (nI (i + 1)) (wrap_eq (by omega) (by omega)) ?_
  refine RBS rfl rfl rfl (nI (45 * (i + 1))) (wrap_eq (by omega) (by omega)) ?_
  refine RS (ok_sliceO (45 * i) (45 * (i + 1)) Tryd.underlying44 info5 rfl (Le.refl _) (.inl ⟨_, _, rfl, rfl⟩) (.inl ⟨_, _, rfl, rfl⟩) (by omega) (by rw [List.length_map, h]; omega)) ?_
  refine RS (ok_callV0 (GetRecord_any (prt 45 l i) (prt_len h hi)) rfl (Args.cons rfl ((Le.old _ _).trans (Le.eq (prt_byt 45 l i))) Args.nil)) ?_
  refine RM rfl ?_
  refine RS (ok_extractV rfl rfl) ?_
  refine RS (ok_extractV rfl rfl) ?_
  refine RN ?_
  refine ⟨_, _, eff_alloc (n := 40) (d := 9) (k := 1000009) zero35 (by decide), fun b9 hb9 => ?_⟩
  have hBb9 := hb9.1
  refine TF 15 ?_
  refine RN ?_
  refine ⟨_, eff_storeA (n := 40) (s := 1000009) (size35.of ((RecT.any_fit (prt_len h hi)).len)) rfl rfl (by first | exact NodT.one _ | exact RecT.one _ | exact EntT.one _ | exact RecT.all1 _ | exact EntT.all1 _ | exact all_byte _ | exact all_bytes _) hBb9 rfl (by first | rfl | (rw [(RecT.any_fit (prt_len h hi)).len]; rfl)) (LO 0 rfl (LV 1 rfl (LV 4 rfl (LV 6 rfl (LV 7 rfl (LV 8 rfl (LV 9 rfl (LV 14 rfl (LV 30 rfl (LT 1000004 rfl (LT 1000006 rfl LN))))))))))), ?_⟩
  refine TL ?_
  refine RA rfl ?_
  refine RN ?_
  refine A.seq ?_
  refine GS ?_
  refine TL ?_
  refine RM rfl ?_
  refine RBS rfl rfl rfl (.bool false) (by rw [hk]; rfl) ?_
  refine RN ?_
  refine A.no rfl ?_
  refine A.skip ?_
  refine EN ?_
  refine GE ?_
  refine TF 3 ?_
  refine RM rfl ?_
  refine RS (ok_loadA (s := 1000009) (by decide) Tryd.underlying35 rfl (size35.of ((RecT.any_fit (prt_len h hi)).len)) rfl rfl) ?_; refine RZ (aggV (RecT.of (prt 45 l i)).v) (by rw [RecT.any_ok hk]) ?_
  refine RS (ok_indexN _ Tryd.underlying36 size35 rfl rfl (rfl) (by omega)) ?_
  refine RN ?_
  refine ⟨_, eff_storeP (n := 40) (s := 1000006) (size35.of ((RecT.of_fit (prt_len h hi)).len)) rfl rfl (RecT.one _) hBb6 rfl (by rw [(RecT.of_fit (prt_len h hi)).len, pg_lens RecT.zero_fit.len (fun i hi => (RecT.of_fit (prt_len h hi)).len)]; omega) (LO 0 rfl (LV 1 rfl (LV 4 rfl (LV 6 rfl (LV 7 rfl (LV 14 rfl (LB 1000004 rfl (LT 1000009 rfl LN)))))))), ?_⟩
  refine TL ?_
  refine RN ?_
  refine End.sub (KC 0 rfl (KC 1 rfl (KC 4 rfl (KC 6 rfl (KC 7 rfl (KC 14 rfl (KC 1000004 rfl (KE 1000006 rfl (show _ = blk b6 36 _ from congrArg _ (pg_store RecT.zero_fit.len (fun i hi => (RecT.of_fit (prt_len h hi)).len) hi)) (KC 1000009 rfl KN))))))))) ?_
  refine End.normal_block ?_
  refine EN ?_
  refine GE ?_
  refine TL ?_
  refine RBS rfl rfl rfl (nI (i + 1)) (wrap_eq (by omega) (by omega)) ?_
  refine RM rfl ?_
  refine RN ?_
  refine End.normal_then ?_
  refine End.again (i + 1) ?_ ?_ ?_
  ·exact hi
  ·show _ - _ < _ - _; omega
  ·exact (KC 0 rfl (KC 1 rfl (KC 4 rfl (KC 6 rfl (KC 7 rfl (KC 14 rfl (KC 1000004 rfl (KC 1000006 rfl KN))))))))
 ·have hi2 : i = 4 := by simp at hc15; omega
  subst hi2
  refine A.exit ?_
  refine End.exit_then ?_
  refine End.exit_then ?_
  refine End.exit_here ?_
  refine EN ?_
  refine GS ?_
  refine TF 1 ?_
  refine RS (ok_loadA (s := 1000006) (by decide) Tryd.underlying36 rfl (size36.of (pg_lens RecT.zero_fit.len (fun i hi => (RecT.of_fit (prt_len h hi)).len) 4)) rfl rfl) ?_
  refine RN ?_
  refine ⟨_, eff_storeA (n := 40) (s := 1000004) (size36.of (pg_lens RecT.zero_fit.len (fun i hi => (RecT.of_fit (prt_len h hi)).len) 4)) rfl rfl (RecT.all1 _) hBb4 rfl (by rw [pg_lens RecT.zero_fit.len (fun i hi => (RecT.of_fit (prt_len h hi)).len) 4]; rfl) (LV 4 rfl (LB 1000006 rfl LN)), ?_⟩
  refine TL ?_
  refine RA rfl ?_
  refine RN ?_
  refine A.ret ?_
  exact End.cellV (s := 1000004) rfl Tryd.underlying36 rfl (size36.of (pg_lens RecT.zero_fit.len (fun i hi => (RecT.of_fit (prt_len h hi)).len) 4)) rfl rfl rfl
theorem getPartsR_bad (l : List UInt8) (h : l.length = 4 * 45) (hF : (fst4 fun i => (RecT.of (prt 45 l i)).ck) ≠ 0) : Fn Tryd.prog 50 [byt l, .v (.func (.func 51) #[] #[])] (.v (.tuple #[aggV (recsV zerosR), .int .i64 (fst4 fun i => (RecT.of (prt 45 l i)).ck)])) := by
 refine Fn.of Tryd.func50 rfl (by kernel_rfl) Tryd.ntmps50 (by simp) (fun w => [(0, old w.heap.size (byt l)), (1, .v (.func (.func 51) #[] #[]))]) (fun w => (Start.old rfl (Start.v rfl Start.nil))) fun w₀ => ?_
 refine GS ?_
 refine TN 0 ?_
 refine RN ?_
 refine ⟨_, _, eff_alloc (n := 40) (d := 4) (k := 1000004) zero36 (by decide), fun b4 hb4 => ?_⟩
 have hBb4 := hb4.1
 refine TL ?_
 refine RA rfl ?_
 refine RN ?_
 refine GS ?_
 refine TN 0 ?_
 refine RN ?_
 refine ⟨_, _, eff_alloc (n := 40) (d := 6) (k := 1000006) zero36 (by decide), fun b6 hb6 => ?_⟩
 have hBb6 := hb6.1
 have hlt_b4_b6 : b4 < b6 := hb6.2 1000004 _ _ _ rfl
 refine TL ?_
 refine RN ?_
 refine GS ?_
 refine TL ?_
 refine RM rfl ?_
 refine RS (ok_lenB Tryd.underlying44 rfl LA) ?_
 refine RS (ok_div rfl rfl (by decide)) ?_; refine RZ (nI (45)) (by rw [h, tdiv_lit _ (by decide)]; rfl) ?_
 refine RA rfl ?_
 refine RN ?_
 refine A.seq ?_
 refine GS ?_
 refine TL ?_
 refine RM rfl ?_
 refine RN ?_
 refine A.block ?_
 refine A.loop (ι := Nat) (fun i => i < 4 ∧ ∀ j, j < i → (RecT.of (prt 45 l j)).ck = 0) (fun i => [(0, old w₀.heap.size (byt l)), (1, .v (.func (.func 51) #[] #[])), (4, .v (ptr b4)), (6, .v (ptr b6)), (7, .v (nI (45))), (14, .v (nI (i))), (1000004, blk b4 36 (recsV zerosR)), (1000006, blk b6 36 (recsV (pg RecT.zero (fun i => RecT.of (prt 45 l i)) i)))]) (fun i => 4 - i) 0 ?_ ?_ ?_
 ·exact ⟨by decide, fun j h => absurd h (Nat.not_lt_zero _)⟩
 ·exact (KC 0 rfl (KC 1 rfl (KC 4 rfl (KC 6 rfl (KC 7 rfl (KE 14 rfl (by rfl) (KC 1000004 rfl (KE 1000006 rfl (by rfl) KN))))))))
 intro i hG
 have hi := hG.1
 refine GS ?_
 refine TL ?_
 refine RBS rfl rfl rfl (.bool true) (by have := hG.1; simp; omega) ?_
 refine RN ?_
 refine A.seq ?_
 refine A.yes rfl ?_
 refine A.skip ?_
 refine EN ?_
 refine A.seq ?_
 refine A.block ?_
 refine GS ?_
 refine TL ?_
 refine RM rfl ?_
 refine RA rfl ?_
 refine RN ?_
 refine GS ?_
 refine TN 14 ?_
 refine RM rfl ?_
 refine RM rfl ?_
 refine RM rfl ?_
 refine RM rfl ?_
 refine RBS rfl rfl rfl (nI (45 * i)) (wrap_eq (by omega) (by omega)) ?_
 refine RM rfl ?_
 refine RM rfl ?_
 refine RBS rfl rfl rfl (nI (i + 1)) (wrap_eq (by omega) (by omega)) ?_
 refine RBS rfl rfl rfl (nI (45 * (i + 1))) (wrap_eq (by omega) (by omega)) ?_
 refine RS (ok_sliceO (45 * i) (45 * (i + 1)) Tryd.underlying44 info5 rfl (Le.refl _) (.inl ⟨_, _, rfl, rfl⟩) (.inl ⟨_, _, rfl, rfl⟩) (by omega) (by rw [List.length_map, h]; omega)) ?_
 refine RS (ok_callV0 (GetRecord_any (prt 45 l i) (prt_len h hi)) rfl (Args.cons rfl ((Le.old _ _).trans (Le.eq (prt_byt 45 l i))) Args.nil)) ?_
 refine RM rfl ?_
 refine RS (ok_extractV rfl rfl) ?_
 refine RS (ok_extractV rfl rfl) ?_
 refine RN ?_
 refine ⟨_, _, eff_alloc (n := 40) (d := 9) (k := 1000009) zero35 (by decide), fun b9 hb9 => ?_⟩
 have hBb9 := hb9.1
 refine TF 15 ?_
 refine RN ?_
 refine ⟨_, eff_storeA (n := 40) (s := 1000009) (size35.of ((RecT.any_fit (prt_len h hi)).len)) rfl rfl (by first | exact NodT.one _ | exact RecT.one _ | exact EntT.one _ | exact RecT.all1 _ | exact EntT.all1 _ | exact all_byte _ | exact all_bytes _) hBb9 rfl (by first | rfl | (rw [(RecT.any_fit (prt_len h hi)).len]; rfl)) (LO 0 rfl (LV 1 rfl (LV 4 rfl (LV 6 rfl (LV 7 rfl (LV 8 rfl (LV 9 rfl (LV 14 rfl (LV 30 rfl (LT 1000004 rfl (LT 1000006 rfl LN))))))))))), ?_⟩
 refine TL ?_
 refine RA rfl ?_
 refine RN ?_
 refine A.seq ?_
 refine GS ?_
 refine TL ?_
 refine RM rfl ?_
 refine RB rfl rfl rfl ?_
 refine RN ?_
 refine A.cond rfl (fun hc32 => ?_) (fun hc32 => ?_)
 ·have hk : (RecT.of (prt 45 l i)).ck ≠ 0 := by simpa using hc32
  refine GS ?_
  refine TF 2 ?_
  refine RS (ok_lit [] (recsV zerosR) (fun _ _ => rfl) (by kernel_rfl)) ?_
  refine RM rfl ?_; refine RZ (.int .i64 (fst4 fun i => (RecT.of (prt 45 l i)).ck)) (congrArg (Value.int .i64) (fst4_at (f := fun i => (RecT.of (prt 45 l i)).ck) hi hG.2 hk)) ?_
  refine RN ?_
  refine ⟨_, eff_storeA (n := 40) (s := 1000004) (size36.of (rfl)) rfl rfl (RecT.all1 _) hBb4 rfl (rfl) (LV 4 rfl (LV 34 rfl (LB 1000006 rfl (LT 1000009 rfl LN)))), ?_⟩
  refine TL ?_
  refine RA rfl ?_
  refine RN ?_
  refine A.sub (KC 4 rfl (KC 5 rfl (KC 1000004 rfl (KC 1000006 rfl (KC 1000009 rfl KN))))) ?_
  refine A.ret ?_
  refine End.ret_then ?_
  refine End.ret_block ?_
  refine End.ret_then ?_
  refine End.ret_then ?_
  refine End.ret_block ?_
  refine End.ret_then ?_
  exact End.cellV (s := 1000004) rfl Tryd.underlying36 rfl (size36.of rfl) rfl rfl rfl
 ·have hk : (RecT.of (prt 45 l i)).ck = 0 := by simpa using hc32
  refine A.skip ?_
  refine EN ?_
  refine GE ?_
  refine TF 3 ?_
  refine RM rfl ?_
  refine RS (ok_loadA (s := 1000009) (by decide) Tryd.underlying35 rfl (size35.of ((RecT.any_fit (prt_len h hi)).len)) rfl rfl) ?_; refine RZ (aggV (RecT.of (prt 45 l i)).v) (by rw [RecT.any_ok hk]) ?_
  refine RS (ok_indexN _ Tryd.underlying36 size35 rfl rfl (rfl) (by omega)) ?_
  refine RN ?_
  refine ⟨_, eff_storeP (n := 40) (s := 1000006) (size35.of ((RecT.of_fit (prt_len h hi)).len)) rfl rfl (RecT.one _) hBb6 rfl (by rw [(RecT.of_fit (prt_len h hi)).len, pg_lens RecT.zero_fit.len (fun i hi => (RecT.of_fit (prt_len h hi)).len)]; omega) (LO 0 rfl (LV 1 rfl (LV 4 rfl (LV 6 rfl (LV 7 rfl (LV 14 rfl (LB 1000004 rfl (LT 1000009 rfl LN)))))))), ?_⟩
  refine TL ?_
  refine RN ?_
  refine End.sub (KC 0 rfl (KC 1 rfl (KC 4 rfl (KC 6 rfl (KC 7 rfl (KC 14 rfl (KC 1000004 rfl (KE 1000006 rfl (show _ = blk b6 36 _ from congrArg _ (pg_store RecT.zero_fit.len (fun i hi => (RecT.of_fit (prt_len h hi)).len) hi)) (KC 1000009 rfl KN))))))))) ?_
  refine End.normal_block ?_
  refine EN ?_
  refine GE ?_
  refine TL ?_
  refine RBS rfl rfl rfl (nI (i + 1)) (wrap_eq (by omega) (by omega)) ?_
  refine RM rfl ?_
  refine RN ?_
  refine End.normal_then ?_
  refine End.again (i + 1) ?_ ?_ ?_
  ·exact nytR (f := fun i => (RecT.of (prt 45 l i)).ck) hF hG hk
  ·show _ - _ < _ - _; omega
  ·exact (KC 0 rfl (KC 1 rfl (KC 4 rfl (KC 6 rfl (KC 7 rfl (KC 14 rfl (KC 1000004 rfl (KC 1000006 rfl KN))))))))
theorem GetEntry_any (l : List UInt8) (h : l.length = 33) : Fn Tryd.prog 53 [byt l] (.v (.tuple #[aggV (EntT.any l).v, .int .i64 (EntT.of l).ck])) := by
 by_cases hk : (EntT.of l).ck = 0
 ·rw [EntT.any_ok hk, hk]; exact GetEntry_ok l h (EntT.ck_zero.1 hk)
 ·rw [show EntT.any l = EntT.zero from if_neg hk, (EntT.of l).ck_one.resolve_left hk]; exact GetEntry_bad l h (EntT.ck_bad hk)
theorem nytE {f : Nat → Int} {i : Nat} (hF : fst4 f ≠ 0) (hG : i < 4 ∧ ∀ j, j < i → f j = 0) (hk : f i = 0) : i + 1 < 4 ∧ ∀ j, j < i + 1 → f j = 0 := by
 have h1 : ∀ j, j < i + 1 → f j = 0 := fun j hj => (Nat.lt_or_ge j i).elim (hG.2 j) fun h => by rw [show j = i from by omega]; exact hk
 refine ⟨?_, h1⟩
 rcases Nat.lt_or_ge (i + 1) 4 with h | h
 ·exact h
 ·exact absurd (fst4_no fun k hk => h1 k (by omega)) hF
theorem getPartsE_ok (l : List UInt8) (h : l.length = 4 * 33) (hF : (fst4 fun i => (EntT.of (prt 33 l i)).ck) = 0) : Fn Tryd.prog 52 [byt l, .v (.func (.func 53) #[] #[])] (.v (.tuple #[aggV (entsV (pg EntT.zero (fun i => EntT.of (prt 33 l i)) 4)), .int .i64 0])) := by
 refine Fn.of Tryd.func52 rfl (by kernel_rfl) Tryd.ntmps52 (by simp) (fun w => [(0, old w.heap.size (byt l)), (1, .v (.func (.func 53) #[] #[]))]) (fun w => (Start.old rfl (Start.v rfl Start.nil))) fun w₀ => ?_
 refine GS ?_
 refine TN 0 ?_
 refine RN ?_
 refine ⟨_, _, eff_alloc (n := 40) (d := 4) (k := 1000004) zero39 (by decide), fun b4 hb4 => ?_⟩
 have hBb4 := hb4.1
 refine TL ?_
 refine RA rfl ?_
 refine RN ?_
 refine GS ?_
 refine TN 0 ?_
 refine RN ?_
 refine ⟨_, _, eff_alloc (n := 40) (d := 6) (k := 1000006) zero39 (by decide), fun b6 hb6 => ?_⟩
 have hBb6 := hb6.1
 have hlt_b4_b6 : b4 < b6 := hb6.2 1000004 _ _ _ rfl
 refine TL ?_
 refine RN ?_
 refine GS ?_
 refine TL ?_
 refine RM rfl ?_
 refine RS (ok_lenB Tryd.underlying44 rfl LA) ?_
 refine RS (ok_div rfl rfl (by decide)) ?_; refine RZ (nI (33)) (by rw [h, tdiv_lit _ (by decide)]; rfl) ?_
 refine RA rfl ?_
 refine RN ?_
 refine A.seq ?_
 refine GS ?_
 refine TL ?_
 refine RM rfl ?_
 refine RN ?_
 refine A.block ?_
 refine A.loop (ι := Nat) (fun i => i ≤ 4) (fun i => [(0, old w₀.heap.size (byt l)), (1, .v (.func (.func 53) #[] #[])), (4, .v (ptr b4)), (6, .v (ptr b6)), (7, .v (nI (33))), (14, .v (nI (i))), (1000004, blk b4 39 (entsV zerosE)), (1000006, blk b6 39 (entsV (pg EntT.zero (fun i => EntT.of (prt 33 l i)) i)))]) (fun i => 4 - i) 0 ?_ ?_ ?_
 ·exact Nat.zero_le _
 ·exact (KC 0 rfl (KC 1 rfl (KC 4 rfl (KC 6 rfl (KC 7 rfl (KE 14 rfl (by rfl) (KC 1000004 rfl (KE 1000006 rfl (by rfl) KN))))))))
 intro i hG
 refine GS ?_
 refine TL ?_
 refine RB rfl rfl rfl ?_
 refine RN ?_
 refine A.seq ?_
 refine A.cond rfl (fun hc15 => ?_) (fun hc15 => ?_)
 ·have hi : i < 4 := by simp at hc15; omega
  have hk : (EntT.of (prt 33 l i)).ck = 0 := fst4_zero (f := fun i => (EntT.of (prt 33 l i)).ck) hF i hi
  refine A.skip ?_
  refine EN ?_
  refine A.seq ?_
  refine A.block ?_
  refine GS ?_
  refine TL ?_
  refine RM rfl ?_
  refine RA rfl ?_
  refine RN ?_
  refine GS ?_
  refine TN 14 ?_
  refine RM rfl ?_
  refine RM rfl ?_
  refine RM rfl ?_
  refine RM rfl ?_
  refine RBS rfl rfl rfl (nI (33 * i)) (wrap_eq (by omega) (by omega)) ?_
  refine RM rfl ?_
  refine RM rfl ?_
  refine RBS rfl rfl rfl (nI (i + 1)) (wrap_eq (by omega) (by omega)) ?_
  refine RBS rfl rfl rfl (nI (33 * (i + 1))) (wrap_eq (by omega) (by omega)) ?_
  refine RS (ok_sliceO (33 * i) (33 * (i + 1)) Tryd.underlying44 info5 rfl (Le.refl _) (.inl ⟨_, _, rfl, rfl⟩) (.inl ⟨_, _, rfl, rfl⟩) (by omega) (by rw [List.length_map, h]; omega)) ?_
  refine RS (ok_callV0 (GetEntry_any (prt 33 l i) (prt_len h hi)) rfl (Args.cons rfl ((Le.old _ _).trans (Le.eq (prt_byt 33 l i))) Args.nil)) ?_
  refine RM rfl ?_
  refine RS (ok_extractV rfl rfl) ?_
  refine RS (ok_extractV rfl rfl) ?_
  refine RN ?_
  refine ⟨_, _, eff_alloc (n := 40) (d := 9) (k := 1000009) zero38 (by decide), fun b9 hb9 => ?_⟩
  have hBb9 := hb9.1
  refine TF 15 ?_
  refine RN ?_
  refine ⟨_, eff_storeA (n := 40) (s := 1000009) (size38.of ((EntT.any_fit (prt_len h hi)).len)) rfl rfl (by first | exact NodT.one _ | exact RecT.one _ | exact EntT.one _ | exact RecT.all1 _ | exact EntT.all1 _ | exact all_byte _ | exact all_bytes _) hBb9 rfl (by first | rfl | (rw [(EntT.any_fit (prt_len h hi)).len]; rfl)) (LO 0 rfl (LV 1 rfl (LV 4 rfl (LV 6 rfl (LV 7 rfl (LV 8 rfl (LV 9 rfl (LV 14 rfl (LV 30 rfl (LT 1000004 rfl (LT 1000006 rfl LN))))))))))), ?_⟩
  refine TL ?_
  refine RA rfl ?_
  refine RN ?_
  refine A.seq ?_
  refine GS ?_
  refine TL ?_
  refine RM rfl ?_
  refine RBS rfl rfl rfl (.bool false) (by rw [hk]; rfl) ?_
  refine RN ?_
  refine A.no rfl ?_
  refine A.skip ?_
  refine EN ?_
  refine GE ?_
  refine TF 3 ?_
  refine RM rfl ?_
  refine RS (ok_loadA (s := 1000009) (by decide) Tryd.underlying38 rfl (size38.of ((EntT.any_fit (prt_len h hi)).len)) rfl rfl) ?_; refine RZ (aggV (EntT.of (prt 33 l i)).v) (by rw [EntT.any_ok hk]) ?_
  refine RS (ok_indexN _ Tryd.underlying39 size38 rfl rfl (rfl) (by omega)) ?_
  refine RN ?_
  refine ⟨_, eff_storeP (n := 40) (s := 1000006) (size38.of ((EntT.of_fit (prt_len h hi)).len)) rfl rfl (EntT.one _) hBb6 rfl (by rw [(EntT.of_fit (prt_len h hi)).len, pg_lens EntT.zero_fit.len (fun i hi => (EntT.of_fit (prt_len h hi)).len)]; omega) (LO 0 rfl (LV 1 rfl (LV 4 rfl (LV 6 rfl (LV 7 rfl (LV 14 rfl (LB 1000004 rfl (LT 1000009 rfl LN)))))))), ?_⟩
  refine TL ?_
  refine RN ?_
  refine End.sub (KC 0 rfl (KC 1 rfl (KC 4 rfl (KC 6 rfl (KC 7 rfl (KC 14 rfl (KC 1000004 rfl (KE 1000006 rfl (show _ = blk b6 39 _ from congrArg _ (pg_store EntT.zero_fit.len (fun i hi => (EntT.of_fit (prt_len h hi)).len) hi)) (KC 1000009 rfl KN))))))))) ?_
  refine End.normal_block ?_
  refine EN ?_
  refine GE ?_
  refine TL ?_
  refine RBS rfl rfl rfl (nI (i + 1)) (wrap_eq (by omega) (by omega)) ?_
  refine RM rfl ?_
  refine RN ?_
  refine End.normal_then ?_
  refine End.again (i + 1) ?_ ?_ ?_
  ·exact hi
  ·show _ - _ < _ - _; omega
  ·exact (KC 0 rfl (KC 1 rfl (KC 4 rfl (KC 6 rfl (KC 7 rfl (KC 14 rfl (KC 1000004 rfl (KC 1000006 rfl KN))))))))
 ·have hi2 : i = 4 := by simp at hc15; omega
  subst hi2
  refine A.exit ?_
  refine End.exit_then ?_
  refine End.exit_then ?_
  refine End.exit_here ?_
  refine EN ?_
  refine GS ?_
  refine TF 1 ?_
  refine RS (ok_loadA (s := 1000006) (by decide) Tryd.underlying39 rfl (size39.of (pg_lens EntT.zero_fit.len (fun i hi => (EntT.of_fit (prt_len h hi)).len) 4)) rfl rfl) ?_
  refine RN ?_
  refine ⟨_, eff_storeA (n := 40) (s := 1000004) (size39.of (pg_lens EntT.zero_fit.len (fun i hi => (EntT.of_fit (prt_len h hi)).len) 4)) rfl rfl (EntT.all1 _) hBb4 rfl (by rw [pg_lens EntT.zero_fit.len (fun i hi => (EntT.of_fit (prt_len h hi)).len) 4]; rfl) (LV 4 rfl (LB 1000006 rfl LN)), ?_⟩
  refine TL ?_
  refine RA rfl ?_
  refine RN ?_
  refine A.ret ?_
  exact End.cellV (s := 1000004) rfl Tryd.underlying39 rfl (size39.of (pg_lens EntT.zero_fit.len (fun i hi => (EntT.of_fit (prt_len h hi)).len) 4)) rfl rfl rfl
theorem getPartsE_bad (l : List UInt8) (h : l.length = 4 * 33) (hF : (fst4 fun i => (EntT.of (prt 33 l i)).ck) ≠ 0) : Fn Tryd.prog 52 [byt l, .v (.func (.func 53) #[] #[])] (.v (.tuple #[aggV (entsV zerosE), .int .i64 (fst4 fun i => (EntT.of (prt 33 l i)).ck)])) := by
 refine Fn.of Tryd.func52 rfl (by kernel_rfl) Tryd.ntmps52 (by simp) (fun w => [(0, old w.heap.size (byt l)), (1, .v (.func (.func 53) #[] #[]))]) (fun w => (Start.old rfl (Start.v rfl Start.nil))) fun w₀ => ?_
 refine GS ?_
 refine TN 0 ?_
 refine RN ?_
 refine ⟨_, _, eff_alloc (n := 40) (d := 4) (k := 1000004) zero39 (by decide), fun b4 hb4 => ?_⟩
 have hBb4 := hb4.1
 refine TL ?_
 refine RA rfl ?_
 refine RN ?_
 refine GS ?_
 refine TN 0 ?_
 refine RN ?_
 refine ⟨_, _, eff_alloc (n := 40) (d := 6) (k := 1000006) zero39 (by decide), fun b6 hb6 => ?_⟩
 have hBb6 := hb6.1
 have hlt_b4_b6 : b4 < b6 := hb6.2 1000004 _ _ _ rfl
 refine TL ?_
 refine RN ?_
 refine GS ?_
 refine TL ?_
 refine RM rfl ?_
 refine RS (ok_lenB Tryd.underlying44 rfl LA) ?_
 refine RS (ok_div rfl rfl (by decide)) ?_; refine RZ (nI (33)) (by rw [h, tdiv_lit _ (by decide)]; rfl) ?_
 refine RA rfl ?_
 refine RN ?_
 refine A.seq ?_
 refine GS ?_
 refine TL ?_
 refine RM rfl ?_
 refine RN ?_
 refine A.block ?_
 refine A.loop (ι := Nat) (fun i => i < 4 ∧ ∀ j, j < i → (EntT.of (prt 33 l j)).ck = 0) (fun i => [(0, old w₀.heap.size (byt l)), (1, .v (.func (.func 53) #[] #[])), (4, .v (ptr b4)), (6, .v (ptr b6)), (7, .v (nI (33))), (14, .v (nI (i))), (1000004, blk b4 39 (entsV zerosE)), (1000006, blk b6 39 (entsV (pg EntT.zero (fun i => EntT.of (prt 33 l i)) i)))]) (fun i => 4 - i) 0 ?_ ?_ ?_
 ·exact ⟨by decide, fun j h => absurd h (Nat.not_lt_zero _)⟩
 ·exact (KC 0 rfl (KC 1 rfl (KC 4 rfl (KC 6 rfl (KC 7 rfl (KE 14 rfl (by rfl) (KC 1000004 rfl (KE 1000006 rfl (by rfl) KN))))))))
 intro i hG
 have hi := hG.1
 refine GS ?_
 refine TL ?_
 refine RBS rfl rfl rfl (.bool true) (by have := hG.1; simp; omega) ?_
 refine RN ?_
 refine A.seq ?_
 refine A.yes rfl ?_
 refine A.skip ?_
 refine EN ?_
 refine A.seq ?_
 refine A.block ?_
 refine GS ?_
 refine TL ?_
 refine RM rfl ?_
 refine RA rfl ?_
 refine RN ?_
 refine GS ?_
 refine TN 14 ?_
 refine RM rfl ?_
 refine RM rfl ?_
 refine RM rfl ?_
 refine RM rfl ?_
 refine RBS rfl rfl rfl (nI (33 * i)) (wrap_eq (by omega) (by omega)) ?_
 refine RM rfl ?_
 refine RM rfl ?_
 refine RBS rfl rfl rfl (nI (i + 1)) (wrap_eq (by omega) (by omega)) ?_
 refine RBS rfl rfl rfl (nI (33 * (i + 1))) (wrap_eq (by omega) (by omega)) ?_
 refine RS (ok_sliceO (33 * i) (33 * (i + 1)) Tryd.underlying44 info5 rfl (Le.refl _) (.inl ⟨_, _, rfl, rfl⟩) (.inl ⟨_, _, rfl, rfl⟩) (by omega) (by rw [List.length_map, h]; omega)) ?_
 refine RS (ok_callV0 (GetEntry_any (prt 33 l i) (prt_len h hi)) rfl (Args.cons rfl ((Le.old _ _).trans (Le.eq (prt_byt 33 l i))) Args.nil)) ?_
 refine RM rfl ?_
 refine RS (ok_extractV rfl rfl) ?_
 refine RS (ok_extractV rfl rfl) ?_
 refine RN ?_
 refine ⟨_, _, eff_alloc (n := 40) (d := 9) (k := 1000009) zero38 (by decide), fun b9 hb9 => ?_⟩
 have hBb9 := hb9.1
 refine TF 15 ?_
 refine RN ?_
 refine ⟨_, eff_storeA (n := 40) (s := 1000009) (size38.of ((EntT.any_fit (prt_len h hi)).len)) rfl rfl (by first | exact NodT.one _ | exact RecT.one _ | exact EntT.one _ | exact RecT.all1 _ | exact EntT.all1 _ | exact all_byte _ | exact all_bytes _) hBb9 rfl (by first | rfl | (rw [(EntT.any_fit (prt_len h hi)).len]; rfl)) (LO 0 rfl (LV 1 rfl (LV 4 rfl (LV 6 rfl (LV 7 rfl (LV 8 rfl (LV 9 rfl (LV 14 rfl (LV 30 rfl (LT 1000004 rfl (LT 1000006 rfl LN))))))))))), ?_⟩
 refine TL ?_
 refine RA rfl ?_
 refine RN ?_
 refine A.seq ?_
 refine GS ?_
 refine TL ?_
 refine RM rfl ?_
 refine RB rfl rfl rfl ?_
 refine RN ?_
 refine A.cond rfl (fun hc32 => ?_) (fun hc32 => ?_)
 ·have hk : (EntT.of (prt 33 l i)).ck ≠ 0 := by simpa using hc32
  refine GS ?_
  refine TF 2 ?_
  refine RS (ok_lit [] (entsV zerosE) (fun _ _ => rfl) (by kernel_rfl)) ?_
  refine RM rfl ?_; refine RZ (.int .i64 (fst4 fun i => (EntT.of (prt 33 l i)).ck)) (congrArg (Value.int .i64) (fst4_at (f := fun i => (EntT.of (prt 33 l i)).ck) hi hG.2 hk)) ?_
  refine RN ?_
  refine ⟨_, eff_storeA (n := 40) (s := 1000004) (size39.of (rfl)) rfl rfl (EntT.all1 _) hBb4 rfl (rfl) (LV 4 rfl (LV 34 rfl (LB 1000006 rfl (LT 1000009 rfl LN)))), ?_⟩
  refine TL ?_
  refine RA rfl ?_
  refine RN ?_
  refine A.sub (KC 4 rfl (KC 5 rfl (KC 1000004 rfl (KC 1000006 rfl (KC 1000009 rfl KN))))) ?_
  refine A.ret ?_
  refine End.ret_then ?_
  refine End.ret_block ?_
  refine End.ret_then ?_
  refine End.ret_then ?_
  refine End.ret_block ?_
  refine End.ret_then ?_
  exact End.cellV (s := 1000004) rfl Tryd.underlying39 rfl (size39.of rfl) rfl rfl rfl
 ·have hk : (EntT.of (prt 33 l i)).ck = 0 := by simpa using hc32
  refine A.skip ?_
  refine EN ?_
  refine GE ?_
  refine TF 3 ?_
  refine RM rfl ?_
  refine RS (ok_loadA (s := 1000009) (by decide) Tryd.underlying38 rfl (size38.of ((EntT.any_fit (prt_len h hi)).len)) rfl rfl) ?_; refine RZ (aggV (EntT.of (prt 33 l i)).v) (by rw [EntT.any_ok hk]) ?_
  refine RS (ok_indexN _ Tryd.underlying39 size38 rfl rfl (rfl) (by omega)) ?_
  refine RN ?_
  refine ⟨_, eff_storeP (n := 40) (s := 1000006) (size38.of ((EntT.of_fit (prt_len h hi)).len)) rfl rfl (EntT.one _) hBb6 rfl (by rw [(EntT.of_fit (prt_len h hi)).len, pg_lens EntT.zero_fit.len (fun i hi => (EntT.of_fit (prt_len h hi)).len)]; omega) (LO 0 rfl (LV 1 rfl (LV 4 rfl (LV 6 rfl (LV 7 rfl (LV 14 rfl (LB 1000004 rfl (LT 1000009 rfl LN)))))))), ?_⟩
  refine TL ?_
  refine RN ?_
  refine End.sub (KC 0 rfl (KC 1 rfl (KC 4 rfl (KC 6 rfl (KC 7 rfl (KC 14 rfl (KC 1000004 rfl (KE 1000006 rfl (show _ = blk b6 39 _ from congrArg _ (pg_store EntT.zero_fit.len (fun i hi => (EntT.of_fit (prt_len h hi)).len) hi)) (KC 1000009 rfl KN))))))))) ?_
  refine End.normal_block ?_
  refine EN ?_
  refine GE ?_
  refine TL ?_
  refine RBS rfl rfl rfl (nI (i + 1)) (wrap_eq (by omega) (by omega)) ?_
  refine RM rfl ?_
  refine RN ?_
  refine End.normal_then ?_
  refine End.again (i + 1) ?_ ?_ ?_
  ·exact nytE (f := fun i => (EntT.of (prt 33 l i)).ck) hF hG hk
  ·show _ - _ < _ - _; omega
  ·exact (KC 0 rfl (KC 1 rfl (KC 4 rfl (KC 6 rfl (KC 7 rfl (KC 14 rfl (KC 1000004 rfl (KC 1000006 rfl KN))))))))
theorem nGet_sz (l : List UInt8) (h : szN l ≠ 0) : FnM Tryd.prog 14 tabS [byt l] (.v (.tuple #[aggV (NodT.emp 0 0).v, .int .i64 (szN l)])) := by
 refine FnM.of Tryd.func14 rfl (by kernel_rfl) Tryd.ntmps14 (by simp) (by decide) (fun w => [(0, old w.heap.size (byt l)), (1900000, tab 0 (sizV))]) (fun w => (StartM.old rfl (StartM.m (by simp [tabS]) (by decide) StartM.nil))) fun w₀ hM => ?_
 have htab := tabS_hi hM
 refine GS ?_
 refine TN 0 ?_
 refine RN ?_
 refine ⟨_, _, eff_alloc (n := 45) (d := 2) (k := 1000002) zero41 (by decide), fun b2 hb2 => ?_⟩
 have hBb2 := hb2.1
 refine TL ?_
 refine RA rfl ?_
 refine RN ?_
 refine A.seq ?_
 refine GS ?_
 refine TL ?_
 refine RM rfl ?_
 refine RS (ok_callM (nSize_fn l) (Sub.cons rfl KN) tabS_v (Args.cons rfl (Le.old _ _) Args.nil)) ?_
 refine RA rfl ?_
 refine RN ?_
 refine GS ?_
 refine TL ?_
 refine RM rfl ?_
 refine RBS rfl rfl rfl (.bool true) (by first | rfl | (simp; done) | (simp; omega) | (simp [*]; done) | (simp [*]; omega)) ?_
 refine RN ?_
 refine A.yes rfl ?_
 refine GS ?_
 refine TF 2 ?_
 refine RS (ok_lit [] (NodT.v (NodT.emp 0 0)) (fun _ _ => rfl) (by kernel_rfl)) ?_
 refine RM rfl ?_
 refine RN ?_
 refine ⟨_, eff_storeA (n := 45) (s := 1000002) (size41.of (rfl)) rfl rfl (by first | exact NodT.one _ | exact RecT.one _ | exact EntT.one _ | exact RecT.all1 _ | exact EntT.all1 _ | exact all_byte _ | exact all_bytes _) hBb2 rfl (by first | rfl | (rw [rfl]; rfl)) (LV 2 rfl (LV 12 rfl (LeftS.cons (t := 1900000) rfl (Surv.tab (by omega)) LN))), ?_⟩
 refine TL ?_
 refine RA rfl ?_
 refine RN ?_
 refine A.ret ?_
 refine End.ret_then ?_
 exact End.cellV (s := 1000002) rfl Tryd.underlying41 rfl (size41.of (rfl)) rfl rfl rfl
set_option maxHeartbeats 2000000 in
theorem nGet_R1 (l : List UInt8) (h : szN l = 0) (h0' : (pX l).toNat = 0) (hF : (fst4 fun i => (rN l i).ck) = 0) : FnM Tryd.prog 14 tabS [byt l] (.v (.tuple #[aggV (⟨pX l, jN l, pg RecT.zero (rN l) 4, zerosE⟩ : NodT).v, .int .i64 0])) := by
 obtain ⟨h1, h2⟩ := lenR h h0'
 have h0 : ¬ l.length = 0 := by omega
 have hxf : NodT.Fit (⟨pX l, jN l, pg RecT.zero (rN l) 4, zerosE⟩ : NodT) := by have := gtN_fit h; rwa [gtN_R h0'] at this
 refine FnM.of Tryd.func14 rfl (by kernel_rfl) Tryd.ntmps14 (by simp) (by decide) (fun w => [(0, old w.heap.size (byt l)), (1900000, tab 0 (sizV))]) (fun w => (StartM.old rfl (StartM.m (by simp [tabS]) (by decide) StartM.nil))) fun w₀ hM => ?_
 have htab := tabS_hi hM
 refine GS ?_
 refine TN 0 ?_
 refine RN ?_
 refine ⟨_, _, eff_alloc (n := 45) (d := 2) (k := 1000002) zero41 (by decide), fun b2 hb2 => ?_⟩
 have hBb2 := hb2.1
 refine TL ?_
 refine RA rfl ?_
 refine RN ?_
 refine A.seq ?_
 refine GS ?_
 refine TL ?_
 refine RM rfl ?_
 refine RS (ok_callM (nSize_fn l) (Sub.cons rfl KN) tabS_v (Args.cons rfl (Le.old _ _) Args.nil)) ?_; refine RZ (.int .i64 0) (by rw [h]) ?_
 refine RA rfl ?_
 refine RN ?_
 refine GS ?_
 refine TL ?_
 refine RM rfl ?_
 refine RBS rfl rfl rfl (.bool false) (by first | rfl | (simp; done) | (simp; omega) | (simp [*]; done) | (simp [*]; omega)) ?_
 refine RN ?_
 refine A.no rfl ?_
 refine A.skip ?_
 refine EN ?_
 refine GS ?_
 refine TN 4 ?_
 refine RM rfl ?_
 refine RS (ok_index (d := byteD (pX l)) Tryd.underlying44 info5 rfl LA rfl (by decide) (px_get h0)) ?_
 refine RS (ok_load Tryd.underlying5 rfl rfl) ?_
 refine RS (ok_litS [(0, byteV (pX l))] (NodT.emp (pX l) 0).v ⟨rfl, rfl, trivial⟩ (buildX0 _)) ?_
 refine RN ?_
 refine ⟨_, _, eff_alloc (n := 45) (d := 5) (k := 1000005) zero41 (by decide), fun b5 hb5 => ?_⟩
 have hBb5 := hb5.1
 have hlt_b2_b5 : b2 < b5 := hb5.2 1000002 _ _ _ rfl
 refine TF 5 ?_
 refine RN ?_
 refine ⟨_, eff_storeA (n := 45) (s := 1000005) (size41.of (rfl)) rfl rfl (by first | exact NodT.one _ | exact RecT.one _ | exact EntT.one _ | exact RecT.all1 _ | exact EntT.all1 _ | exact all_byte _ | exact all_bytes _) hBb5 rfl (by first | rfl | (rw [rfl]; rfl)) (LO 0 rfl (LV 2 rfl (LV 5 rfl (LB 1000002 rfl (LeftS.cons (t := 1900000) rfl (Surv.tab (by omega)) LN))))), ?_⟩
 refine TL ?_
 refine RN ?_
 refine GS ?_
 refine TF 7 ?_
 refine RM rfl ?_
 refine RS (ok_sliceO 1 5 Tryd.underlying44 info5 rfl (Le.refl _) (.inl ⟨_, _, rfl, rfl⟩) (.inl ⟨_, _, rfl, rfl⟩) (by decide) (by rw [List.length_map]; omega)) ?_
 refine RS (ok_call (Get32_fn ((l.drop 1).take 4)) (Args.cons rfl ((Le.old _ _).trans (Le.eq (sub_byt l 1 5))) Args.nil)) ?_
 refine RM rfl ?_
 refine RS (ok_extract rfl rfl) ?_; refine RZ (.int .u32 (jN l : Int)) (congrArg (Value.int .u32) (getV_nat _ 4).symm) ?_
 refine RS (ok_extract rfl rfl) ?_
 refine RS (ok_field field41_1 (by decide) rfl) ?_
 refine RN ?_
 refine ⟨_, eff_storeS (n := 45) (s := 1000005) info28 rfl rfl rfl hBb5 rfl (by rw [(NodT.emp_fit (pX l) (by decide)).len]; decide) (LO 0 rfl (LV 2 rfl (LV 5 rfl (LB 1000002 rfl (LeftS.cons (t := 1900000) rfl (Surv.tab (by omega)) LN))))), ?_⟩
 refine TL ?_
 refine RN ?_
 refine A.sub (KC 0 rfl (KC 2 rfl (KC 5 rfl (KC 1000002 rfl (KE 1000005 rfl (show _ = blk b5 41 (NodT.emp (pX l) (jN l)).v from rfl) (KC 1900000 rfl KN)))))) ?_
 refine GS ?_
 refine TL ?_
 refine RA rfl ?_
 refine RN ?_
 refine A.seq ?_
 refine GS ?_
 refine TL ?_
 refine RS (ok_loadA (s := 1000005) (by decide) Tryd.underlying41 rfl (size41.of ((NodT.emp_fit (pX l) (jN_lt l)).len)) rfl rfl) ?_
 refine RS (ok_call (isGroup_y (NodT.emp (pX l) (jN l)) (NodT.emp_fit _ (jN_lt l)) h0') (A1 rfl)) ?_
 refine RN ?_
 refine A.yes rfl ?_
 refine GE ?_
 refine TF 7 ?_
 refine RM rfl ?_
 refine RS (ok_sliceO 5 l.length Tryd.underlying44 info5 rfl (Le.refl _) (.inl ⟨_, _, rfl, rfl⟩) (.inr ⟨rfl, by rw [List.length_map]⟩) (by omega) (by rw [List.length_map]; exact Nat.le_refl _)) ?_
 refine RS (ok_call (getPartsR_ok (l.drop 5) h2 hF) (Args.cons rfl ((Le.old _ _).trans (Le.eq (end_byt l 5))) (A1 rfl))) ?_
 refine RM rfl ?_
 refine RS (ok_extractV rfl rfl) ?_
 refine RS (ok_extractV rfl rfl) ?_
 refine RS (ok_field field41_2 (by decide) rfl) ?_
 refine RN ?_
 refine ⟨_, eff_storeP (n := 45) (s := 1000005) (size36.of (pg_lens RecT.zero_fit.len (fun i hi => (RecT.of_fit (prt_len h2 hi)).len) 4)) rfl rfl (RecT.all1 _) hBb5 rfl (by rw [pg_lens RecT.zero_fit.len (fun i hi => (RecT.of_fit (prt_len h2 hi)).len) 4, (NodT.emp_fit (pX l) (jN_lt l)).len]; decide) (LV 2 rfl (LV 5 rfl (LV 31 rfl (LB 1000002 rfl (LeftS.cons (t := 1900000) rfl (Surv.tab (by omega)) LN))))), ?_⟩
 refine TL ?_
 refine RA rfl ?_
 refine RN ?_
 refine End.sub (KC 2 rfl (KC 5 rfl (KC 6 rfl (KC 1000002 rfl (KE 1000005 rfl (show _ = blk b5 41 ((⟨pX l, jN l, pg RecT.zero (rN l) 4, zerosE⟩ : NodT)).v from congrArg _ (setR_emp _ _ (pg_lens RecT.zero_fit.len (fun i hi => (RecT.of_fit (prt_len h2 hi)).len) 4))) (KC 1900000 rfl KN)))))) ?_
 refine EN ?_
 refine A.seq ?_
 refine GS ?_
 refine TL ?_
 refine RM rfl ?_
 refine RBS rfl rfl rfl (.bool false) (by first | rfl | (simp; done) | (simp; omega) | (simp [*]; done) | (simp [*]; omega)) ?_
 refine RN ?_
 refine A.no rfl ?_
 refine A.skip ?_
 refine EN ?_
 refine GS ?_
 refine TF 1 ?_
 refine RS (ok_loadA (s := 1000005) (by decide) Tryd.underlying41 rfl (size41.of (hxf.len)) rfl rfl) ?_
 refine RN ?_
 refine ⟨_, eff_storeA (n := 45) (s := 1000002) (size41.of (hxf.len)) rfl rfl (NodT.one _) hBb2 rfl (by rw [hxf.len]; rfl) (LV 2 rfl (LB 1000005 rfl (LeftS.cons (t := 1900000) rfl (Surv.tab (by omega)) LN))), ?_⟩
 refine TL ?_
 refine RA rfl ?_
 refine RN ?_
 refine A.ret ?_
 exact End.cellV (s := 1000002) rfl Tryd.underlying41 rfl (size41.of (hxf.len)) rfl rfl rfl
set_option maxHeartbeats 2000000 in
theorem nGet_R0 (l : List UInt8) (h : szN l = 0) (h0' : (pX l).toNat = 0) (hF : (fst4 fun i => (rN l i).ck) ≠ 0) : FnM Tryd.prog 14 tabS [byt l] (.v (.tuple #[aggV (NodT.emp 0 0).v, .int .i64 (fst4 fun i => (rN l i).ck)])) := by
 obtain ⟨h1, h2⟩ := lenR h h0'
 have h0 : ¬ l.length = 0 := by omega
 have hxf : NodT.Fit (⟨pX l, jN l, pg RecT.zero (rN l) 4, zerosE⟩ : NodT) := by have := gtN_fit h; rwa [gtN_R h0'] at this
 refine FnM.of Tryd.func14 rfl (by kernel_rfl) Tryd.ntmps14 (by simp) (by decide) (fun w => [(0, old w.heap.size (byt l)), (1900000, tab 0 (sizV))]) (fun w => (StartM.old rfl (StartM.m (by simp [tabS]) (by decide) StartM.nil))) fun w₀ hM => ?_
 have htab := tabS_hi hM
 refine GS ?_
 refine TN 0 ?_
 refine RN ?_
 refine ⟨_, _, eff_alloc (n := 45) (d := 2) (k := 1000002) zero41 (by decide), fun b2 hb2 => ?_⟩
 have hBb2 := hb2.1
 refine TL ?_
 refine RA rfl ?_
 refine RN ?_
 refine A.seq ?_
 refine GS ?_
 refine TL ?_
 refine RM rfl ?_
 refine RS (ok_callM (nSize_fn l) (Sub.cons rfl KN) tabS_v (Args.cons rfl (Le.old _ _) Args.nil)) ?_; refine RZ (.int .i64 0) (by rw [h]) ?_
 refine RA rfl ?_
 refine RN ?_
 refine GS ?_
 refine TL ?_
 refine RM rfl ?_
 refine RBS rfl rfl rfl (.bool false) (by first | rfl | (simp; done) | (simp; omega) | (simp [*]; done) | (simp [*]; omega)) ?_
 refine RN ?_
 refine A.no rfl ?_
 refine A.skip ?_
 refine EN ?_
 refine GS ?_
 refine TN 4 ?_
 refine RM rfl ?_
 refine RS (ok_index (d := byteD (pX l)) Tryd.underlying44 info5 rfl LA rfl (by decide) (px_get h0)) ?_
 refine RS (ok_load Tryd.underlying5 rfl rfl) ?_
 refine RS (ok_litS [(0, byteV (pX l))] (NodT.emp (pX l) 0).v ⟨rfl, rfl, trivial⟩ (buildX0 _)) ?_
 refine RN ?_
 refine ⟨_, _, eff_alloc (n := 45) (d := 5) (k := 1000005) zero41 (by decide), fun b5 hb5 => ?_⟩
 have hBb5 := hb5.1
 have hlt_b2_b5 : b2 < b5 := hb5.2 1000002 _ _ _ rfl
 refine TF 5 ?_
 refine RN ?_
 refine ⟨_, eff_storeA (n := 45) (s := 1000005) (size41.of (rfl)) rfl rfl (by first | exact NodT.one _ | exact RecT.one _ | exact EntT.one _ | exact RecT.all1 _ | exact EntT.all1 _ | exact all_byte _ | exact all_bytes _) hBb5 rfl (by first | rfl | (rw [rfl]; rfl)) (LO 0 rfl (LV 2 rfl (LV 5 rfl (LB 1000002 rfl (LeftS.cons (t := 1900000) rfl (Surv.tab (by omega)) LN))))), ?_⟩
 refine TL ?_
 refine RN ?_
 refine GS ?_
 refine TF 7 ?_
 refine RM rfl ?_
 refine RS (ok_sliceO 1 5 Tryd.underlying44 info5 rfl (Le.refl _) (.inl ⟨_, _, rfl, rfl⟩) (.inl ⟨_, _, rfl, rfl⟩) (by decide) (by rw [List.length_map]; omega)) ?_
 refine RS (ok_call (Get32_fn ((l.drop 1).take 4)) (Args.cons rfl ((Le.old _ _).trans (Le.eq (sub_byt l 1 5))) Args.nil)) ?_
 refine RM rfl ?_
 refine RS (ok_extract rfl rfl) ?_; refine RZ (.int .u32 (jN l : Int)) (congrArg (Value.int .u32) (getV_nat _ 4).symm) ?_
 refine RS (ok_extract rfl rfl) ?_
 refine RS (ok_field field41_1 (by decide) rfl) ?_
 refine RN ?_
 refine ⟨_, eff_storeS (n := 45) (s := 1000005) info28 rfl rfl rfl hBb5 rfl (by rw [(NodT.emp_fit (pX l) (by decide)).len]; decide) (LO 0 rfl (LV 2 rfl (LV 5 rfl (LB 1000002 rfl (LeftS.cons (t := 1900000) rfl (Surv.tab (by omega)) LN))))), ?_⟩
 refine TL ?_
 refine RN ?_
 refine A.sub (KC 0 rfl (KC 2 rfl (KC 5 rfl (KC 1000002 rfl (KE 1000005 rfl (show _ = blk b5 41 (NodT.emp (pX l) (jN l)).v from rfl) (KC 1900000 rfl KN)))))) ?_
 refine GS ?_
 refine TL ?_
 refine RA rfl ?_
 refine RN ?_
 refine A.seq ?_
 refine GS ?_
 refine TL ?_
 refine RS (ok_loadA (s := 1000005) (by decide) Tryd.underlying41 rfl (size41.of ((NodT.emp_fit (pX l) (jN_lt l)).len)) rfl rfl) ?_
 refine RS (ok_call (isGroup_y (NodT.emp (pX l) (jN l)) (NodT.emp_fit _ (jN_lt l)) h0') (A1 rfl)) ?_
 refine RN ?_
 refine A.yes rfl ?_
 refine GE ?_
 refine TF 7 ?_
 refine RM rfl ?_
 refine RS (ok_sliceO 5 l.length Tryd.underlying44 info5 rfl (Le.refl _) (.inl ⟨_, _, rfl, rfl⟩) (.inr ⟨rfl, by rw [List.length_map]⟩) (by omega) (by rw [List.length_map]; exact Nat.le_refl _)) ?_
 refine RS (ok_call (getPartsR_bad (l.drop 5) h2 hF) (Args.cons rfl ((Le.old _ _).trans (Le.eq (end_byt l 5))) (A1 rfl))) ?_
 refine RM rfl ?_
 refine RS (ok_extractV rfl rfl) ?_
 refine RS (ok_extractV rfl rfl) ?_
 refine RS (ok_field field41_2 (by decide) rfl) ?_
 refine RN ?_
 refine ⟨_, eff_storeP (n := 45) (s := 1000005) (size36.of (rfl)) rfl rfl (RecT.all1 _) hBb5 rfl (by rw [(NodT.emp_fit (pX l) (jN_lt l)).len]; decide) (LV 2 rfl (LV 5 rfl (LV 31 rfl (LB 1000002 rfl (LeftS.cons (t := 1900000) rfl (Surv.tab (by omega)) LN))))), ?_⟩
 refine TL ?_
 refine RA rfl ?_
 refine RN ?_
 refine EN ?_
 refine A.seq ?_
 refine GS ?_
 refine TL ?_
 refine RM rfl ?_
 refine RBS rfl rfl rfl (.bool true) (by first | rfl | (simp; done) | (simp; omega) | (simp [*]; done) | (simp [*]; omega)) ?_
 refine RN ?_
 refine A.yes rfl ?_
 refine GS ?_
 refine TF 2 ?_
 refine RS (ok_lit [] (NodT.v (NodT.emp 0 0)) (fun _ _ => rfl) (by kernel_rfl)) ?_
 refine RM rfl ?_
 refine RN ?_
 refine ⟨_, eff_storeA (n := 45) (s := 1000002) (size41.of (rfl)) rfl rfl (by first | exact NodT.one _ | exact RecT.one _ | exact EntT.one _ | exact RecT.all1 _ | exact EntT.all1 _ | exact all_byte _ | exact all_bytes _) hBb2 rfl (by first | rfl | (rw [rfl]; rfl)) (LV 2 rfl (LV 43 rfl (LB 1000005 rfl (LeftS.cons (t := 1900000) rfl (Surv.tab (by omega)) LN)))), ?_⟩
 refine TL ?_
 refine RA rfl ?_
 refine RN ?_
 refine A.ret ?_
 refine End.ret_then ?_
 exact End.cellV (s := 1000002) rfl Tryd.underlying41 rfl (size41.of (rfl)) rfl rfl rfl
set_option maxHeartbeats 2000000 in
theorem nGet_E1 (l : List UInt8) (h : szN l = 0) (h0' : ¬ (pX l).toNat = 0) (hF : (fst4 fun i => (eN l i).ck) = 0) : FnM Tryd.prog 14 tabS [byt l] (.v (.tuple #[aggV (⟨pX l, jN l, zerosR, pg EntT.zero (eN l) 4⟩ : NodT).v, .int .i64 0])) := by
 obtain ⟨h1, h2⟩ := lenE h h0'
 have h0 : ¬ l.length = 0 := by omega
 have hxf : NodT.Fit (⟨pX l, jN l, zerosR, pg EntT.zero (eN l) 4⟩ : NodT) := by have := gtN_fit h; rwa [gtN_E h0'] at this
 refine FnM.of Tryd.func14 rfl (by kernel_rfl) Tryd.ntmps14 (by simp) (by decide) (fun w => [(0, old w.heap.size (byt l)), (1900000, tab 0 (sizV))]) (fun w => (StartM.old rfl (StartM.m (by simp [tabS]) (by decide) StartM.nil))) fun w₀ hM => ?_
 have htab := tabS_hi hM
 refine GS ?_
 refine TN 0 ?_
 refine RN ?_
 refine ⟨_, _, eff_alloc (n := 45) (d := 2) (k := 1000002) zero41 (by decide), fun b2 hb2 => ?_⟩
 have hBb2 := hb2.1
 refine TL ?_
 refine RA rfl ?_
 refine RN ?_
 refine A.seq ?_
 refine GS ?_
 refine TL ?_
 refine RM rfl ?_
 refine RS (ok_callM (nSize_fn l) (Sub.cons rfl KN) tabS_v (Args.cons rfl (Le.old _ _) Args.nil)) ?_; refine RZ (.int .i64 0) (by rw [h]) ?_
 refine RA rfl ?_
 refine RN ?_
 refine GS ?_
 refine TL ?_
 refine RM rfl ?_
 refine RBS rfl rfl rfl (.bool false) (by first | rfl | (simp; done) | (simp; omega) | (simp [*]; done) | (simp [*]; omega)) ?_
 refine RN ?_
 refine A.no rfl ?_
 refine A.skip ?_
 refine EN ?_
 refine GS ?_
 refine TN 4 ?_
 refine RM rfl ?_
 refine RS (ok_index (d := byteD (pX l)) Tryd.underlying44 info5 rfl LA rfl (by decide) (px_get h0)) ?_
 refine RS (ok_load Tryd.underlying5 rfl rfl) ?_
 refine RS (ok_litS [(0, byteV (pX l))] (NodT.emp (pX l) 0).v ⟨rfl, rfl, trivial⟩ (buildX0 _)) ?_
 refine RN ?_
 refine ⟨_, _, eff_alloc (n := 45) (d := 5) (k := 1000005) zero41 (by decide), fun b5 hb5 => ?_⟩
 have hBb5 := hb5.1
 have hlt_b2_b5 : b2 < b5 := hb5.2 1000002 _ _ _ rfl
 refine TF 5 ?_
 refine RN ?_
 refine ⟨_, eff_storeA (n := 45) (s := 1000005) (size41.of (rfl)) rfl rfl (by first | exact NodT.one _ | exact RecT.one _ | exact EntT.one _ | exact RecT.all1 _ | exact EntT.all1 _ | exact all_byte _ | exact all_bytes _) hBb5 rfl (by first | rfl | (rw [rfl]; rfl)) (LO 0 rfl (LV 2 rfl (LV 5 rfl (LB 1000002 rfl (LeftS.cons (t := 1900000) rfl (Surv.tab (by omega)) LN))))), ?_⟩
 refine TL ?_
 refine RN ?_
 refine GS ?_
 refine TF 7 ?_
 refine RM rfl ?_
 refine RS (ok_sliceO 1 5 Tryd.underlying44 info5 rfl (Le.refl _) (.inl ⟨_, _, rfl, rfl⟩) (.inl ⟨_, _, rfl, rfl⟩) (by decide) (by rw [List.length_map]; omega)) ?_
 refine RS (ok_call (Get32_fn ((l.drop 1).take 4)) (Args.cons rfl ((Le.old _ _).trans (Le.eq (sub_byt l 1 5))) Args.nil)) ?_
 refine RM rfl ?_
 refine RS (ok_extract rfl rfl) ?_; refine RZ (.int .u32 (jN l : Int)) (congrArg (Value.int .u32) (getV_nat _ 4).symm) ?_
 refine RS (ok_extract rfl rfl) ?_
 refine RS (ok_field field41_1 (by decide) rfl) ?_
 refine RN ?_
 refine ⟨_, eff_storeS (n := 45) (s := 1000005) info28 rfl rfl rfl hBb5 rfl (by rw [(NodT.emp_fit (pX l) (by decide)).len]; decide) (LO 0 rfl (LV 2 rfl (LV 5 rfl (LB 1000002 rfl (LeftS.cons (t := 1900000) rfl (Surv.tab (by omega)) LN))))), ?_⟩
 refine TL ?_
 refine RN ?_
 refine A.sub (KC 0 rfl (KC 2 rfl (KC 5 rfl (KC 1000002 rfl (KE 1000005 rfl (show _ = blk b5 41 (NodT.emp (pX l) (jN l)).v from rfl) (KC 1900000 rfl KN)))))) ?_
 refine GS ?_
 refine TL ?_
 refine RA rfl ?_
 refine RN ?_
 refine A.seq ?_
 refine GS ?_
 refine TL ?_
 refine RS (ok_loadA (s := 1000005) (by decide) Tryd.underlying41 rfl (size41.of ((NodT.emp_fit (pX l) (jN_lt l)).len)) rfl rfl) ?_
 refine RS (ok_call (isGroup_n (NodT.emp (pX l) (jN l)) (NodT.emp_fit _ (jN_lt l)) h0') (A1 rfl)) ?_
 refine RN ?_
 refine A.no rfl ?_
 refine GE ?_
 refine TF 7 ?_
 refine RM rfl ?_
 refine RS (ok_sliceO 5 l.length Tryd.underlying44 info5 rfl (Le.refl _) (.inl ⟨_, _, rfl, rfl⟩) (.inr ⟨rfl, by rw [List.length_map]⟩) (by omega) (by rw [List.length_map]; exact Nat.le_refl _)) ?_
 refine RS (ok_call (getPartsE_ok (l.drop 5) h2 hF) (Args.cons rfl ((Le.old _ _).trans (Le.eq (end_byt l 5))) (A1 rfl))) ?_
 refine RM rfl ?_
 refine RS (ok_extractV rfl rfl) ?_
 refine RS (ok_extractV rfl rfl) ?_
 refine RS (ok_field field41_3 (by decide) rfl) ?_
 refine RN ?_
 refine ⟨_, eff_storeP (n := 45) (s := 1000005) (size39.of (pg_lens EntT.zero_fit.len (fun i hi => (EntT.of_fit (prt_len h2 hi)).len) 4)) rfl rfl (EntT.all1 _) hBb5 rfl (by rw [pg_lens EntT.zero_fit.len (fun i hi => (EntT.of_fit (prt_len h2 hi)).len) 4, (NodT.emp_fit (pX l) (jN_lt l)).len]; decide) (LV 2 rfl (LV 5 rfl (LV 38 rfl (LB 1000002 rfl (LeftS.cons (t := 1900000) rfl (Surv.tab (by omega)) LN))))), ?_⟩
 refine TL ?_
 refine RA rfl ?_
 refine RN ?_
 refine End.sub (KC 2 rfl (KC 5 rfl (KC 6 rfl (KC 1000002 rfl (KE 1000005 rfl (show _ = blk b5 41 ((⟨pX l, jN l, zerosR, pg EntT.zero (eN l) 4⟩ : NodT)).v from congrArg _ (setE_emp _ _ (pg_lens EntT.zero_fit.len (fun i hi => (EntT.of_fit (prt_len h2 hi)).len) 4))) (KC 1900000 rfl KN)))))) ?_
 refine EN ?_
 refine A.seq ?_
 refine GS ?_
 refine TL ?_
 refine RM rfl ?_
 refine RBS rfl rfl rfl (.bool false) (by first | rfl | (simp; done) | (simp; omega) | (simp [*]; done) | (simp [*]; omega)) ?_
 refine RN ?_
 refine A.no rfl ?_
 refine A.skip ?_
 refine EN ?_
 refine GS ?_
 refine TF 1 ?_
 refine RS (ok_loadA (s := 1000005) (by decide) Tryd.underlying41 rfl (size41.of (hxf.len)) rfl rfl) ?_
 refine RN ?_
 refine ⟨_, eff_storeA (n := 45) (s := 1000002) (size41.of (hxf.len)) rfl rfl (NodT.one _) hBb2 rfl (by rw [hxf.len]; rfl) (LV 2 rfl (LB 1000005 rfl (LeftS.cons (t := 1900000) rfl (Surv.tab (by omega)) LN))), ?_⟩
 refine TL ?_
 refine RA rfl ?_
 refine RN ?_
 refine A.ret ?_
 exact End.cellV (s := 1000002) rfl Tryd.underlying41 rfl (size41.of (hxf.len)) rfl rfl rfl
set_option maxHeartbeats 2000000 in
theorem nGet_E0 (l : List UInt8) (h : szN l = 0) (h0' : ¬ (pX l).toNat = 0) (hF : (fst4 fun i => (eN l i).ck) ≠ 0) : FnM Tryd.prog 14 tabS [byt l] (.v (.tuple #[aggV (NodT.emp 0 0).v, .int .i64 (fst4 fun i => (eN l i).ck)])) := by
 obtain ⟨h1, h2⟩ := lenE h h0'
 have h0 : ¬ l.length = 0 := by omega
 have hxf : NodT.Fit (⟨pX l, jN l, zerosR, pg EntT.zero (eN l) 4⟩ : NodT) := by have := gtN_fit h; rwa [gtN_E h0'] at this
 refine FnM.of Tryd.func14 rfl (by kernel_rfl) Tryd.ntmps14 (by simp) (by decide) (fun w => [(0, old w.heap.size (byt l)), (1900000, tab 0 (sizV))]) (fun w => (StartM.old rfl (StartM.m (by simp [tabS]) (by decide) StartM.nil))) fun w₀ hM => ?_
 have htab := tabS_hi hM
 refine GS ?_
 refine TN 0 ?_
 refine RN ?_
 refine ⟨_, _, eff_alloc (n := 45) (d := 2) (k := 1000002) zero41 (by decide), fun b2 hb2 => ?_⟩
 have hBb2 := hb2.1
 refine TL ?_
 refine RA rfl ?_
 refine RN ?_
 refine A.seq ?_
 refine GS ?_
 refine TL ?_
 refine RM rfl ?_
 refine RS (ok_callM (nSize_fn l) (Sub.cons rfl KN) tabS_v (Args.cons rfl (Le.old _ _) Args.nil)) ?_; refine RZ (.int .i64 0) (by rw [h]) ?_
 refine RA rfl ?_
 refine RN ?_
 refine GS ?_
 refine TL ?_
 refine RM rfl ?_
 refine RBS rfl rfl rfl (.bool false) (by first | rfl | (simp; done) | (simp; omega) | (simp [*]; done) | (simp [*]; omega)) ?_
 refine RN ?_
 refine A.no rfl ?_
 refine A.skip ?_
 refine EN ?_
 refine GS ?_
 refine TN 4 ?_
 refine RM rfl ?_
 refine RS (ok_index (d := byteD (pX l)) Tryd.underlying44 info5 rfl LA rfl (by decide) (px_get h0)) ?_
 refine RS (ok_load Tryd.underlying5 rfl rfl) ?_
 refine RS (ok_litS [(0, byteV (pX l))] (NodT.emp (pX l) 0).v ⟨rfl, rfl, trivial⟩ (buildX0 _)) ?_
 refine RN ?_
 refine ⟨_, _, eff_alloc (n := 45) (d := 5) (k := 1000005) zero41 (by decide), fun b5 hb5 => ?_⟩
 have hBb5 := hb5.1
 have hlt_b2_b5 : b2 < b5 := hb5.2 1000002 _ _ _ rfl
 refine TF 5 ?_
 refine RN ?_
 refine ⟨_, eff_storeA (n := 45) (s := 1000005) (size41.of (rfl)) rfl rfl (by first | exact NodT.one _ | exact RecT.one _ | exact EntT.one _ | exact RecT.all1 _ | exact EntT.all1 _ | exact all_byte _ | exact all_bytes _) hBb5 rfl (by first | rfl | (rw [rfl]; rfl)) (LO 0 rfl (LV 2 rfl (LV 5 rfl (LB 1000002 rfl (LeftS.cons (t := 1900000) rfl (Surv.tab (by omega)) LN))))), ?_⟩
 refine TL ?_
 refine RN ?_
 refine GS ?_
 refine TF 7 ?_
 refine RM rfl ?_
 refine RS (ok_sliceO 1 5 Tryd.underlying44 info5 rfl (Le.refl _) (.inl ⟨_, _, rfl, rfl⟩) (.inl ⟨_, _, rfl, rfl⟩) (by decide) (by rw [List.length_map]; omega)) ?_
 refine RS (ok_call (Get32_fn ((l.drop 1).take 4)) (Args.cons rfl ((Le.old _ _).trans (Le.eq (sub_byt l 1 5))) Args.nil)) ?_
 refine RM rfl ?_
 refine RS (ok_extract rfl rfl) ?_; refine RZ (.int .u32 (jN l : Int)) (congrArg (Value.int .u32) (getV_nat _ 4).symm) ?_
 refine RS (ok_extract rfl rfl) ?_
 refine RS (ok_field field41_1 (by decide) rfl) ?_
 refine RN ?_
 refine ⟨_, eff_storeS (n := 45) (s := 1000005) info28 rfl rfl rfl hBb5 rfl (by rw [(NodT.emp_fit (pX l) (by decide)).len]; decide) (LO 0 rfl (LV 2 rfl (LV 5 rfl (LB 1000002 rfl (LeftS.cons (t := 1900000) rfl (Surv.tab (by omega)) LN))))), ?_⟩
 refine TL ?_
 refine RN ?_
 refine A.sub (KC 0 rfl (KC 2 rfl (KC 5 rfl (KC 1000002 rfl (KE 1000005 rfl (show _ = blk b5 41 (NodT.emp (pX l) (jN l)).v from rfl) (KC 1900000 rfl KN)))))) ?_
 refine GS ?_
 refine TL ?_
 refine RA rfl ?_
 refine RN ?_
 refine A.seq ?_
 refine GS ?_
 refine TL ?_
 refine RS (ok_loadA (s := 1000005) (by decide) Tryd.underlying41 rfl (size41.of ((NodT.emp_fit (pX l) (jN_lt l)).len)) rfl rfl) ?_
 refine RS (ok_call (isGroup_n (NodT.emp (pX l) (jN l)) (NodT.emp_fit _ (jN_lt l)) h0') (A1 rfl)) ?_
 refine RN ?_
 refine A.no rfl ?_
 refine GE ?_
 refine TF 7 ?_
 refine RM rfl ?_
 refine RS (ok_sliceO 5 l.length Tryd.underlying44 info5 rfl (Le.refl _) (.inl ⟨_, _, rfl, rfl⟩) (.inr ⟨rfl, by rw [List.length_map]⟩) (by omega) (by rw [List.length_map]; exact Nat.le_refl _)) ?_
 refine RS (ok_call (getPartsE_bad (l.drop 5) h2 hF) (Args.cons rfl ((Le.old _ _).trans (Le.eq (end_byt l 5))) (A1 rfl))) ?_
 refine RM rfl ?_
 refine RS (ok_extractV rfl rfl) ?_
 refine RS (ok_extractV rfl rfl) ?_
 refine RS (ok_field field41_3 (by decide) rfl) ?_
 refine RN ?_
 refine ⟨_, eff_storeP (n := 45) (s := 1000005) (size39.of (rfl)) rfl rfl (EntT.all1 _) hBb5 rfl (by rw [(NodT.emp_fit (pX l) (jN_lt l)).len]; decide) (LV 2 rfl (LV 5 rfl (LV 38 rfl (LB 1000002 rfl (LeftS.cons (t := 1900000) rfl (Surv.tab (by omega)) LN))))), ?_⟩
 refine TL ?_
 refine RA rfl ?_
 refine RN ?_
 refine EN ?_
 refine A.seq ?_
 refine GS ?_
 refine TL ?_
 refine RM rfl ?_
 refine RBS rfl rfl rfl (.bool true) (by first | rfl | (simp; done) | (simp; omega) | (simp [*]; done) | (simp [*]; omega)) ?_
 refine RN ?_
 refine A.yes rfl ?_
 refine GS ?_
 refine TF 2 ?_
 refine RS (ok_lit [] (NodT.v (NodT.emp 0 0)) (fun _ _ => rfl) (by kernel_rfl)) ?_
 refine RM rfl ?_
 refine RN ?_
 refine ⟨_, eff_storeA (n := 45) (s := 1000002) (size41.of (rfl)) rfl rfl (by first | exact NodT.one _ | exact RecT.one _ | exact EntT.one _ | exact RecT.all1 _ | exact EntT.all1 _ | exact all_byte _ | exact all_bytes _) hBb2 rfl (by first | rfl | (rw [rfl]; rfl)) (LV 2 rfl (LV 43 rfl (LB 1000005 rfl (LeftS.cons (t := 1900000) rfl (Surv.tab (by omega)) LN)))), ?_⟩
 refine TL ?_
 refine RA rfl ?_
 refine RN ?_
 refine A.ret ?_
 refine End.ret_then ?_
 exact End.cellV (s := 1000002) rfl Tryd.underlying41 rfl (size41.of (rfl)) rfl rfl rfl
theorem nGet_ok (l : List UInt8) (h : geN l = 0) : FnM Tryd.prog 14 tabS [byt l] (.v (.tuple #[aggV (gtN l).v, .int .i64 0])) := by
 have hs := geN_szN h
 by_cases h0 : (pX l).toNat = 0
 ·rw [geN_R hs h0] at h
  rw [gtN_R h0]; exact nGet_R1 l hs h0 h
 ·rw [geN_E hs h0] at h
  rw [gtN_E h0]; exact nGet_E1 l hs h0 h
theorem nGet_bad (l : List UInt8) (h : geN l ≠ 0) : FnM Tryd.prog 14 tabS [byt l] (.v (.tuple #[aggV (NodT.emp 0 0).v, .int .i64 (geN l)])) := by
 by_cases hs : szN l = 0
 ·by_cases h0 : (pX l).toNat = 0
  ·rw [geN_R hs h0] at h ⊢; exact nGet_R0 l hs h0 h
  ·rw [geN_E hs h0] at h ⊢; exact nGet_E0 l hs h0 h
 ·rw [geN_sz hs]; exact nGet_sz l hs
end Go.Proofs.YtlddnmblfgaimaaDoor
