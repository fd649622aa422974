/-
  OWN TEXTS of this seat, put together, part 2: C01a, C01b, C02a, C02b, C02c, C01c, Range, C02g, Law, Law2, Laid, St, C01d, C02h, Dig, C02d, C02e, C02f, C02i, C02j, Eq, Mark, C02k.
-/
import Derived.Test.YthadcgkcgpinhaaGreatDoorKA1
import Derived.Test.YthadcgkcgpinhaaGreatDoorProg
import Derived.RangeFuncOwn
import Derived.OpenShut
import Derived.ChangeSlices
import Derived.Test.YthadcgkcgpinhaaGreatDoorTie
import Derived.ProofKit
import Derived.LaidMore
import Derived.Stop.Joined
import Derived.ChangeKeysEq
import Derived.Laws.StructEq
namespace Go.Proofs.YthadcgkcgpinhaaGreatDoor
open Go Go.RowKit
set_option linter.unusedVariables false
set_option maxRecDepth 20000

theorem info5 : InfoIs Tryz.prog 5 (.int .u8 0) 1 := by unfold InfoIs; kernel_rfl
theorem info3 : InfoIs Tryz.prog 3 (.int .i64 0) 8 := by unfold InfoIs; kernel_rfl
theorem info49 : InfoIs Tryz.prog 49 (.slice none 0 0) 24 := by unfold InfoIs; kernel_rfl

def chk (len want : Int) : Int := if len < want then 6 else if len > want then 5 else 0
/-- What get returns: the number, or 0 and the error. -/
def getV (l : List UInt8) (k : Nat) : Int := if l.length = k then (num l : Int) else 0

theorem checkLength_fn (l : List UInt8) (want : Int) : Fn Tryz.prog 93 [byt l, .v (.int .i64 want)] (.v (.int .i64 (chk l.length want))) := by
 refine Fn.of Tryz.func93 rfl (by kernel_rfl) Tryz.ntmps93 (by simp) (fun w => [(0, old w.heap.size (byt l)), (1, .v (.int .i64 want))]) (fun w => (Start.old rfl (Start.v rfl Start.nil))) fun w₀ => ?_
 refine GS ?_
 refine TL ?_
 refine RA rfl ?_
 refine RN ?_
 refine A.seq ?_
 refine A.block ?_
 refine GS ?_
 refine TL ?_
 refine RM rfl ?_
 refine RS (ok_lenB Tryz.underlying49 rfl LA) ?_
 refine RM rfl ?_
 refine RB rfl rfl rfl ?_
 refine RA rfl ?_
 refine RN ?_
 refine A.cond rfl (fun hc5 => ?_) (fun hc5 => ?_)
 ·refine GS ?_
  refine TL ?_
  refine RA rfl ?_
  refine RN ?_
  refine A.ret ?_
  refine End.ret_block ?_
  refine End.ret_then ?_
  exact End.ret1 rfl rfl (Le.v (by simp [chk] at *; try omega))
 ·refine GS ?_
  refine TL ?_
  refine RM rfl ?_
  refine RS (ok_lenB Tryz.underlying49 rfl LA) ?_
  refine RM rfl ?_
  refine RB rfl rfl rfl ?_
  refine RA rfl ?_
  refine RN ?_
  refine A.cond rfl (fun hc10 => ?_) (fun hc10 => ?_)
  ·refine GS ?_
   refine TL ?_
   refine RA rfl ?_
   refine RN ?_
   refine A.ret ?_
   refine End.ret_block ?_
   refine End.ret_then ?_
   exact End.ret1 rfl rfl (Le.v (by simp [chk] at *; try omega))
  ·refine A.skip ?_
   refine End.normal_block ?_
   refine EN ?_
   refine GS ?_
   refine TL ?_
   refine RA rfl ?_
   refine RN ?_
   refine A.ret ?_
   exact End.ret1 rfl rfl (Le.v (by simp [chk] at *; try omega))
theorem put_fn (v k : Int) (hv0 : 0 ≤ v) (hv : v < 18446744073709551616) (hk0 : 0 ≤ k) (hk : k ≤ 8) : Fn Tryz.prog 85 [.v (.int .u64 v), .v (.int .i64 k)] (bytes (be k.toNat v.toNat) k.toNat) := by
 obtain ⟨V, rfl⟩ := Int.eq_ofNat_of_zero_le hv0
 obtain ⟨K, rfl⟩ := Int.eq_ofNat_of_zero_le hk0
 simp only [Int.toNat_natCast]
 refine Fn.of Tryz.func85 rfl (by kernel_rfl) Tryz.ntmps85 (by simp) (fun w => [(0, .v (.int .u64 (V : Int))), (1, .v (.int .i64 (K : Int)))]) (fun w => (Start.v rfl (Start.v rfl Start.nil))) fun w₀ => ?_
 refine GS ?_
 refine TL ?_
 refine RA rfl ?_
 refine RN ?_
 refine GS ?_
 refine TL ?_
 refine RM rfl ?_
 refine RS (ok_make K Tryz.underlying49 info5 (by decide) rfl rfl rfl rfl rfl (by omega)) ?_
 refine RA rfl ?_
 refine RN ?_
 refine A.open (t := 5) (k := 1000000) rfl fun b hb => ?_
 refine A.seq ?_
 refine GS ?_
 refine TL ?_
 refine RM rfl ?_
 refine RM rfl ?_
 refine RN ?_
 refine A.block ?_
 refine A.loop (ι := Nat) (fun i => i ≤ K) (fun i => [(0, .v (.int .u64 (V : Int))), (1, .v (.int .i64 (K : Int))), (5, .v (.slice (some ⟨b, 0, none⟩) K K)), (9, .v (.int .i64 (K : Int))), (10, .v (.int .i64 (i : Int))), (1000000, blk b 5 (((be K V).take i).map byteV ++ List.replicate ((be K V).length - i) (.int .u8 0)))]) (fun i => K - i) 0 ?_ ?_ ?_
 ·exact Nat.zero_le _
 ·exact (KC 0 rfl (KC 1 rfl (KE 5 rfl (by simp) (KC 9 rfl (KC 10 rfl (KE 1000000 rfl (by simp [be_length]) KN))))))
 intro i hi
 refine GS ?_
 refine TL ?_
 refine RB rfl rfl rfl ?_
 refine RN ?_
 refine A.seq ?_
 refine A.cond rfl (fun hc11 => ?_) (fun hc11 => ?_)
 ·have hlt : i < K := by simpa using hc11
  refine A.skip ?_
  refine EN ?_
  refine A.seq ?_
  refine A.block ?_
  refine GS ?_
  refine TL ?_
  refine RM rfl ?_
  refine RA rfl ?_
  refine RN ?_
  refine GE ?_
  refine TF 11 ?_
  refine RM rfl ?_
  refine RM rfl ?_
  refine RM rfl ?_
  refine RM rfl ?_
  refine RBS rfl rfl rfl (nI (K - 1)) (by rw [wrap_i64 (by omega) (by omega)]; congr 1; omega) ?_
  refine RM rfl ?_
  refine RBS rfl rfl rfl (nI (K - 1 - i)) (by rw [wrap_i64 (by omega) (by omega)]; congr 1; omega) ?_
  refine RBS rfl rfl rfl (nI (8 * (K - 1 - i))) (by rw [wrap_i64 (by omega) (by omega)]; congr 1) ?_
  refine RS (ok_shr rfl rfl (by omega)) ?_; refine RZ (nQ (V / 256 ^ (K - 1 - i))) (by rw [Int.toNat_natCast, show min (8 * (K - 1 - i)) IntKind.u64.bits = 8 * (K - 1 - i) from by simp only [IntKind.bits]; omega, shr_nat, pow256]) ?_
  refine RS (ok_conv Tryz.underlying28 Tryz.underlying5 rfl) ?_; refine RZ (byteV (UInt8.ofNat (V / 256 ^ (K - 1 - i)))) (by rw [wrap_u8_nat]; rfl) ?_
  refine RS (ok_indexV i Tryz.underlying49 info5 rfl rfl rfl hlt) ?_
  refine RN ?_
  refine ⟨_, eff_store (n := 26) (s := 1000000) info5 rfl rfl rfl hb rfl (by simp [be_length]; omega) (Left.cons (t := 0) rfl (Stays.v _ _) (Left.cons (t := 1) rfl (Stays.v _ _) (Left.cons (t := 5) rfl (Stays.v _ _) (Left.cons (t := 9) rfl (Stays.v _ _) (Left.cons (t := 10) rfl (Stays.v _ _) Left.nil))))), ?_⟩
  refine TL ?_
  refine RN ?_
  refine End.normal_block ?_
  refine EN ?_
  refine GE ?_
  refine TL ?_
  refine RBS rfl rfl rfl (nI (i + 1)) (by rw [wrap_i64 (by omega) (by omega)]; congr 1) ?_
  refine RM rfl ?_
  refine RN ?_
  refine End.normal_then ?_
  refine End.again (i + 1) ?_ ?_ ?_
  ·show _ ≤ _; omega
  ·show _ - _ < _ - _; omega
  ·exact (KC 0 rfl (KC 1 rfl (KC 5 rfl (KC 9 rfl (KC 10 rfl (KE 1000000 rfl (by rw [Nat.zero_add]; exact congrArg _ (fill_step (be_get hlt))) KN))))))
 ·refine A.exit ?_
  refine End.exit_then ?_
  refine End.exit_then ?_
  refine End.exit_here ?_
  refine EN ?_
  refine GS ?_
  refine TL ?_
  refine RM rfl ?_
  refine RA rfl ?_
  refine RN ?_
  refine A.ret ?_
  have hK : i = K := by simp at hc11; omega
  subst hK
  refine End.bytes 4 1000000 (be i V) rfl (be_length _ _).symm rfl ?_ (by simp [be_length]) (by simp only [maxLen]; omega) ?_
  ·simp only [be_length, Nat.sub_self, List.replicate_zero, List.append_nil]
   rw [← List.map_take, List.take_take, Nat.min_self, List.take_of_length_le (by rw [be_length]; omega)]
  ·exact End.ret1 rfl rfl (Le.refl _)
theorem Put64_fn (v : Int) (hv0 : 0 ≤ v) (hv : v < 18446744073709551616) : Fn Tryz.prog 71 [.v (.int .u64 v)] (bytes (be 8 v.toNat) 8) := by
 refine Fn.of Tryz.func71 rfl (by kernel_rfl) Tryz.ntmps71 (by simp) (fun w => [(0, .v (.int .u64 v))]) (fun w => (Start.v rfl Start.nil)) fun w₀ => ?_
 refine GS ?_
 refine TL ?_
 refine RA rfl ?_
 refine RN ?_
 refine GS ?_
 refine TL ?_
 refine RM rfl ?_
 refine RS (ok_call (put_fn v 8 hv0 hv (by omega) (by omega)) (Args.cons rfl LA (Args.cons rfl LA Args.nil))) ?_
 refine RA rfl ?_
 refine RN ?_
 refine A.ret ?_
 exact End.ret1 rfl rfl (by first | exact Le.refl _ | exact Le.old _ _)
theorem Put32_fn (v : Int) (hv0 : 0 ≤ v) (hv : v < 4294967296) : Fn Tryz.prog 61 [.v (.int .u32 v)] (bytes (be 4 v.toNat) 4) := by
 refine Fn.of Tryz.func61 rfl (by kernel_rfl) Tryz.ntmps61 (by simp) (fun w => [(0, .v (.int .u32 v))]) (fun w => (Start.v rfl Start.nil)) fun w₀ => ?_
 refine GS ?_
 refine TL ?_
 refine RA rfl ?_
 refine RN ?_
 refine GS ?_
 refine TL ?_
 refine RM rfl ?_
 refine RS (ok_conv Tryz.underlying27 Tryz.underlying28 rfl) ?_; refine RZ (.int .u64 v) (by rw [wrap_u64 hv0 (by omega)]) ?_
 refine RS (ok_call (put_fn v 4 hv0 (by omega) (by omega) (by omega)) (Args.cons rfl LA (Args.cons rfl LA Args.nil))) ?_
 refine RA rfl ?_
 refine RN ?_
 refine A.ret ?_
 exact End.ret1 rfl rfl (by first | exact Le.refl _ | exact Le.old _ _)
theorem get_fn (l : List UInt8) (k : Int) (hk0 : 0 ≤ k) (hk : k ≤ 8) : Fn Tryz.prog 75 [byt l, .v (.int .i64 k)] (tup [.v (.int .u64 (getV l k.toNat)), .v (.int .i64 (chk l.length k))]) := by
 have hchk : chk l.length k = 0 ↔ (l.length : Int) = k := by unfold chk; split <;> (try split) <;> omega
 refine Fn.of Tryz.func75 rfl (by kernel_rfl) Tryz.ntmps75 (by simp) (fun w => [(0, old w.heap.size (byt l)), (1, .v (.int .i64 k))]) (fun w => (Start.old rfl (Start.v rfl Start.nil))) fun w₀ => ?_
 refine GS ?_
 refine TL ?_
 refine RA rfl ?_
 refine RA rfl ?_
 refine RN ?_
 refine A.seq ?_
 refine GS ?_
 refine TL ?_
 refine RM rfl ?_
 refine RM rfl ?_
 refine RS (ok_call (checkLength_fn _ _) (Args.cons rfl LA (Args.cons rfl LA Args.nil))) ?_
 refine RA rfl ?_
 refine RN ?_
 refine GS ?_
 refine TL ?_
 refine RM rfl ?_
 refine RB rfl rfl rfl ?_
 refine RN ?_
 refine A.cond rfl (fun hc14 => ?_) (fun hc14 => ?_)
 ·have hne : ¬ (l.length : Int) = k := fun h => by simp [hchk.2 h] at hc14
  refine GS ?_
  refine TL ?_
  refine RM rfl ?_
  refine RA rfl ?_
  refine RA rfl ?_
  refine RN ?_
  refine A.ret ?_
  refine End.ret_then ?_
  first | exact End.ret2 rfl rfl (Le.v (by rw [getV, if_neg (by omega)])) rfl (Le.refl _) | exact End.ret2 rfl rfl (Le.v (by rw [getV, if_pos (by omega), List.take_of_length_le (by simp at hc19; omega)])) rfl (Le.v (by rw [hchk.2 heq]))
 ·have heq : (l.length : Int) = k := hchk.1 (by simpa using hc14)
  have hl8 : l.length ≤ 8 := by omega
  refine A.skip ?_
  refine EN ?_
  refine GS ?_
  refine TL ?_
  refine RA rfl ?_
  refine RN ?_
  refine A.seq ?_
  refine GS ?_
  refine TL ?_
  refine RM rfl ?_
  refine RS (ok_lenB Tryz.underlying49 rfl LA) ?_
  refine RM rfl ?_
  refine RN ?_
  refine A.block ?_
  refine A.loop (ι := Nat) (fun i => i ≤ l.length) (fun i => [(7, .v (nQ (num (l.take i)))), (16, old w₀.heap.size (byt l)), (17, .v (.int .i64 (l.length : Int))), (18, .v (.int .i64 (i : Int)))]) (fun i => l.length - i) 0 ?_ ?_ ?_
  ·exact Nat.zero_le _
  ·exact (KC 7 rfl (KC 16 rfl (KC 17 rfl (KC 18 rfl KN))))
  intro i hi
  refine GS ?_
  refine TL ?_
  refine RB rfl rfl rfl ?_
  refine RN ?_
  refine A.seq ?_
  refine A.cond rfl (fun hc19 => ?_) (fun hc19 => ?_)
  ·have hlt : i < l.length := by simpa using hc19
   have hnum : num (l.take i) < 256 ^ 7 := Nat.lt_of_lt_of_le (num_lt _) (Nat.pow_le_pow_right (by decide) (by rw [List.length_take]; omega))
   have hcn := l[i].toNat_lt
   refine A.skip ?_
   refine EN ?_
   refine A.seq ?_
   refine A.block ?_
   refine GS ?_
   refine TL ?_
   refine RS (ok_index (d := byteD l[i]) Tryz.underlying49 info5 rfl LA rfl (by omega) (by simp [hlt])) ?_
   refine RS (ok_load Tryz.underlying5 rfl rfl) ?_
   refine RA rfl ?_
   refine RN ?_
   refine GE ?_
   refine TL ?_
   refine RM rfl ?_
   refine RS (ok_shl rfl rfl (by decide)) ?_; refine RZ (nQ (num (l.take i) * 256)) (by rw [show (min (Int.toNat 8) IntKind.u64.bits) = 8 from rfl, wrap_u64 (by omega) (by omega)]; congr 1) ?_
   refine RM rfl ?_
   refine RS (ok_conv Tryz.underlying5 Tryz.underlying28 rfl) ?_; refine RZ (.int .u64 (l[i].toNat : Int)) (by rw [wrap_u64 (by omega) (by omega)]) ?_
   refine RBS rfl rfl rfl (nQ (num (l.take (i + 1)))) (by rw [show IntKind.u64.bits = 64 from rfl, or_u64_nat (by omega) (by omega), mul256_or, List.take_add_one, List.getElem?_eq_getElem hlt, Option.toList_some, num_snoc]) ?_
   refine RA rfl ?_
   refine RN ?_
   refine End.normal_block ?_
   refine EN ?_
   refine GE ?_
   refine TL ?_
   refine RBS rfl rfl rfl (nI (i + 1)) (by rw [wrap_i64 (by omega) (by omega)]; congr 1) ?_
   refine RM rfl ?_
   refine RN ?_
   refine End.normal_then ?_
   refine End.again (i + 1) ?_ ?_ ?_
   ·show _ ≤ _; omega
   ·show _ - _ < _ - _; omega
   ·exact (KC 7 rfl (KC 16 rfl (KC 17 rfl (KC 18 rfl KN))))
  ·refine A.exit ?_
   refine End.exit_then ?_
   refine End.exit_then ?_
   refine End.exit_here ?_
   refine EN ?_
   refine GS ?_
   refine TL ?_
   refine RM rfl ?_
   refine RA rfl ?_
   refine RA rfl ?_
   refine RN ?_
   refine A.ret ?_
   first | exact End.ret2 rfl rfl (Le.v (by rw [getV, if_neg (by omega)])) rfl (Le.refl _) | exact End.ret2 rfl rfl (Le.v (by rw [getV, if_pos (by omega), List.take_of_length_le (by simp at hc19; omega)])) rfl (Le.v (by rw [hchk.2 heq]))
theorem Get64_fn (l : List UInt8) : Fn Tryz.prog 52 [byt l] (tup [.v (.int .u64 (getV l 8)), .v (.int .i64 (chk l.length 8))]) := by
 refine Fn.of Tryz.func52 rfl (by kernel_rfl) Tryz.ntmps52 (by simp) (fun w => [(0, old w.heap.size (byt l))]) (fun w => (Start.old rfl Start.nil)) fun w₀ => ?_
 refine GS ?_
 refine TL ?_
 refine RA rfl ?_
 refine RA rfl ?_
 refine RN ?_
 refine GS ?_
 refine TL ?_
 refine RM rfl ?_
 refine RS (ok_call (get_fn l 8 (by decide) (by decide)) (Args.cons rfl LA (Args.cons rfl LA Args.nil))) ?_
 refine RS (ok_extract rfl rfl) ?_
 refine RS (ok_extract rfl rfl) ?_
 refine RA rfl ?_
 refine RA rfl ?_
 refine RN ?_
 refine A.ret ?_
 exact End.ret2 rfl rfl (by first | exact Le.refl _ | exact Le.old _ _) rfl (by first | exact Le.refl _ | exact Le.old _ _)
theorem Get32_fn (l : List UInt8) : Fn Tryz.prog 51 [byt l] (tup [.v (.int .u32 (getV l 4)), .v (.int .i64 (chk l.length 4))]) := by
 have hv : 0 ≤ getV l 4 ∧ getV l 4 < 4294967296 := by
  unfold getV
  split
  ·rename_i h; have := num_lt l; rw [h] at this; omega
  ·omega
 refine Fn.of Tryz.func51 rfl (by kernel_rfl) Tryz.ntmps51 (by simp) (fun w => [(0, old w.heap.size (byt l))]) (fun w => (Start.old rfl Start.nil)) fun w₀ => ?_
 refine GS ?_
 refine TL ?_
 refine RA rfl ?_
 refine RA rfl ?_
 refine RN ?_
 refine GS ?_
 refine TL ?_
 refine RM rfl ?_
 refine RS (ok_call (get_fn l 4 (by decide) (by decide)) (Args.cons rfl LA (Args.cons rfl LA Args.nil))) ?_
 refine RM rfl ?_
 refine RS (ok_extract rfl rfl) ?_
 refine RS (ok_extract rfl rfl) ?_
 refine RA rfl ?_
 refine RA rfl ?_
 refine RN ?_
 refine GS ?_
 refine TL ?_
 refine RM rfl ?_
 refine RS (ok_conv Tryz.underlying28 Tryz.underlying27 rfl) ?_; refine RZ (.int .u32 (getV l 4)) (congrArg _ (wrap_u32 hv.1 hv.2)) ?_
 refine RM rfl ?_
 refine RA rfl ?_
 refine RA rfl ?_
 refine RN ?_
 refine A.ret ?_
 exact End.ret2 rfl rfl (by first | exact Le.refl _ | exact Le.old _ _) rfl (by first | exact Le.refl _ | exact Le.old _ _)
end Go.Proofs.YthadcgkcgpinhaaGreatDoor
namespace Go.Proofs.YthadcgkcgpinhaaGreatDoor
open Go Go.RowKit
set_option linter.unusedVariables false
set_option maxRecDepth 20000

theorem refPut_fnB (v k : Int) (hv0 : 0 ≤ v) (hv : v < 18446744073709551616) (hk0 : 0 ≤ k) (hk : k ≤ 8) : FnB Tryz.prog 49 [.v (.int .u64 v), .v (.int .i64 k)] (fun B => fresh B 5 ((be k.toNat v.toNat).map byteV) k.toNat) := by
 obtain ⟨V, rfl⟩ := Int.eq_ofNat_of_zero_le hv0
 obtain ⟨K, rfl⟩ := Int.eq_ofNat_of_zero_le hk0
 simp only [Int.toNat_natCast]
 refine FnB.of Tryz.func49 rfl (by kernel_rfl) Tryz.ntmps49 (by simp) (fun w => [(0, .v (.int .u64 (V : Int))), (1, .v (.int .i64 (K : Int)))]) (fun w => (Start.v rfl (Start.v rfl Start.nil))) fun w₀ => ?_
 refine GS ?_
 refine TL ?_
 refine RA rfl ?_
 refine RN ?_
 refine GS ?_
 refine TL ?_
 refine RM rfl ?_
 refine RS (ok_make K Tryz.underlying49 info5 (by decide) rfl rfl rfl rfl rfl (by omega)) ?_
 refine RA rfl ?_
 refine RN ?_
 refine A.open (t := 5) (k := 1000000) rfl fun b hb => ?_
 refine A.seq ?_
 refine GS ?_
 refine TL ?_
 refine RM rfl ?_
 refine RBS rfl rfl rfl (.int .i64 ((K : Int) - 1 - ((0 : Nat) : Int))) (by rw [wrap_i64 (by omega) (by omega)]; congr 1; omega) ?_
 refine RA rfl ?_
 refine RN ?_
 refine A.block ?_
 refine A.loop (ι := Nat) (fun j => j ≤ K) (fun j => [(0, .v (nQ (V / 256 ^ j))), (5, .v (.slice (some ⟨b, 0, none⟩) K K)), (6, .v (.int .i64 ((K : Int) - 1 - (j : Int)))), (1000000, blk b 5 (List.replicate ((be K V).length - j) (.int .u8 0) ++ ((be K V).drop ((be K V).length - j)).map byteV))]) (fun j => K - j) 0 ?_ ?_ ?_
 ·exact Nat.zero_le _
 ·exact (KE 0 rfl (by simp) (KE 5 rfl (by simp) (KC 6 rfl (KE 1000000 rfl (by rw [Nat.sub_zero, List.drop_length]; simp [be_length]) KN))))
 intro j hj
 refine A.seq ?_
 refine GS ?_
 refine TL ?_
 refine RM rfl ?_
 refine RB rfl rfl rfl ?_
 refine RN ?_
 refine A.cond rfl (fun hc12 => ?_) (fun hc12 => ?_)
 ·have hlt : j < K := by simp at hc12; omega
  refine A.skip ?_
  refine EN ?_
  refine A.seq ?_
  refine A.block ?_
  refine GS ?_
  refine TF 6 ?_
  refine RM rfl ?_
  refine RM rfl ?_
  refine RM rfl ?_
  refine RS (ok_rem rfl rfl (by decide)) ?_; refine RZ (nQ (V / 256 ^ j % 256)) (by rw [tmod_lit _ (by decide)]; rfl) ?_
  refine RS (ok_conv Tryz.underlying28 Tryz.underlying5 rfl) ?_; refine RZ (byteV (UInt8.ofNat (V / 256 ^ j))) (by rw [wrap_u8_nat, ofNat_mod]; rfl) ?_
  refine RS (ok_indexV (K - 1 - j) Tryz.underlying49 info5 rfl rfl (by omega) (by omega)) ?_
  refine RN ?_
  refine ⟨_, eff_store (n := 24) (s := 1000000) info5 rfl rfl rfl hb rfl (by simp [be_length]; omega) (Left.cons (t := 0) rfl (Stays.v _ _) (Left.cons (t := 5) rfl (Stays.v _ _) (Left.cons (t := 6) rfl (Stays.v _ _) Left.nil))), ?_⟩
  refine TL ?_
  refine RN ?_
  refine GE ?_
  refine TL ?_
  refine RM rfl ?_
  refine RS (ok_div rfl rfl (by decide)) ?_; refine RZ (nQ (V / 256 ^ (j + 1))) (by rw [tdiv_lit _ (by decide), show Int.toNat 256 = 256 from rfl, wrapN_u64 (Nat.lt_of_le_of_lt (Nat.le_trans (Nat.div_le_self _ _) (Nat.div_le_self _ _)) (by omega)), Nat.pow_succ, ← Nat.div_div_eq_div_mul]) ?_
  refine RA rfl ?_
  refine RN ?_
  refine End.normal_block ?_
  refine EN ?_
  refine GE ?_
  refine TL ?_
  refine RM rfl ?_
  refine RBS rfl rfl rfl (.int .i64 ((K : Int) - 1 - ((j + 1 : Nat) : Int))) (by rw [wrap_i64 (by omega) (by omega)]; congr 1; omega) ?_
  refine RA rfl ?_
  refine RN ?_
  refine End.normal_then ?_
  refine End.again (j + 1) ?_ ?_ ?_
  ·show _ ≤ _; omega
  ·show _ - _ < _ - _; omega
  ·exact (KC 0 rfl (KC 5 rfl (KC 6 rfl (KE 1000000 rfl (by rw [Nat.zero_add]; have h := fill_back (l := be K V) (f := byteV) (z := .int .u8 0) (c := UInt8.ofNat (V / 256 ^ j)) (j := j) (by rw [be_length]; exact hlt) (by rw [be_length, be_get (by omega)]; congr 3; congr 1; omega); rw [be_length] at h ⊢; exact congrArg _ h) KN))))
 ·refine A.exit ?_
  refine End.exit_then ?_
  refine End.exit_then ?_
  refine End.exit_here ?_
  refine EN ?_
  refine GS ?_
  refine TL ?_
  refine RM rfl ?_
  refine RA rfl ?_
  refine RN ?_
  refine A.ret ?_
  have hK : j = K := by simp at hc12; omega
  subst hK
  exact End.fresh rfl hb rfl (by rw [List.length_map, be_length]) (k := 1000000) rfl (by simp only [be_length, Nat.sub_self, List.replicate_zero, List.nil_append, List.drop_zero])
theorem refPut_fn (v k : Int) (hv0 : 0 ≤ v) (hv : v < 18446744073709551616) (hk0 : 0 ≤ k) (hk : k ≤ 8) : Fn Tryz.prog 49 [.v (.int .u64 v), .v (.int .i64 k)] (bytes (be k.toNat v.toNat) k.toNat) :=
 (refPut_fnB v k hv0 hv hk0 hk).fn fun _ => fresh_bytes (be_length _ _).symm (by simp only [maxLen]; omega)
theorem refPut32_fnB (v : Int) (hv0 : 0 ≤ v) (hv : v < 4294967296) : FnB Tryz.prog 30 [.v (.int .u32 v)] (fun B => fresh B 5 ((be 4 v.toNat).map byteV) 4) := by
 refine FnB.of Tryz.func30 rfl (by kernel_rfl) Tryz.ntmps30 (by simp) (fun w => [(0, .v (.int .u32 v))]) (fun w => (Start.v rfl Start.nil)) fun w₀ => ?_
 refine GS ?_
 refine TL ?_
 refine RA rfl ?_
 refine RN ?_
 refine GS ?_
 refine TL ?_
 refine RM rfl ?_
 refine RS (ok_conv Tryz.underlying27 Tryz.underlying28 rfl) ?_; refine RZ (.int .u64 v) (by rw [wrap_u64 hv0 (by omega)]) ?_
 refine RS (ok_callB (refPut_fnB v 4 hv0 (by omega) (by omega) (by omega)) (fun _ _ => fresh_mono _ _) (A2 rfl rfl)) ?_
 refine RA rfl ?_
 refine RN ?_
 refine A.ret ?_
 exact End.ret1 rfl rfl (by first | exact Le.refl _ | exact Le.old _ _)
theorem refPut64_fn (v : Int) (hv0 : 0 ≤ v) (hv : v < 18446744073709551616) : Fn Tryz.prog 50 [.v (.int .u64 v)] (bytes (be 8 v.toNat) 8) := by
 refine Fn.of Tryz.func50 rfl (by kernel_rfl) Tryz.ntmps50 (by simp) (fun w => [(0, .v (.int .u64 v))]) (fun w => (Start.v rfl Start.nil)) fun w₀ => ?_
 refine GS ?_
 refine TL ?_
 refine RA rfl ?_
 refine RN ?_
 refine GS ?_
 refine TL ?_
 refine RM rfl ?_
 refine RS (ok_call (refPut_fn v 8 hv0 hv (by omega) (by omega)) (Args.cons rfl LA (Args.cons rfl LA Args.nil))) ?_
 refine RA rfl ?_
 refine RN ?_
 refine A.ret ?_
 exact End.ret1 rfl rfl (by first | exact Le.refl _ | exact Le.old _ _)
theorem refPut32_fn (v : Int) (hv0 : 0 ≤ v) (hv : v < 4294967296) : Fn Tryz.prog 30 [.v (.int .u32 v)] (bytes (be 4 v.toNat) 4) := by
 refine Fn.of Tryz.func30 rfl (by kernel_rfl) Tryz.ntmps30 (by simp) (fun w => [(0, .v (.int .u32 v))]) (fun w => (Start.v rfl Start.nil)) fun w₀ => ?_
 refine GS ?_
 refine TL ?_
 refine RA rfl ?_
 refine RN ?_
 refine GS ?_
 refine TL ?_
 refine RM rfl ?_
 refine RS (ok_conv Tryz.underlying27 Tryz.underlying28 rfl) ?_; refine RZ (.int .u64 v) (by rw [wrap_u64 hv0 (by omega)]) ?_
 refine RS (ok_call (refPut_fn v 4 hv0 (by omega) (by omega) (by omega)) (Args.cons rfl LA (Args.cons rfl LA Args.nil))) ?_
 refine RA rfl ?_
 refine RN ?_
 refine A.ret ?_
 exact End.ret1 rfl rfl (by first | exact Le.refl _ | exact Le.old _ _)
theorem refGet_fn (l : List UInt8) (k : Int) (hk0 : 0 ≤ k) (hk : k ≤ 8) : Fn Tryz.prog 91 [byt l, .v (.int .i64 k)] (tup [.v (.int .u64 (getV l k.toNat)), .v (.int .i64 (chk l.length k))]) := by
 refine Fn.of Tryz.func91 rfl (by kernel_rfl) Tryz.ntmps91 (by simp) (fun w => [(0, old w.heap.size (byt l)), (1, .v (.int .i64 k))]) (fun w => (Start.old rfl (Start.v rfl Start.nil))) fun w₀ => ?_
 refine GS ?_
 refine TL ?_
 refine RA rfl ?_
 refine RA rfl ?_
 refine RN ?_
 refine A.seq ?_
 refine GS ?_
 refine TL ?_
 refine RM rfl ?_
 refine RS (ok_lenB Tryz.underlying49 rfl LA) ?_
 refine RM rfl ?_
 refine RB rfl rfl rfl ?_
 refine RN ?_
 refine A.cond rfl (fun hc11 => ?_) (fun hc11 => ?_)
 ·refine GS ?_
  refine TL ?_
  refine RA rfl ?_
  refine RA rfl ?_
  refine RN ?_
  refine A.ret ?_
  refine End.ret_then ?_
  first | exact End.ret2 rfl rfl (Le.v (by simp at hc11; rw [getV, if_neg (by omega)])) rfl (Le.v (by simp at hc11; rw [chk, if_pos hc11])) | exact End.ret2 rfl rfl (Le.v (by simp at hc15; rw [getV, if_neg (by omega)])) rfl (Le.v (by simp at hc11 hc15; rw [chk, if_neg (by omega), if_pos hc15])) | exact End.ret2 rfl rfl (Le.v (by simp at hc18; rw [getV, if_pos (by omega), List.take_of_length_le (by omega)])) rfl (Le.v (by rw [chk, if_neg (by omega), if_neg (by omega)]))
 ·refine A.skip ?_
  refine EN ?_
  refine A.seq ?_
  refine GS ?_
  refine TL ?_
  refine RM rfl ?_
  refine RS (ok_lenB Tryz.underlying49 rfl LA) ?_
  refine RM rfl ?_
  refine RB rfl rfl rfl ?_
  refine RN ?_
  refine A.cond rfl (fun hc15 => ?_) (fun hc15 => ?_)
  ·refine GS ?_
   refine TL ?_
   refine RA rfl ?_
   refine RA rfl ?_
   refine RN ?_
   refine A.ret ?_
   refine End.ret_then ?_
   first | exact End.ret2 rfl rfl (Le.v (by simp at hc11; rw [getV, if_neg (by omega)])) rfl (Le.v (by simp at hc11; rw [chk, if_pos hc11])) | exact End.ret2 rfl rfl (Le.v (by simp at hc15; rw [getV, if_neg (by omega)])) rfl (Le.v (by simp at hc11 hc15; rw [chk, if_neg (by omega), if_pos hc15])) | exact End.ret2 rfl rfl (Le.v (by simp at hc18; rw [getV, if_pos (by omega), List.take_of_length_le (by omega)])) rfl (Le.v (by rw [chk, if_neg (by omega), if_neg (by omega)]))
  ·refine A.skip ?_
   refine EN ?_
   refine GS ?_
   refine TL ?_
   refine RA rfl ?_
   refine RN ?_
   refine A.seq ?_
   refine GS ?_
   refine TL ?_
   refine RA rfl ?_
   refine RN ?_
   refine A.block ?_
   refine A.loop (ι := Nat) (fun i => (i : Int) ≤ k) (fun i => [(0, old w₀.heap.size (byt l)), (1, .v (.int .i64 k)), (6, .v (nQ (num (l.take i)))), (7, .v (.int .i64 (i : Int)))]) (fun i => l.length - i) 0 ?_ ?_ ?_
   ·exact hk0
   ·exact (KC 0 rfl (KC 1 rfl (KC 6 rfl (KC 7 rfl KN))))
   intro i hi
   refine A.seq ?_
   refine GS ?_
   refine TL ?_
   refine RM rfl ?_
   refine RM rfl ?_
   refine RB rfl rfl rfl ?_
   refine RN ?_
   refine A.cond rfl (fun hc18 => ?_) (fun hc18 => ?_)
   ·have hlt : i < l.length := by simp at hc11 hc15 hc18; omega
    have heq : (l.length : Int) = k := by simp at hc11 hc15; omega
    have hnum : num (l.take i) < 256 ^ 7 := Nat.lt_of_lt_of_le (num_lt _) (Nat.pow_le_pow_right (by decide) (by rw [List.length_take]; omega))
    have hcn := l[i].toNat_lt
    refine A.skip ?_
    refine EN ?_
    refine A.seq ?_
    refine A.block ?_
    refine GE ?_
    refine TL ?_
    refine RM rfl ?_
    refine RBS rfl rfl rfl (nQ (num (l.take i) * 256)) (by rw [wrap_u64 (by omega) (by omega)]; congr 1) ?_
    refine RM rfl ?_
    refine RM rfl ?_
    refine RS (ok_index (d := byteD l[i]) Tryz.underlying49 info5 rfl LA rfl (by omega) (by simp [hlt])) ?_
    refine RS (ok_load Tryz.underlying5 rfl rfl) ?_
    refine RS (ok_conv Tryz.underlying5 Tryz.underlying28 rfl) ?_; refine RZ (.int .u64 (l[i].toNat : Int)) (by rw [wrap_u64 (by omega) (by omega)]) ?_
    refine RBS rfl rfl rfl (nQ (num (l.take (i + 1)))) (by rw [wrap_u64 (by omega) (by omega), List.take_add_one, List.getElem?_eq_getElem hlt, Option.toList_some, num_snoc]; congr 1) ?_
    refine RA rfl ?_
    refine RN ?_
    refine End.normal_block ?_
    refine EN ?_
    refine GE ?_
    refine TL ?_
    refine RM rfl ?_
    refine RBS rfl rfl rfl (nI (i + 1)) (by rw [wrap_i64 (by omega) (by omega)]; congr 1) ?_
    refine RA rfl ?_
    refine RN ?_
    refine End.normal_then ?_
    refine End.again (i + 1) ?_ ?_ ?_
    ·show ((i + 1 : Nat) : Int) ≤ k; omega
    ·show _ - _ < _ - _; omega
    ·exact (KC 0 rfl (KC 1 rfl (KC 6 rfl (KC 7 rfl KN))))
   ·have heq : (l.length : Int) = k := by simp at hc11 hc15; omega
    refine A.exit ?_
    refine End.exit_then ?_
    refine End.exit_then ?_
    refine End.exit_here ?_
    refine EN ?_
    refine GS ?_
    refine TL ?_
    refine RM rfl ?_
    refine RA rfl ?_
    refine RA rfl ?_
    refine RN ?_
    refine A.ret ?_
    first | exact End.ret2 rfl rfl (Le.v (by simp at hc11; rw [getV, if_neg (by omega)])) rfl (Le.v (by simp at hc11; rw [chk, if_pos hc11])) | exact End.ret2 rfl rfl (Le.v (by simp at hc15; rw [getV, if_neg (by omega)])) rfl (Le.v (by simp at hc11 hc15; rw [chk, if_neg (by omega), if_pos hc15])) | exact End.ret2 rfl rfl (Le.v (by simp at hc18; rw [getV, if_pos (by omega), List.take_of_length_le (by omega)])) rfl (Le.v (by rw [chk, if_neg (by omega), if_neg (by omega)]))
end Go.Proofs.YthadcgkcgpinhaaGreatDoor
namespace Go.Proofs.YthadcgkcgpinhaaGreatDoor
open Go Go.RowKit
set_option linter.unusedVariables false
set_option maxRecDepth 20000

theorem info27 : InfoIs Tryz.prog 27 (.int .u32 0) 4 := by unfold InfoIs; kernel_rfl
theorem zero118 : ZeroIs Tryz.prog 118 (List.replicate 64 (.int .u32 0)) := by unfold ZeroIs; kernel_rfl
theorem size118 : SizeIs Tryz.prog 118 64 := by unfold SizeIs; kernel_rfl
theorem zero105 : ZeroIs Tryz.prog 105 (List.replicate 8 (.int .u32 0)) := by unfold ZeroIs; kernel_rfl
theorem size105 : SizeIs Tryz.prog 105 8 := by unfold SizeIs; kernel_rfl
theorem K64_lit : K64.length = 64 := by decide
theorem refrotr_fn (x : UInt32) (n : Nat) (hn0 : 0 < n) (hn : n < 32) : Fn Tryz.prog 92 [.v (u32V x), .v (.int .i64 (n : Int))] (.v (u32V (rotr32 x n))) := by
 have hx := u32_lt x
 refine Fn.of Tryz.func92 rfl (by kernel_rfl) Tryz.ntmps92 (by simp) (fun w => [(0, .v (u32V x)), (1, .v (.int .i64 (n : Int)))]) (fun w => (Start.v rfl (Start.v rfl Start.nil))) fun w₀ => ?_
 refine GS ?_
 refine TL ?_
 refine RA rfl ?_
 refine RN ?_
 refine GD ?_
 refine TL ?_
 refine RM rfl ?_
 refine RM rfl ?_
 refine RS (ok_shr rfl rfl (Int.natCast_nonneg n)) ?_; refine RZ (.int .u32 ((x.toNat / 2 ^ n : Nat) : Int)) (by rw [Int.toNat_natCast, show min n IntKind.u32.bits = n from Nat.min_eq_left (by show n ≤ 32; omega), shr_nat]) ?_
 refine RM rfl ?_
 refine RM rfl ?_
 refine RBS rfl rfl rfl (.int .i64 ((32 - n : Nat) : Int)) (by rw [wrap_i64 (by omega) (by omega)]; congr 1; omega) ?_
 refine RS (ok_shl rfl rfl (Int.natCast_nonneg _)) ?_; refine RZ (.int .u32 ((x.toNat * 2 ^ (32 - n) % 4294967296 : Nat) : Int)) (by rw [Int.toNat_natCast, show min (32 - n) IntKind.u32.bits = 32 - n from Nat.min_eq_left (by show 32 - n ≤ 32; omega), ← wrap_u32_nat]; simp) ?_
 refine RBS rfl rfl rfl (u32V (rotr32 x n)) (by
  show Value.int .u32 (IntKind.u32.wrap ((BitVec.ofInt 32 _ ||| BitVec.ofInt 32 _).toNat : Int)) = _
  rw [or_u32_nat (Nat.lt_of_le_of_lt (Nat.div_le_self _ _) hx) (Nat.mod_lt _ (by decide)), rotr32_val, ← rotB_go hx (by omega), Nat.or_comm, show 32 - (32 - n) = n from by omega]) ?_
 refine RA rfl ?_
 refine RN ?_
 refine A.ret ?_
 exact End.ret1 rfl rfl (by first | exact Le.refl _ | exact Le.old _ _)
set_option maxHeartbeats 1000000 in
theorem refConstants_fn  : Fn Tryz.prog 73 [] (tup [.v (aggV (K64.map u32V)), .v (aggV (H8.list.map u32V))]) := by
 refine Fn.of Tryz.func73 rfl (by kernel_rfl) Tryz.ntmps73 (by simp) (fun w => []) (fun w => Start.nil) fun w₀ => ?_
 refine GS ?_
 refine TN 0 ?_
 refine RN ?_
 refine ⟨_, _, eff_alloc (n := 4) (d := 0) (k := 1000000) zero118 (by decide), fun b0 hb0 => ?_⟩
 have hBb0 := hb0.1
 refine TN 1 ?_
 refine RN ?_
 refine ⟨_, _, eff_alloc (n := 4) (d := 1) (k := 1000001) zero105 (by decide), fun b1 hb1 => ?_⟩
 have hBb1 := hb1.1
 refine TL ?_
 refine RN ?_
 refine GS ?_
 refine TF 2 ?_
 refine RS (ok_litA [_, _, _, _, _, _, _, _, _, _, _, _, _, _, _, _, _, _, _, _, _, _, _, _, _, _, _, _, _, _, _, _, _, _, _, _, _, _, _, _, _, _, _, _, _, _, _, _, _, _, _, _, _, _, _, _, _, _, _, _, _, _, _, _] Tryz.underlying118 info27 zero118 rfl ⟨rfl, rfl, rfl, rfl, rfl, rfl, rfl, rfl, rfl, rfl, rfl, rfl, rfl, rfl, rfl, rfl, rfl, rfl, rfl, rfl, rfl, rfl, rfl, rfl, rfl, rfl, rfl, rfl, rfl, rfl, rfl, rfl, rfl, rfl, rfl, rfl, rfl, rfl, rfl, rfl, rfl, rfl, rfl, rfl, rfl, rfl, rfl, rfl, rfl, rfl, rfl, rfl, rfl, rfl, rfl, rfl, rfl, rfl, rfl, rfl, rfl, rfl, rfl, rfl, rfl, rfl, rfl, rfl, rfl, rfl, rfl, rfl, rfl, rfl, rfl, rfl, rfl, rfl, rfl, rfl, rfl, rfl, rfl, rfl, rfl, rfl, rfl, rfl, rfl, rfl, rfl, rfl, rfl, rfl, rfl, rfl, rfl, rfl, rfl, rfl, rfl, rfl, rfl, rfl, rfl, rfl, rfl, rfl, rfl, rfl, rfl, rfl, rfl, rfl, rfl, rfl, rfl, rfl, rfl, rfl, rfl, rfl, rfl, rfl, rfl, rfl, rfl, rfl, trivial⟩ rfl) ?_; refine RZ (aggV (K64.map u32V)) (by kernel_rfl) ?_
 refine RS (ok_litA [_, _, _, _, _, _, _, _] Tryz.underlying105 info27 zero105 rfl ⟨rfl, rfl, rfl, rfl, rfl, rfl, rfl, rfl, rfl, rfl, rfl, rfl, rfl, rfl, rfl, rfl, trivial⟩ rfl) ?_; refine RZ (aggV (H8.list.map u32V)) (by kernel_rfl) ?_
 refine RN ?_
 refine ⟨_, eff_storeA (n := 4) (s := 1000000) (size118.of (rfl)) rfl rfl (rfl) hBb0 rfl (rfl) (LV 0 rfl (LV 1 rfl (LV 3 rfl (LT 1000001 rfl LN)))), ?_⟩
 refine TF 3 ?_
 refine RN ?_
 refine ⟨_, eff_storeA (n := 4) (s := 1000001) (size105.of (rfl)) rfl rfl (rfl) hBb1 rfl (rfl) (LV 0 rfl (LV 1 rfl (LT 1000000 rfl LN))), ?_⟩
 refine TL ?_
 refine RN ?_
 refine A.ret ?_
 exact End.cell2 (s := 1000000) (s' := 1000001) rfl Tryz.underlying118 rfl (size118.of (rfl)) rfl rfl (Le.refl _) Tryz.underlying105 rfl (size105.of (rfl)) rfl rfl (Le.refl _)
end Go.Proofs.YthadcgkcgpinhaaGreatDoor
namespace Go.Proofs.YthadcgkcgpinhaaGreatDoor
open Go Go.RowKit
set_option linter.unusedVariables false
set_option maxRecDepth 20000

set_option maxHeartbeats 400000 in
theorem refCompress_fn (h : R8) (l : List UInt8) (hl : l.length = 64) : Fn Tryz.prog 74 [.v (aggV (h.list.map u32V)), byt l] (.v (aggV ((compress h l).list.map u32V))) := by
 refine Fn.of Tryz.func74 rfl (by kernel_rfl) Tryz.ntmps74 (by simp) (fun w => [(0, .v (aggV (h.list.map u32V))), (1, old w.heap.size (byt l))]) (fun w => (Start.v rfl (Start.old rfl Start.nil))) fun w₀ => ?_
 refine GS ?_
 refine TN 0 ?_
 refine RN ?_
 refine ⟨_, _, eff_box (n := 202) (d := 2) (k := 1000002) rfl (by decide), fun b2 hb2 => ?_⟩
 have hBb2 := hb2.1
 refine TN 1 ?_
 refine RN ?_
 refine ⟨_, _, eff_alloc (n := 202) (d := 4) (k := 1000004) zero105 (by decide), fun b4 hb4 => ?_⟩
 have hBb4 := hb4.1
 have hlt_b2_b4 : b2 < b4 := hb4.2 1000002 _ _ _ rfl
 refine TL ?_
 refine RN ?_
 refine GS ?_
 refine TN 4 ?_
 refine RS (ok_call refConstants_fn Args.nil) ?_
 refine RM rfl ?_
 refine RS (ok_extract rfl rfl) ?_
 refine RS (ok_extract rfl rfl) ?_
 refine RN ?_
 refine ⟨_, _, eff_alloc (n := 202) (d := 5) (k := 1000005) zero118 (by decide), fun b5 hb5 => ?_⟩
 have hBb5 := hb5.1
 refine TN 5 ?_
 refine RN ?_
 refine ⟨_, _, eff_alloc (n := 202) (d := 6) (k := 1000006) zero105 (by decide), fun b6 hb6 => ?_⟩
 have hBb6 := hb6.1
 have hlt_b2_b6 : b2 < b6 := hb6.2 1000002 _ _ _ rfl
 have hlt_b4_b6 : b4 < b6 := hb6.2 1000004 _ _ _ rfl
 refine TF 6 ?_
 refine RN ?_
 refine ⟨_, eff_storeA (n := 202) (s := 1000005) (size118.of (rfl)) rfl rfl (rfl) hBb5 rfl (rfl) (LO 1 rfl (LV 2 rfl (LV 4 rfl (LV 5 rfl (LV 6 rfl (LV 29 rfl (LT 1000002 rfl (LT 1000004 rfl (LT 1000006 rfl LN))))))))), ?_⟩
 refine TF 7 ?_
 refine RN ?_
 refine ⟨_, eff_storeA (n := 202) (s := 1000006) (size105.of (rfl)) rfl rfl (rfl) hBb6 rfl (rfl) (LO 1 rfl (LV 2 rfl (LV 4 rfl (LV 5 rfl (LB 1000002 rfl (LB 1000004 rfl (LT 1000005 rfl LN))))))), ?_⟩
 refine TL ?_
 refine RN ?_
 refine GS ?_
 refine TN 0 ?_
 refine RN ?_
 refine ⟨_, _, eff_alloc (n := 202) (d := 7) (k := 1000007) zero118 (by decide), fun b7 hb7 => ?_⟩
 have hBb7 := hb7.1
 have hlt_b5_b7 : b5 < b7 := hb7.2 1000005 _ _ _ rfl
 refine TL ?_
 refine RN ?_
 refine A.seq ?_
 refine GS ?_
 refine TL ?_
 refine RA rfl ?_
 refine RN ?_
 refine A.block ?_
 refine A.loop (ι := Nat) (fun j => j ≤ 64) (fun j => [(1, old w₀.heap.size (byt l)), (2, .v (.pointer (some ⟨b2, 0, none⟩))), (4, .v (.pointer (some ⟨b4, 0, none⟩))), (5, .v (.pointer (some ⟨b5, 0, none⟩))), (7, .v (.pointer (some ⟨b7, 0, none⟩))), (8, .v (.int .i64 ((j : Nat) : Int))), (1000002, blk b2 105 (h.list.map u32V)), (1000004, blk b4 105 (List.replicate 8 (.int .u32 0))), (1000005, blk b5 118 (K64.map u32V)), (1000007, blk b7 118 (table (sched l j) 64))]) (fun j => 64 - j) 0 ?_ ?_ ?_
 ·exact Nat.zero_le _
 ·exact (KC 1 rfl (KC 2 rfl (KC 4 rfl (KC 5 rfl (KC 7 rfl (KC 8 rfl (KC 1000002 rfl (KC 1000004 rfl (KC 1000005 rfl (KE 1000007 rfl (rfl) KN))))))))))
 intro j hj
 refine A.seq ?_
 refine GS ?_
 refine TL ?_
 refine RM rfl ?_
 refine RB rfl rfl rfl ?_
 refine RN ?_
 refine A.cond rfl (fun hc31 => ?_) (fun hc31 => ?_)
 ·have hlt : j < 64 := by simp at hc31; omega
  refine A.skip ?_
  refine EN ?_
  refine A.seq ?_
  refine A.block ?_
  refine A.seq ?_
  refine GS ?_
  refine TL ?_
  refine RM rfl ?_
  refine RB rfl rfl rfl ?_
  refine RN ?_
  refine A.cond rfl (fun hc35 => ?_) (fun hc35 => ?_)
  ·have hj16 : j < 16 := by simp at hc35; omega
   refine GS ?_
   refine TL ?_
   refine RM rfl ?_
   refine RM rfl ?_
   refine RBS rfl rfl rfl (.int .i64 ((4 * j : Nat) : Int)) (by rw [wrap_i64 (by omega) (by omega)]; first | rfl | (congr 1; omega)) ?_
   refine RM rfl ?_
   refine RBS rfl rfl rfl (.int .i64 ((4 * j : Nat) : Int)) (by rw [wrap_i64 (by omega) (by omega)]; first | rfl | (congr 1; omega)) ?_
   refine RBS rfl rfl rfl (.int .i64 ((4 * j + 4 : Nat) : Int)) (by rw [wrap_i64 (by omega) (by omega)]; first | rfl | (congr 1; omega)) ?_
   refine RS (ok_slice (4 * j) (4 * j + 4) Tryz.underlying49 info5 rfl (Le.old _ _) (.inl ⟨_, _, rfl, rfl⟩) (.inl ⟨_, _, rfl, rfl⟩) (by omega) (by simp; omega)) ?_
   refine RS (ok_call (refGet_fn ((l.drop (4 * j)).take 4) 4 (by decide) (by decide)) (Args.cons rfl ((Le.eq (by simp only [byt, List.map_take, List.map_drop, List.drop_take]; congr 2; omega))) (A1 rfl))) ?_
   refine RM rfl ?_
   refine RS (ok_extract rfl rfl) ?_
   refine RS (ok_extract rfl rfl) ?_
   refine RA rfl ?_
   refine RA rfl ?_
   refine RN ?_
   refine GS ?_
   refine TF 4 ?_
   refine RM rfl ?_
   refine RM rfl ?_
   refine RS (ok_conv Tryz.underlying28 Tryz.underlying27 rfl) ?_; refine RZ (u32V (nextW l (sched l j) j)) (by rw [nextW, if_pos hj16, word, u32V_ofNat, getV, if_pos (by simp; omega), wrap_u32_nat]) ?_
   refine RS (ok_index0 _ Tryz.underlying118 info27 rfl rfl (rfl) (by omega)) ?_
   refine RN ?_
   refine ⟨_, eff_storeS (n := 202) (s := 1000007) info27 rfl rfl rfl hBb7 rfl (by rw [table_length (by rw [sched_length]; omega)]; omega) (LO 1 rfl (LV 2 rfl (LV 4 rfl (LV 5 rfl (LV 7 rfl (LV 8 rfl (LT 1000002 rfl (LT 1000004 rfl (LB 1000005 rfl LN))))))))), ?_⟩
   refine TL ?_
   refine RN ?_
   refine A.exit ?_
   refine End.exit_then ?_
   refine End.exit_here ?_
   refine EN ?_
   refine GE ?_
   refine TL ?_
   refine RM rfl ?_
   refine RBS rfl rfl rfl (.int .i64 ((j + 1 : Nat) : Int)) (by rw [wrap_i64 (by omega) (by omega)]; first | rfl | (congr 1; omega)) ?_
   refine RA rfl ?_
   refine RN ?_
   refine End.sub (KC 1 rfl (KC 2 rfl (KC 4 rfl (KC 5 rfl (KC 7 rfl (KC 8 rfl (KC 1000002 rfl (KC 1000004 rfl (KC 1000005 rfl (KC 1000007 rfl KN)))))))))) ?_
   refine End.normal_then ?_
   refine End.again (j + 1) ?_ ?_ ?_
   ·show _ ≤ _; omega
   ·show _ - _ < _ - _; omega
   ·exact (KC 1 rfl (KC 2 rfl (KC 4 rfl (KC 5 rfl (KC 7 rfl (KC 8 rfl (KC 1000002 rfl (KC 1000004 rfl (KC 1000005 rfl (KE 1000007 rfl (by rw [table_set (sched_length l j) hlt]; rfl) KN))))))))))
  ·have hj16 : ¬ j < 16 := by simp at hc35; omega
   refine A.skip ?_
   refine EN ?_
   refine GD ?_
   refine TL ?_
   refine RM rfl ?_
   refine RBS rfl rfl rfl (.int .i64 ((j - 15 : Nat) : Int)) (by rw [wrap_i64 (by omega) (by omega)]; first | rfl | (congr 1; omega)) ?_
   refine RS (ok_index0 _ Tryz.underlying118 info27 rfl rfl (rfl) (by omega)) ?_
   refine RS (ok_loadV (s := 1000007) (by decide) Tryz.underlying27 rfl rfl rfl (table_get (by rw [sched_length]; omega))) ?_
   refine RM rfl ?_
   refine RBS rfl rfl rfl (.int .i64 ((j - 2 : Nat) : Int)) (by rw [wrap_i64 (by omega) (by omega)]; first | rfl | (congr 1; omega)) ?_
   refine RS (ok_index0 _ Tryz.underlying118 info27 rfl rfl (rfl) (by omega)) ?_
   refine RS (ok_loadV (s := 1000007) (by decide) Tryz.underlying27 rfl rfl rfl (table_get (by rw [sched_length]; omega))) ?_
   refine RA rfl ?_
   refine RA rfl ?_
   refine RN ?_
   refine A.reg (by kernel_rfl) (by kernel_rfl) (.inr (by kernel_rfl)) ?_
   refine TD 29 ?_
   refine RM rfl ?_
   refine RM rfl ?_
   refine RBS rfl rfl rfl (.int .i64 ((j - 16 : Nat) : Int)) (by rw [wrap_i64 (by omega) (by omega)]; first | rfl | (congr 1; omega)) ?_
   refine RS (ok_index0 _ Tryz.underlying118 info27 rfl rfl (rfl) (by omega)) ?_
   refine RS (ok_loadV (s := 1000007) (by decide) Tryz.underlying27 rfl rfl rfl (table_get (by rw [sched_length]; omega))) ?_
   refine RM rfl ?_
   refine RBS rfl rfl rfl (.int .i64 ((j - 7 : Nat) : Int)) (by rw [wrap_i64 (by omega) (by omega)]; first | rfl | (congr 1; omega)) ?_
   refine RS (ok_index0 _ Tryz.underlying118 info27 rfl rfl (rfl) (by omega)) ?_
   refine RS (ok_loadV (s := 1000007) (by decide) Tryz.underlying27 rfl rfl rfl (table_get (by rw [sched_length]; omega))) ?_
   refine RS (ok_add32 rfl rfl) ?_
   refine RM rfl ?_
   refine RS (ok_call (refrotr_fn _ 7 (by decide) (by decide)) (A2 rfl rfl)) ?_
   refine RM rfl ?_
   refine RS (ok_call (refrotr_fn _ 18 (by decide) (by decide)) (A2 rfl rfl)) ?_
   refine RS (ok_xor32 rfl rfl) ?_
   refine RM rfl ?_
   refine RS (ok_shr32 3 rfl rfl rfl (by decide)) ?_
   refine RS (ok_xor32 rfl rfl) ?_
   refine RS (ok_add32 rfl rfl) ?_
   refine RM rfl ?_
   refine RS (ok_call (refrotr_fn _ 17 (by decide) (by decide)) (A2 rfl rfl)) ?_
   refine RM rfl ?_
   refine RS (ok_call (refrotr_fn _ 19 (by decide) (by decide)) (A2 rfl rfl)) ?_
   refine RS (ok_xor32 rfl rfl) ?_
   refine RM rfl ?_
   refine RS (ok_shr32 10 rfl rfl rfl (by decide)) ?_
   refine RS (ok_xor32 rfl rfl) ?_
   refine RS (ok_add32 rfl rfl) ?_; refine RZ (u32V (nextW l (sched l j) j)) (by rw [nextW, if_neg hj16]; rfl) ?_
   refine RS (ok_index0 _ Tryz.underlying118 info27 rfl rfl (rfl) (by omega)) ?_
   refine RN ?_
   refine ⟨_, eff_storeS (n := 202) (s := 1000007) info27 rfl rfl rfl hBb7 rfl (by rw [table_length (by rw [sched_length]; omega)]; omega) (LO 1 rfl (LV 2 rfl (LV 4 rfl (LV 5 rfl (LV 7 rfl (LV 8 rfl (LT 1000002 rfl (LT 1000004 rfl (LB 1000005 rfl LN))))))))), ?_⟩
   refine TL ?_
   refine RN ?_
   refine End.sub (KC 1 rfl (KC 2 rfl (KC 4 rfl (KC 5 rfl (KC 7 rfl (KC 8 rfl (KC 1000002 rfl (KC 1000004 rfl (KC 1000005 rfl (KC 1000007 rfl KN)))))))))) ?_
   refine End.normal_block ?_
   refine EN ?_
   refine GE ?_
   refine TL ?_
   refine RM rfl ?_
   refine RBS rfl rfl rfl (.int .i64 ((j + 1 : Nat) : Int)) (by rw [wrap_i64 (by omega) (by omega)]; first | rfl | (congr 1; omega)) ?_
   refine RA rfl ?_
   refine RN ?_
   refine End.normal_then ?_
   refine End.again (j + 1) ?_ ?_ ?_
   ·show _ ≤ _; omega
   ·show _ - _ < _ - _; omega
   ·exact (KC 1 rfl (KC 2 rfl (KC 4 rfl (KC 5 rfl (KC 7 rfl (KC 8 rfl (KC 1000002 rfl (KC 1000004 rfl (KC 1000005 rfl (KE 1000007 rfl (by rw [table_set (sched_length l j) hlt]; rfl) KN))))))))))
 ·obtain rfl : j = 64 := by simp at hc31; omega
  refine A.exit ?_
  refine End.exit_then ?_
  refine End.exit_then ?_
  refine End.exit_here ?_
  refine EN ?_
  refine GD ?_
  refine TL ?_
  refine RS (ok_index0 (0) Tryz.underlying105 info27 rfl rfl (rfl) (by decide)) ?_
  refine RS (ok_loadV (s := 1000002) (by decide) Tryz.underlying27 rfl rfl rfl (rfl)) ?_
  refine RS (ok_index0 (1) Tryz.underlying105 info27 rfl rfl (rfl) (by decide)) ?_
  refine RS (ok_loadV (s := 1000002) (by decide) Tryz.underlying27 rfl rfl rfl (rfl)) ?_
  refine RS (ok_index0 (2) Tryz.underlying105 info27 rfl rfl (rfl) (by decide)) ?_
  refine RS (ok_loadV (s := 1000002) (by decide) Tryz.underlying27 rfl rfl rfl (rfl)) ?_
  refine RS (ok_index0 (3) Tryz.underlying105 info27 rfl rfl (rfl) (by decide)) ?_
  refine RS (ok_loadV (s := 1000002) (by decide) Tryz.underlying27 rfl rfl rfl (rfl)) ?_
  refine RS (ok_index0 (4) Tryz.underlying105 info27 rfl rfl (rfl) (by decide)) ?_
  refine RS (ok_loadV (s := 1000002) (by decide) Tryz.underlying27 rfl rfl rfl (rfl)) ?_
  refine RS (ok_index0 (5) Tryz.underlying105 info27 rfl rfl (rfl) (by decide)) ?_
  refine RS (ok_loadV (s := 1000002) (by decide) Tryz.underlying27 rfl rfl rfl (rfl)) ?_
  refine RS (ok_index0 (6) Tryz.underlying105 info27 rfl rfl (rfl) (by decide)) ?_
  refine RS (ok_loadV (s := 1000002) (by decide) Tryz.underlying27 rfl rfl rfl (rfl)) ?_
  refine RS (ok_index0 (7) Tryz.underlying105 info27 rfl rfl (rfl) (by decide)) ?_
  refine RS (ok_loadV (s := 1000002) (by decide) Tryz.underlying27 rfl rfl rfl (rfl)) ?_
  refine RA rfl ?_
  refine RA rfl ?_
  refine RA rfl ?_
  refine RA rfl ?_
  refine RA rfl ?_
  refine RA rfl ?_
  refine RA rfl ?_
  refine RA rfl ?_
  refine RN ?_
  refine A.sub (KC 2 rfl (KC 4 rfl (KC 5 rfl (KC 7 rfl (KC 13 rfl (KC 14 rfl (KC 15 rfl (KC 16 rfl (KC 17 rfl (KC 18 rfl (KC 19 rfl (KC 20 rfl (KC 1000002 rfl (KC 1000004 rfl (KC 1000005 rfl (KC 1000007 rfl KN)))))))))))))))) ?_
  refine A.seq ?_
  refine GS ?_
  refine TL ?_
  refine RA rfl ?_
  refine RN ?_
  refine A.block ?_
  refine A.loop (ι := Nat) (fun i => i ≤ 64) (fun i => [(2, .v (.pointer (some ⟨b2, 0, none⟩))), (4, .v (.pointer (some ⟨b4, 0, none⟩))), (5, .v (.pointer (some ⟨b5, 0, none⟩))), (7, .v (.pointer (some ⟨b7, 0, none⟩))), (13, .v (u32V (rounds h K64 (sched l 64) i).a)), (14, .v (u32V (rounds h K64 (sched l 64) i).b)), (15, .v (u32V (rounds h K64 (sched l 64) i).c)), (16, .v (u32V (rounds h K64 (sched l 64) i).d)), (17, .v (u32V (rounds h K64 (sched l 64) i).e)), (18, .v (u32V (rounds h K64 (sched l 64) i).f)), (19, .v (u32V (rounds h K64 (sched l 64) i).g)), (20, .v (u32V (rounds h K64 (sched l 64) i).h)), (21, .v (.int .i64 ((i : Nat) : Int))), (1000002, blk b2 105 (h.list.map u32V)), (1000004, blk b4 105 (List.replicate 8 (.int .u32 0))), (1000005, blk b5 118 (K64.map u32V)), (1000007, blk b7 118 (table (sched l 64) 64))]) (fun i => 64 - i) 0 ?_ ?_ ?_
  ·exact Nat.zero_le _
  ·exact (KC 2 rfl (KC 4 rfl (KC 5 rfl (KC 7 rfl (KC 13 rfl (KC 14 rfl (KC 15 rfl (KC 16 rfl (KC 17 rfl (KC 18 rfl (KC 19 rfl (KC 20 rfl (KC 21 rfl (KC 1000002 rfl (KC 1000004 rfl (KC 1000005 rfl (KC 1000007 rfl KN)))))))))))))))))
  intro i hi
  refine A.seq ?_
  refine GS ?_
  refine TL ?_
  refine RM rfl ?_
  refine RB rfl rfl rfl ?_
  refine RN ?_
  refine A.cond rfl (fun hc105 => ?_) (fun hc105 => ?_)
  ·have hlt : i < 64 := by simp at hc105; omega
   refine A.skip ?_
   refine EN ?_
   refine A.seq ?_
   refine A.block ?_
   refine GS ?_
   refine TL ?_
   refine RM rfl ?_
   refine RM rfl ?_
   refine RS (ok_and32 rfl rfl) ?_
   refine RM rfl ?_
   refine RS (ok_not32 rfl) ?_
   refine RM rfl ?_
   refine RS (ok_and32 rfl rfl) ?_
   refine RS (ok_or32 rfl rfl) ?_; refine RZ (u32V (choice (rounds h K64 (sched l 64) i).e (rounds h K64 (sched l 64) i).f (rounds h K64 (sched l 64) i).g)) (by rw [choice_or]) ?_
   refine RA rfl ?_
   refine RN ?_
   refine GS ?_
   refine TL ?_
   refine RM rfl ?_
   refine RM rfl ?_
   refine RS (ok_and32 rfl rfl) ?_
   refine RM rfl ?_
   refine RM rfl ?_
   refine RS (ok_and32 rfl rfl) ?_
   refine RS (ok_or32 rfl rfl) ?_
   refine RM rfl ?_
   refine RM rfl ?_
   refine RS (ok_and32 rfl rfl) ?_
   refine RS (ok_or32 rfl rfl) ?_; refine RZ (u32V (most (rounds h K64 (sched l 64) i).a (rounds h K64 (sched l 64) i).b (rounds h K64 (sched l 64) i).c)) (by rw [most_or]) ?_
   refine RA rfl ?_
   refine RN ?_
   refine GD ?_
   refine TL ?_
   refine RM rfl ?_
   refine RM rfl ?_
   refine RS (ok_call (refrotr_fn _ 6 (by decide) (by decide)) (A2 rfl rfl)) ?_
   refine RM rfl ?_
   refine RS (ok_call (refrotr_fn _ 11 (by decide) (by decide)) (A2 rfl rfl)) ?_
   refine RS (ok_xor32 rfl rfl) ?_
   refine RM rfl ?_
   refine RS (ok_call (refrotr_fn _ 25 (by decide) (by decide)) (A2 rfl rfl)) ?_
   refine RS (ok_xor32 rfl rfl) ?_
   refine RS (ok_add32 rfl rfl) ?_
   refine RM rfl ?_
   refine RS (ok_add32 rfl rfl) ?_
   refine RM rfl ?_
   refine RS (ok_index0 _ Tryz.underlying118 info27 rfl rfl (rfl) (by omega)) ?_
   refine RS (ok_loadV (s := 1000005) (by decide) Tryz.underlying27 rfl rfl rfl (map_get32 (by rw [K64_lit]; omega))) ?_
   refine RS (ok_add32 rfl rfl) ?_
   refine RM rfl ?_
   refine RS (ok_index0 _ Tryz.underlying118 info27 rfl rfl (rfl) (by omega)) ?_
   refine RS (ok_loadV (s := 1000007) (by decide) Tryz.underlying27 rfl rfl rfl (table_get (by rw [sched_length]; omega))) ?_
   refine RS (ok_add32 rfl rfl) ?_
   refine RA rfl ?_
   refine RN ?_
   refine A.sub (KC 2 rfl (KC 4 rfl (KC 5 rfl (KC 7 rfl (KC 13 rfl (KC 14 rfl (KC 15 rfl (KC 16 rfl (KC 17 rfl (KC 18 rfl (KC 19 rfl (KC 21 rfl (KC 23 rfl (KC 24 rfl (KC 1000002 rfl (KC 1000004 rfl (KC 1000005 rfl (KC 1000007 rfl KN)))))))))))))))))) ?_
   refine GS ?_
   refine TL ?_
   refine RM rfl ?_
   refine RS (ok_call (refrotr_fn _ 2 (by decide) (by decide)) (A2 rfl rfl)) ?_
   refine RM rfl ?_
   refine RS (ok_call (refrotr_fn _ 13 (by decide) (by decide)) (A2 rfl rfl)) ?_
   refine RS (ok_xor32 rfl rfl) ?_
   refine RM rfl ?_
   refine RS (ok_call (refrotr_fn _ 22 (by decide) (by decide)) (A2 rfl rfl)) ?_
   refine RS (ok_xor32 rfl rfl) ?_
   refine RM rfl ?_
   refine RS (ok_add32 rfl rfl) ?_
   refine RA rfl ?_
   refine RN ?_
   refine GE ?_
   refine TL ?_
   refine RM rfl ?_
   refine RM rfl ?_
   refine RM rfl ?_
   refine RM rfl ?_
   refine RM rfl ?_
   refine RS (ok_add32 rfl rfl) ?_
   refine RM rfl ?_
   refine RM rfl ?_
   refine RM rfl ?_
   refine RM rfl ?_
   refine RM rfl ?_
   refine RS (ok_add32 rfl rfl) ?_
   refine RA rfl ?_
   refine RA rfl ?_
   refine RA rfl ?_
   refine RA rfl ?_
   refine RA rfl ?_
   refine RA rfl ?_
   refine RA rfl ?_
   refine RA rfl ?_
   refine RN ?_
   refine End.sub (KC 2 rfl (KC 4 rfl (KC 5 rfl (KC 7 rfl (KC 13 rfl (KC 14 rfl (KC 15 rfl (KC 16 rfl (KC 17 rfl (KC 18 rfl (KC 19 rfl (KC 20 rfl (KC 21 rfl (KC 1000002 rfl (KC 1000004 rfl (KC 1000005 rfl (KC 1000007 rfl KN))))))))))))))))) ?_
   refine End.normal_block ?_
   refine EN ?_
   refine GE ?_
   refine TL ?_
   refine RM rfl ?_
   refine RBS rfl rfl rfl (.int .i64 ((i + 1 : Nat) : Int)) (by rw [wrap_i64 (by omega) (by omega)]; first | rfl | (congr 1; omega)) ?_
   refine RA rfl ?_
   refine RN ?_
   refine End.normal_then ?_
   refine End.again (i + 1) ?_ ?_ ?_
   ·show _ ≤ _; omega
   ·show _ - _ < _ - _; omega
   ·exact (KC 2 rfl (KC 4 rfl (KC 5 rfl (KC 7 rfl (KC 13 rfl (KC 14 rfl (KC 15 rfl (KC 16 rfl (KC 17 rfl (KC 18 rfl (KC 19 rfl (KC 20 rfl (KC 21 rfl (KC 1000002 rfl (KC 1000004 rfl (KC 1000005 rfl (KC 1000007 rfl KN)))))))))))))))))
  ·obtain rfl : i = 64 := by simp at hc105; omega
   refine A.exit ?_
   refine End.exit_then ?_
   refine End.exit_then ?_
   refine End.exit_here ?_
   refine EN ?_
   refine GS ?_
   refine TF 33 ?_
   refine RS (ok_index0 (0) Tryz.underlying105 info27 rfl rfl (rfl) (by decide)) ?_
   refine RS (ok_loadV (s := 1000002) (by decide) Tryz.underlying27 rfl rfl rfl (rfl)) ?_
   refine RM rfl ?_
   refine RS (ok_add32 rfl rfl) ?_
   refine RS (ok_index0 (1) Tryz.underlying105 info27 rfl rfl (rfl) (by decide)) ?_
   refine RS (ok_loadV (s := 1000002) (by decide) Tryz.underlying27 rfl rfl rfl (rfl)) ?_
   refine RM rfl ?_
   refine RS (ok_add32 rfl rfl) ?_
   refine RS (ok_index0 (2) Tryz.underlying105 info27 rfl rfl (rfl) (by decide)) ?_
   refine RS (ok_loadV (s := 1000002) (by decide) Tryz.underlying27 rfl rfl rfl (rfl)) ?_
   refine RM rfl ?_
   refine RS (ok_add32 rfl rfl) ?_
   refine RS (ok_index0 (3) Tryz.underlying105 info27 rfl rfl (rfl) (by decide)) ?_
   refine RS (ok_loadV (s := 1000002) (by decide) Tryz.underlying27 rfl rfl rfl (rfl)) ?_
   refine RM rfl ?_
   refine RS (ok_add32 rfl rfl) ?_
   refine RS (ok_index0 (4) Tryz.underlying105 info27 rfl rfl (rfl) (by decide)) ?_
   refine RS (ok_loadV (s := 1000002) (by decide) Tryz.underlying27 rfl rfl rfl (rfl)) ?_
   refine RM rfl ?_
   refine RS (ok_add32 rfl rfl) ?_
   refine RS (ok_index0 (5) Tryz.underlying105 info27 rfl rfl (rfl) (by decide)) ?_
   refine RS (ok_loadV (s := 1000002) (by decide) Tryz.underlying27 rfl rfl rfl (rfl)) ?_
   refine RM rfl ?_
   refine RS (ok_add32 rfl rfl) ?_
   refine RS (ok_index0 (6) Tryz.underlying105 info27 rfl rfl (rfl) (by decide)) ?_
   refine RS (ok_loadV (s := 1000002) (by decide) Tryz.underlying27 rfl rfl rfl (rfl)) ?_
   refine RM rfl ?_
   refine RS (ok_add32 rfl rfl) ?_
   refine RS (ok_index0 (7) Tryz.underlying105 info27 rfl rfl (rfl) (by decide)) ?_
   refine RS (ok_loadV (s := 1000002) (by decide) Tryz.underlying27 rfl rfl rfl (rfl)) ?_
   refine RM rfl ?_
   refine RS (ok_add32 rfl rfl) ?_
   refine RS (ok_litA [_, _, _, _, _, _, _, _] Tryz.underlying105 info27 zero105 rfl ⟨rfl, rfl, rfl, rfl, rfl, rfl, rfl, rfl, rfl, rfl, rfl, rfl, rfl, rfl, rfl, rfl, trivial⟩ rfl) ?_; refine RZ (aggV ((compress h l).list.map u32V)) (by rw [compress, R8.add_list]) ?_
   refine RN ?_
   refine ⟨_, eff_storeA (n := 202) (s := 1000004) (size105.of (R8.size _)) rfl rfl (all_u32 _) hBb4 rfl ((R8.size _).symm) (LV 4 rfl (LB 1000002 rfl (LT 1000005 rfl (LT 1000007 rfl LN)))), ?_⟩
   refine TL ?_
   refine RN ?_
   refine A.sub (KC 4 rfl (KC 1000002 rfl (KC 1000004 rfl (KC 1000005 rfl (KC 1000007 rfl KN))))) ?_
   refine A.ret ?_
   exact End.cell1 (s := 1000004) rfl Tryz.underlying105 rfl (size105.of (R8.size _)) rfl rfl (Le.refl _)
end Go.Proofs.YthadcgkcgpinhaaGreatDoor
namespace Go.Proofs.YthadcgkcgpinhaaGreatDoor
open Go Go.RowKit
set_option linter.unusedVariables false
set_option maxRecDepth 20000

theorem zero34 : ZeroIs Tryz.prog 34 (List.replicate 32 (.int .u8 0)) := by unfold ZeroIs; kernel_rfl
theorem size34 : SizeIs Tryz.prog 34 32 := by unfold SizeIs; kernel_rfl
set_option maxHeartbeats 400000 in
theorem refSum_fn (l : List UInt8) (hl : l.length ≤ 1000000) : Fn Tryz.prog 48 [byt l] (.v (aggV ((sha l).map byteV))) := by
 have hpl := padded_length l
 have hpm := padded_mod l
 refine Fn.of Tryz.func48 rfl (by kernel_rfl) Tryz.ntmps48 (by simp) (fun w => [(0, old w.heap.size (byt l))]) (fun w => (Start.old rfl Start.nil)) fun w₀ => ?_
 refine GS ?_
 refine TN 0 ?_
 refine RN ?_
 refine ⟨_, _, eff_alloc (n := 69) (d := 2) (k := 1000002) zero34 (by decide), fun b2 hb2 => ?_⟩
 have hBb2 := hb2.1
 refine TL ?_
 refine RN ?_
 refine GS ?_
 refine TF 2 ?_
 refine RS (ok_build0own Tryz.underlying49 info5) ?_
 refine RM rfl ?_
 refine RN ?_
 refine ⟨_, eff_appendS (vs := l.map byteV) Tryz.underlying49 info5 (by decide) rfl rfl rfl ((Le.old _ _).trans (Le.eq (byt_vals l))) (by simp [byteV, Value.oneCell']) (by simp; omega) (by decide) (fun g hg => (LO 0 rfl (LV 2 rfl (LT 1000002 rfl LN)))), ?_⟩
 refine TF 4 ?_
 refine RS (ok_build [byteD 128] Tryz.underlying49 info5 rfl (by decide) (by decide) rfl ⟨rfl, rfl, trivial⟩ (fun d hd w x h => by simp only [List.mem_cons, List.not_mem_nil, or_false] at hd; rcases hd with rfl; exact v_one rfl h)) ?_
 refine RN ?_
 refine ⟨_, eff_appendS (vs := [byteV 128]) Tryz.underlying49 info5 (by decide) rfl rfl rfl (le_lst _ _) (by simp [byteV, Value.oneCell']) (by simp; omega) (by decide) (fun g hg => (LO 0 rfl (LV 2 rfl (LT 1000002 rfl LN)))), ?_⟩
 refine TL ?_
 refine RA rfl ?_
 refine RN ?_
 refine A.seq ?_
 refine A.block ?_
 refine A.loop (ι := Nat) (fun z => z ≤ ((119 - l.length % 64) % 64)) (fun z => [(0, old w₀.heap.size (byt l)), (2, .v (.pointer (some ⟨b2, 0, none⟩))), (3, own w₀.heap.size 5 (l.length + 1 + z) ((l ++ 128 :: List.replicate z 0).map byteV)), (1000002, blk b2 34 (List.replicate 32 (.int .u8 0)))]) (fun z => ((119 - l.length % 64) % 64) - z) 0 ?_ ?_ ?_
 ·exact Nat.zero_le _
 ·exact (KC 0 rfl (KC 2 rfl (KE 3 rfl (by simp) (KC 1000002 rfl KN))))
 intro z hz
 refine A.seq ?_
 refine GS ?_
 refine TL ?_
 refine RM rfl ?_
 refine RS (ok_lenB Tryz.underlying49 rfl (own_byt (by simp; omega))) ?_; refine RZ (.int .i64 ((l.length + 1 + z : Nat) : Int)) (by congr 2; simp; omega) ?_
 refine RS (ok_rem rfl rfl (by decide)) ?_; refine RZ (.int .i64 (((l.length + 1 + z) % 64 : Nat) : Int)) (by rw [tmod_lit _ (by decide)]; rfl) ?_
 refine RB rfl rfl rfl ?_
 refine RN ?_
 refine A.cond rfl (fun hc19 => ?_) (fun hc19 => ?_)
 ·have hzl : z < ((119 - l.length % 64) % 64) := by simp at hc19; omega
  refine A.skip ?_
  refine EN ?_
  refine A.block ?_
  refine GE ?_
  refine TF 2 ?_
  refine RM rfl ?_
  refine RS (ok_build [byteD 0] Tryz.underlying49 info5 rfl (by decide) (by decide) rfl ⟨rfl, rfl, trivial⟩ (fun d hd w x h => by simp only [List.mem_cons, List.not_mem_nil, or_false] at hd; rcases hd with rfl; exact v_one rfl h)) ?_
  refine RN ?_
  refine ⟨_, eff_appendS (vs := [byteV 0]) Tryz.underlying49 info5 (by decide) rfl rfl rfl (le_lst _ _) (by simp [byteV, Value.oneCell']) (by simp; omega) (by decide) (fun g hg => (LO 0 rfl (LV 2 rfl (LT 1000002 rfl LN)))), ?_⟩
  refine TL ?_
  refine RA rfl ?_
  refine RN ?_
  refine End.normal_block ?_
  refine End.normal_then ?_
  refine End.again (z + 1) ?_ ?_ ?_
  ·show _ ≤ _; omega
  ·show _ - _ < _ - _; omega
  ·exact (KC 0 rfl (KC 2 rfl (KE 3 rfl (by rw [List.replicate_succ']; simp [Nat.add_assoc]) (KC 1000002 rfl KN))))
 ·obtain rfl : z = ((119 - l.length % 64) % 64) := by simp at hc19; omega
  refine A.exit ?_
  refine End.exit_then ?_
  refine End.exit_then ?_
  refine End.exit_here ?_
  refine EN ?_
  refine GS ?_
  refine TF 6 ?_
  refine RM rfl ?_
  refine RM rfl ?_
  refine RS (ok_lenB Tryz.underlying49 rfl (Le.old _ _)) ?_
  refine RS (ok_conv Tryz.underlying3 Tryz.underlying28 rfl) ?_; refine RZ (.int .u64 ((l.length : Nat) : Int)) (by rw [wrapN_u64 (by omega)]) ?_
  refine RBS rfl rfl rfl (.int .u64 ((8 * l.length : Nat) : Int)) (by rw [wrap_u64 (by omega) (by omega)]; congr 1) ?_
  refine RS (ok_call (refPut64_fn ((8 * l.length : Nat) : Int) (by omega) (by omega)) (A1 rfl)) ?_
  refine RN ?_
  refine ⟨_, eff_appendS (vs := (be 8 (8 * l.length)).map byteV) Tryz.underlying49 info5 (by decide) rfl rfl rfl ((le_byt _ _).trans (Le.eq (byt_vals _))) (by simp [byteV, Value.oneCell']) (by simp [be_length]; omega) (by decide) (fun g hg => (LV 2 rfl (LT 1000002 rfl LN))), ?_⟩
  refine TL ?_
  refine RA rfl ?_
  refine RN ?_
  refine GS ?_
  refine TN 4 ?_
  refine RS (ok_call refConstants_fn Args.nil) ?_
  refine RM rfl ?_
  refine RS (ok_extract rfl rfl) ?_
  refine RS (ok_extract rfl rfl) ?_
  refine RN ?_
  refine ⟨_, _, eff_alloc (n := 69) (d := 4) (k := 1000004) zero118 (by decide), fun b4 hb4 => ?_⟩
  have hBb4 := hb4.1
  refine TN 5 ?_
  refine RN ?_
  refine ⟨_, _, eff_alloc (n := 69) (d := 5) (k := 1000005) zero105 (by decide), fun b5 hb5 => ?_⟩
  have hBb5 := hb5.1
  refine TF 6 ?_
  refine RN ?_
  refine ⟨_, eff_storeA (n := 69) (s := 1000004) (size118.of (rfl)) rfl rfl (rfl) hBb4 rfl (rfl) (LV 2 rfl (LeftS.cons (t := 3) rfl (Surv.own (by decide)) (LV 5 rfl (LV 33 rfl (LT 1000002 rfl (LT 1000005 rfl LN)))))), ?_⟩
  refine TF 7 ?_
  refine RN ?_
  refine ⟨_, eff_storeA (n := 69) (s := 1000005) (size105.of (R8.size _)) rfl rfl (all_u32 _) hBb5 rfl (by first | exact (R8.size _).trans (R8.size _).symm | rfl) (LV 2 rfl (LeftS.cons (t := 3) rfl (Surv.own (by decide)) (LV 5 rfl (LT 1000002 rfl (LT 1000004 rfl LN))))), ?_⟩
  refine TL ?_
  refine RN ?_
  refine A.seq ?_
  refine GS ?_
  refine TL ?_
  refine RA rfl ?_
  refine RN ?_
  refine A.block ?_
  refine A.loop (ι := Nat) (fun k => k ≤ ((padded l).length / 64)) (fun k => [(2, .v (.pointer (some ⟨b2, 0, none⟩))), (3, own w₀.heap.size 5 ((padded l).length) ((padded l).map byteV)), (5, .v (.pointer (some ⟨b5, 0, none⟩))), (6, .v (.int .i64 ((64 * k : Nat) : Int))), (1000002, blk b2 34 (List.replicate 32 (.int .u8 0))), (1000005, blk b5 105 ((chain H8 (padded l) k).list.map u32V))]) (fun k => ((padded l).length / 64) - k) 0 ?_ ?_ ?_
  ·exact Nat.zero_le _
  ·exact (KC 2 rfl (KE 3 rfl (by rw [hpl]; simp [padded, be_length, Nat.add_assoc]) (KC 5 rfl (KC 6 rfl (KC 1000002 rfl (KC 1000005 rfl KN))))))
  intro k hk
  refine A.seq ?_
  refine GS ?_
  refine TL ?_
  refine RM rfl ?_
  refine RM rfl ?_
  refine RS (ok_lenB Tryz.underlying49 rfl (own_byt rfl)) ?_
  refine RB rfl rfl rfl ?_
  refine RN ?_
  refine A.cond rfl (fun hc37 => ?_) (fun hc37 => ?_)
  ·have hlt : 64 * k < (padded l).length := by simp at hc37; omega
   have hk1 : k < ((padded l).length / 64) := by omega
   refine A.skip ?_
   refine EN ?_
   refine A.seq ?_
   refine A.block ?_
   refine A.reg (by kernel_rfl) (by kernel_rfl) (.inr (by kernel_rfl)) ?_
   refine TD 7 ?_
   refine RS (ok_loadA (s := 1000005) (by decide) Tryz.underlying105 rfl (size105.of (R8.size _)) rfl rfl) ?_
   refine RM rfl ?_
   refine RM rfl ?_
   refine RM rfl ?_
   refine RBS rfl rfl rfl (.int .i64 ((64 * k + 64 : Nat) : Int)) (by rw [wrap_i64 (by omega) (by omega)]; first | rfl | (congr 1; omega)) ?_
   refine RS (ok_slice (64 * k) (64 * k + 64) Tryz.underlying49 info5 rfl (own_byt rfl) (.inl ⟨_, _, rfl, rfl⟩) (.inl ⟨_, _, rfl, rfl⟩) (by omega) (by simp; omega)) ?_
   refine RS (ok_call (refCompress_fn (chain H8 (padded l) k) (((padded l).drop (64 * k)).take 64) (by simp; omega)) (Args.cons rfl (Le.refl _) (Args.cons rfl (Le.eq (by simp only [byt, List.map_take, List.map_drop, List.drop_take]; congr 2; omega)) Args.nil))) ?_; refine RZ (aggV ((chain H8 (padded l) (k + 1)).list.map u32V)) (rfl) ?_
   refine RN ?_
   refine ⟨_, eff_storeA (n := 69) (s := 1000005) (size105.of (R8.size _)) rfl rfl (all_u32 _) hBb5 rfl (by first | exact (R8.size _).trans (R8.size _).symm | rfl) (LV 2 rfl (LeftS.cons (t := 3) rfl (Surv.own (by decide)) (LV 5 rfl (LV 6 rfl (LT 1000002 rfl LN))))), ?_⟩
   refine TL ?_
   refine RN ?_
   refine End.normal_block ?_
   refine EN ?_
   refine GE ?_
   refine TL ?_
   refine RM rfl ?_
   refine RBS rfl rfl rfl (.int .i64 ((64 * (k + 1) : Nat) : Int)) (by rw [wrap_i64 (by omega) (by omega)]; first | rfl | (congr 1; omega)) ?_
   refine RA rfl ?_
   refine RN ?_
   refine End.normal_then ?_
   refine End.again (k + 1) ?_ ?_ ?_
   ·show _ ≤ _; omega
   ·show _ - _ < _ - _; omega
   ·exact (KC 2 rfl (KC 3 rfl (KC 5 rfl (KC 6 rfl (KC 1000002 rfl (KC 1000005 rfl KN))))))
  ·obtain rfl : k = ((padded l).length / 64) := by simp at hc37; omega
   refine A.exit ?_
   refine End.exit_then ?_
   refine End.exit_then ?_
   refine End.exit_here ?_
   refine EN ?_
   refine GS ?_
   refine TN 0 ?_
   refine RN ?_
   refine ⟨_, _, eff_alloc (n := 69) (d := 7) (k := 1000007) zero34 (by decide), fun b7 hb7 => ?_⟩
   have hBb7 := hb7.1
   have hlt_b2_b7 : b2 < b7 := hb7.2 1000002 _ _ _ rfl
   refine TL ?_
   refine RN ?_
   refine A.seq ?_
   refine GS ?_
   refine TL ?_
   refine RA rfl ?_
   refine RN ?_
   refine A.block ?_
   refine A.loop (ι := Nat) (fun i => i ≤ 8) (fun i => [(2, .v (.pointer (some ⟨b2, 0, none⟩))), (5, .v (.pointer (some ⟨b5, 0, none⟩))), (7, .v (.pointer (some ⟨b7, 0, none⟩))), (8, .v (.int .i64 ((i : Nat) : Int))), (1000002, blk b2 34 (List.replicate 32 (.int .u8 0))), (1000005, blk b5 105 ((shaR l).list.map u32V)), (1000007, blk b7 34 (tableB ((sha l).take (4 * i)) 32))]) (fun i => 8 - i) 0 ?_ ?_ ?_
   ·exact Nat.zero_le _
   ·exact (KC 2 rfl (KC 5 rfl (KC 7 rfl (KC 8 rfl (KC 1000002 rfl (KC 1000005 rfl (KE 1000007 rfl (by rw [Nat.mul_zero, List.take_zero, ← tableB_nil]) KN)))))))
   intro i hi
   refine A.seq ?_
   refine GS ?_
   refine TL ?_
   refine RM rfl ?_
   refine RB rfl rfl rfl ?_
   refine RN ?_
   refine A.cond rfl (fun hc48 => ?_) (fun hc48 => ?_)
   ·have hi8 : i < 8 := by simp at hc48; omega
    refine A.skip ?_
    refine EN ?_
    refine A.seq ?_
    refine A.block ?_
    refine GS ?_
    refine TL ?_
    refine RM rfl ?_
    refine RS (ok_index0 _ Tryz.underlying105 info27 rfl rfl (rfl) (by omega)) ?_
    refine RS (ok_loadV (s := 1000005) (by decide) Tryz.underlying27 rfl rfl rfl (map_get32 (by show i < 8; omega))) ?_
    refine RS (ok_callB (refPut32_fnB ((((shaR l).list.getD i 0).toNat : Nat) : Int) (Int.natCast_nonneg _) (by have := u32_lt ((shaR l).list.getD i 0); omega)) (fun _ _ => fresh_mono _ _) (A1 rfl)) ?_
    refine RA rfl ?_
    refine RN ?_
    refine GS ?_
    refine TL ?_
    refine RA rfl ?_
    refine RN ?_
    refine A.block ?_
    refine A.loop (ι := Nat) (fun k => k ≤ 4) (fun k => [(2, .v (.pointer (some ⟨b2, 0, none⟩))), (5, .v (.pointer (some ⟨b5, 0, none⟩))), (7, .v (.pointer (some ⟨b7, 0, none⟩))), (8, .v (.int .i64 ((i : Nat) : Int))), (9, fresh w₀.heap.size 5 ((be 4 ((shaR l).list.getD i 0).toNat).map byteV) 4), (10, .v (.int .i64 ((k : Nat) : Int))), (1000002, blk b2 34 (List.replicate 32 (.int .u8 0))), (1000005, blk b5 105 ((shaR l).list.map u32V)), (1000007, blk b7 34 (tableB ((sha l).take (4 * i + k)) 32))]) (fun k => 4 - k) 0 ?_ ?_ ?_
    ·exact Nat.zero_le _
    ·exact (KC 2 rfl (KC 5 rfl (KC 7 rfl (KC 8 rfl (KC 9 rfl (KC 10 rfl (KC 1000002 rfl (KC 1000005 rfl (KC 1000007 rfl KN)))))))))
    intro k hk
    refine A.seq ?_
    refine GS ?_
    refine TL ?_
    refine RM rfl ?_
    refine RB rfl rfl rfl ?_
    refine RN ?_
    refine A.cond rfl (fun hc56 => ?_) (fun hc56 => ?_)
    ·have hk4 : k < 4 := by simp at hc56; omega
     refine A.skip ?_
     refine EN ?_
     refine A.seq ?_
     refine A.block ?_
     refine GE ?_
     refine TF 9 ?_
     refine RM rfl ?_
     refine RBS rfl rfl rfl (.int .i64 ((4 * i : Nat) : Int)) (by rw [wrap_i64 (by omega) (by omega)]; first | rfl | (congr 1; omega)) ?_
     refine RM rfl ?_
     refine RBS rfl rfl rfl (.int .i64 ((4 * i + k : Nat) : Int)) (by rw [wrap_i64 (by omega) (by omega)]; first | rfl | (congr 1; omega)) ?_
     refine RM rfl ?_
     refine RM rfl ?_
     refine RS (ok_index (d := byteD ((sha l).getD (4 * i + k) 0)) Tryz.underlying49 info5 rfl ((fresh_bytes (l := be 4 ((shaR l).list.getD i 0).toNat) (by rw [be_length]) (by decide)).trans (le_byt _ _)) rfl (by omega) (by rw [Int.toNat_natCast, List.getElem?_map, sha_get l (by omega) (by omega)]; rfl)) ?_
     refine RS (ok_load Tryz.underlying5 rfl rfl) ?_
     refine RS (ok_index0 _ Tryz.underlying34 info5 rfl rfl (rfl) (by omega)) ?_
     refine RN ?_
     refine ⟨_, eff_storeS (n := 69) (s := 1000007) info5 rfl rfl rfl hBb7 rfl (by rw [tableB_length (by simp [sha_length]; omega)]; omega) (LV 2 rfl (LV 5 rfl (LV 7 rfl (LV 8 rfl (LeftS.cons (t := 9) rfl (Surv.fresh (by decide)) (LV 10 rfl (LB 1000002 rfl (LT 1000005 rfl LN)))))))), ?_⟩
     refine TL ?_
     refine RN ?_
     refine End.normal_block ?_
     refine EN ?_
     refine GE ?_
     refine TL ?_
     refine RM rfl ?_
     refine RBS rfl rfl rfl (.int .i64 ((k + 1 : Nat) : Int)) (by rw [wrap_i64 (by omega) (by omega)]; first | rfl | (congr 1; omega)) ?_
     refine RA rfl ?_
     refine RN ?_
     refine End.normal_then ?_
     refine End.again (k + 1) ?_ ?_ ?_
     ·show _ ≤ _; omega
     ·show _ - _ < _ - _; omega
     ·exact (KC 2 rfl (KC 5 rfl (KC 7 rfl (KC 8 rfl (KC 9 rfl (KC 10 rfl (KC 1000002 rfl (KC 1000005 rfl (KE 1000007 rfl (by rw [tableB_step (sha_length l) (by omega)]; rfl) KN)))))))))
    ·obtain rfl : k = 4 := by simp at hc56; omega
     refine A.exit ?_
     refine End.exit_then ?_
     refine End.exit_then ?_
     refine End.exit_here ?_
     refine End.normal_block ?_
     refine EN ?_
     refine GE ?_
     refine TL ?_
     refine RM rfl ?_
     refine RBS rfl rfl rfl (.int .i64 ((i + 1 : Nat) : Int)) (by rw [wrap_i64 (by omega) (by omega)]; first | rfl | (congr 1; omega)) ?_
     refine RA rfl ?_
     refine RN ?_
     refine End.normal_then ?_
     refine End.again (i + 1) ?_ ?_ ?_
     ·show _ ≤ _; omega
     ·show _ - _ < _ - _; omega
     ·exact (KC 2 rfl (KC 5 rfl (KC 7 rfl (KC 8 rfl (KC 1000002 rfl (KC 1000005 rfl (KC 1000007 rfl KN)))))))
   ·obtain rfl : i = 8 := by simp at hc48; omega
    refine A.exit ?_
    refine End.exit_then ?_
    refine End.exit_then ?_
    refine End.exit_here ?_
    refine EN ?_
    refine GS ?_
    refine TF 1 ?_
    refine RS (ok_loadA (s := 1000007) (by decide) Tryz.underlying34 rfl (size34.of (by rw [tableB_length (by simp [sha_length])])) rfl rfl) ?_; refine RZ (aggV ((sha l).map byteV)) (by rw [tableB_full (by simp [sha_length]), List.take_of_length_le (by rw [sha_length]; decide)]) ?_
    refine RN ?_
    refine ⟨_, eff_storeA (n := 69) (s := 1000002) (size34.of (by rw [List.length_map, sha_length])) rfl rfl (all_bytes _) hBb2 rfl (by rw [List.length_map, sha_length, List.length_replicate]) (LV 2 rfl (LT 1000005 rfl (LB 1000007 rfl LN))), ?_⟩
    refine TL ?_
    refine RN ?_
    refine A.ret ?_
    exact End.cell1 (s := 1000002) rfl Tryz.underlying34 rfl (size34.of (by rw [List.length_map, sha_length])) rfl rfl (Le.refl _)
end Go.Proofs.YthadcgkcgpinhaaGreatDoor
namespace Go.Proofs.YthadcgkcgpinhaaGreatDoor
open Go Go.RowKit
set_option linter.unusedVariables false
set_option maxRecDepth 20000

theorem rot_amount (n : Int) : ∃ s : Nat, s < 32 ∧ n % 32 = (s : Int) ∧ (n % 18446744073709551616 % 32 = (s : Int)) := ⟨(n % 32).toNat, by omega, by omega, by omega⟩

theorem RotateLeft32_fn (v n : Int) (hv0 : 0 ≤ v) (hv : v < 4294967296) : Fn Tryz.prog 110 [.v (.int .u32 v), .v (.int .i64 n)] (.v (.int .u32 (rotB v.toNat (n % 32).toNat))) := by
 obtain ⟨V, rfl⟩ := Int.eq_ofNat_of_zero_le hv0
 obtain ⟨s, hs, h1, h2⟩ := rot_amount n
 obtain ⟨M, hM⟩ := Int.eq_ofNat_of_zero_le (Int.emod_nonneg n (show (18446744073709551616 : Int) ≠ 0 by decide))
 have hMlt : M < 18446744073709551616 := by omega
 have hMs : M % 32 = s := by omega
 rw [h1]
 simp only [Int.toNat_natCast]
 refine Fn.of Tryz.func110 rfl (by kernel_rfl) Tryz.ntmps110 (by simp) (fun w => [(0, .v (.int .u32 (V : Int))), (1, .v (.int .i64 n))]) (fun w => (Start.v rfl (Start.v rfl Start.nil))) fun w₀ => ?_
 refine GS ?_
 refine TL ?_
 refine RA rfl ?_
 refine RN ?_
 refine GS ?_
 refine TL ?_
 refine RM rfl ?_
 refine RS (ok_conv Tryz.underlying3 Tryz.underlying140 rfl) ?_; refine RZ (.int .u64 (M : Int)) (by rw [wrap_u64_int, hM]) ?_
 refine RBS rfl rfl rfl (.int .u64 (s : Int)) (by rw [show IntKind.u64.bits = 64 from rfl, show (31 : Int) = ((31 : Nat) : Int) from rfl, and_u64_nat hMlt (by decide), and31, hMs]) ?_
 refine RA rfl ?_
 refine RN ?_
 refine GS ?_
 refine TL ?_
 refine RM rfl ?_
 refine RM rfl ?_
 refine RS (ok_shl rfl rfl (by omega)) ?_; refine RZ (.int .u32 ((V * 2 ^ s % 4294967296 : Nat) : Int)) (by rw [Int.toNat_natCast, show min s IntKind.u32.bits = s from by simp only [IntKind.bits]; omega, ← wrap_u32_nat]; congr 2) ?_
 refine RM rfl ?_
 refine RM rfl ?_
 refine RBS rfl rfl rfl (.int .u64 ((32 - s : Nat) : Int)) (by rw [wrap_u64 (by omega) (by omega)]; congr 1; omega) ?_
 refine RS (ok_shr rfl rfl (by omega)) ?_; refine RZ (.int .u32 ((V / 2 ^ (32 - s) : Nat) : Int)) (by rw [Int.toNat_natCast, show min (32 - s) IntKind.u32.bits = 32 - s from by simp only [IntKind.bits]; omega, shr_nat]) ?_
 refine RBS rfl rfl rfl (.int .u32 ((rotB V s : Nat) : Int)) (by rw [show IntKind.u32.bits = 32 from rfl, or_u32_nat (Nat.mod_lt _ (by decide)) (Nat.lt_of_le_of_lt (Nat.div_le_self _ _) (by omega)), rotB_go (by omega) hs]) ?_
 refine RA rfl ?_
 refine RN ?_
 refine A.ret ?_
 exact End.ret1 rfl rfl (by first | exact Le.refl _ | exact Le.old _ _)
theorem Rot_fn (v n : Int) (hv0 : 0 ≤ v) (hv : v < 4294967296) : Fn Tryz.prog 107 [.v (.int .u32 v), .v (.int .i64 n)] (.v (.int .u32 (rotB v.toNat (n % 32).toNat))) := by
 refine Fn.of Tryz.func107 rfl (by kernel_rfl) Tryz.ntmps107 (by simp) (fun w => [(0, .v (.int .u32 v)), (1, .v (.int .i64 n))]) (fun w => (Start.v rfl (Start.v rfl Start.nil))) fun w₀ => ?_
 refine GS ?_
 refine TL ?_
 refine RA rfl ?_
 refine RN ?_
 refine GS ?_
 refine TL ?_
 refine RM rfl ?_
 refine RM rfl ?_
 refine RS (ok_call (RotateLeft32_fn v n hv0 hv) (Args.cons rfl LA (Args.cons rfl LA Args.nil))) ?_
 refine RA rfl ?_
 refine RN ?_
 refine A.ret ?_
 exact End.ret1 rfl rfl (by first | exact Le.refl _ | exact Le.old _ _)
end Go.Proofs.YthadcgkcgpinhaaGreatDoor
namespace Go.Proofs.YthadcgkcgpinhaaGreatDoor
open Go Go.RowKit
variable {κ : Cx}

/-! ### Facts on memory -/
/-- Block b is the object o; there are at least m blocks. -/
def recD (b : Nat) (o : Obj) (m : Nat) : D := .p (fun B w _ => b < B ∧ m ≤ B ∧ w.heap[b]? = some o) (fun _ _ _ _ g ⟨h1, h2, h3⟩ => ⟨h1, h2, (g.block b h1).trans h3⟩) (fun _ _ _ _ g ⟨h1, h2, h3⟩ => ⟨Nat.lt_of_lt_of_le h1 g, Nat.le_trans h2 g, h3⟩)
theorem Surv.rec {B T g b m : Nat} {o : Obj} (h : o.isCells = false) : Surv B T g (recD b o m) := fun w _ _ k ⟨h1, h2, h3⟩ => by
  refine ⟨Nat.lt_of_lt_of_le h1 k.size, Nat.le_trans h2 k.size, (k.other b h1 fun hb => ?_).trans h3⟩
  subst hb
  obtain ⟨cs, fr, hx⟩ := k.cel _ h3
  subst hx; cases h
/-- A property of memory that stays while memory grows, as a fact. -/
def jD (J : World → Prop) : D := .p (fun B w _ => ∃ v : World, J v ∧ v.heap.size ≤ B ∧ Below v.heap.size v w) (fun _ _ _ _ g ⟨v, h1, h2, h3⟩ => ⟨v, h1, h2, h3.trans (g.mono h2)⟩) (fun _ _ _ _ g ⟨v, h1, h2, h3⟩ => ⟨v, h1, Nat.le_trans h2 g, h3⟩)
theorem jD_get {J : World → Prop} (hst : ∀ a b, J a → Grow a b → J b) {w : World} {x : Value} (h : (jD J).Of w x) : J w := by
  obtain ⟨v, h1, _, h3⟩ := h
  exact hst v w h1 h3
theorem jD_mk {J : World → Prop} {w : World} {x : Value} (h : J w) : (jD J).Of w x := ⟨w, h, Nat.le_refl _, Below.refl _ _⟩
theorem below_two {B : Nat} {w₀ w w' : World} (h : Below B w₀ w) (h' : Below B w₀ w') (hs : w.heap.size ≤ w'.heap.size) : Below B w w' :=
  ⟨h'.os.trans h.os.symm, h'.tape.trans h.tape.symm, h'.output.trans h.output.symm, hs, fun k hk => (h'.block k hk).trans (h.block k hk).symm⟩
/-- The fact survives a turn of block l, which is no cells before and after. -/
def Firm (l : Nat) (d : D) : Prop := ∀ (w : World) (o o' : Obj) (x : Value), w.heap[l]? = some o → o.isCells = false → d.Of w x → d.Of (w.putObj l o') x
theorem Firm.v (l : Nat) (x : Value) : Firm l (.v x) := fun _ _ _ _ _ _ h => h
theorem below_putObj {B l : Nat} (w : World) (o' : Obj) (h : B ≤ l) : Below B w (w.putObj l o') := ⟨rfl, rfl, rfl, by simp, fun _ hk => World.putObj_heap_other (by omega)⟩
theorem Firm.old {l B : Nat} {d : D} (h : B ≤ l) : Firm l (Go.Proofs.YthadcgkcgpinhaaGreatDoor.old B d) := fun w _ o' _ _ _ ⟨h1, h2⟩ => ⟨by simpa using h1, D.OfB.keep h2 (below_putObj w o' h)⟩
theorem Firm.blk {l b : Nat} {e : TypeId} {xs : List Value} : Firm l (Go.Proofs.YthadcgkcgpinhaaGreatDoor.blk b e xs) := fun w o o' _ hl ho ⟨h1, h2⟩ => ⟨by simpa using h1, (World.putObj_heap_other (fun hb => by
  subst hb; rw [h2] at hl; injection hl with hl; subst hl; cases ho)).trans h2⟩
theorem Firm.tab {l b : Nat} {xs : List Value} : Firm l (Go.Proofs.YthadcgkcgpinhaaGreatDoor.tab b xs) := fun w o o' _ hl ho ⟨h1, e, h2⟩ => ⟨by simpa using h1, e, (World.putObj_heap_other (fun hb => by
  subst hb; rw [h2] at hl; injection hl with hl; subst hl; cases ho)).trans h2⟩
/-- Facts on memory that hold in w, which is above w₀. -/
def Holds (w₀ : World) (V : Env) (w : World) : Prop := Below w₀.heap.size w₀ w ∧ w₀.heap.size ≤ w.heap.size ∧ ∀ p ∈ V, p.2.Of w undef
theorem Holds.grow {w₀ w w' : World} {V : Env} (h : Holds w₀ V w) (g : Grow w w') : Holds w₀ V w' := ⟨h.1.trans (g.mono h.2.1), Nat.le_trans h.2.1 g.size, fun p hp => (h.2.2 p hp).grow g⟩
theorem Holds.putObj {w₀ w : World} {V : Env} {l : Nat} {o : Obj} (o' : Obj) (h : Holds w₀ V w) (hl : w.heap[l]? = some o) (ho : o.isCells = false) (hB : w₀.heap.size ≤ l) (hf : ∀ p ∈ V, Firm l p.2) : Holds w₀ V (w.putObj l o') :=
  ⟨h.1.trans (below_putObj w o' hB), by simpa using h.2.1, fun p hp => hf p hp w o o' _ hl ho (h.2.2 p hp)⟩

theorem vle {k : Nat} {d : D} (h : Nat.ble 1000000 k = true) : vbase ≤ (k, d).1 := Nat.le_of_ble_eq_true h
theorem vlt {k : Nat} {d : D} (h : Nat.blt k 1000000 = true) : (k, d).1 < vbase := Nat.le_of_ble_eq_true h

/-! ### The call of yield -/
section
variable {P : Program} {n : Nat} {w₀ : World} {ops : Array Oper} {E : Env} {ty : TypeId} {pos : String} {after : Array Edge}
/-- What yield does at each round: it goes on, and the property of memory moves on by one. -/
def Yields (P : Program) (N : Nat) (l : Nat) (arg : Nat → D) (J : Nat → World → Prop) : Prop :=
  ∀ (i : Nat) (W : World) (u : Value), i < N → J i W → (arg i).Of W u → YieldAt (FR none) 0 P l #[u] W fun e W' => e = .returned (.bool true) ∧ J (i + 1) W' ∧ W.heap.size ≤ W'.heap.size
structure Seqs (P : Program) (w₀ : World) (N : Nat) (l : Nat) (arg : Nat → D) (V : Nat → Env) (J : Nat → World → Prop) : Prop where
  grow : ∀ i a b, J i a → Grow a b → J i b
  holds : ∀ i W, J i W → Holds w₀ (V i) W
  yields : Yields P N l arg J
theorem Seqs.sub {N l : Nat} {arg : Nat → D} {V V' : Nat → Env} {J : Nat → World → Prop} (h : Seqs P w₀ N l arg V J) (hs : ∀ i, ∀ p ∈ V' i, p ∈ V i) : Seqs P w₀ N l arg V' J :=
  ⟨h.grow, fun i W hJ => ⟨(h.holds i W hJ).1, (h.holds i W hJ).2.1, fun p hp => (h.holds i W hJ).2.2 p (hs i p hp)⟩, h.yields⟩
theorem eff_yield {N l : Nat} {arg : Nat → D} {V : Nat → Env} {J : Nat → World → Prop} {d vJ : Nat} {fv x : Operand} {ex : D} {tys : Array TypeId} {E' : Env} (hq : Seqs P w₀ N l arg V J) (i : Nat) (hi : i < N)
    (hJ : E.look vJ = some (jD (J i))) (hf : E.at fv = some (.v (.func (.yield l) #[] #[]))) (hx : E.at x = some ex) (hle : Le ex (arg i)) (hd : d < n) (hV : ∀ p ∈ V (i + 1), vbase ≤ p.1) (hn : n ≤ vbase)
    (hl : Left w₀.heap.size E' E) :
    Eff P n w₀.heap.size ops ⟨some d, .call { callee := .value fv, args := #[x], argTypes := tys }, ty, pos, after, none⟩ E ((d, .v (.bool true)) :: (vJ, jD (J (i + 1))) :: (V (i + 1) ++ E')) := by
  intro κ a w K Q h hK
  have h1 : a.eval fv = _ := h.at_ fv _ hf
  have h2 := hle.of (h.at_ x _ hx)
  have hJw : J i w := jD_get (hq.grow i) (h.of vJ _ hJ)
  obtain ⟨fn, tmps, assign, body, hy, hr⟩ := hq.yields i w _ hi hJw h2
  rw [if_pos (by simp [Region.wanted])]
  refine ⟨fun _ _ => trivial, ?_⟩
  rw [Oper.semAt_eq _ _ _ (by nofun)]
  have hrun : (execOp a.eval ⟨some d, .call { callee := .value fv, args := #[x], argTypes := tys }, ty, pos, after, none⟩).run P w = .ok (.round l fn tmps assign body) w := by
    simp [execOp, resolve, Deferred.ofValue, h1, invoke, hy]
  rw [hrun, Oper.uponIn_round]
  refine ⟨fun e => absurd e (by simp [FR, Fence.wide]), RoundIn.mono (F := FR κ.rd) (n := 0) hr ?_⟩
  rintro e W' ⟨rfl, hJ', hs⟩
  obtain ⟨hb, hsz, hv⟩ := hq.holds _ _ hJ'
  have hb0 := (hq.holds _ _ hJw).1
  have hbel := below_two hb0 hb hs
  refine hK _ _ hbel (St.put ⟨hsz, h.defers, h.size, fun t e he => ?_⟩ hd rfl)
  have hund : ∀ t, vbase ≤ t → a.tmps.getD t undef = undef := fun t ht => by
    rw [Array.getD_eq_getD_getElem?, Array.getElem?_eq_none (by rw [h.size]; omega)]; rfl
  by_cases hts : vJ = t
  · subst hts
    rw [look_here] at he; injection he with he; subst he
    exact jD_mk hJ'
  · rw [look_past _ _ hts] at he
    rcases List.mem_append.1 (look_mem he) with hm | hm
    · have := hv _ hm
      rwa [hund t (hV _ hm)]
    · obtain ⟨h7, h8⟩ := hl _ hm
      exact h8 _ _ _ hbel h.base (h.of t e h7)
/-- A call that is walked at the caller's base. -/
theorem Calls.within {f : FuncId} {fn : Func} {c : Code} {vs : List Value} {w : World} {R : Ending → World → Prop} (hf : P.funcs[f]? = some fn) (hb : fn.body = some c) (hn : fn.ntmps = n) (hl : vs.length ≤ n) (hnv : n ≤ vbase) (hw : Below w₀.heap.size w₀ w) (hs : w₀.heap.size ≤ w.heap.size)
    (hE : ∀ p ∈ E, (vbase ≤ p.1 ∧ p.2.Of w undef) ∨ ∃ v, vs[p.1]? = some v ∧ p.2.Of w v) (h : A Cx.top P w₀ n c E (BP P fn R)) : Calls P f vs.toArray w R := by
  refine callsIn_FR.1 (callsIn_of_wp_marks (F := FR none) (n := 0) hf hb trivial (h _ w hw ⟨hs, rfl, ?_, fun t e he => ?_⟩))
  · simp [hn]; omega
  · show e.Of w ((vs.toArray ++ Array.replicate (fn.ntmps - vs.toArray.size) undef).getD t undef)
    rcases hE _ (look_mem he) with ⟨ht, hx⟩ | ⟨v, hv, hx⟩
    · rwa [Array.getD_eq_getD_getElem?, Array.getElem?_eq_none (by simp [hn]; simp only at ht; omega)]
    · have hlt : t < vs.length := (List.getElem?_eq_some_iff.1 hv).1
      rw [Array.getD_eq_getD_getElem?, Array.getElem?_append_left (by simpa using hlt)]
      simp only at hv
      simp [hv]; exact hx
/-- The end of a function that is ranged over. -/
theorem End.seq {fn : Func} {N l : Nat} {arg : Nat → D} {V : Nat → Env} {J : Nat → World → Prop} {vJ : Nat} (hq : Seqs P w₀ N l arg V J) (hr : fn.results = #[]) (hJ : E.look vJ = some (jD (J N))) :
    End Cx.top w₀ n E (BP P fn (fun e W => (∃ v, e = .returned v) ∧ J N W) .normal) := fun a w _ hs => by
  show LeavesInM (FR none) 0 P fn a.tmps _ a.defers .returning w
  rw [show a.defers = [] from hs.defers]
  exact ⟨_, by simp [results, hr]; rfl, ⟨_, rfl⟩, jD_get (hq.grow N) (hs.of vJ _ hJ)⟩

/-! ### The statement -/
/-- What the body of a round comes to: it goes on, and these facts hold. -/
def RoundQ (w₀ : World) (V : Env) : Exit → Act → World → Prop
  | .normal, _, w => Holds w₀ V w
  | _, _, _ => False
theorem End.round {V : Env} (hs : Sub V E) (hV : ∀ p ∈ V, vbase ≤ p.1) (hn : n ≤ vbase) : End κ w₀ n E (RoundQ w₀ V .normal) := fun a w g hst => ⟨g, hst.base, fun p hp => by
  have h1 := hst.of p.1 p.2 (hs p hp)
  have := hV p hp
  rwa [Array.getD_eq_getD_getElem?, Array.getElem?_eq_none (by rw [hst.size]; omega)] at h1⟩
/-- The loop's variable is set. -/
theorem assign_one {l id tp t : Nat} {ty pos after} {E : Env} {d : D} {a : Act} {w : World} (ht : t < n) (htp : tp < n) (hn : n ≤ vbase) (h : St ⟨some l, []⟩ n w₀.heap.size ((tp, d) :: E) a w) :
    (Code.region id #[⟨some t, .assign (.tmp tp), ty, pos, after, none⟩] false).wpIn (FR (some l)) 0 P (fun e a' w' => e = .normal ∧ Grow w w' ∧ St ⟨some l, []⟩ n w₀.heap.size ((t, d) :: (tp, d) :: E) a' w') a w := by
  have hr : Run P w₀.heap.size #[⟨some t, .assign (.tmp tp), ty, pos, after, none⟩] [⟨some t, .assign (.tmp tp), ty, pos, after, none⟩] ((tp, d) :: E) ((t, d) :: (tp, d) :: E) := .step rfl rfl (ok_assign (look_here _ _ _)) .nil
  have := wp_text (Q := fun e a' w' => e = .normal ∧ Grow w w' ∧ St ⟨some l, []⟩ n w₀.heap.size ((t, d) :: (tp, d) :: E) a' w') (rest := []) hn hr h (fun o ho => by
    simp only [List.mem_cons, List.not_mem_nil, or_false] at ho
    subst ho
    refine ⟨fun s hs => ?_, fun s hs => by simp only [Option.some.injEq] at hs; exact hs ▸ ht⟩
    simp [Oper.looksAt, Op.operands] at hs
    exact hs ▸ htp) fun a' w' g h' => wpListIn_nil ⟨rfl, g, h'⟩
  exact wpIn_region_list (by simpa using this)

theorem A.range {Q : Exit → Act → World → Prop} {g : Operand} {tp gf N vL vD : Nat} {assign body : Code} {lb : List Value} {S : Env} {V Eb : Nat → Env} {arg : Nat → D} (hg : E.at g = some (.v (.func (.func gf) #[] lb.toArray)))
    (hgf : ∃ fn, P.funcs[gf]? = some fn ∧ (fn.name == "runtime.NumGoroutine") = false ∧ fn.body.isNone = false) (htp : tp < n) (hn : n ≤ vbase) (h0 : Sub (V 0 ++ S) E)
    (hS : ∀ p ∈ S, p.1 < vbase ∧ ((∃ x, p.2 = .v x) ∨ ∃ d, p.2 = old w₀.heap.size d)) (hV : ∀ i, ∀ p ∈ V i, vbase ≤ p.1)
    (hfV : ∀ i l, w₀.heap.size ≤ l → ∀ p ∈ V i, Firm l p.2) (hfE : ∀ i l, w₀.heap.size ≤ l → ∀ p ∈ Eb i, Firm l p.2)
    (hseq : ∀ (J : Nat → World → Prop) (l : Nat) (w : World), Seqs P w₀ N l arg V J → J 0 w → Calls P gf (.func (.yield l) #[] #[] :: lb).toArray w fun e W => (∃ v, e = .returned v) ∧ J N W)
    (hassign : ∀ i l a w, i < N → St ⟨some l, []⟩ n w₀.heap.size ((tp, arg i) :: (V i ++ S)) a w → assign.wpIn (FR (some l)) 0 P (fun e a' w' => e = .normal ∧ Grow w w' ∧ St ⟨some l, []⟩ n w₀.heap.size (Eb i) a' w') a w)
    (hbody : ∀ i l D r m, i < N → A ⟨some l, []⟩ P w₀ n body ((vL, recD l (.loop r) m) :: (vD, recD D (.deferred (some [])) 0) :: Eb i) (RoundQ w₀ ((vL, recD l (.loop r) m) :: (vD, recD D (.deferred (some [])) 0) :: V (i + 1))))
    (hend : ∀ D, w₀.heap.size ≤ D → End ⟨none, [{ target := .collected D, args := #[] }]⟩ w₀ n ((vD, recD D (.deferred (some [])) 0) :: (V N ++ S)) (Q .normal)) :
    A ⟨none, []⟩ P w₀ n (.rangeFunc g #[tp] assign body) E Q := fun a w hb hst => by
  show (Code.rangeFunc g #[tp] assign body).wpIn (FR none) 0 P Q a w
  refine wpIn_rangeFunc fun fn _ => ?_
  obtain ⟨rec, hrec⟩ : ∃ rec : LoopState → Option Code → Loop, rec = fun st pe => { state := st, pending := pe, fn, tmps := a.tmps, params := #[tp], assign, body, defers := w.heap.size } := ⟨_, rfl⟩
  obtain ⟨W1, hW1⟩ : ∃ W1, (w.alloc (.deferred (some []))).alloc (.loop (rec .ready none)) = W1 := ⟨_, rfl⟩
  have hg' : a.eval g = .func (.func gf) #[] lb.toArray := hst.at_ g _ hg
  obtain ⟨gfn, hf1, hf2, hf3⟩ := hgf
  have eg : ∀ args w, (callFunc gf args).run P w = .ok (.enter gf args) w := fun args w => by
    have h2' : ¬ gfn.name = "runtime.NumGoroutine" := by simpa using hf2
    have h3' : ¬ gfn.body = none := by intro h; rw [h] at hf3; cases hf3
    simp [callFunc, hf1, h2', h3']
  have hgr : Grow w W1 := by
    rw [← hW1]; exact (Grow.alloc w _).trans (Grow.alloc _ _)
  have hL1 : W1.heap[w.heap.size + 1]? = some (.loop (rec .ready none)) := by
    rw [← hW1]; have := World.alloc_heap_new (w.alloc (.deferred (some []))) (.loop (rec .ready none)); rwa [World.size_alloc] at this
  have hK1 : W1.heap[w.heap.size]? = some (.deferred (some [])) := by
    rw [← hW1]; exact (Below.heap_alloc _ _ _ (by simp)).trans (World.alloc_heap_new w _)
  have hund : ∀ t, vbase ≤ t → a.tmps.getD t undef = undef := fun t ht => by
    rw [Array.getD_eq_getD_getElem?, Array.getElem?_eq_none (by rw [hst.size]; omega)]; rfl
  have hH0 : Holds w₀ (V 0) w := ⟨hb, hst.base, fun p hp => by
    have h1 := hst.of p.1 p.2 (h0 p (List.mem_append_left _ hp))
    rwa [hund _ (hV 0 p hp)] at h1⟩
  -- what holds between two rounds
  have hstS : ∀ (κ' : Cx) (i : Nat) (W : World) (a' : Act) (E' : Env), κ'.df = a'.defers → a'.tmps.size = n → Holds w₀ (V i) W → w.heap.size ≤ W.heap.size → (∀ t e, E'.look t = some e → e.Of W (a'.tmps.getD t undef) ∨ ((t, e) ∈ V i ++ S ∧ (t < vbase → a'.tmps.getD t undef = a.tmps.getD t undef))) → St κ' n w₀.heap.size E' a' W := by
    intro κ' i W a' E' hd hsz hH hs hE
    refine ⟨hH.2.1, hd.symm, hsz, fun t e he => ?_⟩
    rcases hE t e he with h | ⟨hm, hsame⟩
    · exact h
    · rcases List.mem_append.1 hm with hm | hm
      · have h1 := hH.2.2 _ hm
        have ht := hV i _ hm
        simp only at ht
        rwa [Array.getD_eq_getD_getElem?, Array.getElem?_eq_none (by rw [hsz]; omega)]
      · obtain ⟨ht, hk⟩ := hS _ hm
        rw [hsame ht]
        have h1 := hst.of t e (h0 _ (List.mem_append_right _ hm))
        rcases hk with ⟨x, hx⟩ | ⟨d, hd'⟩
        · simp only at hx; subst hx; exact h1
        · simp only at hd'; subst hd'
          exact ⟨hH.2.1, D.OfB.keep h1.2 (below_two hb hH.1 hs)⟩
  refine ⟨w.heap.size + 1, [{ target := .collected w.heap.size, args := #[] }], W1, { target := .fn (.func gf) lb.toArray, args := #[.func (.yield (w.heap.size + 1)) #[] #[]] }, W1, gf,
    #[.func (.yield (w.heap.size + 1)) #[] #[]] ++ lb.toArray, W1, ?_, ?_, fun _ _ => trivial, ?_, fun e => absurd e (by simp [FR, Fence.wide]), ?_⟩
  · rw [← hW1, hrec]; exact run_enterLoop_outer _ _ _ _ _
  · have hy : a.eval (.const (.func (.yield (w.heap.size + 1)) #[] #[])) = .func (.yield (w.heap.size + 1)) #[] #[] := rfl
    simp only [resolve, hg']
    simp [Deferred.ofValue, hy]
  · simp [invoke, eg]
  · have harr : (#[.func (.yield (w.heap.size + 1)) #[] #[]] ++ lb.toArray : Array Value) = (.func (.yield (w.heap.size + 1)) #[] #[] :: lb).toArray := by simp
    rw [harr]
    refine callsIn_FR.2 ((hseq (fun i W => Holds w₀ (V i) W ∧ W.heap[w.heap.size + 1]? = some (.loop (rec .ready none)) ∧ W.heap[w.heap.size]? = some (.deferred (some []))) (w.heap.size + 1) W1 ⟨?_, fun i W h => h.1, ?_⟩ ⟨hH0.grow hgr, hL1, hK1⟩).mono ?_)
    · rintro i x y ⟨h1, h2, h3⟩ k
      exact ⟨h1.grow k, (k.block _ (Array.getElem?_eq_some_iff.1 h2).1).trans h2, (k.block _ (Array.getElem?_eq_some_iff.1 h3).1).trans h3⟩
    · -- one round
      rintro i W u hi ⟨hH, hl, hk⟩ hu
      have hlt : w.heap.size + 1 < W.heap.size := (Array.getElem?_eq_some_iff.1 hl).1
      have hBl : w₀.heap.size ≤ w.heap.size + 1 := by have := hst.base; omega
      have hy := run_yield (P := P) (args := #[u]) hl (by rw [hrec]; rfl)
      rw [hrec] at hy
      refine ⟨fn, _, assign, body, hy, roundIn_of_wpIn (F := FR none) trivial ?_⟩
      have htm : (List.foldl (fun (tmps : Array Value) (x : Tmp × Value) => tmps.setIfInBounds x.1 x.2) a.tmps ((#[tp].zip #[u]).toList)) = a.tmps.setIfInBounds tp u := by simp
      have hsta : St ⟨some (w.heap.size + 1), []⟩ n w₀.heap.size ((tp, arg i) :: (V i ++ S)) { tmps := a.tmps.setIfInBounds tp u, defers := [] } W := by
        refine hstS _ i W _ _ rfl (by simp [hst.size]) hH (by omega) fun t e he => ?_
        by_cases hts : tp = t
        · subst hts
          rw [look_here] at he; injection he with he; subst he
          left
          have : tp < a.tmps.size := by rw [hst.size]; exact htp
          simpa [this] using hu
        · rw [look_past _ _ hts] at he
          exact .inr ⟨look_mem he, fun _ => by simp [Array.getElem?_setIfInBounds_ne hts]⟩
      have has := hassign i (w.heap.size + 1) _ W hi hsta
      have hrun0 : ({ tmps := Array.foldl (fun (tmps : Array Value) (x : Tmp × Value) => tmps.setIfInBounds x.1 x.2) a.tmps (#[tp].zip #[u]), defers := [] } : Act) = { tmps := a.tmps.setIfInBounds tp u, defers := [] } := by simp
      show assign.wpIn (FR (some (w.heap.size + 1))) 0 P _ _ W
      refine wpIn_mono (F := FR (some (w.heap.size + 1))) (n := 0) (by first | exact has | (rw [← hrun0] at has; exact has)) ?_
      rintro e a1 W2 ⟨rfl, hg2, hst2⟩
      have hl2 : W2.heap[w.heap.size + 1]? = some (.loop (rec .ready none)) := (hg2.block _ hlt).trans hl
      have hk2 : W2.heap[w.heap.size]? = some (.deferred (some [])) := (hg2.block _ (by omega)).trans hk
      have hH2 := hH.grow hg2
      have hlt2 : w.heap.size + 1 < W2.heap.size := (Array.getElem?_eq_some_iff.1 hl2).1
      refine ⟨_, run_beginRound hl2 (by rw [hrec]), ?_⟩
      have hl3 : (W2.putObj (w.heap.size + 1) (.loop { rec .ready none with state := .busy })).heap[w.heap.size + 1]? = some (.loop { rec .ready none with state := .busy }) := World.putObj_heap_same hlt2
      have hk3 : (W2.putObj (w.heap.size + 1) (.loop { rec .ready none with state := .busy })).heap[w.heap.size]? = some (.deferred (some [])) := (World.putObj_heap_other (by omega)).trans hk2
      have hH3 := hH2.putObj (.loop { rec .ready none with state := .busy }) hl2 rfl hBl (hfV i _ hBl)
      have hst3 : St ⟨some (w.heap.size + 1), []⟩ n w₀.heap.size ((vL, recD (w.heap.size + 1) (.loop { rec .ready none with state := .busy }) W.heap.size) :: (vD, recD w.heap.size (.deferred (some [])) 0) :: Eb i) a1 (W2.putObj (w.heap.size + 1) (.loop { rec .ready none with state := .busy })) := by
        refine ⟨hH3.2.1, hst2.defers, hst2.size, fun t e he => ?_⟩
        by_cases hts : vL = t
        · subst hts
          rw [look_here] at he; injection he with he; subst he
          exact ⟨by simpa using hlt2, by simpa using hg2.size, hl3⟩
        · rw [look_past _ _ hts] at he
          by_cases hts' : vD = t
          · subst hts'
            rw [look_here] at he; injection he with he; subst he
            exact ⟨by simp; omega, Nat.zero_le _, hk3⟩
          · rw [look_past _ _ hts'] at he
            exact hfE i _ hBl _ (look_mem he) W2 _ _ _ hl2 rfl (hst2.of t e he)
      refine wpIn_mono (F := FR (some (w.heap.size + 1))) (n := 0) (hbody i _ _ _ _ hi a1 _ hH3.1 hst3) ?_
      rintro e a3 W3 hp
      cases e with
      | normal =>
        obtain ⟨hb3, hs3, hv3⟩ := hp
        obtain ⟨hlt3, hm3, hl4⟩ := hv3 _ List.mem_cons_self
        obtain ⟨_, _, hk4⟩ := hv3 _ (List.mem_cons_of_mem _ List.mem_cons_self)
        have hH4 : Holds w₀ (V (i + 1)) W3 := ⟨hb3, hs3, fun p hp => hv3 p (List.mem_cons_of_mem _ (List.mem_cons_of_mem _ hp))⟩
        have hend := run_endRound (P := P) none hl4
        refine ⟨_, _, hend, rfl, ⟨hH4.putObj _ hl4 rfl hBl (hfV _ _ hBl), ?_, (World.putObj_heap_other (by omega)).trans hk4⟩, by simpa using hm3⟩
        have := World.putObj_heap_same (o := .loop { { rec .ready none with state := .busy } with state := .ready, pending := none }) hlt3
        rw [hrec] at this ⊢
        exact this
      | _ => exact hp.elim
    · -- behind it
      rintro e W2 ⟨⟨v, rfl⟩, hH, hl, hk⟩
      have hBl : w₀.heap.size ≤ w.heap.size + 1 := by have := hst.base; omega
      have hlt2 : w.heap.size + 1 < W2.heap.size := (Array.getElem?_eq_some_iff.1 hl).1
      have hel := run_endLoop (P := P) hl (by rw [hrec]; simp)
      refine ⟨none, _, by rw [hrec] at hel; exact hel, ?_⟩
      have hH3 := hH.putObj (.loop { state := .exhausted, pending := none, fn, tmps := a.tmps, params := #[tp], assign, body, defers := w.heap.size }) hl rfl hBl (hfV N _ hBl)
      refine hend w.heap.size hst.base _ _ hH3.1 (hstS _ N _ _ _ (by simp [hst.defers]) hst.size hH3 (by simp; omega) fun t e he => ?_)
      by_cases hts : vD = t
      · subst hts
        rw [look_here] at he; injection he with he; subst he
        exact .inl ⟨by simp; omega, Nat.zero_le _, (World.putObj_heap_other (by omega)).trans hk⟩
      · rw [look_past _ _ hts] at he
        exact .inr ⟨look_mem he, fun _ => rfl⟩

/-- A function value with captured pointers. -/
theorem ok_makeFunc2 {B : Nat} {dst : Option Tmp} {guard : Option (Nat × Bool)} {f : FuncId} {x y : Operand} {u v : Value} (hx : E.at x = some (.v u)) (hy : E.at y = some (.v v)) :
    OpOk P B ⟨dst, .makeFunc (.func f) #[] #[x, y], ty, pos, after, guard⟩ E (.v (.func (.func f) #[] #[u, v])) := fun ρ w _ _ hρ => by
  have h1 : ρ x = _ := hρ x (by simp [Op.operands]) _ hx
  have h2 : ρ y = _ := hρ y (by simp [Op.operands]) _ hy
  exact out_val (w' := w) (by simp [execOp, h1, h2, Instr.makeFunc]) ⟨Grow.refl w, rfl⟩
/-- A function value that holds two variables of its own, new ones. -/
def closD (base f : Nat) (e₁ e₂ : TypeId) (u₁ u₂ : Value) : D :=
  .p (fun B w x => ∃ p q, base ≤ p ∧ p < q ∧ q < B ∧ x = .func (.func f) #[] #[.pointer (some ⟨p, 0, none⟩), .pointer (some ⟨q, 0, none⟩)] ∧ w.heap[p]? = some (.cells #[u₁] e₁ (0, 0)) ∧ w.heap[q]? = some (.cells #[u₂] e₂ (0, 0)))
    (fun _ _ _ _ g ⟨p, q, h1, h2, h3, h4, h5, h6⟩ => ⟨p, q, h1, h2, h3, h4, (g.block p (by omega)).trans h5, (g.block q h3).trans h6⟩) (fun _ _ _ _ g ⟨p, q, h1, h2, h3, h4, h5, h6⟩ => ⟨p, q, h1, h2, by omega, h4, h5, h6⟩)
theorem closD_mono {f : Nat} {e₁ e₂ : TypeId} {u₁ u₂ : Value} (B B' : Nat) (h : B ≤ B') : Le (closD B' f e₁ e₂ u₁ u₂) (closD B f e₁ e₂ u₁ u₂) := fun _ _ _ ⟨p, q, h1, h2⟩ => ⟨p, q, by omega, h2⟩
theorem End.clos {fn : Func} {r k₁ k₂ p q f : Nat} {e₁ e₂ : TypeId} {u₁ u₂ : Value} (hr : fn.results = #[.tmp r]) (hp : w₀.heap.size ≤ p) (hpq : p < q) (ht : E.look r = some (.v (.func (.func f) #[] #[.pointer (some ⟨p, 0, none⟩), .pointer (some ⟨q, 0, none⟩)])))
    (h1 : E.look k₁ = some (blk p e₁ [u₁])) (h2 : E.look k₂ = some (blk q e₂ [u₂])) : End Cx.top w₀ n E (BP P fn (PostOf w₀ (closD w₀.heap.size f e₁ e₂ u₁ u₂)) .ret) := fun a w g hs => by
  obtain ⟨_, h4⟩ := hs.of k₁ _ h1
  obtain ⟨h5, h6⟩ := hs.of k₂ _ h2
  exact BP.ret hs.defers ⟨a.tmps.getD r undef, by simp [results, hr], _, rfl, g, p, q, hp, hpq, h5, hs.of r _ ht, h4, h6⟩
theorem A.openClos {c : Code} {Q : Exit → Act → World → Prop} {t k₁ k₂ f : Nat} {e₁ e₂ : TypeId} {u₁ u₂ : Value} {B : Nat} (ht : E.look t = some (closD B f e₁ e₂ u₁ u₂))
    (h : ∀ p q, B ≤ p → p < q → A κ P w₀ n c ((t, .v (.func (.func f) #[] #[.pointer (some ⟨p, 0, none⟩), .pointer (some ⟨q, 0, none⟩)])) :: (k₁, blk p e₁ [u₁]) :: (k₂, blk q e₂ [u₂]) :: E) Q) : A κ P w₀ n c E Q := fun a w g hs => by
  obtain ⟨p, q, h1, h2, h3, h4, h5, h6⟩ := hs.of t _ ht
  refine h p q h1 h2 a w g ⟨hs.base, hs.defers, hs.size, fun s d hd => ?_⟩
  by_cases hts : t = s
  · subst hts
    rw [look_here] at hd; injection hd with hd; subst hd; exact h4
  · rw [look_past _ _ hts] at hd
    by_cases hks : k₁ = s
    · subst hks
      rw [look_here] at hd; injection hd with hd; subst hd
      exact ⟨Nat.lt_trans h2 h3, h5⟩
    · rw [look_past _ _ hks] at hd
      by_cases hks' : k₂ = s
      · subst hks'
        rw [look_here] at hd; injection hd with hd; subst hd
        exact ⟨h3, h6⟩
      · rw [look_past _ _ hks'] at hd
        exact hs.of s d hd
/-- return of a variable's value, from a function in which a range over a function ended. -/
theorem End.cell1C {fn : Func} {D vD r s b : Nat} {T e : TypeId} {td : TypeDesc} {xs : List Value} {d : Go.Proofs.YthadcgkcgpinhaaGreatDoor.D} {m : Nat} (hD : E.look vD = some (recD D (.deferred (some [])) m)) (hDB : w₀.heap.size ≤ D) (hr : fn.results = #[.cell r T]) (ht : P.underlying T = some td) (hp : (match td with | .struct _ | .array _ _ => true | _ => false) = true) (hsz : SizeIs P T xs.length)
    (h1 : E.look r = some (.v (.pointer (some ⟨b, 0, none⟩)))) (h2 : E.look s = some (blk b e xs)) (hl : ∀ w, d.Of w (aggV xs)) : End ⟨none, [{ target := .collected D, args := #[] }]⟩ w₀ n E (BP P fn (PostOf w₀ d) .ret) := fun a w g hs => by
  have h3 : a.tmps[r]?.getD undef = .pointer (some ⟨b, 0, none⟩) := by rw [← Array.getD_eq_getD_getElem?]; exact hs.of r _ h1
  obtain ⟨hlt, _, hk⟩ := hs.of vD _ hD
  obtain ⟨_, hh⟩ := hs.of s _ h2
  have hne : b ≠ D := fun h => by subst h; rw [hh] at hk; cases hk
  have hh' : (w.putObj D (.deferred none)).heap[b]? = some (.cells xs.toArray e (0, 0)) := (World.putObj_heap_other hne).trans hh
  have := run_loadVar_row (P := P) (w.putObj D (.deferred none)) b e T xs.toArray (0, 0) td hh' ht hp (by simpa [SizeIs] using hsz)
  show LeavesInM (FR none) 0 P fn a.tmps _ a.defers .returning w
  rw [show a.defers = [{ target := .collected D, args := #[] }] from hs.defers]
  refine ⟨by simp, .inl ⟨D, _, rfl, run_takeDeferred hk, ?_⟩⟩
  refine ⟨aggV xs, by simp [results, hr, h3, asAddr, this, aggV], _, rfl, ?_, hl _⟩
  exact Below.trans g (below_putObj w _ hDB)
end
end Go.Proofs.YthadcgkcgpinhaaGreatDoor
namespace Go.Proofs.YthadcgkcgpinhaaGreatDoor
open Go Go.RowKit
set_option linter.unusedVariables false
set_option maxRecDepth 20000
/-- What the package's tables hold. -/
abbrev tabs : Env := [(1900000, tab 0 (H8.list.map u32V)), (1900001, tab 1 (K64.map u32V))]
theorem tabs_v : ∀ p ∈ tabs, vbase ≤ p.1 := fun p hp => by
 simp only [tabs, List.mem_cons, List.not_mem_nil, or_false] at hp
 rcases hp with rfl | rfl <;> decide
theorem tabs_hi {w : World} (h : ∀ p ∈ tabs, p.2.Of w undef) : 1 < w.heap.size := by
 have := h (1900001, tab 1 (K64.map u32V)) (by simp [tabs])
 exact this.1

theorem zero103 : ZeroIs Tryz.prog 103 (List.replicate 64 (.int .u8 0)) := by unfold ZeroIs; kernel_rfl
theorem size103 : SizeIs Tryz.prog 103 64 := by unfold SizeIs; kernel_rfl
theorem rotr_fn (x : UInt32) (n : Nat) (hn0 : 0 < n) (hn : n < 32) : Fn Tryz.prog 103 [.v (u32V x), .v (.int .i64 (n : Int))] (.v (u32V (rotr32 x n))) := by
 have hx := u32_lt x
 refine Fn.of Tryz.func103 rfl (by kernel_rfl) Tryz.ntmps103 (by simp) (fun w => [(0, .v (u32V x)), (1, .v (.int .i64 (n : Int)))]) (fun w => (Start.v rfl (Start.v rfl Start.nil))) fun w₀ => ?_
 refine GS ?_
 refine TL ?_
 refine RA rfl ?_
 refine RN ?_
 refine GS ?_
 refine TL ?_
 refine RM rfl ?_
 refine RM rfl ?_
 refine RS (ok_neg rfl) ?_; refine RZ (.int .i64 (-(n : Int))) (by rw [wrap_i64 (by omega) (by omega)]; congr 1; omega) ?_
 refine RS (ok_call (Rot_fn (x.toNat : Int) (-(n : Int)) (Int.natCast_nonneg _) (by omega)) (A2 rfl rfl)) ?_; refine RZ (u32V (rotr32 x n)) (by rw [rotr32_val, Int.toNat_natCast, show (-(n : Int) % 32).toNat = 32 - n from by omega]) ?_
 refine RA rfl ?_
 refine RN ?_
 refine A.ret ?_
 exact End.ret1 rfl rfl (by first | exact Le.refl _ | exact Le.old _ _)
set_option maxHeartbeats 400000 in
theorem schedule_fn (l : List UInt8) (hl : l.length = 64) : Fn Tryz.prog 95 [.v (aggV (l.map byteV))] (.v (aggV ((sched l 64).map u32V))) := by
 refine Fn.of Tryz.func95 rfl (by kernel_rfl) Tryz.ntmps95 (by simp) (fun w => [(0, .v (aggV (l.map byteV)))]) (fun w => (Start.v rfl Start.nil)) fun w₀ => ?_
 refine GS ?_
 refine TN 0 ?_
 refine RN ?_
 refine ⟨_, _, eff_box (n := 70) (d := 1) (k := 1000001) rfl (by decide), fun b1 hb1 => ?_⟩
 have hBb1 := hb1.1
 refine TN 1 ?_
 refine RN ?_
 refine ⟨_, _, eff_alloc (n := 70) (d := 2) (k := 1000002) zero118 (by decide), fun b2 hb2 => ?_⟩
 have hBb2 := hb2.1
 refine TL ?_
 refine RN ?_
 refine GS ?_
 refine TN 0 ?_
 refine RN ?_
 refine ⟨_, _, eff_alloc (n := 70) (d := 3) (k := 1000003) zero118 (by decide), fun b3 hb3 => ?_⟩
 have hBb3 := hb3.1
 have hlt_b2_b3 : b2 < b3 := hb3.2 1000002 _ _ _ rfl
 refine TL ?_
 refine RN ?_
 refine A.seq ?_
 refine GS ?_
 refine TL ?_
 refine RM rfl ?_
 refine RN ?_
 refine A.block ?_
 refine A.loop (ι := Nat) (fun j => j ≤ 16) (fun j => [(1, .v (.pointer (some ⟨b1, 0, none⟩))), (2, .v (.pointer (some ⟨b2, 0, none⟩))), (3, .v (.pointer (some ⟨b3, 0, none⟩))), (10, .v (.int .i64 ((j : Nat) : Int))), (1000001, blk b1 103 (l.map byteV)), (1000002, blk b2 118 (List.replicate 64 (.int .u32 0))), (1000003, blk b3 118 (table (sched l j) 64))]) (fun j => 16 - j) 0 ?_ ?_ ?_
 ·exact Nat.zero_le _
 ·exact (KC 1 rfl (KC 2 rfl (KC 3 rfl (KC 10 rfl (KC 1000001 rfl (KC 1000002 rfl (KE 1000003 rfl (rfl) KN)))))))
 intro j hj
 refine GS ?_
 refine TL ?_
 refine RB rfl rfl rfl ?_
 refine RN ?_
 refine A.seq ?_
 refine A.cond rfl (fun hc11 => ?_) (fun hc11 => ?_)
 ·have hlt : j < 16 := by simp at hc11; omega
  refine A.skip ?_
  refine EN ?_
  refine A.seq ?_
  refine A.block ?_
  refine GS ?_
  refine TL ?_
  refine RM rfl ?_
  refine RA rfl ?_
  refine RN ?_
  refine GE ?_
  refine TF 12 ?_
  refine RM rfl ?_
  refine RM rfl ?_
  refine RBS rfl rfl rfl (.int .i64 ((4 * j : Nat) : Int)) (by rw [wrap_i64 (by omega) (by omega)]; first | rfl | (congr 1; omega)) ?_
  refine RM rfl ?_
  refine RBS rfl rfl rfl (.int .i64 ((j + 1 : Nat) : Int)) (by rw [wrap_i64 (by omega) (by omega)]; first | rfl | (congr 1; omega)) ?_
  refine RBS rfl rfl rfl (.int .i64 ((4 * j + 4 : Nat) : Int)) (by rw [wrap_i64 (by omega) (by omega)]; first | rfl | (congr 1; omega)) ?_
  refine RS (ok_sliceA (s := 1000001) (4 * j) (4 * j + 4) (by decide) Tryz.underlying103 info5 rfl rfl (.inl ⟨_, _, rfl, rfl⟩) (.inl ⟨_, _, rfl, rfl⟩) (by omega) (by omega) (by rw [List.length_map, hl]) (by decide)) ?_
  refine RS (ok_call (Get32_fn ((l.drop (4 * j)).take 4)) (Args.cons rfl (Le.eq (by rw [byt_vals]; congr 2; rw [List.map_take, List.map_drop, List.drop_take, show 4 * j + 4 - 4 * j = 4 from by omega])) Args.nil)) ?_
  refine RM rfl ?_
  refine RS (ok_extract rfl rfl) ?_; refine RZ (u32V (nextW l (sched l j) j)) (by rw [nextW, if_pos hlt, word, u32V_ofNat, getV, if_pos (by simp; omega), Nat.mod_eq_of_lt (word_lt l j)]) ?_
  refine RS (ok_extract rfl rfl) ?_
  refine RS (ok_index0 _ Tryz.underlying118 info27 rfl rfl (rfl) (by omega)) ?_
  refine RN ?_
  refine ⟨_, eff_storeS (n := 70) (s := 1000003) info27 rfl rfl rfl hBb3 rfl (by rw [table_length (by rw [sched_length]; omega)]; omega) (LV 1 rfl (LV 2 rfl (LV 3 rfl (LV 10 rfl (LT 1000001 rfl (LB 1000002 rfl LN)))))), ?_⟩
  refine TL ?_
  refine RN ?_
  refine End.normal_block ?_
  refine EN ?_
  refine GE ?_
  refine TL ?_
  refine RBS rfl rfl rfl (.int .i64 ((j + 1 : Nat) : Int)) (by rw [wrap_i64 (by omega) (by omega)]; first | rfl | (congr 1; omega)) ?_
  refine RM rfl ?_
  refine RN ?_
  refine End.normal_then ?_
  refine End.again (j + 1) ?_ ?_ ?_
  ·show _ ≤ _; omega
  ·show _ - _ < _ - _; omega
  ·exact (KC 1 rfl (KC 2 rfl (KC 3 rfl (KC 10 rfl (KC 1000001 rfl (KC 1000002 rfl (KE 1000003 rfl (by rw [table_set (sched_length l j) (by omega)]; rfl) KN)))))))
 ·obtain rfl : j = 16 := by simp at hc11; omega
  refine A.exit ?_
  refine End.exit_then ?_
  refine End.exit_then ?_
  refine End.exit_here ?_
  refine EN ?_
  refine A.seq ?_
  refine GS ?_
  refine TL ?_
  refine RA rfl ?_
  refine RN ?_
  refine A.block ?_
  refine A.loop (ι := Nat) (fun j => 16 ≤ j ∧ j ≤ 64) (fun j => [(2, .v (.pointer (some ⟨b2, 0, none⟩))), (3, .v (.pointer (some ⟨b3, 0, none⟩))), (5, .v (.int .i64 ((j : Nat) : Int))), (1000002, blk b2 118 (List.replicate 64 (.int .u32 0))), (1000003, blk b3 118 (table (sched l j) 64))]) (fun j => 64 - j) 16 ?_ ?_ ?_
  ·exact ⟨Nat.le_refl _, by decide⟩
  ·exact (KC 2 rfl (KC 3 rfl (KC 5 rfl (KC 1000002 rfl (KC 1000003 rfl KN)))))
  intro j hj
  refine A.seq ?_
  refine GS ?_
  refine TL ?_
  refine RM rfl ?_
  refine RB rfl rfl rfl ?_
  refine RN ?_
  refine A.cond rfl (fun hc27 => ?_) (fun hc27 => ?_)
  ·have hlt : j < 64 := by simp at hc27; omega
   refine A.skip ?_
   refine EN ?_
   refine A.seq ?_
   refine A.block ?_
   refine GD ?_
   refine TL ?_
   refine RM rfl ?_
   refine RBS rfl rfl rfl (.int .i64 ((j - 15 : Nat) : Int)) (by rw [wrap_i64 (by omega) (by omega)]; first | rfl | (congr 1; omega)) ?_
   refine RS (ok_index0 _ Tryz.underlying118 info27 rfl rfl (rfl) (by omega)) ?_
   refine RS (ok_loadV (s := 1000003) (by decide) Tryz.underlying27 rfl rfl rfl (table_get (by rw [sched_length]; omega))) ?_
   refine RM rfl ?_
   refine RBS rfl rfl rfl (.int .i64 ((j - 2 : Nat) : Int)) (by rw [wrap_i64 (by omega) (by omega)]; first | rfl | (congr 1; omega)) ?_
   refine RS (ok_index0 _ Tryz.underlying118 info27 rfl rfl (rfl) (by omega)) ?_
   refine RS (ok_loadV (s := 1000003) (by decide) Tryz.underlying27 rfl rfl rfl (table_get (by rw [sched_length]; omega))) ?_
   refine RA rfl ?_
   refine RA rfl ?_
   refine RN ?_
   refine GS ?_
   refine TL ?_
   refine RM rfl ?_
   refine RS (ok_call (rotr_fn _ 7 (by decide) (by decide)) (A2 rfl rfl)) ?_
   refine RM rfl ?_
   refine RS (ok_call (rotr_fn _ 18 (by decide) (by decide)) (A2 rfl rfl)) ?_
   refine RS (ok_xor32 rfl rfl) ?_
   refine RM rfl ?_
   refine RS (ok_shr32 3 rfl rfl rfl (by decide)) ?_
   refine RS (ok_xor32 rfl rfl) ?_
   refine RA rfl ?_
   refine RN ?_
   refine GS ?_
   refine TL ?_
   refine RM rfl ?_
   refine RS (ok_call (rotr_fn _ 17 (by decide) (by decide)) (A2 rfl rfl)) ?_
   refine RM rfl ?_
   refine RS (ok_call (rotr_fn _ 19 (by decide) (by decide)) (A2 rfl rfl)) ?_
   refine RS (ok_xor32 rfl rfl) ?_
   refine RM rfl ?_
   refine RS (ok_shr32 10 rfl rfl rfl (by decide)) ?_
   refine RS (ok_xor32 rfl rfl) ?_
   refine RA rfl ?_
   refine RN ?_
   refine A.sub (KC 2 rfl (KC 3 rfl (KC 5 rfl (KC 8 rfl (KC 9 rfl (KC 1000002 rfl (KC 1000003 rfl KN))))))) ?_
   refine A.reg (by kernel_rfl) (by kernel_rfl) (.inr (by kernel_rfl)) ?_
   refine TD 15 ?_
   refine RM rfl ?_
   refine RM rfl ?_
   refine RM rfl ?_
   refine RBS rfl rfl rfl (.int .i64 ((j - 7 : Nat) : Int)) (by rw [wrap_i64 (by omega) (by omega)]; first | rfl | (congr 1; omega)) ?_
   refine RS (ok_index0 _ Tryz.underlying118 info27 rfl rfl (rfl) (by omega)) ?_
   refine RS (ok_loadV (s := 1000003) (by decide) Tryz.underlying27 rfl rfl rfl (table_get (by rw [sched_length]; omega))) ?_
   refine RS (ok_add32 rfl rfl) ?_
   refine RM rfl ?_
   refine RS (ok_add32 rfl rfl) ?_
   refine RM rfl ?_
   refine RBS rfl rfl rfl (.int .i64 ((j - 16 : Nat) : Int)) (by rw [wrap_i64 (by omega) (by omega)]; first | rfl | (congr 1; omega)) ?_
   refine RS (ok_index0 _ Tryz.underlying118 info27 rfl rfl (rfl) (by omega)) ?_
   refine RS (ok_loadV (s := 1000003) (by decide) Tryz.underlying27 rfl rfl rfl (table_get (by rw [sched_length]; omega))) ?_
   refine RS (ok_add32 rfl rfl) ?_; refine RZ (u32V (nextW l (sched l j) j)) (by rw [nextW, if_neg (by omega), sha0, sha1]; congr 1; ac_rfl) ?_
   refine RS (ok_index0 _ Tryz.underlying118 info27 rfl rfl (rfl) (by omega)) ?_
   refine RN ?_
   refine ⟨_, eff_storeS (n := 70) (s := 1000003) info27 rfl rfl rfl hBb3 rfl (by rw [table_length (by rw [sched_length]; omega)]; omega) (LV 2 rfl (LV 3 rfl (LV 5 rfl (LB 1000002 rfl LN)))), ?_⟩
   refine TL ?_
   refine RN ?_
   refine End.normal_block ?_
   refine EN ?_
   refine GE ?_
   refine TL ?_
   refine RM rfl ?_
   refine RBS rfl rfl rfl (.int .i64 ((j + 1 : Nat) : Int)) (by rw [wrap_i64 (by omega) (by omega)]; first | rfl | (congr 1; omega)) ?_
   refine RA rfl ?_
   refine RN ?_
   refine End.normal_then ?_
   refine End.again (j + 1) ?_ ?_ ?_
   ·show _ ∧ _; omega
   ·show _ - _ < _ - _; omega
   ·exact (KC 2 rfl (KC 3 rfl (KC 5 rfl (KC 1000002 rfl (KE 1000003 rfl (by rw [table_set (sched_length l j) hlt]; rfl) KN)))))
  ·obtain rfl : j = 64 := by simp at hc27; omega
   refine A.exit ?_
   refine End.exit_then ?_
   refine End.exit_then ?_
   refine End.exit_here ?_
   refine EN ?_
   refine GS ?_
   refine TF 1 ?_
   refine RS (ok_loadA (s := 1000003) (by decide) Tryz.underlying118 rfl (size118.of (by rw [table_length (by rw [sched_length]; exact Nat.le_refl _)])) rfl rfl) ?_; refine RZ (aggV ((sched l 64).map u32V)) (by rw [table_full (sched_length l 64)]) ?_
   refine RN ?_
   refine ⟨_, eff_storeA (n := 70) (s := 1000002) (size118.of (by rw [List.length_map, sched_length])) rfl rfl (all_u32 _) hBb2 rfl (by rw [List.length_map, sched_length, List.length_replicate]) (LV 2 rfl (LB 1000003 rfl LN)), ?_⟩
   refine TL ?_
   refine RN ?_
   refine A.ret ?_
   exact End.cell1 (s := 1000002) rfl Tryz.underlying118 rfl (size118.of (by rw [List.length_map, sched_length])) rfl rfl (Le.refl _)
set_option maxHeartbeats 400000 in
theorem rounds_fn (h : R8) (ws : List UInt32) (hw : ws.length = 64) : FnM Tryz.prog 94 tabs [.v (aggV (h.list.map u32V)), .v (aggV (ws.map u32V))] (.v (aggV ((rounds h K64 ws 64).list.map u32V))) := by
 refine FnM.of Tryz.func94 rfl (by kernel_rfl) Tryz.ntmps94 (by simp) (by decide) (fun w => [(0, .v (aggV (h.list.map u32V))), (1, .v (aggV (ws.map u32V))), (1900000, tab 0 (H8.list.map u32V)), (1900001, tab 1 (K64.map u32V))]) (fun w => (StartM.v rfl (StartM.v rfl (StartM.m (by simp [tabs]) (by decide) (StartM.m (by simp [tabs]) (by decide) StartM.nil))))) fun w₀ hM => ?_
 have htab := tabs_hi hM
 refine GS ?_
 refine TN 0 ?_
 refine RN ?_
 refine ⟨_, _, eff_box (n := 105) (d := 2) (k := 1000002) rfl (by decide), fun b2 hb2 => ?_⟩
 have hBb2 := hb2.1
 refine TN 1 ?_
 refine RN ?_
 refine ⟨_, _, eff_box (n := 105) (d := 3) (k := 1000003) rfl (by decide), fun b3 hb3 => ?_⟩
 have hBb3 := hb3.1
 refine TN 2 ?_
 refine RN ?_
 refine ⟨_, _, eff_alloc (n := 105) (d := 4) (k := 1000004) zero105 (by decide), fun b4 hb4 => ?_⟩
 have hBb4 := hb4.1
 have hlt_b2_b4 : b2 < b4 := hb4.2 1000002 _ _ _ rfl
 refine TL ?_
 refine RN ?_
 refine GD ?_
 refine TL ?_
 refine RS (ok_index0 (0) Tryz.underlying105 info27 rfl rfl (rfl) (by decide)) ?_
 refine RS (ok_loadV (s := 1000002) (by decide) Tryz.underlying27 rfl rfl rfl (rfl)) ?_
 refine RS (ok_index0 (1) Tryz.underlying105 info27 rfl rfl (rfl) (by decide)) ?_
 refine RS (ok_loadV (s := 1000002) (by decide) Tryz.underlying27 rfl rfl rfl (rfl)) ?_
 refine RS (ok_index0 (2) Tryz.underlying105 info27 rfl rfl (rfl) (by decide)) ?_
 refine RS (ok_loadV (s := 1000002) (by decide) Tryz.underlying27 rfl rfl rfl (rfl)) ?_
 refine RS (ok_index0 (3) Tryz.underlying105 info27 rfl rfl (rfl) (by decide)) ?_
 refine RS (ok_loadV (s := 1000002) (by decide) Tryz.underlying27 rfl rfl rfl (rfl)) ?_
 refine RS (ok_index0 (4) Tryz.underlying105 info27 rfl rfl (rfl) (by decide)) ?_
 refine RS (ok_loadV (s := 1000002) (by decide) Tryz.underlying27 rfl rfl rfl (rfl)) ?_
 refine RS (ok_index0 (5) Tryz.underlying105 info27 rfl rfl (rfl) (by decide)) ?_
 refine RS (ok_loadV (s := 1000002) (by decide) Tryz.underlying27 rfl rfl rfl (rfl)) ?_
 refine RS (ok_index0 (6) Tryz.underlying105 info27 rfl rfl (rfl) (by decide)) ?_
 refine RS (ok_loadV (s := 1000002) (by decide) Tryz.underlying27 rfl rfl rfl (rfl)) ?_
 refine RS (ok_index0 (7) Tryz.underlying105 info27 rfl rfl (rfl) (by decide)) ?_
 refine RS (ok_loadV (s := 1000002) (by decide) Tryz.underlying27 rfl rfl rfl (rfl)) ?_
 refine RA rfl ?_
 refine RA rfl ?_
 refine RA rfl ?_
 refine RA rfl ?_
 refine RA rfl ?_
 refine RA rfl ?_
 refine RA rfl ?_
 refine RA rfl ?_
 refine RN ?_
 refine A.sub (KC 3 rfl (KC 4 rfl (KC 5 rfl (KC 6 rfl (KC 7 rfl (KC 8 rfl (KC 9 rfl (KC 10 rfl (KC 11 rfl (KC 12 rfl (KC 1000002 rfl (KC 1000003 rfl (KC 1000004 rfl (KC 1900000 rfl (KC 1900001 rfl KN))))))))))))))) ?_
 refine A.seq ?_
 refine GS ?_
 refine TL ?_
 refine RS (ok_loadT (s := 1900001) (by decide) Tryz.underlying118 rfl (size118.of (by rw [List.length_map, K64_lit])) rfl rfl) ?_
 refine RM rfl ?_
 refine RN ?_
 refine A.block ?_
 refine A.loop (ι := Nat) (fun i => i ≤ 64) (fun i => [(3, .v (.pointer (some ⟨b3, 0, none⟩))), (4, .v (.pointer (some ⟨b4, 0, none⟩))), (5, .v (u32V (rounds h K64 ws i).a)), (6, .v (u32V (rounds h K64 ws i).b)), (7, .v (u32V (rounds h K64 ws i).c)), (8, .v (u32V (rounds h K64 ws i).d)), (9, .v (u32V (rounds h K64 ws i).e)), (10, .v (u32V (rounds h K64 ws i).f)), (11, .v (u32V (rounds h K64 ws i).g)), (12, .v (u32V (rounds h K64 ws i).h)), (33, .v (aggV (K64.map u32V))), (34, .v (.int .i64 ((i : Nat) : Int))), (1000003, blk b3 118 (ws.map u32V)), (1000004, blk b4 105 (List.replicate 8 (.int .u32 0))), (1900000, tab 0 (H8.list.map u32V)), (1900001, tab 1 (K64.map u32V))]) (fun i => 64 - i) 0 ?_ ?_ ?_
 ·exact Nat.zero_le _
 ·exact (KC 3 rfl (KC 4 rfl (KC 5 rfl (KC 6 rfl (KC 7 rfl (KC 8 rfl (KC 9 rfl (KC 10 rfl (KC 11 rfl (KC 12 rfl (KC 33 rfl (KC 34 rfl (KC 1000003 rfl (KC 1000004 rfl (KC 1900000 rfl (KC 1900001 rfl KN))))))))))))))))
 intro i hi
 refine GS ?_
 refine TL ?_
 refine RB rfl rfl rfl ?_
 refine RN ?_
 refine A.seq ?_
 refine A.cond rfl (fun hc35 => ?_) (fun hc35 => ?_)
 ·have hlt : i < 64 := by simp at hc35; omega
  refine A.skip ?_
  refine EN ?_
  refine A.seq ?_
  refine A.block ?_
  refine GS ?_
  refine TL ?_
  refine RM rfl ?_
  refine RS (ok_indexV1 i Tryz.underlying118 Tryz.underlying27 rfl info27 rfl rfl rfl hlt (map_get32 (by rw [K64_lit]; omega))) ?_
  refine RA rfl ?_
  refine RA rfl ?_
  refine RN ?_
  refine GD ?_
  refine TL ?_
  refine RM rfl ?_
  refine RM rfl ?_
  refine RS (ok_call (rotr_fn _ 6 (by decide) (by decide)) (A2 rfl rfl)) ?_
  refine RM rfl ?_
  refine RS (ok_call (rotr_fn _ 11 (by decide) (by decide)) (A2 rfl rfl)) ?_
  refine RS (ok_xor32 rfl rfl) ?_
  refine RM rfl ?_
  refine RS (ok_call (rotr_fn _ 25 (by decide) (by decide)) (A2 rfl rfl)) ?_
  refine RS (ok_xor32 rfl rfl) ?_
  refine RS (ok_add32 rfl rfl) ?_
  refine RM rfl ?_
  refine RM rfl ?_
  refine RS (ok_and32 rfl rfl) ?_
  refine RM rfl ?_
  refine RS (ok_not32 rfl) ?_
  refine RM rfl ?_
  refine RS (ok_and32 rfl rfl) ?_
  refine RS (ok_xor32 rfl rfl) ?_
  refine RS (ok_add32 rfl rfl) ?_
  refine RM rfl ?_
  refine RS (ok_add32 rfl rfl) ?_
  refine RM rfl ?_
  refine RS (ok_index0 _ Tryz.underlying118 info27 rfl rfl (rfl) (by omega)) ?_
  refine RS (ok_loadV (s := 1000003) (by decide) Tryz.underlying27 rfl rfl rfl (map_get32 (by omega))) ?_
  refine RS (ok_add32 rfl rfl) ?_
  refine RA rfl ?_
  refine RN ?_
  refine A.sub (KC 3 rfl (KC 4 rfl (KC 5 rfl (KC 6 rfl (KC 7 rfl (KC 8 rfl (KC 9 rfl (KC 10 rfl (KC 11 rfl (KC 15 rfl (KC 33 rfl (KC 34 rfl (KC 1000003 rfl (KC 1000004 rfl (KC 1900000 rfl (KC 1900001 rfl KN)))))))))))))))) ?_
  refine GS ?_
  refine TL ?_
  refine RM rfl ?_
  refine RS (ok_call (rotr_fn _ 2 (by decide) (by decide)) (A2 rfl rfl)) ?_
  refine RM rfl ?_
  refine RS (ok_call (rotr_fn _ 13 (by decide) (by decide)) (A2 rfl rfl)) ?_
  refine RS (ok_xor32 rfl rfl) ?_
  refine RM rfl ?_
  refine RS (ok_call (rotr_fn _ 22 (by decide) (by decide)) (A2 rfl rfl)) ?_
  refine RS (ok_xor32 rfl rfl) ?_
  refine RM rfl ?_
  refine RM rfl ?_
  refine RS (ok_and32 rfl rfl) ?_
  refine RM rfl ?_
  refine RM rfl ?_
  refine RS (ok_and32 rfl rfl) ?_
  refine RS (ok_xor32 rfl rfl) ?_
  refine RM rfl ?_
  refine RM rfl ?_
  refine RS (ok_and32 rfl rfl) ?_
  refine RS (ok_xor32 rfl rfl) ?_
  refine RS (ok_add32 rfl rfl) ?_
  refine RA rfl ?_
  refine RN ?_
  refine GE ?_
  refine TL ?_
  refine RM rfl ?_
  refine RM rfl ?_
  refine RM rfl ?_
  refine RM rfl ?_
  refine RM rfl ?_
  refine RS (ok_add32 rfl rfl) ?_
  refine RM rfl ?_
  refine RM rfl ?_
  refine RM rfl ?_
  refine RM rfl ?_
  refine RM rfl ?_
  refine RS (ok_add32 rfl rfl) ?_
  refine RA rfl ?_
  refine RA rfl ?_
  refine RA rfl ?_
  refine RA rfl ?_
  refine RA rfl ?_
  refine RA rfl ?_
  refine RA rfl ?_
  refine RA rfl ?_
  refine RN ?_
  refine End.sub (KC 3 rfl (KC 4 rfl (KC 5 rfl (KC 6 rfl (KC 7 rfl (KC 8 rfl (KC 9 rfl (KC 10 rfl (KC 11 rfl (KC 12 rfl (KC 33 rfl (KC 34 rfl (KC 1000003 rfl (KC 1000004 rfl (KC 1900000 rfl (KC 1900001 rfl KN)))))))))))))))) ?_
  refine End.normal_block ?_
  refine EN ?_
  refine GE ?_
  refine TL ?_
  refine RBS rfl rfl rfl (.int .i64 ((i + 1 : Nat) : Int)) (by rw [wrap_i64 (by omega) (by omega)]; first | rfl | (congr 1; omega)) ?_
  refine RM rfl ?_
  refine RN ?_
  refine End.normal_then ?_
  refine End.again (i + 1) ?_ ?_ ?_
  ·show _ ≤ _; omega
  ·show _ - _ < _ - _; omega
  ·exact (KC 3 rfl (KC 4 rfl (KC 5 rfl (KC 6 rfl (KC 7 rfl (KC 8 rfl (KC 9 rfl (KC 10 rfl (KC 11 rfl (KC 12 rfl (KC 33 rfl (KC 34 rfl (KC 1000003 rfl (KC 1000004 rfl (KC 1900000 rfl (KC 1900001 rfl KN))))))))))))))))
 ·obtain rfl : i = 64 := by simp at hc35; omega
  refine A.exit ?_
  refine End.exit_then ?_
  refine End.exit_then ?_
  refine End.exit_here ?_
  refine EN ?_
  refine GS ?_
  refine TF 9 ?_
  refine RM rfl ?_
  refine RM rfl ?_
  refine RM rfl ?_
  refine RM rfl ?_
  refine RM rfl ?_
  refine RM rfl ?_
  refine RM rfl ?_
  refine RM rfl ?_
  refine RS (ok_litA [_, _, _, _, _, _, _, _] Tryz.underlying105 info27 zero105 rfl ⟨rfl, rfl, rfl, rfl, rfl, rfl, rfl, rfl, rfl, rfl, rfl, rfl, rfl, rfl, rfl, rfl, trivial⟩ rfl) ?_; refine RZ (aggV ((rounds h K64 ws 64).list.map u32V)) (rfl) ?_
  refine RN ?_
  refine ⟨_, eff_storeA (n := 105) (s := 1000004) (size105.of (R8.size _)) rfl rfl (all_u32 _) hBb4 rfl ((R8.size _).symm) (LV 4 rfl (LT 1000003 rfl (LeftS.cons (t := 1900000) rfl (Surv.tab (by omega)) (LeftS.cons (t := 1900001) rfl (Surv.tab (by omega)) LN)))), ?_⟩
  refine TL ?_
  refine RN ?_
  refine A.ret ?_
  exact End.cell1 (s := 1000004) rfl Tryz.underlying105 rfl (size105.of (R8.size _)) rfl rfl (Le.refl _)
end Go.Proofs.YthadcgkcgpinhaaGreatDoor
namespace Go.Proofs.YthadcgkcgpinhaaGreatDoor
open Go Go.RowKit

/-- A law that is known by facts returns true, and writes nothing that was there. -/
theorem Fn.law {P : Program} {f : FuncId} {ds : List D} (h : Fn P f ds (.v (.bool true))) (vs : List Value) (w : World) (hl : vs.length = ds.length) (hv : ∀ (j : Nat) (e : D) (u : Value), ds[j]? = some e → vs[j]? = some u → e.Of w u) :
    Calls P f vs.toArray w fun e w' => e = .returned (.bool true) ∧ Below w.heap.size w w' :=
  (h.calls vs w hl hv).mono fun e w' ⟨x, he, g, hx⟩ => ⟨by have hx : x = .bool true := hx; rw [he, hx], g⟩
theorem facts_nil {w : World} : ∀ (j : Nat) (e : D) (u : Value), ([] : List D)[j]? = some e → ([] : List Value)[j]? = some u → e.Of w u := fun j e u h => by simp at h
theorem facts_cons {w : World} {d : D} {v : Value} {ds : List D} {vs : List Value} (h : d.Of w v) (hr : ∀ (j : Nat) (e : D) (u : Value), ds[j]? = some e → vs[j]? = some u → e.Of w u) : ∀ (j : Nat) (e : D) (u : Value), (d :: ds)[j]? = some e → (v :: vs)[j]? = some u → e.Of w u := fun j e u he hu => by
  cases j with
  | zero => simp at he hu; subst he; subst hu; exact h
  | succ j => exact hr j e u (by simpa using he) (by simpa using hu)
end Go.Proofs.YthadcgkcgpinhaaGreatDoor
namespace Go.Proofs.YthadcgkcgpinhaaGreatDoor
open Go Go.RowKit Go.ChangeShapes Go.WideShapes

theorem FnM.law {P : Program} {f : FuncId} {M : Env} {ds : List D} (h : FnM P f M ds (.v (.bool true))) (vs : List Value) (w : World) (hM : ∀ p ∈ M, p.2.Of w undef) (hl : vs.length = ds.length) (hv : ∀ (j : Nat) (e : D) (u : Value), ds[j]? = some e → vs[j]? = some u → e.Of w u) :
    Calls P f vs.toArray w fun e w' => e = .returned (.bool true) ∧ Below w.heap.size w w' :=
  (h.calls vs w hM hl hv).mono fun e w' ⟨x, he, g, hx⟩ => ⟨by have hx : x = .bool true := hx; rw [he, hx], g⟩

section
variable {H : Type} {enc : TypeId × Value → H} {P : Program} {w : World} {base : Nat} {spare : Nat → Bool} {held : Bool}
/-- An array of numbers, read. -/
theorem trod_ints {T e : TypeId} {k : IntKind} {n fuel : Nat} {cs : List Value} {x : DataW H × List MemPlace} (ht : P.underlying T = some (.array n e)) (he : P.underlying e = some (.int k)) (hc : P.cellsOf e = 1) (hT : P.cellsOf T = n)
    (h : DataW.trod enc P w base spare held fuel T cs = some x) : ∃ ns : List Int, ns.length = n ∧ cs = ns.map (fun m => .int k m) ∧ x.1 = .agg (ns.map fun m => .lit (.int k m)) ∧ ∀ m ∈ ns, (Lit.int k m).wf = true := by
  obtain ⟨xs, m, _, rfl, hlen, hxl, hel⟩ := DataW.trod_array ht h
  have each : ∀ i, i < n → ∃ a : Int, cs[i]? = some (.int k a) ∧ xs[i]? = some (.lit (.int k a), []) ∧ (Lit.int k a).wf = true := fun i hi => by
    have hi' : i < cs.length := by omega
    have h1 := hel i hi
    rw [List.getElem?_eq_getElem (by omega), hc, Nat.mul_one] at h1
    obtain ⟨a, h2, h3, h4⟩ := DataW.trod_int he h1
    have h5 : (cs.drop i).take 1 = [cs[i]] := by
      rw [List.drop_eq_getElem_cons hi']; rfl
    rw [h5] at h2
    injection h2 with h2
    exact ⟨a, by rw [List.getElem?_eq_getElem hi', h2], by rw [List.getElem?_eq_getElem (by omega), h3], h4⟩
  refine ⟨xs.map numOf, by simp [hxl], ?_, ?_, fun a ha => ?_⟩
  · apply List.ext_getElem?
    intro i
    rcases Nat.lt_or_ge i n with hi | hi
    · obtain ⟨a, h1, h2, _⟩ := each i hi
      simp [h1, h2, numOf]
    · rw [List.getElem?_eq_none (by omega), List.getElem?_eq_none (by simp; omega)]
  · show DataW.agg _ = DataW.agg _
    congr 1
    apply List.ext_getElem?
    intro i
    rcases Nat.lt_or_ge i n with hi | hi
    · obtain ⟨a, h1, h2, _⟩ := each i hi
      simp [h2, numOf]
    · rw [List.getElem?_eq_none (by simp; omega), List.getElem?_eq_none (by simp; omega)]
  · obtain ⟨j, hj⟩ := List.mem_iff_getElem?.1 ha
    have hjn : j < n := by have := (List.getElem?_eq_some_iff.1 hj).1; simp at this; omega
    obtain ⟨b, _, h2, h3⟩ := each j hjn
    simp [h2, numOf] at hj
    exact hj ▸ h3
theorem okWide_arr' {r : Reach} {b0 n : Nat} {t e : TypeId} {v : Value} (ht : P.underlying t = some (.array n e)) (h : Value.okWide P w r b0 t v) : ∃ cs, v = .agg cs := by
  unfold Value.okWide at h
  rw [ht] at h
  obtain ⟨cs, h, _⟩ := h
  exact ⟨cs, h⟩
theorem wf_u8 {m : Int} (h : (Lit.int .u8 m).wf = true) : Value.int .u8 m = byteV (UInt8.ofNat m.toNat) := by
  simp [Lit.wf, IntKind.min, IntKind.max, IntKind.signed, IntKind.bits] at h
  unfold byteV
  congr 1
  simp
  omega
theorem arg_bytes {t e : TypeId} {n : Nat} {v : Value} {d : DataW H} {ps : List MemPlace} (ht : P.underlying t = some (.array n e)) (he : P.underlying e = some (.int .u8)) (hc : P.cellsOf e = 1) (hT : P.cellsOf t = n) {r : Reach} {b0 : Nat} (hk : Value.okWide P w r b0 t v)
    (h : DataW.Trod enc P w base (fun _ => true) held t v d ps) : ∃ l : List UInt8, l.length = n ∧ v = aggV (l.map byteV) := by
  obtain ⟨cs, rfl⟩ := okWide_arr' ht hk
  obtain ⟨fuel, hf⟩ := h
  obtain ⟨ns, h1, h2, _, h4⟩ := trod_ints ht he hc hT hf
  refine ⟨ns.map fun m => UInt8.ofNat m.toNat, by simp [h1], ?_⟩
  have h2 : cs.toList = _ := h2
  rw [aggV, List.map_map]
  congr 1
  apply Array.ext'
  rw [h2]
  exact List.map_congr_left fun m hm => wf_u8 (h4 m hm)
end

/-! ### Listed tables -/
theorem mem_row {g n : Nat} (h : 0 < n) : MemPlace.cell g 0 ∈ MemPlace.row ⟨g, 0, none⟩ n := by
  cases n with
  | zero => omega
  | succ n => simp [MemPlace.row, List.range_succ_eq_map]
theorem tab_of_laid {P : Program} {w : World} : ∀ {l : List (String × DataW Unit)} {ps : List MemPlace}, DataW.LaidVars P w l ps → (∀ b off, MemPlace.cell b off ∈ ps → ∃ c t, w.heap[b]? = some (.cells c t (0, 0))) →
    ∀ {nm : String} {d : DataW Unit}, (nm, d) ∈ l → ∀ {g : Nat} {T e : TypeId} {k : IntKind} {n : Nat} {ns : List Int}, P.globalNamed nm = some g → (P.globals[g]?).map (·.type) = some T → P.underlying T = some (.array n e) → P.underlying e = some (.int k) → P.cellsOf e = 1 → P.cellsOf T = n → 0 < n →
      d = .agg (ns.map fun m => .lit (.int k m)) → (tab g (ns.map fun m => .int k m)).Of w undef
  | [], _, _, _, _, _, hm, _, _, _, _, _, _, _, _, _, _, _, _, _, _ => by cases hm
  | (n', d') :: r, ps, hl, hr, nm, d, hm, g, T, e, k, n, ns, hg, hT, ht, he, hc, hcT, hpos, hd => by
    obtain ⟨g', t', cs, fuel, p, q, h1, h2, h3, h4, h5, rfl⟩ := hl
    rcases List.mem_cons.1 hm with hm | hm
    · injection hm with hn hdd
      subst hn; subst hdd
      obtain rfl := Option.some.inj (hg.symm.trans h1)
      obtain rfl := Option.some.inj (hT.symm.trans h2)
      obtain ⟨ns', g1, g2, g3, _⟩ := trod_ints ht he hc hcT h4
      have hns : ns' = ns := by
        simp only [hd, DataW.agg.injEq] at g3
        have hinj : ∀ a b : List Int, (a.map fun m => (DataW.lit (.int k m) : DataW Unit)) = b.map (fun m => .lit (.int k m)) → a = b := by
          intro a
          induction a with
          | nil => intro b h; cases b with
            | nil => rfl
            | cons _ _ => cases h
          | cons x a ih => intro b h; cases b with
            | nil => cases h
            | cons y b =>
              simp only [List.map_cons, List.cons.injEq, DataW.lit.injEq, Lit.int.injEq, true_and] at h
              rw [h.1, ih b h.2]
        exact (hinj _ _ g3).symm
      subst hns
      have hsz : cs.size = n := by
        have := congrArg List.length g2
        simp at this; omega
      obtain ⟨c, t, hh⟩ := hr g 0 (List.mem_append_left _ (List.mem_append_left _ (mem_row (by omega))))
      unfold World.var? at h3
      rw [h1, Option.bind_some, hh] at h3
      simp only [Option.some.injEq] at h3
      subst h3
      have hlt : g < w.heap.size := (Array.getElem?_eq_some_iff.1 hh).1
      refine ⟨hlt, t, ?_⟩
      rw [hh, ← g2]
    · exact tab_of_laid h5 (fun b off h => hr b off (List.mem_append_right _ h)) hm hg hT ht he hc hcT hpos hd
end Go.Proofs.YthadcgkcgpinhaaGreatDoor
namespace Go.Proofs.YthadcgkcgpinhaaGreatDoor
open Go Go.RowKit Go.ChangeShapes Go.WideShapes Go.ChangeAt
theorem own' : ownKnob Tryz.prog.godebug = none := by kernel_rfl
theorem laidOut' : laidOutB Tryz.prog = true := by kernel_rfl
abbrev LAID : List (String × DataW Unit) := [("caisson/digests.constants", Rows.laid_caisson_digests_constants), ("caisson/digests.initial", Rows.laid_caisson_digests_initial)]
theorem door_met (os : Os) (args : Array Value) : laidMetH Tryz.prog LAID ((World.doorLaid Tryz.prog 400 os).forCall (fun _ _ => 0) ⟨#[], args, []⟩).memory :=
  laidMetH_of_parts3 (fuel := 8) (laidMet_of_run' 8 (by kernel_rfl) (by kernel_rfl)) (by kernel_rfl) (by kernel_rfl)
theorem tabs_of_laid {W : World} (h : laidMetH Tryz.prog LAID W) : ∀ p ∈ tabs, p.2.Of W undef := by
  rw [MakeChecks.laidMetH_plain _ _ _ (by kernel_rfl)] at h
  obtain ⟨ps, hl, _, hr⟩ := h
  have hr' := fun b off hp => (hr b off hp).1
  intro p hp
  simp only [tabs, List.mem_cons, List.not_mem_nil, or_false] at hp
  rcases hp with rfl | rfl
  · have := tab_of_laid hl hr' (nm := "caisson/digests.initial") (d := Rows.laid_caisson_digests_initial) (by simp [LAID]) (g := 0) (by kernel_rfl) (T := 105) (by kernel_rfl) Tryz.underlying105 Tryz.underlying27 (by kernel_rfl) (by kernel_rfl) (by decide) (ns := (H8.list).map fun x => (x.toNat : Int)) (by kernel_rfl)
    rw [List.map_map] at this
    exact this
  · have := tab_of_laid hl hr' (nm := "caisson/digests.constants") (d := Rows.laid_caisson_digests_constants) (by simp [LAID]) (g := 1) (by kernel_rfl) (T := 118) (by kernel_rfl) Tryz.underlying118 Tryz.underlying27 (by kernel_rfl) (by kernel_rfl) (by decide) (ns := (K64).map fun x => (x.toNat : Int)) (by kernel_rfl)
    rw [List.map_map] at this
    exact this
end Go.Proofs.YthadcgkcgpinhaaGreatDoor
namespace Go.Proofs.YthadcgkcgpinhaaGreatDoor
open Go Go.RowKit

/-- Place i of the part block: the last byte that came to that place, or zero. -/
def restAt (l : List UInt8) (i : Nat) : UInt8 := if (l.length + 63 - i) / 64 = 0 then 0 else l.getD (64 * ((l.length + 63 - i) / 64 - 1) + i) 0
def restL (l : List UInt8) : List UInt8 := (List.range 64).map (restAt l)
def fullR (l : List UInt8) : R8 := if l.length < 64 then ⟨0, 0, 0, 0, 0, 0, 0, 0⟩ else chain H8 l (l.length / 64)
def stM (f : R8) (r : List UInt8) (n : Nat) : List Value := f.list.map u32V ++ (r.map byteV ++ [.int .u64 (n : Int)])
def stL (l : List UInt8) : List Value := stM (fullR l) (restL l) l.length
def stV (l : List UInt8) : Value := aggV (stL l)
theorem restL_length (l : List UInt8) : (restL l).length = 64 := by simp [restL]
theorem restL_get (l : List UInt8) {i : Nat} (h : i < 64) : (restL l)[i]? = some (restAt l i) := by simp [restL, h]
theorem stM_length {f : R8} {r : List UInt8} {n : Nat} (hr : r.length = 64) : (stM f r n).length = 73 := by simp [stM, hr, R8.list]
theorem stM_full (f : R8) (r : List UInt8) (n : Nat) : ((stM f r n).drop 0).take 8 = f.list.map u32V := by
  rw [List.drop_zero, stM, List.take_left' (by simp [R8.list])]
theorem stM_rest {f : R8} {r : List UInt8} {n : Nat} (hr : r.length = 64) : ((stM f r n).drop 8).take 64 = r.map byteV := by
  rw [stM, List.drop_left' (by simp [R8.list]), List.take_left' (by simp [hr])]
theorem stM_size {f : R8} {r : List UInt8} {n : Nat} (hr : r.length = 64) : (stM f r n)[72]? = some (.int .u64 (n : Int)) := by
  rw [stM, List.getElem?_append_right (by simp [R8.list]), List.getElem?_append_right (by simp [R8.list, hr])]
  simp [R8.list, hr]
theorem stM_setSize {f : R8} {r : List UInt8} {n m : Nat} (hr : r.length = 64) : (stM f r n).set 72 (.int .u64 (m : Int)) = stM f r m := by
  rw [stM, List.set_append_right _ _ (by simp [R8.list]), List.set_append_right _ _ (by simp [R8.list, hr])]
  simp [R8.list, hr, stM]
theorem stM_setFull {f f' : R8} {r : List UInt8} {n : Nat} : (stM f r n).take 0 ++ f'.list.map u32V ++ (stM f r n).drop (0 + (f'.list.map u32V).length) = stM f' r n := by
  rw [R8.size, List.take_zero, List.nil_append, Nat.zero_add, stM, List.drop_left' (by simp [R8.list]), stM]
theorem stM_ones {f : R8} {r : List UInt8} {n : Nat} : (stM f r n).all (·.oneCell') = true := by
  simp [stM, List.all_append, u32V, byteV, Value.oneCell']
theorem stL_length (l : List UInt8) : (stL l).length = 73 := stM_length (restL_length l)
theorem stL_full (l : List UInt8) : ((stL l).drop 0).take 8 = (fullR l).list.map u32V := stM_full _ _ _
theorem stL_rest (l : List UInt8) : ((stL l).drop 8).take 64 = (restL l).map byteV := stM_rest (restL_length l)
theorem stL_size (l : List UInt8) : (stL l)[72]? = some (.int .u64 (l.length : Int)) := stM_size (restL_length l)
theorem stL_nil : stL [] = List.replicate 8 (.int .u32 0) ++ List.replicate 64 (.int .u8 0) ++ [.int .u64 0] := by kernel_rfl
theorem stL_ones (l : List UInt8) : (stL l).all (·.oneCell') = true := stM_ones

theorem chain_append (s : R8) (l b : List UInt8) : ∀ k, 64 * k ≤ l.length → chain s (l ++ b) k = chain s l k
  | 0, _ => rfl
  | k + 1, h => by
    have h1 := chain_append s l b k (by omega)
    rw [chain, chain, h1, List.drop_append_of_le_length (by omega), List.take_append_of_le_length (by simp; omega)]
/-- What is known of the full blocks, whether there is one or not. -/
theorem chain_start (l : List UInt8) (h : l.length < 64) : chain H8 l (l.length / 64) = H8 := by rw [Nat.div_eq_of_lt h]; rfl
theorem restAt_grow (l b : List UInt8) (i : Nat) (hi : i < 64) (hb : l.length % 64 + b.length ≤ 64) :
    restAt (l ++ b) i = if i < l.length % 64 then restAt l i else if i < l.length % 64 + b.length then b.getD (i - l.length % 64) 0 else restAt l i := by
  have hlen : (l ++ b).length = l.length + b.length := by simp
  by_cases h1 : i < l.length % 64
  · rw [if_pos h1]
    have h2 : (l.length + b.length + 63 - i) / 64 = (l.length + 63 - i) / 64 := by omega
    have h3 : ¬ (l.length + 63 - i) / 64 = 0 := by omega
    have h4 : 64 * ((l.length + 63 - i) / 64 - 1) + i < l.length := by omega
    rw [restAt, restAt, hlen, h2, if_neg h3, if_neg h3, List.getD_eq_getElem?_getD, List.getD_eq_getElem?_getD, List.getElem?_append_left h4]
  · rw [if_neg h1]
    by_cases h2 : i < l.length % 64 + b.length
    · rw [if_pos h2]
      have h3 : (l.length + b.length + 63 - i) / 64 = l.length / 64 + 1 := by omega
      have h4 : 64 * (l.length / 64 + 1 - 1) + i = l.length + (i - l.length % 64) := by omega
      rw [restAt, hlen, h3, if_neg (by omega), h4, List.getD_eq_getElem?_getD, List.getElem?_append_right (by omega), List.getD_eq_getElem?_getD]
      congr 2
      omega
    · rw [if_neg h2]
      have h3 : (l.length + b.length + 63 - i) / 64 = (l.length + 63 - i) / 64 := by omega
      by_cases h5 : (l.length + 63 - i) / 64 = 0
      · rw [restAt, restAt, hlen, h3, if_pos h5, if_pos h5]
      · have h4 : 64 * ((l.length + 63 - i) / 64 - 1) + i < l.length := by omega
        rw [restAt, restAt, hlen, h3, if_neg h5, if_neg h5, List.getD_eq_getElem?_getD, List.getD_eq_getElem?_getD, List.getElem?_append_left h4]
theorem restL_step (l b : List UInt8) (hb : l.length % 64 + b.length ≤ 64) : (restL l).take (l.length % 64) ++ b ++ (restL l).drop (l.length % 64 + b.length) = restL (l ++ b) := by
  have hk : l.length % 64 < 64 := Nat.mod_lt _ (by decide)
  apply List.ext_getElem?
  intro i
  rcases Nat.lt_or_ge i 64 with hi | hi
  · rw [restL_get _ hi, restAt_grow l b i hi hb]
    by_cases h1 : i < l.length % 64
    · rw [if_pos h1, List.append_assoc, List.getElem?_append_left (by simp [restL_length]; omega), List.getElem?_take, if_pos h1, restL_get _ hi]
    · rw [if_neg h1]
      by_cases h2 : i < l.length % 64 + b.length
      · rw [if_pos h2, List.append_assoc, List.getElem?_append_right (by simp [restL_length]; omega)]
        have h3 : i - ((restL l).take (l.length % 64)).length = i - l.length % 64 := by simp [restL_length]; omega
        rw [h3, List.getElem?_append_left (by omega), List.getD_eq_getElem?_getD, List.getElem?_eq_getElem (by omega)]
        rfl
      · rw [if_neg h2, List.getElem?_append_right (by simp [restL_length]; omega), List.getElem?_drop]
        have h3 : l.length % 64 + b.length + (i - ((restL l).take (l.length % 64) ++ b).length) = i := by simp [restL_length]; omega
        rw [h3, restL_get _ hi]
  · rw [List.getElem?_eq_none (by simp [restL_length]; omega), List.getElem?_eq_none (by rw [restL_length]; exact hi)]
/-- The bytes that fill no block yet. -/
theorem restL_take (l : List UInt8) : (restL l).take (l.length % 64) = l.drop (64 * (l.length / 64)) := by
  have hk : l.length % 64 < 64 := Nat.mod_lt _ (by decide)
  apply List.ext_getElem?
  intro i
  rw [List.getElem?_take, List.getElem?_drop]
  split
  · rename_i hi
    rw [restL_get _ (by omega), restAt]
    have h3 : (l.length + 63 - i) / 64 = l.length / 64 + 1 := by omega
    rw [h3, if_neg (by omega), Nat.add_sub_cancel, List.getD_eq_getElem?_getD, List.getElem?_eq_getElem (by omega)]
    rfl
  · rw [List.getElem?_eq_none (by omega)]
/-- A block that is full. -/
theorem restL_block (l : List UInt8) (h : l.length % 64 = 0) (h0 : 0 < l.length) : restL l = (l.drop (64 * (l.length / 64 - 1))).take 64 := by
  apply List.ext_getElem?
  intro i
  rw [List.getElem?_take, List.getElem?_drop]
  split
  · rename_i hi
    rw [restL_get _ hi, restAt]
    have h3 : (l.length + 63 - i) / 64 = l.length / 64 := by omega
    rw [h3, if_neg (by omega), List.getD_eq_getElem?_getD, List.getElem?_eq_getElem (by omega)]
    rfl
  · rw [List.getElem?_eq_none (by rw [restL_length]; omega)]
theorem fullR_same (l b : List UInt8) (h : (l.length + b.length) / 64 = l.length / 64) : fullR (l ++ b) = fullR l := by
  unfold fullR
  rw [List.length_append, h, chain_append _ _ _ _ (by omega)]
  by_cases h1 : l.length < 64
  · rw [if_pos h1, if_pos (by omega)]
  · rw [if_neg h1, if_neg (by omega)]
theorem fullR_step (l b : List UInt8) (h : l.length % 64 + b.length = 64) : fullR (l ++ b) = compress (chain H8 l (l.length / 64)) (restL (l ++ b)) := by
  have hk : l.length % 64 < 64 := Nat.mod_lt _ (by decide)
  have h1 : (l ++ b).length / 64 = l.length / 64 + 1 := by simp; omega
  rw [fullR, if_neg (by simp; omega), h1, chain, chain_append _ _ _ _ (by omega), restL_block _ (by simp; omega) (by simp; omega), h1, Nat.add_sub_cancel]
/-- Bytes are copied to where the part block goes on. -/
theorem st_copy (L r : List UInt8) : (stL L).take (8 + L.length % 64) ++ (r.take (64 - L.length % 64)).map byteV ++ (stL L).drop (8 + L.length % 64 + min r.length (64 - L.length % 64)) = stM (fullR L) (restL (L ++ r.take (64 - L.length % 64))) L.length := by
  have hk : L.length % 64 < 64 := Nat.mod_lt _ (by decide)
  have hb : (r.take (64 - L.length % 64)).length = min r.length (64 - L.length % 64) := by rw [List.length_take, Nat.min_comm]
  have h8 : ((fullR L).list.map u32V).length = 8 := R8.size _
  rw [← restL_step L (r.take (64 - L.length % 64)) (by rw [hb]; omega), hb]
  have h1 : (stL L).take (8 + L.length % 64) = (fullR L).list.map u32V ++ ((restL L).take (L.length % 64)).map byteV := by
    rw [stL, stM, List.take_append, h8, Nat.add_sub_cancel_left, List.take_of_length_le (by rw [h8]; omega), List.take_append_of_le_length (by simp [restL_length]; omega), List.map_take]
  have h2 : (stL L).drop (8 + L.length % 64 + min r.length (64 - L.length % 64)) = ((restL L).drop (L.length % 64 + min r.length (64 - L.length % 64))).map byteV ++ [.int .u64 (L.length : Int)] := by
    rw [stL, stM, List.drop_append, h8, List.drop_eq_nil_of_le (by rw [h8]; omega), List.nil_append, show 8 + L.length % 64 + min r.length (64 - L.length % 64) - 8 = L.length % 64 + min r.length (64 - L.length % 64) from by omega,
      List.drop_append_of_le_length (by simp [restL_length]; omega), List.map_drop]
  rw [h1, h2, stM]
  simp
/-- What is left of a string behind its full blocks, with its ending. -/
theorem padded_tail (l e : List UInt8) : l ++ e = l.take (64 * (l.length / 64)) ++ (l.drop (64 * (l.length / 64)) ++ e) := by
  rw [← List.append_assoc, List.take_append_drop]
/-- The blocks behind the first k. -/
theorem chain_tail (s : R8) (a t : List UInt8) (k : Nat) (ha : a.length = 64 * k) : ∀ i, chain (chain s a k) t i = chain s (a ++ t) (k + i)
  | 0 => by rw [Nat.add_zero, chain_append _ _ _ _ (by omega)]; rfl
  | i + 1 => by
    have h1 : (a ++ t).drop (64 * (k + i)) = t.drop (64 * i) := by
      rw [List.drop_append, show a.drop (64 * (k + i)) = [] from List.drop_eq_nil_of_le (by omega), List.nil_append, show 64 * (k + i) - a.length = 64 * i from by omega]
    rw [chain, chain_tail s a t k ha i, ← Nat.add_assoc, chain, h1]
theorem tableB_more {bs c : List UInt8} {m : Nat} (h : bs.length + c.length ≤ m) : (tableB bs m).take bs.length ++ c.map byteV ++ (tableB bs m).drop (bs.length + c.length) = tableB (bs ++ c) m := by
  have h1 : m - bs.length = c.length + (m - (bs ++ c).length) := by rw [List.length_append]; omega
  rw [tableB, List.map_append, List.take_left' (by simp), List.drop_append, List.drop_eq_nil_of_le (by simp), List.nil_append, List.length_map, Nat.add_sub_cancel_left, h1, List.map_replicate, List.drop_replicate, Nat.add_sub_cancel_left, tableB, List.map_append, List.map_append, List.map_replicate]
theorem flatBe_take : ∀ (xs : List UInt32) (i : Nat), i < xs.length → (xs.flatMap fun x => be 4 x.toNat).take (4 * (i + 1)) = (xs.flatMap fun x => be 4 x.toNat).take (4 * i) ++ be 4 (xs.getD i 0).toNat
  | [], i, h => by simp at h
  | x :: xs, 0, _ => by
    rw [List.flatMap_cons, List.take_left' (by rw [be_length]), Nat.mul_zero, List.take_zero]; rfl
  | x :: xs, i + 1, h => by
    have hb : (be 4 x.toNat).length = 4 := be_length _ _
    have h1 : ∀ k, 4 ≤ k → (be 4 x.toNat ++ xs.flatMap fun x => be 4 x.toNat).take k = be 4 x.toNat ++ (xs.flatMap fun x => be 4 x.toNat).take (k - 4) := fun k hk => by
      rw [List.take_append, hb, show (be 4 x.toNat).take k = be 4 x.toNat from List.take_of_length_le (by omega)]
    rw [List.flatMap_cons, h1 _ (by omega), h1 _ (by omega), show 4 * (i + 1 + 1) - 4 = 4 * (i + 1) from by omega, show 4 * (i + 1) - 4 = 4 * i from by omega,
      flatBe_take xs i (by simpa using h), List.append_assoc]
    rfl
theorem sha_copy (l : List UInt8) {i : Nat} (h : i < 8) : (tableB ((sha l).take (4 * i)) 32).take (0 + 4 * i) ++ ((be 4 ((shaR l).list.getD i 0).toNat).take (32 - 4 * i)).map byteV ++ (tableB ((sha l).take (4 * i)) 32).drop (0 + 4 * i + min (be 4 ((shaR l).list.getD i 0).toNat).length (32 - 4 * i)) = tableB ((sha l).take (4 * (i + 1))) 32 := by
  have hb : (be 4 ((shaR l).list.getD i 0).toNat).length = 4 := be_length _ _
  have hl : ((sha l).take (4 * i)).length = 4 * i := by rw [List.length_take, sha_length]; omega
  have h1 : (sha l).take (4 * (i + 1)) = (sha l).take (4 * i) ++ be 4 ((shaR l).list.getD i 0).toNat := flatBe_take (shaR l).list i h
  have := tableB_more (bs := (sha l).take (4 * i)) (c := be 4 ((shaR l).list.getD i 0).toNat) (m := 32) (by rw [hl, hb]; omega)
  rw [h1, ← this, hl, hb, Nat.zero_add, show (be 4 ((shaR l).list.getD i 0).toNat).take (32 - 4 * i) = be 4 ((shaR l).list.getD i 0).toNat from List.take_of_length_le (by omega), Nat.min_eq_left (by omega)]
/-- What follows a string of n bytes, up to the end of a block. -/
def endL (n : Nat) : List UInt8 := 128 :: (List.replicate ((119 - n % 64) % 64) 0 ++ be 8 (8 * n))
theorem endL_length (n : Nat) : (endL n).length = 1 + (119 - n % 64) % 64 + 8 := by simp [endL, be_length]; omega
def tailL (l : List UInt8) : List UInt8 := l.drop (64 * (l.length / 64)) ++ endL l.length
theorem tailL_length (l : List UInt8) : (tailL l).length = l.length % 64 + (1 + (119 - l.length % 64) % 64 + 8) := by
  rw [tailL, List.length_append, List.length_drop, endL_length]; omega
theorem tailL_mod (l : List UInt8) : (tailL l).length = 64 * ((tailL l).length / 64) := by
  rw [tailL_length]; omega
theorem tailL_sha (l : List UInt8) : chain (chain H8 l (l.length / 64)) (tailL l) ((tailL l).length / 64) = shaR l := by
  have ha : (l.take (64 * (l.length / 64))).length = 64 * (l.length / 64) := by rw [List.length_take]; omega
  have h1 : chain H8 l (l.length / 64) = chain H8 (l.take (64 * (l.length / 64))) (l.length / 64) := by
    have := chain_append H8 (l.take (64 * (l.length / 64))) (l.drop (64 * (l.length / 64))) (l.length / 64) (by omega)
    rwa [List.take_append_drop] at this
  have h2 : padded l = l.take (64 * (l.length / 64)) ++ tailL l := padded_tail l (endL l.length)
  have h3 : (padded l).length / 64 = l.length / 64 + (tailL l).length / 64 := by
    rw [h2, List.length_append, ha]; omega
  rw [h1, chain_tail _ _ _ _ ha, ← h2, ← h3]; rfl
theorem tailL_block (l : List UInt8) {ys : List Value} {i : Nat} (h : i < (tailL l).length / 64) : (((tailL l).map byteV ++ ys).drop (64 * i)).take 64 = (((tailL l).drop (64 * i)).take 64).map byteV := by
  rw [List.drop_append_of_le_length (by simp; omega), List.take_append_of_le_length (by simp; omega), List.map_take, List.map_drop]
end Go.Proofs.YthadcgkcgpinhaaGreatDoor
namespace Go.Proofs.YthadcgkcgpinhaaGreatDoor
open Go Go.RowKit
set_option linter.unusedVariables false
set_option maxRecDepth 20000

theorem Join_fnB (ps : List (List UInt8)) (hps : ps.length ≤ 1000000) (htot : ps.flatten.length ≤ 1000000) : FnB Tryz.prog 60 [lst (ps.map byt)] (fun B => fresh B 5 (ps.flatten.map byteV) ps.flatten.length) := by
 refine FnB.of Tryz.func60 rfl (by kernel_rfl) Tryz.ntmps60 (by simp) (fun w => [(0, old w.heap.size (lst (ps.map byt)))]) (fun w => (Start.old rfl Start.nil)) fun w₀ => ?_
 refine GS ?_
 refine TL ?_
 refine RA rfl ?_
 refine RN ?_
 refine GS ?_
 refine TL ?_
 refine RA rfl ?_
 refine RN ?_
 refine A.seq ?_
 refine GS ?_
 refine TL ?_
 refine RM rfl ?_
 refine RS (ok_len Tryz.underlying102 rfl LA) ?_; refine RZ (.int .i64 (ps.length : Int)) (by simp) ?_
 refine RM rfl ?_
 refine RN ?_
 refine A.block ?_
 refine A.loop (ι := Nat) (fun i => i ≤ ps.length) (fun i => [(0, old w₀.heap.size (lst (ps.map byt))), (3, .v (nI ((ps.take i).flatten.length))), (10, old w₀.heap.size (lst (ps.map byt))), (11, .v (.int .i64 (ps.length : Int))), (12, .v (.int .i64 (i : Int)))]) (fun i => ps.length - i) 0 ?_ ?_ ?_
 ·exact Nat.zero_le _
 ·exact (KC 0 rfl (KC 3 rfl (KC 10 rfl (KC 11 rfl (KC 12 rfl KN)))))
 intro i hi
 refine GS ?_
 refine TL ?_
 refine RB rfl rfl rfl ?_
 refine RN ?_
 refine A.seq ?_
 refine A.cond rfl (fun hc13 => ?_) (fun hc13 => ?_)
 ·have hlt : i < ps.length := by simpa using hc13
  have hget : ps[i]? = some ps[i] := List.getElem?_eq_getElem hlt
  have hT := flatten_take_le ps (i + 1)
  rw [flatten_take_succ hget, List.length_append] at hT
  refine A.skip ?_
  refine EN ?_
  refine A.seq ?_
  refine A.block ?_
  refine GS ?_
  refine TL ?_
  refine RS (ok_index (d := byt ps[i]) Tryz.underlying102 info49 rfl LA rfl (by omega) (by simp [hlt])) ?_
  refine RS (ok_load Tryz.underlying49 rfl rfl) ?_
  refine RA rfl ?_
  refine RN ?_
  refine GE ?_
  refine TL ?_
  refine RM rfl ?_
  refine RM rfl ?_
  refine RS (ok_lenB Tryz.underlying49 rfl LA) ?_
  refine RBS rfl rfl rfl (nI ((ps.take (i + 1)).flatten.length)) (by rw [wrap_i64 (by omega) (by omega), flatten_take_succ hget, List.length_append]; congr 1) ?_
  refine RA rfl ?_
  refine RN ?_
  refine End.normal_block ?_
  refine EN ?_
  refine GE ?_
  refine TL ?_
  refine RBS rfl rfl rfl (nI (i + 1)) (by rw [wrap_i64 (by omega) (by omega)]; congr 1) ?_
  refine RM rfl ?_
  refine RN ?_
  refine End.normal_then ?_
  refine End.again (i + 1) ?_ ?_ ?_
  ·show _ ≤ _; omega
  ·show _ - _ < _ - _; omega
  ·exact (KC 0 rfl (KC 3 rfl (KC 10 rfl (KC 11 rfl (KC 12 rfl KN)))))
 ·have hi2 : i = ps.length := by simp at hc13; omega
  refine A.exit ?_
  refine End.exit_then ?_
  refine End.exit_then ?_
  refine End.exit_here ?_
  refine EN ?_
  refine GS ?_
  refine TL ?_
  refine RM rfl ?_
  refine RS (ok_make ps.flatten.length Tryz.underlying49 info5 (by decide) rfl rfl rfl (by rw [hi2, List.take_length]) (by rw [hi2, List.take_length]) (by omega)) ?_
  refine RA rfl ?_
  refine RN ?_
  refine A.open (t := 6) (k := 1000000) rfl fun b hb => ?_
  refine GS ?_
  refine TL ?_
  refine RA rfl ?_
  refine RN ?_
  refine A.seq ?_
  refine GS ?_
  refine TL ?_
  refine RM rfl ?_
  refine RS (ok_len Tryz.underlying102 rfl LA) ?_; refine RZ (.int .i64 (ps.length : Int)) (by simp) ?_
  refine RM rfl ?_
  refine RN ?_
  refine A.block ?_
  refine A.loop (ι := Nat) (fun i => i ≤ ps.length) (fun i => [(6, .v (.slice (some ⟨b, 0, none⟩) ps.flatten.length ps.flatten.length)), (7, .v (nI ((ps.take i).flatten.length))), (23, old w₀.heap.size (lst (ps.map byt))), (24, .v (.int .i64 (ps.length : Int))), (25, .v (.int .i64 (i : Int))), (1000000, blk b 5 ((ps.take i).flatten.map byteV ++ List.replicate (ps.flatten.length - (ps.take i).flatten.length) (.int .u8 0)))]) (fun i => ps.length - i) 0 ?_ ?_ ?_
  ·exact Nat.zero_le _
  ·exact (KE 6 rfl (by simp) (KC 7 rfl (KC 23 rfl (KC 24 rfl (KC 25 rfl (KE 1000000 rfl (by simp) KN))))))
  intro i hi
  refine GS ?_
  refine TL ?_
  refine RB rfl rfl rfl ?_
  refine RN ?_
  refine A.seq ?_
  refine A.cond rfl (fun hc26 => ?_) (fun hc26 => ?_)
  ·have hlt : i < ps.length := by simpa using hc26
   have hget : ps[i]? = some ps[i] := List.getElem?_eq_getElem hlt
   have hT := flatten_take_le ps (i + 1)
   rw [flatten_take_succ hget, List.length_append] at hT
   refine A.skip ?_
   refine EN ?_
   refine A.seq ?_
   refine A.block ?_
   refine GS ?_
   refine TL ?_
   refine RS (ok_index (d := byt ps[i]) Tryz.underlying102 info49 rfl LA rfl (by omega) (by simp [hlt])) ?_
   refine RS (ok_load Tryz.underlying49 rfl rfl) ?_
   refine RA rfl ?_
   refine RN ?_
   refine GE ?_
   refine TF 5 ?_
   refine RM rfl ?_
   refine RM rfl ?_
   refine RM rfl ?_
   refine RS (ok_sliceV (ps.take i).flatten.length Tryz.underlying49 info5 rfl rfl (by omega) (Nat.le_refl _)) ?_
   refine RM rfl ?_
   refine RN ?_
   refine ⟨_, eff_copy (s := 1000000) (l := ps[i]) Tryz.underlying49 info5 rfl rfl (Le.refl _) (by omega) hb rfl (by simp only [List.length_append, List.length_map, List.length_replicate]; split <;> omega) (by decide) (Left.cons (t := 6) rfl (Stays.v _ _) (Left.cons (t := 23) rfl (Stays.old _ _) (Left.cons (t := 24) rfl (Stays.v _ _) (Left.cons (t := 25) rfl (Stays.v _ _) (Left.cons (t := 29) rfl (Stays.v _ _) Left.nil))))), ?_⟩
   refine TL ?_
   refine RBS rfl rfl rfl (nI ((ps.take (i + 1)).flatten.length)) (by rw [wrap_i64 (by omega) (by omega), flatten_take_succ hget, List.length_append]; congr 1) ?_
   refine RA rfl ?_
   refine RN ?_
   refine End.normal_block ?_
   refine EN ?_
   refine GE ?_
   refine TL ?_
   refine RBS rfl rfl rfl (nI (i + 1)) (by rw [wrap_i64 (by omega) (by omega)]; congr 1) ?_
   refine RM rfl ?_
   refine RN ?_
   refine End.normal_then ?_
   refine End.again (i + 1) ?_ ?_ ?_
   ·show _ ≤ _; omega
   ·show _ - _ < _ - _; omega
   ·exact (KC 6 rfl (KC 7 rfl (KC 23 rfl (KC 24 rfl (KC 25 rfl (KE 1000000 rfl (congrArg _ (copy_step hget (by omega) rfl)) KN))))))
  ·have hi2 : i = ps.length := by simp at hc26; omega
   refine A.exit ?_
   refine End.exit_then ?_
   refine End.exit_then ?_
   refine End.exit_here ?_
   refine EN ?_
   refine GS ?_
   refine TL ?_
   refine RM rfl ?_
   refine RA rfl ?_
   refine RN ?_
   refine A.ret ?_
   subst hi2
   exact End.fresh rfl hb rfl (by rw [List.length_map]) (k := 1000000) rfl (by rw [List.take_length, Nat.sub_self, List.replicate_zero, List.append_nil])
theorem Join_fn (ps : List (List UInt8)) (hps : ps.length ≤ 1000000) (htot : ps.flatten.length ≤ 1000000) : Fn Tryz.prog 60 [lst (ps.map byt)] (bytes ps.flatten ps.flatten.length) :=
 (Join_fnB ps hps htot).fn fun _ => fresh_bytes rfl (by simp only [maxLen]; omega)
end Go.Proofs.YthadcgkcgpinhaaGreatDoor
namespace Go.Proofs.YthadcgkcgpinhaaGreatDoor
open Go Go.RowKit
set_option linter.unusedVariables false
set_option maxRecDepth 20000

theorem zero107 : ZeroIs Tryz.prog 107 (List.replicate 8 (.int .u32 0) ++ List.replicate 64 (.int .u8 0) ++ [.int .u64 0]) := by unfold ZeroIs; kernel_rfl
theorem size107 : SizeIs Tryz.prog 107 73 := by unfold SizeIs; kernel_rfl
theorem field107_0 : FieldIs Tryz.prog 107 0 0 8 := by unfold FieldIs; kernel_rfl
theorem field107_1 : FieldIs Tryz.prog 107 1 8 64 := by unfold FieldIs; kernel_rfl
theorem field107_2 : FieldIs Tryz.prog 107 2 72 1 := by unfold FieldIs; kernel_rfl
/-- The first i words are sums already. -/
def half (s t : R8) (i : Nat) : List Value := ((s.add t).list.take i ++ s.list.drop i).map u32V
theorem half_length {s t : R8} {i : Nat} (h : i ≤ 8) : (half s t i).length = 8 := by
 have h1 : s.list.length = 8 := rfl
 have h2 : (s.add t).list.length = 8 := rfl
 simp [half, h1, h2]; omega
theorem half_get {s t : R8} {i : Nat} (h : i < 8) : (half s t i)[i]? = some (u32V (s.list.getD i 0)) := by
 rcases i with _ | _ | _ | _ | _ | _ | _ | _ | i
 all_goals first | rfl | omega
theorem half_set {s t : R8} {i : Nat} (h : i < 8) : (half s t i).set i (u32V (s.list.getD i 0 + t.list.getD i 0)) = half s t (i + 1) := by
 rcases i with _ | _ | _ | _ | _ | _ | _ | _ | i
 all_goals first | rfl | omega

set_option maxHeartbeats 400000 in
theorem Compress_fn (h : R8) (l : List UInt8) (hl : l.length = 64) : FnM Tryz.prog 82 tabs [.v (aggV (h.list.map u32V)), .v (aggV (l.map byteV))] (.v (aggV ((compress h l).list.map u32V))) := by
 refine FnM.of Tryz.func82 rfl (by kernel_rfl) Tryz.ntmps82 (by simp) (by decide) (fun w => [(0, .v (aggV (h.list.map u32V))), (1, .v (aggV (l.map byteV))), (1900000, tab 0 (H8.list.map u32V)), (1900001, tab 1 (K64.map u32V))]) (fun w => (StartM.v rfl (StartM.v rfl (StartM.m (by simp [tabs]) (by decide) (StartM.m (by simp [tabs]) (by decide) StartM.nil))))) fun w₀ hM => ?_
 have htab := tabs_hi hM
 refine GS ?_
 refine TN 0 ?_
 refine RN ?_
 refine ⟨_, _, eff_box (n := 23) (d := 2) (k := 1000002) rfl (by decide), fun b2 hb2 => ?_⟩
 have hBb2 := hb2.1
 refine TN 1 ?_
 refine RN ?_
 refine ⟨_, _, eff_box (n := 23) (d := 3) (k := 1000003) rfl (by decide), fun b3 hb3 => ?_⟩
 have hBb3 := hb3.1
 refine TN 2 ?_
 refine RN ?_
 refine ⟨_, _, eff_alloc (n := 23) (d := 4) (k := 1000004) zero105 (by decide), fun b4 hb4 => ?_⟩
 have hBb4 := hb4.1
 have hlt_b2_b4 : b2 < b4 := hb4.2 1000002 _ _ _ rfl
 refine TL ?_
 refine RN ?_
 refine A.seq ?_
 refine GD ?_
 refine TL ?_
 refine RS (ok_loadA (s := 1000002) (by decide) Tryz.underlying105 rfl (size105.of (R8.size _)) rfl rfl) ?_
 refine RS (ok_loadA (s := 1000003) (by decide) Tryz.underlying103 rfl (size103.of (by rw [List.length_map, hl])) rfl rfl) ?_
 refine RS (ok_call (schedule_fn l hl) (A1 rfl)) ?_
 refine RS (ok_callM (rounds_fn h (sched l 64) (sched_length l 64)) (Sub.cons rfl (Sub.cons rfl KN)) tabs_v (Args.cons rfl LA (Args.cons rfl LA Args.nil))) ?_
 refine RM rfl ?_
 refine RN ?_
 refine A.block ?_
 refine A.loop (ι := Nat) (fun i => i ≤ 8) (fun i => [(2, .v (.pointer (some ⟨b2, 0, none⟩))), (4, .v (.pointer (some ⟨b4, 0, none⟩))), (10, .v (aggV ((rounds h K64 (sched l 64) 64).list.map u32V))), (11, .v (.int .i64 ((i : Nat) : Int))), (1000002, blk b2 105 (half h (rounds h K64 (sched l 64) 64) i)), (1000004, blk b4 105 (List.replicate 8 (.int .u32 0))), (1900000, tab 0 (H8.list.map u32V)), (1900001, tab 1 (K64.map u32V))]) (fun i => 8 - i) 0 ?_ ?_ ?_
 ·exact Nat.zero_le _
 ·exact (KC 2 rfl (KC 4 rfl (KC 10 rfl (KC 11 rfl (KE 1000002 rfl (rfl) (KC 1000004 rfl (KC 1900000 rfl (KC 1900001 rfl KN))))))))
 intro i hi
 refine GS ?_
 refine TL ?_
 refine RB rfl rfl rfl ?_
 refine RN ?_
 refine A.seq ?_
 refine A.cond rfl (fun hc12 => ?_) (fun hc12 => ?_)
 ·have hlt : i < 8 := by simp at hc12; omega
  refine A.skip ?_
  refine EN ?_
  refine A.seq ?_
  refine A.block ?_
  refine GS ?_
  refine TL ?_
  refine RM rfl ?_
  refine RS (ok_indexV1 i Tryz.underlying105 Tryz.underlying27 rfl info27 rfl rfl rfl hlt (map_get32 (by show i < 8; omega))) ?_
  refine RA rfl ?_
  refine RA rfl ?_
  refine RN ?_
  refine GE ?_
  refine TF 6 ?_
  refine RM rfl ?_
  refine RS (ok_index0 _ Tryz.underlying105 info27 rfl rfl (rfl) (by omega)) ?_
  refine RS (ok_loadV (s := 1000002) (by decide) Tryz.underlying27 rfl rfl rfl (half_get hlt)) ?_
  refine RM rfl ?_
  refine RS (ok_add32 rfl rfl) ?_
  refine RS (ok_index0 _ Tryz.underlying105 info27 rfl rfl (rfl) (by omega)) ?_
  refine RN ?_
  refine ⟨_, eff_storeS (n := 23) (s := 1000002) info27 rfl rfl rfl hBb2 rfl (by rw [half_length (by omega)]; omega) (LV 2 rfl (LV 4 rfl (LV 10 rfl (LV 11 rfl (LB 1000004 rfl (LeftS.cons (t := 1900000) rfl (Surv.tab (by omega)) (LeftS.cons (t := 1900001) rfl (Surv.tab (by omega)) LN))))))), ?_⟩
  refine TL ?_
  refine RN ?_
  refine End.normal_block ?_
  refine EN ?_
  refine GE ?_
  refine TL ?_
  refine RBS rfl rfl rfl (.int .i64 ((i + 1 : Nat) : Int)) (by rw [wrap_i64 (by omega) (by omega)]; first | rfl | (congr 1; omega)) ?_
  refine RM rfl ?_
  refine RN ?_
  refine End.normal_then ?_
  refine End.again (i + 1) ?_ ?_ ?_
  ·show _ ≤ _; omega
  ·show _ - _ < _ - _; omega
  ·exact (KC 2 rfl (KC 4 rfl (KC 10 rfl (KC 11 rfl (KE 1000002 rfl (by rw [half_set hlt]) (KC 1000004 rfl (KC 1900000 rfl (KC 1900001 rfl KN))))))))
 ·obtain rfl : i = 8 := by simp at hc12; omega
  refine A.exit ?_
  refine End.exit_then ?_
  refine End.exit_then ?_
  refine End.exit_here ?_
  refine EN ?_
  refine GS ?_
  refine TF 1 ?_
  refine RS (ok_loadA (s := 1000002) (by decide) Tryz.underlying105 rfl (size105.of (half_length (by omega))) rfl rfl) ?_; refine RZ (aggV ((compress h l).list.map u32V)) (rfl) ?_
  refine RN ?_
  refine ⟨_, eff_storeA (n := 23) (s := 1000004) (size105.of (R8.size _)) rfl rfl (all_u32 _) hBb4 rfl ((R8.size _).symm) (LV 4 rfl (LB 1000002 rfl (LeftS.cons (t := 1900000) rfl (Surv.tab (by omega)) (LeftS.cons (t := 1900001) rfl (Surv.tab (by omega)) LN)))), ?_⟩
  refine TL ?_
  refine RN ?_
  refine A.ret ?_
  exact End.cell1 (s := 1000004) rfl Tryz.underlying105 rfl (size105.of (R8.size _)) rfl rfl (Le.refl _)
theorem New_fn  : Fn Tryz.prog 79 [] (.v (stV [])) := by
 refine Fn.of Tryz.func79 rfl (by kernel_rfl) Tryz.ntmps79 (by simp) (fun w => []) (fun w => Start.nil) fun w₀ => ?_
 refine GS ?_
 refine TN 0 ?_
 refine RN ?_
 refine ⟨_, _, eff_alloc (n := 2) (d := 0) (k := 1000000) zero107 (by decide), fun b0 hb0 => ?_⟩
 have hBb0 := hb0.1
 refine TL ?_
 refine RN ?_
 refine GS ?_
 refine TF 1 ?_
 refine RS (ok_lit [] (List.replicate 8 (.int .u32 0) ++ List.replicate 64 (.int .u8 0) ++ [.int .u64 0]) (fun _ _ => rfl) (by kernel_rfl)) ?_
 refine RN ?_
 refine ⟨_, eff_storeA (n := 2) (s := 1000000) (size107.of (by decide)) rfl rfl (by decide) hBb0 rfl (rfl) (LV 0 rfl LN), ?_⟩
 refine TL ?_
 refine RN ?_
 refine A.ret ?_
 exact End.cell1 (s := 1000000) rfl Tryz.underlying107 rfl (size107.of (by decide)) rfl rfl (Le.eq (by rw [stV, stL_nil]))
theorem filled_fn (f : R8) (r : List UInt8) (m : Nat) (hr : r.length = 64) (hm : m ≤ 1000000) : Fn Tryz.prog 81 [.v (aggV (stM f r m))] (.v (.int .i64 ((m % 64 : Nat) : Int))) := by
 refine Fn.of Tryz.func81 rfl (by kernel_rfl) Tryz.ntmps81 (by simp) (fun w => [(0, .v (aggV (stM f r m)))]) (fun w => (Start.v rfl Start.nil)) fun w₀ => ?_
 refine GS ?_
 refine TN 0 ?_
 refine RN ?_
 refine ⟨_, _, eff_box (n := 7) (d := 1) (k := 1000001) rfl (by decide), fun b1 hb1 => ?_⟩
 have hBb1 := hb1.1
 refine TL ?_
 refine RA rfl ?_
 refine RN ?_
 refine GS ?_
 refine TL ?_
 refine RS (ok_field field107_2 (by decide) rfl) ?_
 refine RS (ok_loadV (s := 1000001) (by decide) Tryz.underlying28 rfl rfl rfl (stM_size hr)) ?_
 refine RS (ok_rem rfl rfl (by decide)) ?_; refine RZ (.int .u64 ((m % 64 : Nat) : Int)) (by rw [tmod_lit _ (by decide)]; rfl) ?_
 refine RS (ok_conv Tryz.underlying28 Tryz.underlying3 rfl) ?_; refine RZ (.int .i64 ((m % 64 : Nat) : Int)) (by rw [wrap_i64 (by omega) (by omega)]) ?_
 refine RA rfl ?_
 refine RN ?_
 refine A.ret ?_
 exact End.ret1 rfl rfl (by first | exact Le.refl _ | exact Le.old _ _)
theorem compressed_fn (l : List UInt8) (hl : l.length ≤ 1000000) : FnM Tryz.prog 80 tabs [.v (stV l)] (.v (aggV ((chain H8 l (l.length / 64)).list.map u32V))) := by
 refine FnM.of Tryz.func80 rfl (by kernel_rfl) Tryz.ntmps80 (by simp) (by decide) (fun w => [(0, .v (stV l)), (1900000, tab 0 (H8.list.map u32V)), (1900001, tab 1 (K64.map u32V))]) (fun w => (StartM.v rfl (StartM.m (by simp [tabs]) (by decide) (StartM.m (by simp [tabs]) (by decide) StartM.nil)))) fun w₀ hM => ?_
 have htab := tabs_hi hM
 refine GS ?_
 refine TN 0 ?_
 refine RN ?_
 refine ⟨_, _, eff_box (n := 9) (d := 1) (k := 1000001) rfl (by decide), fun b1 hb1 => ?_⟩
 have hBb1 := hb1.1
 refine TN 1 ?_
 refine RN ?_
 refine ⟨_, _, eff_alloc (n := 9) (d := 2) (k := 1000002) zero105 (by decide), fun b2 hb2 => ?_⟩
 have hBb2 := hb2.1
 refine TL ?_
 refine RN ?_
 refine A.seq ?_
 refine GS ?_
 refine TL ?_
 refine RS (ok_field field107_2 (by decide) rfl) ?_
 refine RS (ok_loadV (s := 1000001) (by decide) Tryz.underlying28 rfl rfl rfl (stL_size l)) ?_
 refine RB rfl rfl rfl ?_
 refine RN ?_
 refine A.cond rfl (fun hc5 => ?_) (fun hc5 => ?_)
 ·have hs : l.length < 64 := by simp at hc5; omega
  refine GS ?_
  refine TF 1 ?_
  refine RS (ok_loadT (s := 1900000) (by decide) Tryz.underlying105 rfl (size105.of (R8.size _)) rfl rfl) ?_; refine RZ (aggV ((chain H8 l (l.length / 64)).list.map u32V)) (by rw [chain_start l hs]) ?_
  refine RN ?_
  refine ⟨_, eff_storeA (n := 9) (s := 1000002) (size105.of (R8.size _)) rfl rfl (all_u32 _) hBb2 rfl ((R8.size _).symm) (LV 2 rfl (LT 1000001 rfl (LeftS.cons (t := 1900000) rfl (Surv.tab (by omega)) (LeftS.cons (t := 1900001) rfl (Surv.tab (by omega)) LN)))), ?_⟩
  refine TL ?_
  refine RN ?_
  refine A.ret ?_
  refine End.ret_then ?_
  exact End.cell1 (s := 1000002) rfl Tryz.underlying105 rfl (size105.of (R8.size _)) rfl rfl (Le.refl _)
 ·have hs : ¬ l.length < 64 := by simp at hc5; omega
  refine A.skip ?_
  refine EN ?_
  refine GS ?_
  refine TF 2 ?_
  refine RS (ok_field field107_0 (by decide) rfl) ?_
  refine RS (ok_loadP (s := 1000001) (by decide) Tryz.underlying105 rfl size105 rfl rfl (by rw [stL_length]; decide) (stL_full l)) ?_; refine RZ (aggV ((chain H8 l (l.length / 64)).list.map u32V)) (by rw [fullR, if_neg hs]) ?_
  refine RN ?_
  refine ⟨_, eff_storeA (n := 9) (s := 1000002) (size105.of (R8.size _)) rfl rfl (all_u32 _) hBb2 rfl ((R8.size _).symm) (LV 2 rfl (LT 1000001 rfl (LeftS.cons (t := 1900000) rfl (Surv.tab (by omega)) (LeftS.cons (t := 1900001) rfl (Surv.tab (by omega)) LN)))), ?_⟩
  refine TL ?_
  refine RN ?_
  refine A.ret ?_
  exact End.cell1 (s := 1000002) rfl Tryz.underlying105 rfl (size105.of (R8.size _)) rfl rfl (Le.refl _)
theorem ending_fn (l : List UInt8) (hl : l.length ≤ 1000000) : Fn Tryz.prog 83 [.v (stV l)] (byt (endL l.length)) := by
 refine Fn.of Tryz.func83 rfl (by kernel_rfl) Tryz.ntmps83 (by simp) (fun w => [(0, .v (stV l))]) (fun w => (Start.v rfl Start.nil)) fun w₀ => ?_
 refine GS ?_
 refine TN 0 ?_
 refine RN ?_
 refine ⟨_, _, eff_box (n := 17) (d := 1) (k := 1000001) rfl (by decide), fun b1 hb1 => ?_⟩
 have hBb1 := hb1.1
 refine TL ?_
 refine RA rfl ?_
 refine RN ?_
 refine GS ?_
 refine TL ?_
 refine RS (ok_loadA (s := 1000001) (by decide) Tryz.underlying107 rfl (size107.of (stL_length l)) rfl rfl) ?_
 refine RS (ok_call (filled_fn (fullR l) (restL l) l.length (restL_length l) hl) (A1 rfl)) ?_
 refine RBS rfl rfl rfl (.int .i64 ((119 - l.length % 64 : Nat) : Int)) (by rw [wrap_i64 (by omega) (by omega)]; congr 1; omega) ?_
 refine RS (ok_rem rfl rfl (by decide)) ?_; refine RZ (.int .i64 (((119 - l.length % 64) % 64 : Nat) : Int)) (by rw [tmod_lit _ (by decide)]; rfl) ?_
 refine RA rfl ?_
 refine RN ?_
 refine GD ?_
 refine TL ?_
 refine RS (ok_build [byteD 128] Tryz.underlying49 info5 rfl (by decide) (by decide) rfl ⟨rfl, rfl, trivial⟩ (fun d hd w x h => by simp only [List.mem_cons, List.not_mem_nil, or_false] at hd; rcases hd with rfl; exact v_one rfl h)) ?_
 refine RM rfl ?_
 refine RS (ok_make ((119 - l.length % 64) % 64) Tryz.underlying49 info5 (by decide) rfl rfl rfl rfl rfl (by omega)) ?_
 refine RS (ok_field field107_2 (by decide) rfl) ?_
 refine RS (ok_loadV (s := 1000001) (by decide) Tryz.underlying28 rfl rfl rfl (stL_size l)) ?_
 refine RBS rfl rfl rfl (.int .u64 ((8 * l.length : Nat) : Int)) (by rw [wrap_u64 (by omega) (by omega)]; congr 1) ?_
 refine RS (ok_call (Put64_fn ((8 * l.length : Nat) : Int) (by omega) (by omega)) (A1 rfl)) ?_
 refine RS (ok_build [list [byteD 128] 1, fresh w₀.heap.size 5 (List.replicate ((119 - l.length % 64) % 64) (.int .u8 0)) ((119 - l.length % 64) % 64), bytes (be 8 (8 * l.length)) 8] Tryz.underlying102 info49 rfl (by decide) (by decide) rfl ⟨rfl, rfl, rfl, rfl, rfl, rfl, trivial⟩ (fun d hd w x h => by simp only [List.mem_cons, List.not_mem_nil, or_false] at hd; rcases hd with rfl | rfl | rfl <;> first | exact list_one h | exact freshS_one h | exact bytes_one h)) ?_
 refine RS (ok_call ((Join_fn [[128], List.replicate ((119 - l.length % 64) % 64) 0, be 8 (8 * l.length)] (by simp) (by simp [be_length]; omega)).le (d' := byt (endL l.length)) ((le_byt _ _).trans (Le.eq (by simp [endL])))) (Args.cons rfl (list_lst3 (le_lst _ _) (fresh_zeros (by simp only [maxLen]; omega)) (le_byt _ _)) Args.nil)) ?_
 refine RA rfl ?_
 refine RN ?_
 refine A.ret ?_
 exact End.ret1 rfl rfl (by first | exact Le.refl _ | exact Le.old _ _)
end Go.Proofs.YthadcgkcgpinhaaGreatDoor
namespace Go.Proofs.YthadcgkcgpinhaaGreatDoor
open Go Go.RowKit
variable {κ : Cx}

/-! ### There is something of which it is known -/
def exD {ι : Type} (P : ι → Prop) (d : ι → D) : D :=
  .p (fun B w x => ∃ i, P i ∧ (d i).OfB B w x) (fun _ _ _ _ g ⟨i, h, k⟩ => ⟨i, h, k.keep g⟩) (fun _ _ _ _ g ⟨i, h, k⟩ => ⟨i, h, k.up g⟩)
theorem Le.ex {ι : Type} {P : ι → Prop} {d : ι → D} (i : ι) (h : P i) : Le (d i) (exD P d) := fun _ _ _ hx => ⟨i, h, hx⟩
/-! ### Digits -/
/-! ### Prime numbers by trial -/
end Go.Proofs.YthadcgkcgpinhaaGreatDoor
namespace Go.Proofs.YthadcgkcgpinhaaGreatDoor
open Go Go.RowKit
set_option linter.unusedVariables false
set_option maxRecDepth 20000

theorem info28 : InfoIs Tryz.prog 28 (.int .u64 0) 8 := by unfold InfoIs; kernel_rfl
end Go.Proofs.YthadcgkcgpinhaaGreatDoor
namespace Go.Proofs.YthadcgkcgpinhaaGreatDoor
open Go Go.RowKit
set_option linter.unusedVariables false
set_option maxRecDepth 20000

end Go.Proofs.YthadcgkcgpinhaaGreatDoor
namespace Go.Proofs.YthadcgkcgpinhaaGreatDoor
open Go Go.RowKit
set_option linter.unusedVariables false
set_option maxRecDepth 20000

end Go.Proofs.YthadcgkcgpinhaaGreatDoor
namespace Go.Proofs.YthadcgkcgpinhaaGreatDoor
open Go Go.RowKit
set_option linter.unusedVariables false
set_option maxRecDepth 20000
theorem block_len (L r : List UInt8) (h : (L.length + min r.length (64 - L.length % 64)) % 64 = 0) (h0 : 0 < r.length) : L.length % 64 + (r.take (64 - L.length % 64)).length = 64 := by
 have hk : L.length % 64 < 64 := Nat.mod_lt _ (by decide)
 rw [List.length_take]; omega
theorem part_len (L r : List UInt8) (h : ¬ (L.length + min r.length (64 - L.length % 64)) % 64 = 0) : (L.length + (r.take (64 - L.length % 64)).length) / 64 = L.length / 64 := by
 have hk : L.length % 64 < 64 := Nat.mod_lt _ (by decide)
 rw [List.length_take]; omega

set_option maxHeartbeats 1000000 in
theorem Write_fn (l b : List UInt8) (hl : l.length + b.length ≤ 1000000) : FnM Tryz.prog 58 tabs [.v (stV l), byt b] (.v (stV (l ++ b))) := by
 refine FnM.of Tryz.func58 rfl (by kernel_rfl) Tryz.ntmps58 (by simp) (by decide) (fun w => [(0, .v (stV l)), (1, old w.heap.size (byt b)), (1900000, tab 0 (H8.list.map u32V)), (1900001, tab 1 (K64.map u32V))]) (fun w => (StartM.v rfl (StartM.old rfl (StartM.m (by simp [tabs]) (by decide) (StartM.m (by simp [tabs]) (by decide) StartM.nil))))) fun w₀ hM => ?_
 have htab := tabs_hi hM
 refine GS ?_
 refine TN 0 ?_
 refine RN ?_
 refine ⟨_, _, eff_box (n := 36) (d := 2) (k := 1000002) rfl (by decide), fun b2 hb2 => ?_⟩
 have hBb2 := hb2.1
 refine TN 1 ?_
 refine RN ?_
 refine ⟨_, _, eff_alloc (n := 36) (d := 4) (k := 1000004) zero107 (by decide), fun b4 hb4 => ?_⟩
 have hBb4 := hb4.1
 have hlt_b2_b4 : b2 < b4 := hb4.2 1000002 _ _ _ rfl
 refine TL ?_
 refine RN ?_
 refine A.seq ?_
 refine A.block ?_
 refine A.loop (ι := Nat) (fun c => c ≤ b.length) (fun c => [(1, old w₀.heap.size (byt (b.drop c))), (2, .v (.pointer (some ⟨b2, 0, none⟩))), (4, .v (.pointer (some ⟨b4, 0, none⟩))), (1000002, blk b2 107 (stL (l ++ b.take c))), (1000004, blk b4 107 (List.replicate 8 (.int .u32 0) ++ List.replicate 64 (.int .u8 0) ++ [.int .u64 0])), (1900000, tab 0 (H8.list.map u32V)), (1900001, tab 1 (K64.map u32V))]) (fun c => b.length - c) 0 ?_ ?_ ?_
 ·exact Nat.zero_le _
 ·exact (KE 1 rfl (by rw [List.drop_zero]) (KC 2 rfl (KC 4 rfl (KE 1000002 rfl (by rw [List.take_zero, List.append_nil]) (KC 1000004 rfl (KC 1900000 rfl (KC 1900001 rfl KN)))))))
 intro c hc
 obtain ⟨L, hL⟩ : ∃ L, l ++ b.take c = L := ⟨_, rfl⟩
 obtain ⟨r, hr⟩ : ∃ r, b.drop c = r := ⟨_, rfl⟩
 have hLl : L.length = l.length + c := by rw [← hL]; simp; omega
 have hrl' : r.length = b.length - c := by rw [← hr]; simp
 rw [hL, hr]
 refine A.seq ?_
 refine GS ?_
 refine TL ?_
 refine RM rfl ?_
 refine RS (ok_lenB Tryz.underlying49 rfl (Le.old _ _)) ?_
 refine RB rfl rfl rfl ?_
 refine RN ?_
 refine A.cond rfl (fun hc9 => ?_) (fun hc9 => ?_)
 ·have hrl : 0 < r.length := by simp at hc9; omega
  refine A.skip ?_
  refine EN ?_
  refine A.block ?_
  refine GS ?_
  refine TN 2 ?_
  refine RS (ok_loadA (s := 1000002) (by decide) Tryz.underlying107 rfl (size107.of (stL_length _)) rfl rfl) ?_
  refine RS (ok_callM (compressed_fn L (by omega)) (Sub.cons rfl (Sub.cons rfl KN)) tabs_v (Args.cons rfl LA Args.nil)) ?_
  refine RN ?_
  refine ⟨_, _, eff_alloc (n := 36) (d := 5) (k := 1000005) zero105 (by decide), fun b5 hb5 => ?_⟩
  have hBb5 := hb5.1
  refine TF 3 ?_
  refine RN ?_
  refine ⟨_, eff_storeA (n := 36) (s := 1000005) (size105.of (R8.size _)) rfl rfl (all_u32 _) hBb5 rfl ((R8.size _).symm) (LO 1 rfl (LV 2 rfl (LV 4 rfl (LV 5 rfl (LT 1000002 rfl (LT 1000004 rfl (LeftS.cons (t := 1900000) rfl (Surv.tab (by omega)) (LeftS.cons (t := 1900001) rfl (Surv.tab (by omega)) LN)))))))), ?_⟩
  refine TL ?_
  refine RN ?_
  refine GS ?_
  refine TF 5 ?_
  refine RS (ok_field field107_1 (by decide) rfl) ?_
  refine RS (ok_loadA (s := 1000002) (by decide) Tryz.underlying107 rfl (size107.of (stL_length _)) rfl rfl) ?_
  refine RS (ok_call (filled_fn (fullR L) (restL L) L.length (restL_length L) (by omega)) (A1 rfl)) ?_
  refine RS (ok_sliceX (l := L.length % 64) (h := 64) (m := 64) Tryz.underlying103 info5 rfl (.inl ⟨_, _, rfl, rfl⟩) (.inr ⟨rfl, rfl, rfl⟩) (.inr ⟨rfl, rfl⟩) (by omega) (by omega) (by omega) (.inl (by omega))) ?_
  refine RM rfl ?_
  refine RN ?_
  refine ⟨_, eff_copyS (n := 36) (s := 1000002) (l := r) Tryz.underlying49 info5 rfl rfl (Le.old _ _) hBb2 rfl (by rw [stL_length]; omega) (by decide) (LO 1 rfl (LV 2 rfl (LV 4 rfl (LV 5 rfl (LB 1000004 rfl (LT 1000005 rfl (LeftS.cons (t := 1900000) rfl (Surv.tab (by omega)) (LeftS.cons (t := 1900001) rfl (Surv.tab (by omega)) LN)))))))), ?_⟩
  refine TL ?_
  refine RA rfl ?_
  refine RN ?_
  refine A.sub (KC 1 rfl (KC 2 rfl (KC 4 rfl (KC 5 rfl (KC 6 rfl (KE 1000002 rfl (show blk b2 107 _ = blk b2 107 (stM (fullR L) (restL (L ++ r.take (64 - L.length % 64))) L.length) from congrArg _ (st_copy L r)) (KC 1000004 rfl (KC 1000005 rfl (KC 1900000 rfl (KC 1900001 rfl KN)))))))))) ?_
  refine GS ?_
  refine TL ?_
  refine RM rfl ?_
  refine RM rfl ?_
  refine RS ((ok_sliceO (l := min r.length (64 - L.length % 64)) (h := r.length) (f := byt r) (ds := r.map byteD) Tryz.underlying49 info5 rfl (Le.refl _) (.inl ⟨_, _, rfl, rfl⟩) (.inr ⟨rfl, by simp⟩) (by omega) (by simp)).le (d' := old w₀.heap.size (byt (r.drop (min r.length (64 - L.length % 64))))) (Le.eq (by rw [byt, List.map_drop, List.take_of_length_le (by simp)]))) ?_
  refine RA rfl ?_
  refine RN ?_
  refine GS ?_
  refine TF 6 ?_
  refine RS (ok_field field107_2 (by decide) rfl) ?_
  refine RS (ok_loadV (s := 1000002) (by decide) Tryz.underlying28 rfl rfl rfl (stM_size (restL_length _))) ?_
  refine RM rfl ?_
  refine RS (ok_conv Tryz.underlying3 Tryz.underlying28 rfl) ?_; refine RZ (.int .u64 ((min r.length (64 - L.length % 64) : Nat) : Int)) (by rw [wrapN_u64 (by omega)]) ?_
  refine RBS rfl rfl rfl (.int .u64 ((L.length + min r.length (64 - L.length % 64) : Nat) : Int)) (by rw [wrap_u64 (by omega) (by omega)]; congr 1) ?_
  refine RS (ok_field field107_2 (by decide) rfl) ?_
  refine RN ?_
  refine ⟨_, eff_storeS (n := 36) (s := 1000002) info28 rfl rfl rfl hBb2 rfl (by rw [stM_length (restL_length _)]; decide) (LO 1 rfl (LV 2 rfl (LV 4 rfl (LV 5 rfl (LB 1000004 rfl (LT 1000005 rfl (LeftS.cons (t := 1900000) rfl (Surv.tab (by omega)) (LeftS.cons (t := 1900001) rfl (Surv.tab (by omega)) LN)))))))), ?_⟩
  refine TL ?_
  refine RN ?_
  refine A.sub (KC 1 rfl (KC 2 rfl (KC 4 rfl (KC 5 rfl (KE 1000002 rfl (show blk b2 107 _ = blk b2 107 (stM (fullR L) (restL (L ++ r.take (64 - L.length % 64))) (L.length + min r.length (64 - L.length % 64))) from congrArg _ (stM_setSize (restL_length _))) (KC 1000004 rfl (KC 1000005 rfl (KC 1900000 rfl (KC 1900001 rfl KN))))))))) ?_
  refine GS ?_
  refine TL ?_
  refine RS (ok_loadA (s := 1000002) (by decide) Tryz.underlying107 rfl (size107.of (stM_length (restL_length _))) rfl rfl) ?_
  refine RS (ok_call (filled_fn (fullR L) (restL (L ++ r.take (64 - L.length % 64))) (L.length + min r.length (64 - L.length % 64)) (restL_length _) (by omega)) (A1 rfl)) ?_
  refine RB rfl rfl rfl ?_
  refine RN ?_
  refine A.cond rfl (fun hc29 => ?_) (fun hc29 => ?_)
  ·refine GE ?_
   refine TF 5 ?_
   refine RS (ok_loadA (s := 1000005) (by decide) Tryz.underlying105 rfl (size105.of (R8.size _)) rfl rfl) ?_
   refine RS (ok_field field107_1 (by decide) rfl) ?_
   refine RS (ok_loadP (s := 1000002) (by decide) Tryz.underlying103 rfl size103 rfl rfl (by rw [stM_length (restL_length _)]; decide) (stM_rest (restL_length _))) ?_
   refine RS (ok_callM (Compress_fn (chain H8 L (L.length / 64)) (restL (L ++ r.take (64 - L.length % 64))) (restL_length _)) (Sub.cons rfl (Sub.cons rfl KN)) tabs_v (Args.cons rfl LA (Args.cons rfl LA Args.nil))) ?_
   refine RS (ok_field field107_0 (by decide) rfl) ?_
   refine RN ?_
   refine ⟨_, eff_storeP (n := 36) (s := 1000002) (size105.of (R8.size _)) rfl rfl (all_u32 _) hBb2 rfl (by rw [stM_length (restL_length _), R8.size]; decide) (LO 1 rfl (LV 2 rfl (LV 4 rfl (LB 1000004 rfl (LT 1000005 rfl (LeftS.cons (t := 1900000) rfl (Surv.tab (by omega)) (LeftS.cons (t := 1900001) rfl (Surv.tab (by omega)) LN))))))), ?_⟩
   refine TL ?_
   refine RN ?_
   refine End.sub (KC 1 rfl (KC 2 rfl (KC 4 rfl (KE 1000002 rfl (show blk b2 107 _ = blk b2 107 (stL (L ++ r.take (64 - L.length % 64))) from congrArg _ (by rw [stM_setFull, stL, fullR_step L _ (block_len L r (by have := beq_iff_eq.1 hc29; omega) (by omega)), List.length_append, List.length_take, Nat.min_comm (64 - L.length % 64)])) (KC 1000004 rfl (KC 1000005 rfl (KC 1900000 rfl (KC 1900001 rfl KN)))))))) ?_
   refine End.normal_block ?_
   refine End.normal_then ?_
   refine End.again (c + min r.length (64 - L.length % 64)) ?_ ?_ ?_
   ·show _ ≤ _; omega
   ·show _ - _ < _ - _; omega
   ·exact (KE 1 rfl (by rw [← List.drop_drop, hr]) (KC 2 rfl (KC 4 rfl (KE 1000002 rfl (by rw [List.take_add, hr, ← List.append_assoc, hL, Nat.min_comm r.length, ← List.take_eq_take_min]) (KC 1000004 rfl (KC 1900000 rfl (KC 1900001 rfl KN)))))))
  ·have hst : stM (fullR L) (restL (L ++ r.take (64 - L.length % 64))) (L.length + min r.length (64 - L.length % 64)) = stL (L ++ r.take (64 - L.length % 64)) := by
    rw [stL, fullR_same L _ (part_len L r (by have := beq_eq_false_iff_ne.1 hc29; omega)), List.length_append, List.length_take, Nat.min_comm (64 - L.length % 64)]
   rw [hst]
   refine A.skip ?_
   refine End.normal_block ?_
   refine End.normal_then ?_
   refine End.again (c + min r.length (64 - L.length % 64)) ?_ ?_ ?_
   ·show _ ≤ _; omega
   ·show _ - _ < _ - _; omega
   ·exact (KE 1 rfl (by rw [← List.drop_drop, hr]) (KC 2 rfl (KC 4 rfl (KE 1000002 rfl (by rw [List.take_add, hr, ← List.append_assoc, hL, Nat.min_comm r.length, ← List.take_eq_take_min]) (KC 1000004 rfl (KC 1900000 rfl (KC 1900001 rfl KN)))))))
 ·have hr0 : r = [] := by simpa using hc9
  refine A.exit ?_
  refine End.exit_then ?_
  refine End.exit_then ?_
  refine End.exit_here ?_
  refine EN ?_
  refine GS ?_
  refine TF 1 ?_
  refine RS (ok_loadA (s := 1000002) (by decide) Tryz.underlying107 rfl (size107.of (stL_length _)) rfl rfl) ?_
  refine RN ?_
  refine ⟨_, eff_storeA (n := 36) (s := 1000004) (size107.of (stL_length _)) rfl rfl (stL_ones _) hBb4 rfl ((stL_length _).symm) (LV 4 rfl (LB 1000002 rfl (LeftS.cons (t := 1900000) rfl (Surv.tab (by omega)) (LeftS.cons (t := 1900001) rfl (Surv.tab (by omega)) LN)))), ?_⟩
  refine TL ?_
  refine RN ?_
  refine A.ret ?_
  exact End.cell1 (s := 1000004) rfl Tryz.underlying107 rfl (size107.of (stL_length _)) rfl rfl (Le.v (by rw [← hL, stV]; simp [List.drop_eq_nil_iff.1 (hr.trans hr0), List.take_of_length_le]))
end Go.Proofs.YthadcgkcgpinhaaGreatDoor
namespace Go.Proofs.YthadcgkcgpinhaaGreatDoor
open Go Go.RowKit
set_option linter.unusedVariables false
set_option maxRecDepth 20000

theorem Chunk_fnB (g m c : Nat) : FnB Tryz.prog 84 [.v (.slice (some ⟨g, 0, none⟩) m c), .v (.int .i64 64)] (fun B => closD B 96 49 3 (.slice (some ⟨g, 0, none⟩) m c) (.int .i64 64)) := by
 refine FnB.of Tryz.func84 rfl (by kernel_rfl) Tryz.ntmps84 (by simp) (fun w => [(0, .v (.slice (some ⟨g, 0, none⟩) m c)), (1, .v (.int .i64 64))]) (fun w => (Start.v rfl (Start.v rfl Start.nil))) fun w₀ => ?_
 refine GS ?_
 refine TN 0 ?_
 refine RN ?_
 refine ⟨_, _, eff_box1 (n := 9) (d := 2) (k := 1000002) rfl rfl (by decide), fun b2 hb2 => ?_⟩
 have hBb2 := hb2.1
 refine TN 1 ?_
 refine RN ?_
 refine ⟨_, _, eff_box1 (n := 9) (d := 3) (k := 1000003) rfl rfl (by decide), fun b3 hb3 => ?_⟩
 have hBb3 := hb3.1
 have hlt_b2_b3 : b2 < b3 := hb3.2 1000002 _ _ _ rfl
 refine TL ?_
 refine RA rfl ?_
 refine RN ?_
 refine A.seq ?_
 refine GS ?_
 refine TL ?_
 refine RS (ok_loadV (s := 1000003) (by decide) Tryz.underlying3 rfl rfl rfl (rfl)) ?_
 refine RBS rfl rfl rfl (.bool false) (rfl) ?_
 refine RN ?_
 refine A.no rfl ?_
 refine A.skip ?_
 refine EN ?_
 refine GS ?_
 refine TL ?_
 refine RS (ok_makeFunc2 rfl rfl) ?_
 refine RA rfl ?_
 refine RN ?_
 refine A.ret ?_
 exact End.clos rfl hBb2 hlt_b2_b3 rfl (k₁ := 1000002) (k₂ := 1000003) rfl rfl
theorem Chunk1_seq {w₀ : World} {N m l p q g cap : Nat} {J : Nat → World → Prop} {arg : Nat → D} (hm : m = 64 * N) (hcap : m ≤ cap) (hmax : cap ≤ maxLen) (harg : ∀ i, i < N → arg i = .v (.slice (some ⟨g, 64 * i, none⟩) 64 64))
  (hq : Seqs Tryz.prog w₀ N l arg (fun _ => [(1000091, blk p 49 [.slice (some ⟨g, 0, none⟩) m cap]), (1000092, blk q 3 [.int .i64 64])]) J) {w : World} (h0 : J 0 w) :
  Calls Tryz.prog 96 (.func (.yield l) #[] #[] :: [.pointer (some ⟨p, 0, none⟩), .pointer (some ⟨q, 0, none⟩)] : List Value).toArray w fun e W => (∃ v, e = .returned v) ∧ J N W := by
 have hmx : maxLen = 9223372036854775807 := rfl
 obtain ⟨hb, hs, hV⟩ := hq.holds 0 w h0
 refine Calls.within (n := 31) (E := [(0, .v (.func (.yield l) #[] #[])), (1, .v (.pointer (some ⟨p, 0, none⟩))), (2, .v (.pointer (some ⟨q, 0, none⟩))), (1000090, jD (J 0)), (1000091, blk p 49 [.slice (some ⟨g, 0, none⟩) m cap]), (1000092, blk q 3 [.int .i64 64])]) Tryz.func96 rfl Tryz.ntmps96 (by simp) (by decide) hb hs ?_ ?_
 ·intro x hx
  simp only [List.mem_cons, List.not_mem_nil, or_false] at hx
  rcases hx with rfl | rfl | rfl | rfl | rfl | rfl
  ·exact .inr ⟨_, rfl, rfl⟩
  ·exact .inr ⟨_, rfl, rfl⟩
  ·exact .inr ⟨_, rfl, rfl⟩
  ·exact .inl ⟨vle rfl, jD_mk h0⟩
  ·exact .inl ⟨vle rfl, hV _ (by simp)⟩
  ·exact .inl ⟨vle rfl, hV _ (by simp)⟩
 refine GS ?_
 refine TL ?_
 refine RA rfl ?_
 refine RN ?_
 refine A.block ?_
 refine A.loop (ι := Nat) (fun i => i ≤ N) (fun i => [(0, .v (.func (.yield l) #[] #[])), (1, .v (.pointer (some ⟨p, 0, none⟩))), (2, .v (.pointer (some ⟨q, 0, none⟩))), (4, .v (.int .i64 ((64 * i : Nat) : Int))), (1000090, jD (J i)), (1000091, blk p 49 [.slice (some ⟨g, 0, none⟩) m cap]), (1000092, blk q 3 [.int .i64 64])]) (fun i => N - i) 0 ?_ ?_ ?_
 ·exact Nat.zero_le _
 ·exact (KC 0 rfl (KC 1 rfl (KC 2 rfl (KC 4 rfl (KC 1000090 rfl (KC 1000091 rfl (KC 1000092 rfl KN)))))))
 intro i hi
 refine A.seq ?_
 refine GS ?_
 refine TL ?_
 refine RM rfl ?_
 refine RS (ok_loadV (s := 1000091) (by decide) Tryz.underlying49 rfl rfl rfl (rfl)) ?_
 refine RS (ok_lenV Tryz.underlying49 rfl) ?_
 refine RB rfl rfl rfl ?_
 refine RN ?_
 refine A.cond rfl (fun hc9 => ?_) (fun hc9 => ?_)
 ·have hlt : i < N := by simp at hc9; omega
  refine A.skip ?_
  refine EN ?_
  refine A.seq ?_
  refine A.block ?_
  refine GD ?_
  refine TL ?_
  refine RS (ok_loadV (s := 1000092) (by decide) Tryz.underlying3 rfl rfl rfl (rfl)) ?_
  refine RS (ok_loadV (s := 1000091) (by decide) Tryz.underlying49 rfl rfl rfl (rfl)) ?_
  refine RM rfl ?_
  refine RS (ok_sliceS (l := 64 * i) (h := m) (m := cap) Tryz.underlying49 info5 rfl (.inl ⟨_, _, rfl, rfl⟩) (.inr ⟨rfl, rfl, rfl⟩) (.inr ⟨rfl, rfl⟩) (by omega) (by omega) (by omega) (.inl (by omega))) ?_
  refine RS (ok_lenV Tryz.underlying49 rfl) ?_
  refine RS (ok_min rfl rfl) ?_; refine RZ (.int .i64 ((64 : Nat) : Int)) (by congr 1; omega) ?_
  refine RA rfl ?_
  refine RN ?_
  refine GS ?_
  refine TF 10 ?_
  refine RM rfl ?_
  refine RS (ok_loadV (s := 1000091) (by decide) Tryz.underlying49 rfl rfl rfl (rfl)) ?_
  refine RM rfl ?_
  refine RM rfl ?_
  refine RM rfl ?_
  refine RBS rfl rfl rfl (.int .i64 ((64 * i + 64 : Nat) : Int)) (by rw [wrap_i64 (by omega) (by omega)]; first | rfl | (congr 1; omega)) ?_
  refine RM rfl ?_
  refine RM rfl ?_
  refine RBS rfl rfl rfl (.int .i64 ((64 * i + 64 : Nat) : Int)) (by rw [wrap_i64 (by omega) (by omega)]; first | rfl | (congr 1; omega)) ?_
  refine RS (ok_sliceS (l := 64 * i) (h := 64 * i + 64) (m := 64 * i + 64) Tryz.underlying49 info5 rfl (.inl ⟨_, _, rfl, rfl⟩) (.inl ⟨_, _, rfl, rfl⟩) (.inl ⟨_, _, rfl, rfl⟩) (by omega) (by omega) (by omega) (.inl (by omega))) ?_; refine RZ (.slice (some ⟨g, 64 * i, none⟩) 64 64) (by rw [Nat.zero_add, show 64 * i + 64 - 64 * i = 64 from by omega]) ?_
  refine RN ?_
  refine ⟨_, eff_yield (vJ := 1000090) hq i hlt rfl rfl rfl (Le.eq (harg i hlt).symm) (by decide) (fun p hp => by simp only [List.mem_cons, List.not_mem_nil, or_false] at hp; rcases hp with rfl | rfl <;> exact vle rfl) (by decide) (Left.cons (t := 0) rfl (Stays.v _ _) (Left.cons (t := 1) rfl (Stays.v _ _) (Left.cons (t := 2) rfl (Stays.v _ _) (Left.cons (t := 4) rfl (Stays.v _ _) Left.nil)))), ?_⟩
  refine TL ?_
  refine RS (ok_not rfl) ?_; refine RZ (.bool false) (rfl) ?_
  refine RN ?_
  refine A.no rfl ?_
  refine A.skip ?_
  refine End.normal_block ?_
  refine EN ?_
  refine GE ?_
  refine TL ?_
  refine RM rfl ?_
  refine RS (ok_loadV (s := 1000092) (by decide) Tryz.underlying3 rfl rfl rfl (rfl)) ?_
  refine RBS rfl rfl rfl (.int .i64 ((64 * (i + 1) : Nat) : Int)) (by rw [wrap_i64 (by omega) (by omega)]; first | rfl | (congr 1; omega)) ?_
  refine RA rfl ?_
  refine RN ?_
  refine End.sub (KC 0 rfl (KC 1 rfl (KC 2 rfl (KC 4 rfl (KC 1000090 rfl (KC 1000091 rfl (KC 1000092 rfl KN))))))) ?_
  refine End.normal_then ?_
  refine End.again (i + 1) ?_ ?_ ?_
  ·show _ ≤ _; omega
  ·show _ - _ < _ - _; omega
  ·exact (KC 0 rfl (KC 1 rfl (KC 2 rfl (KC 4 rfl (KC 1000090 rfl (KC 1000091 rfl (KC 1000092 rfl KN)))))))
 ·obtain rfl : i = N := by simp at hc9; omega
  refine A.exit ?_
  refine End.exit_then ?_
  refine End.exit_then ?_
  refine End.exit_here ?_
  exact End.seq (vJ := 1000090) hq rfl rfl
set_option maxHeartbeats 1000000 in
theorem Sum_fn (l : List UInt8) (hl : l.length ≤ 1000000) : FnM Tryz.prog 59 tabs [.v (stV l)] (.v (aggV ((sha l).map byteV))) := by
 refine FnM.of Tryz.func59 rfl (by kernel_rfl) Tryz.ntmps59 (by simp) (by decide) (fun w => [(0, .v (stV l)), (1900000, tab 0 (H8.list.map u32V)), (1900001, tab 1 (K64.map u32V))]) (fun w => (StartM.v rfl (StartM.m (by simp [tabs]) (by decide) (StartM.m (by simp [tabs]) (by decide) StartM.nil)))) fun w₀ hM => ?_
 have htab := tabs_hi hM
 refine GS ?_
 refine TN 0 ?_
 refine RN ?_
 refine ⟨_, _, eff_box (n := 42) (d := 1) (k := 1000001) rfl (by decide), fun b1 hb1 => ?_⟩
 have hBb1 := hb1.1
 refine TN 1 ?_
 refine RN ?_
 refine ⟨_, _, eff_alloc (n := 42) (d := 2) (k := 1000002) zero34 (by decide), fun b2 hb2 => ?_⟩
 have hBb2 := hb2.1
 refine TL ?_
 refine RN ?_
 refine GS ?_
 refine TL ?_
 refine RS (ok_loadA (s := 1000001) (by decide) Tryz.underlying107 rfl (size107.of (stL_length l)) rfl rfl) ?_
 refine RS (ok_call (filled_fn (fullR l) (restL l) l.length (restL_length l) hl) (A1 rfl)) ?_
 refine RA rfl ?_
 refine RN ?_
 refine GD ?_
 refine TL ?_
 refine RS (ok_field field107_1 (by decide) rfl) ?_
 refine RM rfl ?_
 refine RM rfl ?_
 refine RS (ok_sliceX (l := 0) (h := l.length % 64) (m := l.length % 64) Tryz.underlying103 info5 rfl (.inr ⟨rfl, rfl⟩) (.inl ⟨_, _, rfl, rfl⟩) (.inl ⟨_, _, rfl, rfl⟩) (by omega) (by omega) (by omega) (.inr rfl)) ?_
 refine RS (ok_loadA (s := 1000001) (by decide) Tryz.underlying107 rfl (size107.of (stL_length l)) rfl rfl) ?_
 refine RS (ok_call (ending_fn l hl) (A1 rfl)) ?_
 refine RS ((ok_appendCap (s := 1000001) (m := l.length % 64) (us := (l.drop (64 * (l.length / 64))).map byteV) (vs := (endL l.length).map byteV) (by decide) Tryz.underlying49 info5 (by decide) rfl rfl rfl (by rw [← restL_take, List.map_take, ← stL_rest, List.take_take, Nat.min_eq_left (by omega)]) (by rw [stL_length]; omega) rfl (Le.eq (byt_vals _)) (by rw [List.length_map, endL_length]; omega) (by rw [List.length_map, endL_length]; omega)).le (d' := own w₀.heap.size 5 (tailL l).length ((tailL l).map byteV)) (Le.eq (by rw [tailL_length, List.length_map, endL_length, ← List.map_append]; rfl))) ?_
 refine RA rfl ?_
 refine RN ?_
 refine A.openOwn (t := 4) (k := 1000090) rfl (by rw [tailL_length]; omega) fun g cap ys hBg hcap1 hcap2 hgl hgx => ?_
 refine GS ?_
 refine TN 2 ?_
 refine RS (ok_loadA (s := 1000001) (by decide) Tryz.underlying107 rfl (size107.of (stL_length l)) rfl rfl) ?_
 refine RS (ok_callM (compressed_fn l hl) (Sub.cons rfl (Sub.cons rfl KN)) tabs_v (Args.cons rfl LA Args.nil)) ?_
 refine RN ?_
 refine ⟨_, _, eff_alloc (n := 42) (d := 5) (k := 1000005) zero105 (by decide), fun b5 hb5 => ?_⟩
 have hBb5 := hb5.1
 refine TF 3 ?_
 refine RN ?_
 refine ⟨_, eff_storeA (n := 42) (s := 1000005) (size105.of (R8.size _)) rfl rfl (all_u32 _) hBb5 rfl (by first | exact (R8.size _).trans (R8.size _).symm | rfl) (LV 2 rfl (LV 4 rfl (LV 5 rfl (LT 1000001 rfl (LT 1000002 rfl (LT 1000090 rfl (LeftS.cons (t := 1900000) rfl (Surv.tab (by omega)) (LeftS.cons (t := 1900001) rfl (Surv.tab (by omega)) LN)))))))), ?_⟩
 refine TL ?_
 refine RN ?_
 refine A.seq ?_
 refine GS ?_
 refine TL ?_
 refine RM rfl ?_
 refine RS (ok_callB (Chunk_fnB g (tailL l).length cap) (fun _ _ => closD_mono _ _) (A2 rfl rfl)) ?_
 refine RN ?_
 refine A.openClos (t := 22) (k₁ := 1000091) (k₂ := 1000092) rfl fun p q hBp hpq => ?_
 refine A.block ?_
 refine A.range (gf := 96) (N := (tailL l).length / 64) (vL := 1000098) (vD := 1000099) (tp := 23) (lb := [.pointer (some ⟨p, 0, none⟩), .pointer (some ⟨q, 0, none⟩)]) (S := [(2, .v (.pointer (some ⟨b2, 0, none⟩))), (5, .v (.pointer (some ⟨b5, 0, none⟩)))])
  (V := fun i => [(1000002, blk b2 34 (List.replicate 32 (.int .u8 0))), (1000005, blk b5 105 ((chain (chain H8 l (l.length / 64)) (tailL l) i).list.map u32V)), (1000090, blk g 5 ((tailL l).map byteV ++ ys)), (1000091, blk p 49 [.slice (some ⟨g, 0, none⟩) (tailL l).length cap]), (1000092, blk q 3 [.int .i64 64]), (1900000, tab 0 (H8.list.map u32V)), (1900001, tab 1 (K64.map u32V))])
  (Eb := fun i => (6, .v (.slice (some ⟨g, 64 * i, none⟩) 64 64)) :: (23, .v (.slice (some ⟨g, 64 * i, none⟩) 64 64)) :: ([(1000002, blk b2 34 (List.replicate 32 (.int .u8 0))), (1000005, blk b5 105 ((chain (chain H8 l (l.length / 64)) (tailL l) i).list.map u32V)), (1000090, blk g 5 ((tailL l).map byteV ++ ys)), (1000091, blk p 49 [.slice (some ⟨g, 0, none⟩) (tailL l).length cap]), (1000092, blk q 3 [.int .i64 64]), (1900000, tab 0 (H8.list.map u32V)), (1900001, tab 1 (K64.map u32V))] ++ [(2, .v (.pointer (some ⟨b2, 0, none⟩))), (5, .v (.pointer (some ⟨b5, 0, none⟩)))]))
  (arg := fun i => .v (.slice (some ⟨g, 64 * i, none⟩) 64 64)) rfl ⟨_, Tryz.func96, by kernel_rfl, rfl⟩ (by decide) (by decide) (KC 1000002 rfl (KC 1000005 rfl (KC 1000090 rfl (KC 1000091 rfl (KC 1000092 rfl (KC 1900000 rfl (KC 1900001 rfl (KC 2 rfl (KC 5 rfl KN)))))))))
  (fun x hx => by simp only [List.mem_cons, List.not_mem_nil, or_false] at hx; rcases hx with rfl | rfl <;> exact ⟨vlt rfl, .inl ⟨_, rfl⟩⟩)
  (fun i x hx => by simp only [List.mem_cons, List.not_mem_nil, or_false] at hx; rcases hx with rfl | rfl | rfl | rfl | rfl | rfl | rfl <;> exact vle rfl)
  (fun i l' _ x hx => by simp only [List.mem_cons, List.not_mem_nil, or_false] at hx; rcases hx with rfl | rfl | rfl | rfl | rfl | rfl | rfl <;> first | exact Firm.blk | exact Firm.tab)
  (fun i l' _ x hx => by simp only [List.mem_cons, List.mem_append, List.not_mem_nil, or_false] at hx; rcases hx with rfl | rfl | (rfl | rfl | rfl | rfl | rfl | rfl | rfl) | rfl | rfl <;> first | exact Firm.blk | exact Firm.tab | exact Firm.v _ _)
  (fun J l' w hq h0 => Chunk1_seq (g := g) (cap := cap) (tailL_mod l) hcap1 hcap2 (fun i _ => rfl) (hq.sub fun i x hx => by simp only [List.mem_cons, List.not_mem_nil, or_false] at hx ⊢; rcases hx with rfl | rfl <;> simp) h0)
  (fun i l' a w _ h => assign_one (by decide) (by decide) (by decide) h) ?_ ?_
 ·intro i l' D rr mm hi
  refine A.block ?_
  refine A.reg (by kernel_rfl) (by kernel_rfl) (.inr (by kernel_rfl)) ?_
  refine TD 5 ?_
  refine RS (ok_loadA (s := 1000005) (by decide) Tryz.underlying105 rfl (size105.of (R8.size _)) rfl rfl) ?_
  refine RM rfl ?_
  refine RS (ok_arrayAt Tryz.underlying103 rfl (by decide)) ?_
  refine RS (ok_loadP (s := 1000090) (by decide) Tryz.underlying103 rfl size103 rfl rfl (by have := tailL_mod l; simp; omega) (tailL_block l hi)) ?_
  refine RS (ok_callM (Compress_fn (chain (chain H8 l (l.length / 64)) (tailL l) i) (((tailL l).drop (64 * i)).take 64) (by have := tailL_mod l; simp; omega)) (Sub.cons rfl (Sub.cons rfl KN)) tabs_v (Args.cons rfl LA (Args.cons rfl LA Args.nil))) ?_; refine RZ (aggV ((chain (chain H8 l (l.length / 64)) (tailL l) (i + 1)).list.map u32V)) (rfl) ?_
  refine RN ?_
  refine ⟨_, eff_storeA (n := 42) (s := 1000005) (size105.of (R8.size _)) rfl rfl (all_u32 _) hBb5 rfl (by first | exact (R8.size _).trans (R8.size _).symm | rfl) (LT 1000002 rfl (LT 1000090 rfl (LT 1000091 rfl (LT 1000092 rfl (LeftS.cons (t := 1000098) rfl (Surv.rec rfl) (LeftS.cons (t := 1000099) rfl (Surv.rec rfl) (LeftS.cons (t := 1900000) rfl (Surv.tab (by omega)) (LeftS.cons (t := 1900001) rfl (Surv.tab (by omega)) LN)))))))), ?_⟩
  refine TL ?_
  refine RN ?_
  refine End.normal_block ?_
  exact End.round (KC 1000098 rfl (KC 1000099 rfl (KC 1000002 rfl (KC 1000005 rfl (KC 1000090 rfl (KC 1000091 rfl (KC 1000092 rfl (KC 1900000 rfl (KC 1900001 rfl KN))))))))) (fun x hx => by simp only [List.mem_cons, List.not_mem_nil, or_false] at hx; rcases hx with rfl | rfl | rfl | rfl | rfl | rfl | rfl | rfl | rfl <;> exact vle rfl) (by decide)
 ·intro D hD
  refine End.normal_block ?_
  refine EN ?_
  refine GS ?_
  refine TN 0 ?_
  refine RN ?_
  refine ⟨_, _, eff_alloc (n := 42) (d := 7) (k := 1000007) zero34 (by decide), fun b7 hb7 => ?_⟩
  have hBb7 := hb7.1
  have hlt_b2_b7 : b2 < b7 := hb7.2 1000002 _ _ _ rfl
  refine TL ?_
  refine RN ?_
  refine A.seq ?_
  refine GS ?_
  refine TL ?_
  refine RS (ok_loadA (s := 1000005) (by decide) Tryz.underlying105 rfl (size105.of (R8.size _)) rfl rfl) ?_; refine RZ (aggV ((shaR l).list.map u32V)) (by rw [tailL_sha]) ?_
  refine RM rfl ?_
  refine RN ?_
  refine A.block ?_
  refine A.loop (ι := Nat) (fun i => i ≤ 8) (fun i => [(2, .v (.pointer (some ⟨b2, 0, none⟩))), (7, .v (.pointer (some ⟨b7, 0, none⟩))), (29, .v (aggV ((shaR l).list.map u32V))), (30, .v (.int .i64 ((i : Nat) : Int))), (1000002, blk b2 34 (List.replicate 32 (.int .u8 0))), (1000007, blk b7 34 (tableB ((sha l).take (4 * i)) 32)), (1000099, recD D (.deferred (some [])) 0), (1900000, tab 0 (H8.list.map u32V)), (1900001, tab 1 (K64.map u32V))]) (fun i => 8 - i) 0 ?_ ?_ ?_
  ·exact Nat.zero_le _
  ·exact (KC 2 rfl (KC 7 rfl (KC 29 rfl (KC 30 rfl (KC 1000002 rfl (KE 1000007 rfl (by rw [Nat.mul_zero, List.take_zero, ← tableB_nil]) (KC 1000099 rfl (KC 1900000 rfl (KC 1900001 rfl KN)))))))))
  intro i hi
  refine GS ?_
  refine TL ?_
  refine RB rfl rfl rfl ?_
  refine RN ?_
  refine A.seq ?_
  refine A.cond rfl (fun hc31 => ?_) (fun hc31 => ?_)
  ·have hlt : i < 8 := by simp at hc31; omega
   refine A.skip ?_
   refine EN ?_
   refine A.seq ?_
   refine A.block ?_
   refine GS ?_
   refine TL ?_
   refine RM rfl ?_
   refine RS (ok_indexV1 i Tryz.underlying105 Tryz.underlying27 rfl info27 rfl rfl rfl hlt (map_get32 (by show i < 8; omega))) ?_
   refine RA rfl ?_
   refine RA rfl ?_
   refine RN ?_
   refine A.reg (by kernel_rfl) (by kernel_rfl) (.inr (by kernel_rfl)) ?_
   refine TD 5 ?_
   refine RM rfl ?_
   refine RBS rfl rfl rfl (.int .i64 ((4 * i : Nat) : Int)) (by rw [wrap_i64 (by omega) (by omega)]; first | rfl | (congr 1; omega)) ?_
   refine RS (ok_sliceX (l := 4 * i) (h := 32) (m := 32) Tryz.underlying34 info5 rfl (.inl ⟨_, _, rfl, rfl⟩) (.inr ⟨rfl, rfl, rfl⟩) (.inr ⟨rfl, rfl⟩) (by omega) (by omega) (by omega) (.inl (by omega))) ?_
   refine RM rfl ?_
   refine RS (ok_call (Put32_fn ((((shaR l).list.getD i 0).toNat : Nat) : Int) (Int.natCast_nonneg _) (by have := u32_lt ((shaR l).list.getD i 0); omega)) (A1 rfl)) ?_
   refine RN ?_
   refine ⟨_, eff_copyS (n := 42) (s := 1000007) (l := be 4 ((shaR l).list.getD i 0).toNat) Tryz.underlying49 info5 rfl rfl (le_byt _ _) hBb7 rfl (by rw [tableB_length (by simp [sha_length]; omega)]; omega) (by decide) (LV 2 rfl (LV 7 rfl (LV 29 rfl (LV 30 rfl (LB 1000002 rfl (LeftS.cons (t := 1000099) rfl (Surv.rec rfl) (LeftS.cons (t := 1900000) rfl (Surv.tab (by omega)) (LeftS.cons (t := 1900001) rfl (Surv.tab (by omega)) LN)))))))), ?_⟩
   refine TL ?_
   refine RN ?_
   refine End.sub (KC 2 rfl (KC 7 rfl (KC 29 rfl (KC 30 rfl (KC 1000002 rfl (KE 1000007 rfl (show blk b7 34 _ = blk b7 34 (tableB ((sha l).take (4 * (i + 1))) 32) from congrArg _ (sha_copy l hlt)) (KC 1000099 rfl (KC 1900000 rfl (KC 1900001 rfl KN))))))))) ?_
   refine End.normal_block ?_
   refine EN ?_
   refine GE ?_
   refine TL ?_
   refine RBS rfl rfl rfl (.int .i64 ((i + 1 : Nat) : Int)) (by rw [wrap_i64 (by omega) (by omega)]; first | rfl | (congr 1; omega)) ?_
   refine RM rfl ?_
   refine RN ?_
   refine End.normal_then ?_
   refine End.again (i + 1) ?_ ?_ ?_
   ·show _ ≤ _; omega
   ·show _ - _ < _ - _; omega
   ·exact (KC 2 rfl (KC 7 rfl (KC 29 rfl (KC 30 rfl (KC 1000002 rfl (KC 1000007 rfl (KC 1000099 rfl (KC 1900000 rfl (KC 1900001 rfl KN)))))))))
  ·obtain rfl : i = 8 := by simp at hc31; omega
   refine A.exit ?_
   refine End.exit_then ?_
   refine End.exit_then ?_
   refine End.exit_here ?_
   refine EN ?_
   refine GS ?_
   refine TF 1 ?_
   refine RS (ok_loadA (s := 1000007) (by decide) Tryz.underlying34 rfl (size34.of (by rw [tableB_length (by simp [sha_length])])) rfl rfl) ?_; refine RZ (aggV ((sha l).map byteV)) (by rw [tableB_full (by simp [sha_length]), List.take_of_length_le (by rw [sha_length]; decide)]) ?_
   refine RN ?_
   refine ⟨_, eff_storeA (n := 42) (s := 1000002) (size34.of (by rw [List.length_map, sha_length])) rfl rfl (all_bytes _) hBb2 rfl (by rw [List.length_map, sha_length, List.length_replicate]) (LV 2 rfl (LB 1000007 rfl (LeftS.cons (t := 1000099) rfl (Surv.rec rfl) (LeftS.cons (t := 1900000) rfl (Surv.tab (by omega)) (LeftS.cons (t := 1900001) rfl (Surv.tab (by omega)) LN))))), ?_⟩
   refine TL ?_
   refine RN ?_
   refine A.ret ?_
   exact End.cell1C (D := D) (vD := 1000099) rfl hD rfl Tryz.underlying34 rfl (size34.of (by rw [List.length_map, sha_length])) rfl (s := 1000002) rfl (fun _ => rfl)
end Go.Proofs.YthadcgkcgpinhaaGreatDoor
namespace Go.Proofs.YthadcgkcgpinhaaGreatDoor
open Go Go.RowKit
section
variable {P : Program} {B : Nat} {E : Env} {dst : Option Tmp} {ty : TypeId} {pos : String} {after : Array Edge} {guard : Option (Nat × Bool)}
/-! ### Two arrays of numbers of which nothing is known -/
theorem bytes_inj {a b : List UInt8} (h : a.map byteV = b.map byteV) : a = b := (List.map_inj_right fun x y hxy => by
  simp only [byteV, Value.int.injEq, true_and] at hxy
  exact UInt8.toNat_inj.1 (by omega)).1 h
end
end Go.Proofs.YthadcgkcgpinhaaGreatDoor
namespace Go.Proofs.YthadcgkcgpinhaaGreatDoor
open Go Go.RowKit

/-- Memory grows, and blocks from m on may be marked. -/
structure Marks (m : Nat) (w w' : World) : Prop where
  os : w'.os = w.os
  tape : w'.tape = w.tape
  output : w'.output = w.output
  size : w.heap.size ≤ w'.heap.size
  block : ∀ k o, w.heap[k]? = some o → w'.heap[k]? = some o ∨ (m ≤ k ∧ ∃ cs e fr fr', o = .cells cs e fr ∧ w'.heap[k]? = some (.cells cs e fr'))
theorem Marks.of {m : Nat} {w w' : World} (h : Grow w w') : Marks m w w' := ⟨h.os, h.tape, h.output, h.size, fun k _ hk => .inl ((h.block k (Array.getElem?_eq_some_iff.1 hk).1).trans hk)⟩
theorem Marks.below {m : Nat} {w w' : World} (h : Marks m w w') (hm : m ≤ w.heap.size) : Below m w w' := ⟨h.os, h.tape, h.output, h.size, fun k hk => by
  have hlt : k < w.heap.size := by omega
  rcases h.block k _ (Array.getElem?_eq_getElem hlt) with h1 | ⟨h1, _⟩
  · rw [h1, Array.getElem?_eq_getElem hlt]
  · omega⟩
theorem Marks.cell {m : Nat} {w w' : World} (h : Marks m w w') {a : Addr} {v : Value} (hc : w.cell? a = some v) : w'.cell? a = some v := by
  unfold World.cell? at hc ⊢
  cases hb : w.heap[a.block]? with
  | none => rw [hb] at hc; cases hc
  | some o =>
    rw [hb] at hc
    rcases h.block _ _ hb with h1 | ⟨_, cs, e, fr, fr', rfl, h1⟩
    · rw [h1]; exact hc
    · rw [h1]; exact hc

/-- The fact is left alone by marks. -/
class StbM (d : D) : Prop where
  st : ∀ m w w' B x, Marks m w w' → d.OfB B w x → d.OfB B w' x
instance (x : Value) : StbM (.v x) := ⟨fun _ _ _ _ _ _ h => h⟩
class StbL (ds : List D) : Prop where
  st : ∀ (j : Nat) (d : D), ds[j]? = some d → StbM d
instance : StbL [] := ⟨fun _ _ h => by simp at h⟩
instance (d : D) (ds : List D) [hd : StbM d] [hl : StbL ds] : StbL (d :: ds) := ⟨fun j e h => by
  cases j with
  | zero => simp at h; subst h; exact hd
  | succ j => exact hl.st j e (by simpa using h)⟩
instance (l : List UInt8) : StbL (l.map byteD) := ⟨fun j d h => by
  simp only [List.getElem?_map, Option.map_eq_some_iff] at h
  obtain ⟨b, _, rfl⟩ := h
  exact inferInstanceAs (StbM (.v _))⟩
instance (b : UInt8) : StbM (byteD b) := inferInstanceAs (StbM (.v _))
theorem ListF.mark {ds : List D} [hl : StbL ds] {c B m : Nat} {w w' : World} {x : Value} (k : Marks m w w') : ListF ds c B w x → ListF ds c B w' x :=
  fun ⟨A, vs, h1, h2, h3, h4, h5, h6⟩ => ⟨A, vs, h1, h2, h3, h4, fun j u hu => by
    obtain ⟨ad, g1, g2, g3⟩ := h5 j u hu
    exact ⟨ad, g1, g2, k.cell g3⟩, fun j d u hd hu => (hl.st j d hd).st m w w' B u k (h6 j d u hd hu)⟩
instance (ds : List D) (c : Nat) [StbL ds] : StbM (list ds c) := ⟨fun _ _ _ _ _ k h => ListF.mark k h⟩
instance (ds : List D) [StbL ds] : StbM (lst ds) := ⟨fun _ _ _ _ _ k ⟨c, h⟩ => ⟨c, ListF.mark k h⟩⟩
instance (l : List UInt8) (c : Nat) : StbM (bytes l c) := inferInstanceAs (StbM (list _ c))
instance (l : List UInt8) : StbM (byt l) := inferInstanceAs (StbM (lst _))
/-- A slice over a block from m on. -/
def newL (m : Nat) (ds : List D) (c : Nat) : D := .p (fun B w x => (∃ (a : Addr) (len : Nat), x = .slice (some a) len c ∧ m ≤ a.block ∧ a.block < B) ∧ ListF ds c B w x) (fun _ _ _ _ g ⟨h1, h2⟩ => ⟨h1, h2.keep g⟩) (fun _ _ _ _ g ⟨⟨a, l, h0, h1, h2⟩, h3⟩ => ⟨⟨a, l, h0, h1, by omega⟩, h3.up g⟩)
instance (m : Nat) (ds : List D) (c : Nat) [StbL ds] : StbM (newL m ds c) := ⟨fun _ _ _ _ _ k ⟨h1, h2⟩ => ⟨h1, ListF.mark k h2⟩⟩
/-! ### Operations -/
def OpOkM (P : Program) (m B : Nat) (o : Oper) (E : Env) (d : D) : Prop :=
  ∀ (ρ : Operand → Value) (w : World), B ≤ w.heap.size → m ≤ w.heap.size → (∀ t e, vbase ≤ t → E.look t = some e → e.Of w undef) → (∀ x, x ∈ o.op.operands → ∀ e, E.at x = some e → e.Of w (ρ x)) → Out P o ρ w fun x w' => Marks m w w' ∧ d.Of w' x
theorem OpOk.m {P : Program} {m B : Nat} {o : Oper} {E : Env} {d : D} (h : OpOk P B o E d) : OpOkM P m B o E d := fun ρ w hB _ hv hρ => (h ρ w hB hv hρ).mono fun _ _ hx => ⟨Marks.of hx.1, hx.2⟩
section
variable {P : Program} {m B : Nat} {E : Env} {dst : Option Tmp} {ty : TypeId} {pos : String} {after : Array Edge} {guard : Option (Nat × Bool)}
theorem build_run {t e : TypeId} {n : Nat} {ps : Array (Nat × Operand)} {z : Value} {nb : Nat} (ds : List D) (ht : P.underlying t = some (.slice e)) (hinfo : InfoIs P e z nb) (hz1 : z.cells = #[z])
    (hn : 0 < n) (hn' : n ≤ 65536) (hl : ds.length = n) (hp : Parts E ds ps.toList 0) (h1 : ∀ d ∈ ds, ∀ w x, d.Of w x → x.oneCell' = true) (ρ : Operand → Value) (w : World)
    (hρ : ∀ x, x ∈ (Op.buildSlice t n ps).operands → ∀ e, E.at x = some e → e.Of w (ρ x)) :
    ∃ us : Array Value, (execOp ρ ⟨dst, .buildSlice t n ps, ty, pos, after, guard⟩).run P w = .ok (.value (.slice (some ⟨w.heap.size, 0, none⟩) n n)) (w.alloc (.cells us e)) := by
  obtain ⟨i, hi, hz, hs, _⟩ := hinfo.get
  let us : List Value := ps.toList.map fun p => ρ p.2
  have hul : us.length = n := by simp only [us, List.length_map]; rw [← hp.length, hl]
  have hof : ∀ (j : Nat) (d : D), ds[j]? = some d → ∃ u, us[j]? = some u ∧ d.Of w u := fun j d hd => by
    obtain ⟨x, hx, he⟩ := hp.nth hd
    refine ⟨ρ x, by simp only [us, List.getElem?_map, hx]; rfl, hρ x ?_ d he⟩
    simp only [Op.operands, List.mem_toArray, List.mem_map]
    exact ⟨_, List.mem_of_getElem? hx, rfl⟩
  have hus : ∀ u ∈ us, u.oneCell' = true := fun u hu => by
    obtain ⟨j, hj⟩ := List.mem_iff_getElem?.1 hu
    have hlt : j < ds.length := by have := (List.getElem?_eq_some_iff.1 hj).1; omega
    obtain ⟨u', hu', hd⟩ := hof j ds[j] (List.getElem?_eq_getElem hlt)
    rw [hj] at hu'; injection hu' with hu'; subst hu'
    exact h1 _ (List.getElem_mem hlt) w u hd
  have hparts : (ps.map fun (i, x) => (i, ρ x)).toList = (us.zipIdx 0).map fun x => (x.2, x.1) := by
    apply List.ext_getElem?
    intro j
    rcases Nat.lt_or_ge j ds.length with hj | hj
    · obtain ⟨x, hx, _⟩ := hp.nth (List.getElem?_eq_getElem hj)
      have hx' : ps[j]? = some (0 + j, x) := by simpa using hx
      simp [us, List.getElem?_zipIdx, hx']
    · rw [List.getElem?_eq_none (by simp; have := hp.length; simp at this; omega), List.getElem?_eq_none (by simp; omega)]
  have hz' : (Array.range (n * i.size)).map (z.cells[· % z.cells.size]!) = ([] ++ List.replicate n z).toArray := by
    rw [hs, hz1, Nat.mul_one]
    apply Array.ext
    · simp
    · intro j h1 h2; simp [Nat.mod_one]
  have hfill : Instr.fill (fun j => some (j * i.size, i.size)) ((Array.range (n * i.size)).map (z.cells[· % z.cells.size]!)) (ps.map fun (i, x) => (i, ρ x)).toList = some us.toArray := by
    rw [hz', hparts, hs, fill_dense us [] (List.replicate n z) 0 hus rfl (by simp [hul])]
    simp [hul]
  have hr := run_buildSlice (P := P) w t e n (ps.map fun (i, x) => (i, ρ x)) us.toArray i z ht hi hz (by rw [hs]; omega) (by rw [hs]; omega) hfill
  exact ⟨us.toArray, by simp [execOp, hr]⟩
theorem freeze_key {w : World} {a : Addr} {k n : Nat} : (w.freeze ⟨a.block, k, none⟩ n).os = w.os ∧ (w.freeze ⟨a.block, k, none⟩ n).tape = w.tape ∧ (w.freeze ⟨a.block, k, none⟩ n).output = w.output ∧ (w.freeze ⟨a.block, k, none⟩ n).heap.size = w.heap.size ∧
      ∀ j o, w.heap[j]? = some o → (w.freeze ⟨a.block, k, none⟩ n).heap[j]? = some o ∨ (j = a.block ∧ ∃ cs e fr fr', o = .cells cs e fr ∧ (w.freeze ⟨a.block, k, none⟩ n).heap[j]? = some (.cells cs e fr')) := by
  unfold World.freeze
  split
  · exact ⟨rfl, rfl, rfl, rfl, fun j o h => .inl h⟩
  · refine ⟨rfl, rfl, rfl, by simp, fun j o h => ?_⟩
    by_cases hj : a.block = j
    · subst hj
      simp only [Array.getElem?_modify, if_true, h, Option.map_some]
      cases o with
      | cells cs e fr =>
        obtain ⟨s, t⟩ := fr
        simp only
        right
        refine ⟨by first | trivial | rfl, cs, e, (s, t), ?_⟩
        first
          | exact ⟨_, rfl, rfl⟩
          | (split <;> exact ⟨_, rfl, rfl⟩)
      | _ => exact .inl rfl
    · simp [Array.getElem?_modify, hj, h]
theorem freeze_marks {m : Nat} {w : World} {a : Addr} {k n : Nat} (hm : m ≤ a.block) : Marks m w (w.freeze ⟨a.block, k, none⟩ n) := by
  obtain ⟨h1, h2, h3, h4, h5⟩ := freeze_key (w := w) (a := a) (k := k) (n := n)
  refine ⟨h1, h2, h3, by omega, fun j o h => (h5 j o h).imp id ?_⟩
  rintro ⟨rfl, h6⟩
  exact ⟨hm, h6⟩
end

/-! ### Regions -/
def GoodM (P : Program) (m B : Nat) (ops : Array Oper) (o : Oper) (E : Env) (d : D) : Prop :=
  (GuardIs ops E o true ∧ OpOkM P m B o E d) ∨ (GuardIs ops E o false ∧ d = .v undef)
inductive TraceM (P : Program) (m B : Nat) (ops : Array Oper) : List Oper → Env → List D → Env → Prop
  | nil {E : Env} : TraceM P m B ops [] E [] E
  | cons {o : Oper} {rest : List Oper} {E E' : Env} {t : Nat} {d : D} {ds : List D} (ht : o.dst = some t) (hg : GoodM P m B ops o E d) (hs : StbM d) (hr : TraceM P m B ops rest ((t, d) :: E) ds E') : TraceM P m B ops (o :: rest) E (d :: ds) E'
/-- The region's text from here on, and what is to be shown in the environment at its end. -/
def RunM (P : Program) (m B : Nat) (ops : Array Oper) (rest : List Oper) (E : Env) (C : Env → Prop) : Prop := ∃ ds E', TraceM P m B ops rest E ds E' ∧ C E'
section
variable {P : Program} {m B : Nat} {ops : Array Oper} {o : Oper} {rest : List Oper} {E : Env} {C : Env → Prop} {t : Nat} {d : D}
theorem RunM.nil (h : C E) : RunM P m B ops [] E C := ⟨[], E, .nil, h⟩
theorem RunM.mk [hs : StbM d] (ht : o.dst = some t) (hg : GoodM P m B ops o E d) (hr : RunM P m B ops rest ((t, d) :: E) C) : RunM P m B ops (o :: rest) E C := by
  obtain ⟨ds, E', h1, h2⟩ := hr; exact ⟨_, _, .cons ht hg hs h1, h2⟩
theorem RunM.stepM [StbM d] (ht : o.dst = some t) (hg : o.guard = none) (h : OpOkM P m B o E d) (hr : RunM P m B ops rest ((t, d) :: E) C) : RunM P m B ops (o :: rest) E C :=
  .mk ht (.inl ⟨by simp [GuardIs, hg], h⟩) hr
theorem RunM.step [StbM d] (ht : o.dst = some t) (hg : o.guard = none) (h : OpOk P B o E d) (hr : RunM P m B ops rest ((t, d) :: E) C) : RunM P m B ops (o :: rest) E C := .stepM ht hg h.m hr
theorem RunM.guardedM [StbM d] {j : Nat} {want : Bool} {s : Nat} (ht : o.dst = some t) (hg : o.guard = some (j, want)) (hj : ((ops[j]?).bind (·.dst)) = some s) (hE : E.look s = some (.v (.bool want))) (h : OpOkM P m B o E d) (hr : RunM P m B ops rest ((t, d) :: E) C) : RunM P m B ops (o :: rest) E C :=
  .mk ht (.inl ⟨by simp only [GuardIs, hg]; exact ⟨s, hj, .inl ⟨want, hE, by cases want <;> rfl⟩⟩, h⟩) hr
theorem RunM.guarded [StbM d] {j : Nat} {want : Bool} {s : Nat} (ht : o.dst = some t) (hg : o.guard = some (j, want)) (hj : ((ops[j]?).bind (·.dst)) = some s) (hE : E.look s = some (.v (.bool want))) (h : OpOk P B o E d) (hr : RunM P m B ops rest ((t, d) :: E) C) : RunM P m B ops (o :: rest) E C := .guardedM ht hg hj hE h.m hr
theorem RunM.skipped {j : Nat} {want c : Bool} {s : Nat} (ht : o.dst = some t) (hg : o.guard = some (j, want)) (hj : ((ops[j]?).bind (·.dst)) = some s) (hE : E.look s = some (.v (.bool c))) (hc : (c == want) = false) (hr : RunM P m B ops rest ((t, .v undef) :: E) C) : RunM P m B ops (o :: rest) E C :=
  .mk ht (.inr ⟨by simp only [GuardIs, hg]; exact ⟨s, hj, .inl ⟨c, hE, hc.symm⟩⟩, rfl⟩) hr
theorem RunM.as (x : Value) {y : Value} (h : y = x) (hr : RunM P m B ops rest ((t, .v x) :: E) C) : RunM P m B ops rest ((t, .v y) :: E) C := h ▸ hr
end
theorem TraceM.nth {P : Program} {m B : Nat} {ops : Array Oper} {rest : List Oper} {E E' : Env} {ds : List D} (h : TraceM P m B ops rest E ds E') : ∀ {i : Nat} {o : Oper}, rest[i]? = some o →
    ∃ t d Ei, o.dst = some t ∧ ds[i]? = some d ∧ GoodM P m B ops o Ei d ∧ ∀ s e, Ei.look s = some e →
      (∃ j o', j < i ∧ rest[j]? = some o' ∧ o'.dst = some s ∧ ds[j]? = some e) ∨ ((∀ j o', j < i → rest[j]? = some o' → o'.dst ≠ some s) ∧ E.look s = some e) := by
  induction h with
  | nil => intro i o hi; simp at hi
  | @cons o0 rest E E' t0 d0 ds ht hg hs hr ih =>
    intro i o hi
    cases i with
    | zero =>
      simp at hi; subst hi
      exact ⟨t0, d0, E, ht, rfl, hg, fun s e he => .inr ⟨fun j _ hj => by omega, he⟩⟩
    | succ i =>
      obtain ⟨t, d, Ei, h1, h2, h3, h4⟩ := ih (i := i) (by simpa using hi)
      refine ⟨t, d, Ei, h1, by simpa using h2, h3, fun s e he => ?_⟩
      rcases h4 s e he with ⟨j, o', hj, ho', hd, hds⟩ | ⟨hno, hl⟩
      · exact .inl ⟨j + 1, o', by omega, by simpa using ho', hd, by simpa using hds⟩
      · by_cases hs : t0 = s
        · subst hs
          rw [look_here] at hl
          exact .inl ⟨0, o0, by omega, rfl, ht, by simpa using hl⟩
        · rw [look_past _ _ hs] at hl
          refine .inr ⟨fun j o' hj ho' => ?_, hl⟩
          cases j with
          | zero => simp at ho'; subst ho'; rw [ht]; intro h; injection h with h; exact hs h
          | succ j => exact hno j o' (by omega) (by simpa using ho')
theorem TraceM.last {P : Program} {m B : Nat} {ops : Array Oper} {rest : List Oper} {E E' : Env} {ds : List D} (h : TraceM P m B ops rest E ds E') : ∀ s e, E'.look s = some e →
      (∃ (j : Nat) (o' : Oper), rest[j]? = some o' ∧ o'.dst = some s ∧ ds[j]? = some e) ∨ ((∀ (j : Nat) (o' : Oper), rest[j]? = some o' → o'.dst ≠ some s) ∧ E.look s = some e) := by
  induction h with
  | nil => intro s e he; exact .inr ⟨fun j _ hj => by simp at hj, he⟩
  | @cons o0 rest E E' t0 d0 ds ht hg hs hr ih =>
    intro s e he
    rcases ih s e he with ⟨j, o', ho', hd, hds⟩ | ⟨hno, hl⟩
    · exact .inl ⟨j + 1, o', by simpa using ho', hd, by simpa using hds⟩
    · by_cases hs : t0 = s
      · subst hs
        rw [look_here] at hl
        exact .inl ⟨0, o0, rfl, ht, by simpa using hl⟩
      · rw [look_past _ _ hs] at hl
        refine .inr ⟨fun j o' ho' => ?_, hl⟩
        cases j with
        | zero => simp at ho'; subst ho'; rw [ht]; intro h; injection h with h; exact hs h
        | succ j => exact hno j o' (by simpa using ho')
theorem TraceM.stb {P : Program} {m B : Nat} {ops : Array Oper} {rest : List Oper} {E E' : Env} {ds : List D} (h : TraceM P m B ops rest E ds E') : ∀ (j : Nat) (d : D), ds[j]? = some d → StbM d := by
  induction h with
  | nil => intro j d h; simp at h
  | cons _ _ hs _ ih =>
    intro j d h
    cases j with
    | zero => simp at h; subst h; exact hs
    | succ j => exact ih j d (by simpa using h)
section
variable {P : Program} {B : Nat} {ops : Array Oper} {Q : Exit → Act → World → Prop} {κ : Cx}
end
/-! ### Constants in a region whose order is the text's: the conversion is an effect -/
/-- A slice of constant bytes over a block of the call's own. -/
def newT (B : Nat) (e : TypeId) (l : List UInt8) (c : Nat) : D := .p (fun B' w x => (∃ (a : Addr) (len : Nat) (cs : Array Value) (fr : Nat × Nat), x = .slice (some a) len c ∧ B ≤ a.block ∧ a.block < B' ∧ w.heap[a.block]? = some (.cells cs e fr)) ∧ ListF (l.map byteD) c B' w x)
  (fun _ _ _ _ g ⟨⟨a, len, cs, fr, h0, h1, h2, h3⟩, h4⟩ => ⟨⟨a, len, cs, fr, h0, h1, h2, (g.block _ h2).trans h3⟩, h4.keep g⟩)
  (fun _ _ _ _ g ⟨⟨a, len, cs, fr, h0, h1, h2, h3⟩, h4⟩ => ⟨⟨a, len, cs, fr, h0, h1, by omega, h3⟩, h4.up g⟩)
instance (B : Nat) (e : TypeId) (l : List UInt8) (c : Nat) : StbM (newT B e l c) := ⟨fun m w w' B' x k ⟨⟨a, len, cs, fr, h0, h1, h2, h3⟩, h4⟩ => ⟨by
  rcases k.block _ _ h3 with h | ⟨_, cs', e', fr', fr'', h5, h⟩
  · exact ⟨a, len, cs, fr, h0, h1, h2, h⟩
  · injection h5 with h6 h7 h8
    subst h6; subst h7
    exact ⟨a, len, _, _, h0, h1, h2, h⟩, ListF.mark k h4⟩⟩
theorem newT_byt {B : Nat} {e : TypeId} {l : List UInt8} {c : Nat} : Le (newT B e l c) (byt l) := fun _ _ _ h => ⟨c, h.2⟩
theorem Surv.newT {B T g base : Nat} {e : TypeId} {l : List UInt8} {c : Nat} (h : e ≠ T) : Surv B T g (Go.Proofs.YthadcgkcgpinhaaGreatDoor.newT base e l c) := fun w w' x k ⟨⟨a, len, cs, fr, h0, h1, h2, h3⟩, A, vs, g1, g2, g3, g4, g5, g6⟩ => by
  have hne : a.block ≠ g := fun hb => h (by subst hb; exact k.row _ _ _ h3)
  have hsame : w'.heap[a.block]? = w.heap[a.block]? := k.other _ h2 hne
  refine ⟨⟨a, len, cs, fr, h0, h1, Nat.lt_of_lt_of_le h2 k.size, hsame.trans h3⟩, A, vs, g1, g2, g3, g4, fun j u hu => ?_, fun j d u hd hu => ?_⟩
  · obtain ⟨ad, e1, e2, e3⟩ := g5 j u hu
    refine ⟨ad, e1, Nat.lt_of_lt_of_le e2 k.size, ?_⟩
    have hab : ad = a := by
      subst e1; rw [h0] at g1; injection g1 with g1; injection g1 with g1; exact g1.symm
    subst hab
    unfold World.cell? at e3 ⊢
    have hbl : (ad.add j).block = ad.block := by unfold Addr.add; try split <;> rfl
    rw [hbl] at e3 ⊢
    rw [hsame]; exact e3
  · have h9 := g6 j d u hd hu
    simp only [List.getElem?_map, Option.map_eq_some_iff] at hd
    obtain ⟨b, _, rfl⟩ := hd
    exact h9
theorem ok_buildT {P : Program} {B : Nat} {E : Env} {dst : Option Tmp} {ty : TypeId} {pos : String} {after : Array Edge} {guard : Option (Nat × Bool)} {t e : TypeId} {n : Nat} {ps : Array (Nat × Operand)} {z : Value} {nb : Nat} (l : List UInt8) (ht : P.underlying t = some (.slice e)) (hinfo : InfoIs P e z nb) (hz1 : z.cells = #[z])
    (hn : 0 < n) (hn' : n ≤ 65536) (hl : l.length = n) (hp : Parts E (l.map byteD) ps.toList 0) :
    OpOk P B ⟨dst, .buildSlice t n ps, ty, pos, after, guard⟩ E (newT B e l n) := fun ρ w hB hv hρ => by
  have h1 : ∀ d ∈ l.map byteD, ∀ w x, d.Of w x → x.oneCell' = true := fun d hd w x h => by
    simp only [List.mem_map] at hd; obtain ⟨b, _, rfl⟩ := hd; exact v_one rfl h
  have hlm : (l.map byteD).length = n := by rw [List.length_map, hl]
  have := ok_build (P := P) (B := B) (dst := dst) (ty := ty) (pos := pos) (after := after) (guard := guard) (l.map byteD) ht hinfo hz1 hn hn' hlm hp h1 ρ w hB hv hρ
  obtain ⟨us, hrun⟩ := build_run (P := P) (dst := dst) (ty := ty) (pos := pos) (after := after) (guard := guard) (l.map byteD) ht hinfo hz1 hn hn' hlm hp h1 ρ w hρ
  unfold Out at this ⊢
  rw [hrun] at this ⊢
  exact ⟨this.1, ⟨⟨_, n, us, (0, 0), rfl, hB, by simp, heap_alloc_new w _⟩, this.2⟩⟩
def SurvM (B T g : Nat) (d : D) : Prop := ∀ w w' x, Wrote B T g w w' → Marks B w w' → d.Of w x → d.Of w' x
theorem SurvM.of {B T g : Nat} {d : D} (h : Surv B T g d) : SurvM B T g d := fun w w' x k _ hx => h w w' x k hx
theorem SurvM.stb {B T g : Nat} {d : D} [hs : StbM d] : SurvM B T g d := fun _ _ _ _ m hx => (hs.st _ _ _ _ _ m hx).up m.size
def LeftM (B T g : Nat) (E' E : Env) : Prop := ∀ p ∈ E', E.look p.1 = some p.2 ∧ SurvM B T g p.2
theorem LeftM.nil {B T g : Nat} {E : Env} : LeftM B T g [] E := fun _ h => by cases h
theorem LeftM.cons {B T g : Nat} {E E' : Env} {t : Nat} {d : D} (h : E.look t = some d) (hs : SurvM B T g d) (hr : LeftM B T g E' E) : LeftM B T g ((t, d) :: E') E := fun p hp => by
  rcases List.mem_cons.1 hp with rfl | hp
  · exact ⟨h, hs⟩
  · exact hr p hp
theorem eff_convN {P : Program} {n B : Nat} {ops : Array Oper} {E E' : Env} {ty : TypeId} {pos : String} {after : Array Edge} {t e : TypeId} {x : Operand} {l : List UInt8} {c dst : Nat} (ht : P.underlying t = some (.slice e)) (he : P.underlying e = some (.int .u8)) (hx : E.at x = some (newT B e l c)) (hdst : dst < n) (hl : ∀ g, B ≤ g → LeftM B e g E' E) :
    Eff P n B ops ⟨some dst, .convert t t x, ty, pos, after, none⟩ E ((dst, newT B e l c) :: E') := by
  intro κ a w K Q h hK
  have h0 : (newT B e l c).Of w (a.eval x) := h.at_ x _ hx
  obtain ⟨⟨ad, len, cs, fr, hv, hb, hlt, hh⟩, hlf⟩ := h0
  have hsh : (shape ad.block).run P w = .ok (some (e, cs.size)) w := by simp [shape, Sem.run, World.shape?, hh]
  have hexec : (execOp a.eval ⟨some dst, .convert t t x, ty, pos, after, none⟩).run P w = .ok (.value (a.eval x)) (w.freeze ⟨ad.block, cs.size, none⟩ 1) := by
    simp [execOp, hv, convert, run_underlying ht, run_underlying he, markStringish, hsh]
  rw [if_pos (by simp [Region.wanted])]
  refine opR (by nofun) ?_
  unfold Oper.wp
  rw [hexec, Oper.upon_value]
  have hmk := freeze_marks (w := w) (k := cs.size) (n := 1) hb
  have hwr : Wrote B e ad.block w (w.freeze ⟨ad.block, cs.size, none⟩ 1) := by
    obtain ⟨_, _, _, _, h5⟩ := freeze_key (w := w) (a := ad) (k := cs.size) (n := 1)
    refine ⟨hb, hmk.os, hmk.tape, hmk.output, hmk.size, fun o ho => ?_, fun j hj hne => ?_⟩
    · rw [hh] at ho; injection ho with ho; exact ⟨_, _, ho.symm⟩
    · rcases h5 j _ (Array.getElem?_eq_getElem hj) with h6 | ⟨h6, _⟩
      · rw [h6, Array.getElem?_eq_getElem hj]
      · exact absurd h6 hne
  have hst : St κ n B E' a (w.freeze ⟨ad.block, cs.size, none⟩ 1) := ⟨Nat.le_trans h.base hmk.size, h.defers, h.size, fun s d hd => by
    obtain ⟨h6, h7⟩ := hl ad.block hb _ (look_mem hd)
    exact h7 _ _ _ hwr hmk (h.of s d h6)⟩
  refine hK _ _ (hmk.below h.base) (hst.put hdst ?_)
  exact (StbM.st _ _ _ _ _ hmk (h.at_ x _ hx)).up hmk.size
end Go.Proofs.YthadcgkcgpinhaaGreatDoor
namespace Go.Proofs.YthadcgkcgpinhaaGreatDoor
open Go Go.RowKit
set_option linter.unusedVariables false
set_option maxRecDepth 20000

set_option maxHeartbeats 400000 in
theorem Of_fn (ps : List (List UInt8)) (l : List UInt8) (hl : ps.flatten = l) (hps : ps.length ≤ 1000000) (htot : l.length ≤ 1000000) : FnM Tryz.prog 78 tabs [lst (ps.map byt)] (.v (aggV ((sha l).map byteV))) := by
 subst hl
 refine FnM.of Tryz.func78 rfl (by kernel_rfl) Tryz.ntmps78 (by simp) (by decide) (fun w => [(0, old w.heap.size (lst (ps.map byt))), (1900000, tab 0 (H8.list.map u32V)), (1900001, tab 1 (K64.map u32V))]) (fun w => (StartM.old rfl (StartM.m (by simp [tabs]) (by decide) (StartM.m (by simp [tabs]) (by decide) StartM.nil)))) fun w₀ hM => ?_
 have htab := tabs_hi hM
 refine GS ?_
 refine TN 0 ?_
 refine RN ?_
 refine ⟨_, _, eff_alloc (n := 19) (d := 2) (k := 1000002) zero34 (by decide), fun b2 hb2 => ?_⟩
 have hBb2 := hb2.1
 refine TL ?_
 refine RN ?_
 refine GS ?_
 refine TN 1 ?_
 refine RS (ok_call New_fn Args.nil) ?_
 refine RN ?_
 refine ⟨_, _, eff_alloc (n := 19) (d := 3) (k := 1000003) zero107 (by decide), fun b3 hb3 => ?_⟩
 have hBb3 := hb3.1
 refine TF 2 ?_
 refine RN ?_
 refine ⟨_, eff_storeA (n := 19) (s := 1000003) (size107.of (stL_length _)) rfl rfl (stL_ones _) hBb3 rfl (by first | exact (stL_length _).trans (stL_length _).symm | exact (stL_length _).symm) (LO 0 rfl (LV 2 rfl (LV 3 rfl (LT 1000002 rfl (LeftS.cons (t := 1900000) rfl (Surv.tab (by omega)) (LeftS.cons (t := 1900001) rfl (Surv.tab (by omega)) LN)))))), ?_⟩
 refine TL ?_
 refine RN ?_
 refine A.seq ?_
 refine GS ?_
 refine TL ?_
 refine RM rfl ?_
 refine RS (ok_len Tryz.underlying102 rfl LA) ?_; refine RZ (.int .i64 (ps.length : Int)) (by simp) ?_
 refine RM rfl ?_
 refine RN ?_
 refine A.block ?_
 refine A.loop (ι := Nat) (fun i => i ≤ ps.length) (fun i => [(2, .v (.pointer (some ⟨b2, 0, none⟩))), (3, .v (.pointer (some ⟨b3, 0, none⟩))), (7, old w₀.heap.size (lst (ps.map byt))), (8, .v (.int .i64 (ps.length : Int))), (9, .v (.int .i64 (i : Int))), (1000002, blk b2 34 (List.replicate 32 (.int .u8 0))), (1000003, blk b3 107 (stL ((ps.take i).flatten))), (1900000, tab 0 (H8.list.map u32V)), (1900001, tab 1 (K64.map u32V))]) (fun i => ps.length - i) 0 ?_ ?_ ?_
 ·exact Nat.zero_le _
 ·exact (KC 2 rfl (KC 3 rfl (KC 7 rfl (KC 8 rfl (KC 9 rfl (KC 1000002 rfl (KC 1000003 rfl (KC 1900000 rfl (KC 1900001 rfl KN)))))))))
 intro i hi
 refine GS ?_
 refine TL ?_
 refine RB rfl rfl rfl ?_
 refine RN ?_
 refine A.seq ?_
 refine A.cond rfl (fun hc10 => ?_) (fun hc10 => ?_)
 ·have hlt : i < ps.length := by simpa using hc10
  have hget : ps[i]? = some ps[i] := List.getElem?_eq_getElem hlt
  have hT := flatten_take_le ps (i + 1)
  rw [flatten_take_succ hget, List.length_append] at hT
  refine A.skip ?_
  refine EN ?_
  refine A.seq ?_
  refine A.block ?_
  refine GS ?_
  refine TL ?_
  refine RS (ok_index (d := byt ps[i]) Tryz.underlying102 info49 rfl LA rfl (by omega) (by simp [hlt])) ?_
  refine RS (ok_load Tryz.underlying49 rfl rfl) ?_
  refine RA rfl ?_
  refine RN ?_
  refine GE ?_
  refine TF 3 ?_
  refine RS (ok_loadA (s := 1000003) (by decide) Tryz.underlying107 rfl (size107.of (stL_length _)) rfl rfl) ?_
  refine RM rfl ?_
  refine RS (ok_callM (Write_fn ((ps.take i).flatten) ps[i] (by omega)) (Sub.cons rfl (Sub.cons rfl KN)) tabs_v (Args.cons rfl LA (Args.cons rfl LA Args.nil))) ?_; refine RZ (aggV (stL ((ps.take (i + 1)).flatten))) (by rw [flatten_take_succ hget]; rfl) ?_
  refine RN ?_
  refine ⟨_, eff_storeA (n := 19) (s := 1000003) (size107.of (stL_length _)) rfl rfl (stL_ones _) hBb3 rfl (by first | exact (stL_length _).trans (stL_length _).symm | exact (stL_length _).symm) (LV 2 rfl (LV 3 rfl (LO 7 rfl (LV 8 rfl (LV 9 rfl (LT 1000002 rfl (LeftS.cons (t := 1900000) rfl (Surv.tab (by omega)) (LeftS.cons (t := 1900001) rfl (Surv.tab (by omega)) LN)))))))), ?_⟩
  refine TL ?_
  refine RN ?_
  refine End.normal_block ?_
  refine EN ?_
  refine GE ?_
  refine TL ?_
  refine RBS rfl rfl rfl (.int .i64 ((i + 1 : Nat) : Int)) (by rw [wrap_i64 (by omega) (by omega)]; first | rfl | (congr 1; omega)) ?_
  refine RM rfl ?_
  refine RN ?_
  refine End.normal_then ?_
  refine End.again (i + 1) ?_ ?_ ?_
  ·show _ ≤ _; omega
  ·show _ - _ < _ - _; omega
  ·exact (KC 2 rfl (KC 3 rfl (KC 7 rfl (KC 8 rfl (KC 9 rfl (KC 1000002 rfl (KC 1000003 rfl (KC 1900000 rfl (KC 1900001 rfl KN)))))))))
 ·have hi2 : i = ps.length := by simp at hc10; omega
  subst hi2
  refine A.exit ?_
  refine End.exit_then ?_
  refine End.exit_then ?_
  refine End.exit_here ?_
  refine EN ?_
  refine GS ?_
  refine TF 2 ?_
  refine RS (ok_loadA (s := 1000003) (by decide) Tryz.underlying107 rfl (size107.of (stL_length _)) rfl rfl) ?_; refine RZ (stV ps.flatten) (by rw [List.take_length]; rfl) ?_
  refine RS (ok_callM (Sum_fn ps.flatten htot) (Sub.cons rfl (Sub.cons rfl KN)) tabs_v (Args.cons rfl LA Args.nil)) ?_
  refine RN ?_
  refine ⟨_, eff_storeA (n := 19) (s := 1000002) (size34.of (by rw [List.length_map, sha_length])) rfl rfl (all_bytes _) hBb2 rfl (by rw [List.length_map, sha_length, List.length_replicate]) (LV 2 rfl (LT 1000003 rfl (LeftS.cons (t := 1900000) rfl (Surv.tab (by omega)) (LeftS.cons (t := 1900001) rfl (Surv.tab (by omega)) LN)))), ?_⟩
  refine TL ?_
  refine RN ?_
  refine A.ret ?_
  exact End.cell1 (s := 1000002) rfl Tryz.underlying34 rfl (size34.of (by rw [List.length_map, sha_length])) rfl rfl (Le.refl _)
end Go.Proofs.YthadcgkcgpinhaaGreatDoor
