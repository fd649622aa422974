/-
 The contracts of the functions of package words and of its reference that put numbers into bytes and get them back: what each returns, as a function on lists and numbers.
-/
import Derived.Test.YtbmpjeheaemgmaaShort
import Derived.Test.YtbmpjeheaemgmaaOps2
import Derived.Test.YtbmpjeheaemgmaaNum
import Derived.Test.YtbmpjeheaemgmaaProg
namespace Go.Proofs.Ytbmpjeheaemgmaa
open Go Go.RowKit
set_option linter.unusedVariables false
set_option maxRecDepth 20000

theorem info5 : InfoIs Try.prog 5 (.int .u8 0) 1 := by unfold InfoIs; kernel_rfl
theorem info31 : InfoIs Try.prog 31 (.slice none 0 0) 24 := by unfold InfoIs; kernel_rfl

def chk (len want : Int) : Int := if len < want then 6 else if len > want then 5 else 0
/-- What get returns: the number, or 0 and the error. -/
def getV (l : List UInt8) (k : Nat) : Int := if l.length = k then (num l : Int) else 0

theorem checkLength_fn (l : List UInt8) (want : Int) : Fn Try.prog 45 [byt l, .v (.int .i64 want)] (.v (.int .i64 (chk l.length want))) := by
 refine Fn.of Try.func45 rfl (by kernel_rfl) Try.ntmps45 (by simp) (fun w => [(0, old w.heap.size (byt l)), (1, .v (.int .i64 want))]) (fun w => (Start.old rfl (Start.v rfl Start.nil))) fun w₀ => ?_
 refine GS ?_
 refine TL ?_
 refine RA rfl ?_
 refine RN ?_
 refine A.seq ?_
 refine A.block ?_
 refine GS ?_
 refine TL ?_
 refine RM rfl ?_
 refine RS (ok_lenB Try.underlying31 rfl LA) ?_
 refine RM rfl ?_
 refine RB rfl rfl rfl ?_
 refine RA rfl ?_
 refine RN ?_
 refine A.cond rfl (fun hc5 => ?_) (fun hc5 => ?_)
 ·refine GS ?_
  refine TL ?_
  refine RA rfl ?_
  refine RN ?_
  refine A.ret ?_
  refine End.ret_block ?_
  refine End.ret_then ?_
  exact End.ret1 rfl rfl (Le.v (by simp [chk] at *; try omega))
 ·refine GS ?_
  refine TL ?_
  refine RM rfl ?_
  refine RS (ok_lenB Try.underlying31 rfl LA) ?_
  refine RM rfl ?_
  refine RB rfl rfl rfl ?_
  refine RA rfl ?_
  refine RN ?_
  refine A.cond rfl (fun hc10 => ?_) (fun hc10 => ?_)
  ·refine GS ?_
   refine TL ?_
   refine RA rfl ?_
   refine RN ?_
   refine A.ret ?_
   refine End.ret_block ?_
   refine End.ret_then ?_
   exact End.ret1 rfl rfl (Le.v (by simp [chk] at *; try omega))
  ·refine A.skip ?_
   refine End.normal_block ?_
   refine EN ?_
   refine GS ?_
   refine TL ?_
   refine RA rfl ?_
   refine RN ?_
   refine A.ret ?_
   exact End.ret1 rfl rfl (Le.v (by simp [chk] at *; try omega))
theorem put_fn (v k : Int) (hv0 : 0 ≤ v) (hv : v < 18446744073709551616) (hk0 : 0 ≤ k) (hk : k ≤ 8) : Fn Try.prog 42 [.v (.int .u64 v), .v (.int .i64 k)] (bytes (be k.toNat v.toNat) k.toNat) := by
 obtain ⟨V, rfl⟩ := Int.eq_ofNat_of_zero_le hv0
 obtain ⟨K, rfl⟩ := Int.eq_ofNat_of_zero_le hk0
 simp only [Int.toNat_natCast]
 refine Fn.of Try.func42 rfl (by kernel_rfl) Try.ntmps42 (by simp) (fun w => [(0, .v (.int .u64 (V : Int))), (1, .v (.int .i64 (K : Int)))]) (fun w => (Start.v rfl (Start.v rfl Start.nil))) fun w₀ => ?_
 refine GS ?_
 refine TL ?_
 refine RA rfl ?_
 refine RN ?_
 refine GS ?_
 refine TL ?_
 refine RM rfl ?_
 refine RS (ok_make K Try.underlying31 info5 (by decide) rfl rfl rfl rfl rfl (by omega)) ?_
 refine RA rfl ?_
 refine RN ?_
 refine A.open (t := 5) (k := 1000000) rfl fun b hb => ?_
 refine A.seq ?_
 refine GS ?_
 refine TL ?_
 refine RM rfl ?_
 refine RM rfl ?_
 refine RN ?_
 refine A.block ?_
 refine A.loop (ι := Nat) (fun i => i ≤ K) (fun i => [(0, .v (.int .u64 (V : Int))), (1, .v (.int .i64 (K : Int))), (5, .v (.slice (some ⟨b, 0, none⟩) K K)), (9, .v (.int .i64 (K : Int))), (10, .v (.int .i64 (i : Int))), (1000000, blk b 5 (((be K V).take i).map byteV ++ List.replicate ((be K V).length - i) (.int .u8 0)))]) (fun i => K - i) 0 ?_ ?_ ?_
 ·exact Nat.zero_le _
 ·exact (KC 0 rfl (KC 1 rfl (KE 5 rfl (by simp) (KC 9 rfl (KC 10 rfl (KE 1000000 rfl (by simp [be_length]) KN))))))
 intro i hi
 refine GS ?_
 refine TL ?_
 refine RB rfl rfl rfl ?_
 refine RN ?_
 refine A.seq ?_
 refine A.cond rfl (fun hc11 => ?_) (fun hc11 => ?_)
 ·have hlt : i < K := by simpa using hc11
  refine A.skip ?_
  refine EN ?_
  refine A.seq ?_
  refine A.block ?_
  refine GS ?_
  refine TL ?_
  refine RM rfl ?_
  refine RA rfl ?_
  refine RN ?_
  refine GE ?_
  refine TF 11 ?_
  refine RM rfl ?_
  refine RM rfl ?_
  refine RM rfl ?_
  refine RM rfl ?_
  refine RBS rfl rfl rfl (nI (K - 1)) (by rw [wrap_i64 (by omega) (by omega)]; congr 1; omega) ?_
  refine RM rfl ?_
  refine RBS rfl rfl rfl (nI (K - 1 - i)) (by rw [wrap_i64 (by omega) (by omega)]; congr 1; omega) ?_
  refine RBS rfl rfl rfl (nI (8 * (K - 1 - i))) (by rw [wrap_i64 (by omega) (by omega)]; congr 1) ?_
  refine RS (ok_shr rfl rfl (by omega)) ?_; refine RZ (nQ (V / 256 ^ (K - 1 - i))) (by rw [Int.toNat_natCast, show min (8 * (K - 1 - i)) IntKind.u64.bits = 8 * (K - 1 - i) from by simp only [IntKind.bits]; omega, shr_nat, pow256]) ?_
  refine RS (ok_conv Try.underlying23 Try.underlying5 rfl) ?_; refine RZ (byteV (UInt8.ofNat (V / 256 ^ (K - 1 - i)))) (by rw [wrap_u8_nat]; rfl) ?_
  refine RS (ok_indexV i Try.underlying31 info5 rfl rfl rfl hlt) ?_
  refine RN ?_
  refine ⟨_, eff_store (n := 26) (s := 1000000) info5 rfl rfl rfl hb rfl (by simp [be_length]; omega) (Left.cons (t := 0) rfl (Stays.v _ _) (Left.cons (t := 1) rfl (Stays.v _ _) (Left.cons (t := 5) rfl (Stays.v _ _) (Left.cons (t := 9) rfl (Stays.v _ _) (Left.cons (t := 10) rfl (Stays.v _ _) Left.nil))))), ?_⟩
  refine TL ?_
  refine RN ?_
  refine End.normal_block ?_
  refine EN ?_
  refine GE ?_
  refine TL ?_
  refine RBS rfl rfl rfl (nI (i + 1)) (by rw [wrap_i64 (by omega) (by omega)]; congr 1) ?_
  refine RM rfl ?_
  refine RN ?_
  refine End.normal_then ?_
  refine End.again (i + 1) ?_ ?_ ?_
  ·show _ ≤ _; omega
  ·show _ - _ < _ - _; omega
  ·exact (KC 0 rfl (KC 1 rfl (KC 5 rfl (KC 9 rfl (KC 10 rfl (KE 1000000 rfl (by rw [Nat.zero_add]; exact congrArg _ (fill_step (be_get hlt))) KN))))))
 ·refine A.exit ?_
  refine End.exit_then ?_
  refine End.exit_then ?_
  refine End.exit_here ?_
  refine EN ?_
  refine GS ?_
  refine TL ?_
  refine RM rfl ?_
  refine RA rfl ?_
  refine RN ?_
  refine A.ret ?_
  have hK : i = K := by simp at hc11; omega
  subst hK
  refine End.bytes 4 1000000 (be i V) rfl (be_length _ _).symm rfl ?_ (by simp [be_length]) (by simp only [maxLen]; omega) ?_
  ·simp only [be_length, Nat.sub_self, List.replicate_zero, List.append_nil]
   rw [← List.map_take, List.take_take, Nat.min_self, List.take_of_length_le (by rw [be_length]; omega)]
  ·exact End.ret1 rfl rfl (Le.refl _)
theorem Put64_fn (v : Int) (hv0 : 0 ≤ v) (hv : v < 18446744073709551616) : Fn Try.prog 36 [.v (.int .u64 v)] (bytes (be 8 v.toNat) 8) := by
 refine Fn.of Try.func36 rfl (by kernel_rfl) Try.ntmps36 (by simp) (fun w => [(0, .v (.int .u64 v))]) (fun w => (Start.v rfl Start.nil)) fun w₀ => ?_
 refine GS ?_
 refine TL ?_
 refine RA rfl ?_
 refine RN ?_
 refine GS ?_
 refine TL ?_
 refine RM rfl ?_
 refine RS (ok_call (put_fn v 8 hv0 hv (by omega) (by omega)) (Args.cons rfl LA (Args.cons rfl LA Args.nil))) ?_
 refine RA rfl ?_
 refine RN ?_
 refine A.ret ?_
 exact End.ret1 rfl rfl (by first | exact Le.refl _ | exact Le.old _ _)
theorem Put32_fn (v : Int) (hv0 : 0 ≤ v) (hv : v < 4294967296) : Fn Try.prog 39 [.v (.int .u32 v)] (bytes (be 4 v.toNat) 4) := by
 refine Fn.of Try.func39 rfl (by kernel_rfl) Try.ntmps39 (by simp) (fun w => [(0, .v (.int .u32 v))]) (fun w => (Start.v rfl Start.nil)) fun w₀ => ?_
 refine GS ?_
 refine TL ?_
 refine RA rfl ?_
 refine RN ?_
 refine GS ?_
 refine TL ?_
 refine RM rfl ?_
 refine RS (ok_conv Try.underlying22 Try.underlying23 rfl) ?_; refine RZ (.int .u64 v) (by rw [wrap_u64 hv0 (by omega)]) ?_
 refine RS (ok_call (put_fn v 4 hv0 (by omega) (by omega) (by omega)) (Args.cons rfl LA (Args.cons rfl LA Args.nil))) ?_
 refine RA rfl ?_
 refine RN ?_
 refine A.ret ?_
 exact End.ret1 rfl rfl (by first | exact Le.refl _ | exact Le.old _ _)
theorem get_fn (l : List UInt8) (k : Int) (hk0 : 0 ≤ k) (hk : k ≤ 8) : Fn Try.prog 43 [byt l, .v (.int .i64 k)] (tup [.v (.int .u64 (getV l k.toNat)), .v (.int .i64 (chk l.length k))]) := by
 have hchk : chk l.length k = 0 ↔ (l.length : Int) = k := by unfold chk; split <;> (try split) <;> omega
 refine Fn.of Try.func43 rfl (by kernel_rfl) Try.ntmps43 (by simp) (fun w => [(0, old w.heap.size (byt l)), (1, .v (.int .i64 k))]) (fun w => (Start.old rfl (Start.v rfl Start.nil))) fun w₀ => ?_
 refine GS ?_
 refine TL ?_
 refine RA rfl ?_
 refine RA rfl ?_
 refine RN ?_
 refine A.seq ?_
 refine GS ?_
 refine TL ?_
 refine RM rfl ?_
 refine RM rfl ?_
 refine RS (ok_call (checkLength_fn _ _) (Args.cons rfl LA (Args.cons rfl LA Args.nil))) ?_
 refine RA rfl ?_
 refine RN ?_
 refine GS ?_
 refine TL ?_
 refine RM rfl ?_
 refine RB rfl rfl rfl ?_
 refine RN ?_
 refine A.cond rfl (fun hc14 => ?_) (fun hc14 => ?_)
 ·have hne : ¬ (l.length : Int) = k := fun h => by simp [hchk.2 h] at hc14
  refine GS ?_
  refine TL ?_
  refine RM rfl ?_
  refine RA rfl ?_
  refine RA rfl ?_
  refine RN ?_
  refine A.ret ?_
  refine End.ret_then ?_
  first | exact End.ret2 rfl rfl (Le.v (by rw [getV, if_neg (by omega)])) rfl (Le.refl _) | exact End.ret2 rfl rfl (Le.v (by rw [getV, if_pos (by omega), List.take_of_length_le (by simp at hc19; omega)])) rfl (Le.v (by rw [hchk.2 heq]))
 ·have heq : (l.length : Int) = k := hchk.1 (by simpa using hc14)
  have hl8 : l.length ≤ 8 := by omega
  refine A.skip ?_
  refine EN ?_
  refine GS ?_
  refine TL ?_
  refine RA rfl ?_
  refine RN ?_
  refine A.seq ?_
  refine GS ?_
  refine TL ?_
  refine RM rfl ?_
  refine RS (ok_lenB Try.underlying31 rfl LA) ?_
  refine RM rfl ?_
  refine RN ?_
  refine A.block ?_
  refine A.loop (ι := Nat) (fun i => i ≤ l.length) (fun i => [(7, .v (nQ (num (l.take i)))), (16, old w₀.heap.size (byt l)), (17, .v (.int .i64 (l.length : Int))), (18, .v (.int .i64 (i : Int)))]) (fun i => l.length - i) 0 ?_ ?_ ?_
  ·exact Nat.zero_le _
  ·exact (KC 7 rfl (KC 16 rfl (KC 17 rfl (KC 18 rfl KN))))
  intro i hi
  refine GS ?_
  refine TL ?_
  refine RB rfl rfl rfl ?_
  refine RN ?_
  refine A.seq ?_
  refine A.cond rfl (fun hc19 => ?_) (fun hc19 => ?_)
  ·have hlt : i < l.length := by simpa using hc19
   have hnum : num (l.take i) < 256 ^ 7 := Nat.lt_of_lt_of_le (num_lt _) (Nat.pow_le_pow_right (by decide) (by rw [List.length_take]; omega))
   have hcn := l[i].toNat_lt
   refine A.skip ?_
   refine EN ?_
   refine A.seq ?_
   refine A.block ?_
   refine GS ?_
   refine TL ?_
   refine RS (ok_index (d := byteD l[i]) Try.underlying31 info5 rfl LA rfl (by omega) (by simp [hlt])) ?_
   refine RS (ok_load Try.underlying5 rfl rfl) ?_
   refine RA rfl ?_
   refine RN ?_
   refine GE ?_
   refine TL ?_
   refine RM rfl ?_
   refine RS (ok_shl rfl rfl (by decide)) ?_; refine RZ (nQ (num (l.take i) * 256)) (by rw [show (min (Int.toNat 8) IntKind.u64.bits) = 8 from rfl, wrap_u64 (by omega) (by omega)]; congr 1) ?_
   refine RM rfl ?_
   refine RS (ok_conv Try.underlying5 Try.underlying23 rfl) ?_; refine RZ (.int .u64 (l[i].toNat : Int)) (by rw [wrap_u64 (by omega) (by omega)]) ?_
   refine RBS rfl rfl rfl (nQ (num (l.take (i + 1)))) (by rw [show IntKind.u64.bits = 64 from rfl, or_u64_nat (by omega) (by omega), mul256_or, List.take_add_one, List.getElem?_eq_getElem hlt, Option.toList_some, num_snoc]) ?_
   refine RA rfl ?_
   refine RN ?_
   refine End.normal_block ?_
   refine EN ?_
   refine GE ?_
   refine TL ?_
   refine RBS rfl rfl rfl (nI (i + 1)) (by rw [wrap_i64 (by omega) (by omega)]; congr 1) ?_
   refine RM rfl ?_
   refine RN ?_
   refine End.normal_then ?_
   refine End.again (i + 1) ?_ ?_ ?_
   ·show _ ≤ _; omega
   ·show _ - _ < _ - _; omega
   ·exact (KC 7 rfl (KC 16 rfl (KC 17 rfl (KC 18 rfl KN))))
  ·refine A.exit ?_
   refine End.exit_then ?_
   refine End.exit_then ?_
   refine End.exit_here ?_
   refine EN ?_
   refine GS ?_
   refine TL ?_
   refine RM rfl ?_
   refine RA rfl ?_
   refine RA rfl ?_
   refine RN ?_
   refine A.ret ?_
   first | exact End.ret2 rfl rfl (Le.v (by rw [getV, if_neg (by omega)])) rfl (Le.refl _) | exact End.ret2 rfl rfl (Le.v (by rw [getV, if_pos (by omega), List.take_of_length_le (by simp at hc19; omega)])) rfl (Le.v (by rw [hchk.2 heq]))
theorem Get64_fn (l : List UInt8) : Fn Try.prog 37 [byt l] (tup [.v (.int .u64 (getV l 8)), .v (.int .i64 (chk l.length 8))]) := by
 refine Fn.of Try.func37 rfl (by kernel_rfl) Try.ntmps37 (by simp) (fun w => [(0, old w.heap.size (byt l))]) (fun w => (Start.old rfl Start.nil)) fun w₀ => ?_
 refine GS ?_
 refine TL ?_
 refine RA rfl ?_
 refine RA rfl ?_
 refine RN ?_
 refine GS ?_
 refine TL ?_
 refine RM rfl ?_
 refine RS (ok_call (get_fn l 8 (by decide) (by decide)) (Args.cons rfl LA (Args.cons rfl LA Args.nil))) ?_
 refine RS (ok_extract rfl rfl) ?_
 refine RS (ok_extract rfl rfl) ?_
 refine RA rfl ?_
 refine RA rfl ?_
 refine RN ?_
 refine A.ret ?_
 exact End.ret2 rfl rfl (by first | exact Le.refl _ | exact Le.old _ _) rfl (by first | exact Le.refl _ | exact Le.old _ _)
theorem Get32_fn (l : List UInt8) : Fn Try.prog 40 [byt l] (tup [.v (.int .u32 (getV l 4)), .v (.int .i64 (chk l.length 4))]) := by
 have hv : 0 ≤ getV l 4 ∧ getV l 4 < 4294967296 := by
  unfold getV
  split
  ·rename_i h; have := num_lt l; rw [h] at this; omega
  ·omega
 refine Fn.of Try.func40 rfl (by kernel_rfl) Try.ntmps40 (by simp) (fun w => [(0, old w.heap.size (byt l))]) (fun w => (Start.old rfl Start.nil)) fun w₀ => ?_
 refine GS ?_
 refine TL ?_
 refine RA rfl ?_
 refine RA rfl ?_
 refine RN ?_
 refine GS ?_
 refine TL ?_
 refine RM rfl ?_
 refine RS (ok_call (get_fn l 4 (by decide) (by decide)) (Args.cons rfl LA (Args.cons rfl LA Args.nil))) ?_
 refine RM rfl ?_
 refine RS (ok_extract rfl rfl) ?_
 refine RS (ok_extract rfl rfl) ?_
 refine RA rfl ?_
 refine RA rfl ?_
 refine RN ?_
 refine GS ?_
 refine TL ?_
 refine RM rfl ?_
 refine RS (ok_conv Try.underlying23 Try.underlying22 rfl) ?_; refine RZ (.int .u32 (getV l 4)) (congrArg _ (wrap_u32 hv.1 hv.2)) ?_
 refine RM rfl ?_
 refine RA rfl ?_
 refine RA rfl ?_
 refine RN ?_
 refine A.ret ?_
 exact End.ret2 rfl rfl (by first | exact Le.refl _ | exact Le.old _ _) rfl (by first | exact Le.refl _ | exact Le.old _ _)
end Go.Proofs.Ytbmpjeheaemgmaa
