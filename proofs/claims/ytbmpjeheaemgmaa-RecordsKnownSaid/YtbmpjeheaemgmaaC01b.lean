/-
 The contracts of the functions of package words and of its reference, part two: the reference's bytes of numbers, what tells whether bytes are as wanted, Join, Xor.
-/
import Derived.Test.YtbmpjeheaemgmaaShort
import Derived.Test.YtbmpjeheaemgmaaC01a
namespace Go.Proofs.Ytbmpjeheaemgmaa
open Go Go.RowKit
set_option linter.unusedVariables false
set_option maxRecDepth 20000

theorem refPut_fnB (v k : Int) (hv0 : 0 ≤ v) (hv : v < 18446744073709551616) (hk0 : 0 ≤ k) (hk : k ≤ 8) : FnB Try.prog 44 [.v (.int .u64 v), .v (.int .i64 k)] (fun B => fresh B 5 ((be k.toNat v.toNat).map byteV) k.toNat) := by
 obtain ⟨V, rfl⟩ := Int.eq_ofNat_of_zero_le hv0
 obtain ⟨K, rfl⟩ := Int.eq_ofNat_of_zero_le hk0
 simp only [Int.toNat_natCast]
 refine FnB.of Try.func44 rfl (by kernel_rfl) Try.ntmps44 (by simp) (fun w => [(0, .v (.int .u64 (V : Int))), (1, .v (.int .i64 (K : Int)))]) (fun w => (Start.v rfl (Start.v rfl Start.nil))) fun w₀ => ?_
 refine GS ?_
 refine TL ?_
 refine RA rfl ?_
 refine RN ?_
 refine GS ?_
 refine TL ?_
 refine RM rfl ?_
 refine RS (ok_make K Try.underlying31 info5 (by decide) rfl rfl rfl rfl rfl (by omega)) ?_
 refine RA rfl ?_
 refine RN ?_
 refine A.open (t := 5) (k := 1000000) rfl fun b hb => ?_
 refine A.seq ?_
 refine GS ?_
 refine TL ?_
 refine RM rfl ?_
 refine RBS rfl rfl rfl (.int .i64 ((K : Int) - 1 - ((0 : Nat) : Int))) (by rw [wrap_i64 (by omega) (by omega)]; congr 1; omega) ?_
 refine RA rfl ?_
 refine RN ?_
 refine A.block ?_
 refine A.loop (ι := Nat) (fun j => j ≤ K) (fun j => [(0, .v (nQ (V / 256 ^ j))), (5, .v (.slice (some ⟨b, 0, none⟩) K K)), (6, .v (.int .i64 ((K : Int) - 1 - (j : Int)))), (1000000, blk b 5 (List.replicate ((be K V).length - j) (.int .u8 0) ++ ((be K V).drop ((be K V).length - j)).map byteV))]) (fun j => K - j) 0 ?_ ?_ ?_
 ·exact Nat.zero_le _
 ·exact (KE 0 rfl (by simp) (KE 5 rfl (by simp) (KC 6 rfl (KE 1000000 rfl (by rw [Nat.sub_zero, List.drop_length]; simp [be_length]) KN))))
 intro j hj
 refine A.seq ?_
 refine GS ?_
 refine TL ?_
 refine RM rfl ?_
 refine RB rfl rfl rfl ?_
 refine RN ?_
 refine A.cond rfl (fun hc12 => ?_) (fun hc12 => ?_)
 ·have hlt : j < K := by simp at hc12; omega
  refine A.skip ?_
  refine EN ?_
  refine A.seq ?_
  refine A.block ?_
  refine GS ?_
  refine TF 6 ?_
  refine RM rfl ?_
  refine RM rfl ?_
  refine RM rfl ?_
  refine RS (ok_rem rfl rfl (by decide)) ?_; refine RZ (nQ (V / 256 ^ j % 256)) (by rw [tmod_lit _ (by decide)]; rfl) ?_
  refine RS (ok_conv Try.underlying23 Try.underlying5 rfl) ?_; refine RZ (byteV (UInt8.ofNat (V / 256 ^ j))) (by rw [wrap_u8_nat, ofNat_mod]; rfl) ?_
  refine RS (ok_indexV (K - 1 - j) Try.underlying31 info5 rfl rfl (by omega) (by omega)) ?_
  refine RN ?_
  refine ⟨_, eff_store (n := 24) (s := 1000000) info5 rfl rfl rfl hb rfl (by simp [be_length]; omega) (Left.cons (t := 0) rfl (Stays.v _ _) (Left.cons (t := 5) rfl (Stays.v _ _) (Left.cons (t := 6) rfl (Stays.v _ _) Left.nil))), ?_⟩
  refine TL ?_
  refine RN ?_
  refine GE ?_
  refine TL ?_
  refine RM rfl ?_
  refine RS (ok_div rfl rfl (by decide)) ?_; refine RZ (nQ (V / 256 ^ (j + 1))) (by rw [tdiv_lit _ (by decide), show Int.toNat 256 = 256 from rfl, wrapN_u64 (Nat.lt_of_le_of_lt (Nat.le_trans (Nat.div_le_self _ _) (Nat.div_le_self _ _)) (by omega)), Nat.pow_succ, ← Nat.div_div_eq_div_mul]) ?_
  refine RA rfl ?_
  refine RN ?_
  refine End.normal_block ?_
  refine EN ?_
  refine GE ?_
  refine TL ?_
  refine RM rfl ?_
  refine RBS rfl rfl rfl (.int .i64 ((K : Int) - 1 - ((j + 1 : Nat) : Int))) (by rw [wrap_i64 (by omega) (by omega)]; congr 1; omega) ?_
  refine RA rfl ?_
  refine RN ?_
  refine End.normal_then ?_
  refine End.again (j + 1) ?_ ?_ ?_
  ·show _ ≤ _; omega
  ·show _ - _ < _ - _; omega
  ·exact (KC 0 rfl (KC 5 rfl (KC 6 rfl (KE 1000000 rfl (by rw [Nat.zero_add]; have h := fill_back (l := be K V) (f := byteV) (z := .int .u8 0) (c := UInt8.ofNat (V / 256 ^ j)) (j := j) (by rw [be_length]; exact hlt) (by rw [be_length, be_get (by omega)]; congr 3; congr 1; omega); rw [be_length] at h ⊢; exact congrArg _ h) KN))))
 ·refine A.exit ?_
  refine End.exit_then ?_
  refine End.exit_then ?_
  refine End.exit_here ?_
  refine EN ?_
  refine GS ?_
  refine TL ?_
  refine RM rfl ?_
  refine RA rfl ?_
  refine RN ?_
  refine A.ret ?_
  have hK : j = K := by simp at hc12; omega
  subst hK
  exact End.fresh rfl hb rfl (by rw [List.length_map, be_length]) (k := 1000000) rfl (by simp only [be_length, Nat.sub_self, List.replicate_zero, List.nil_append, List.drop_zero])
theorem refPut_fn (v k : Int) (hv0 : 0 ≤ v) (hv : v < 18446744073709551616) (hk0 : 0 ≤ k) (hk : k ≤ 8) : Fn Try.prog 44 [.v (.int .u64 v), .v (.int .i64 k)] (bytes (be k.toNat v.toNat) k.toNat) :=
 (refPut_fnB v k hv0 hv hk0 hk).fn fun _ => fresh_bytes (be_length _ _).symm (by simp only [maxLen]; omega)
theorem refPut64_fn (v : Int) (hv0 : 0 ≤ v) (hv : v < 18446744073709551616) : Fn Try.prog 38 [.v (.int .u64 v)] (bytes (be 8 v.toNat) 8) := by
 refine Fn.of Try.func38 rfl (by kernel_rfl) Try.ntmps38 (by simp) (fun w => [(0, .v (.int .u64 v))]) (fun w => (Start.v rfl Start.nil)) fun w₀ => ?_
 refine GS ?_
 refine TL ?_
 refine RA rfl ?_
 refine RN ?_
 refine GS ?_
 refine TL ?_
 refine RM rfl ?_
 refine RS (ok_call (refPut_fn v 8 hv0 hv (by omega) (by omega)) (Args.cons rfl LA (Args.cons rfl LA Args.nil))) ?_
 refine RA rfl ?_
 refine RN ?_
 refine A.ret ?_
 exact End.ret1 rfl rfl (by first | exact Le.refl _ | exact Le.old _ _)
theorem refPut32_fn (v : Int) (hv0 : 0 ≤ v) (hv : v < 4294967296) : Fn Try.prog 41 [.v (.int .u32 v)] (bytes (be 4 v.toNat) 4) := by
 refine Fn.of Try.func41 rfl (by kernel_rfl) Try.ntmps41 (by simp) (fun w => [(0, .v (.int .u32 v))]) (fun w => (Start.v rfl Start.nil)) fun w₀ => ?_
 refine GS ?_
 refine TL ?_
 refine RA rfl ?_
 refine RN ?_
 refine GS ?_
 refine TL ?_
 refine RM rfl ?_
 refine RS (ok_conv Try.underlying22 Try.underlying23 rfl) ?_; refine RZ (.int .u64 v) (by rw [wrap_u64 hv0 (by omega)]) ?_
 refine RS (ok_call (refPut_fn v 4 hv0 (by omega) (by omega) (by omega)) (Args.cons rfl LA (Args.cons rfl LA Args.nil))) ?_
 refine RA rfl ?_
 refine RN ?_
 refine A.ret ?_
 exact End.ret1 rfl rfl (by first | exact Le.refl _ | exact Le.old _ _)
-- caisson/caissonref01.Get: not at this seat
-- caisson/caissonlaw01.same: not at this seat
end Go.Proofs.Ytbmpjeheaemgmaa
