/-
  The contracts of the functions of package words and of its reference that put numbers into bytes and get them back: what each returns, as a function on lists and numbers.
-/
import Derived.Test.YthggljahgnjcbaaOps2
import Derived.Test.YthggljahgnjcbaaNum
import Derived.Test.YthggljahgnjcbaaProg
namespace Go.Proofs.Ythggljahgnjcbaa
open Go Go.RowKit
set_option linter.unusedVariables false

theorem info5 : InfoIs Try.prog 5 (.int .u8 0) 1 := by unfold InfoIs; kernel_rfl
theorem info3 : InfoIs Try.prog 3 (.int .i64 0) 8 := by unfold InfoIs; kernel_rfl
theorem info32 : InfoIs Try.prog 32 (.slice none 0 0) 24 := by unfold InfoIs; kernel_rfl

def chk (len want : Int) : Int := if len < want then 6 else if len > want then 5 else 0
/-- What get returns: the number, or 0 and the error. -/
def getV (l : List UInt8) (k : Nat) : Int := if l.length = k then (num l : Int) else 0

-- caisson/words.checkLength: not at this seat
theorem put_fn (v k : Int) (hv0 : 0 ≤ v) (hv : v < 18446744073709551616) (hk0 : 0 ≤ k) (hk : k ≤ 8) : Fn Try.prog 45 [.v (.int .u64 v), .v (.int .i64 k)] (bytes (be k.toNat v.toNat) k.toNat) := by
  obtain ⟨V, rfl⟩ := Int.eq_ofNat_of_zero_le hv0
  obtain ⟨K, rfl⟩ := Int.eq_ofNat_of_zero_le hk0
  simp only [Int.toNat_natCast]
  refine Fn.of Try.func45 rfl (by kernel_rfl) Try.ntmps45 (by simp) (fun w => [(0, .v (.int .u64 (V : Int))), (1, .v (.int .i64 (K : Int)))]) (fun w => (Start.v rfl (Start.v rfl Start.nil))) fun w₀ => ?_
  refine A.regs (by kernel_rfl) (by kernel_rfl) (.inl rfl) ?_
  refine RunTK.last ?_
  refine RunK.step rfl rfl (ok_assign rfl) ?_
  refine RunK.nil ?_
  refine A.sub (Sub.cons (t := 0) rfl (Sub.cons (t := 1) rfl Sub.nil)) ?_
  refine A.regs (by kernel_rfl) (by kernel_rfl) (.inl rfl) ?_
  refine RunTK.last ?_
  refine RunK.step rfl rfl (ok_move rfl) ?_
  refine RunK.step rfl rfl (ok_make K Try.underlying32 info5 (by decide) rfl rfl rfl rfl rfl (by omega)) ?_
  refine RunK.step rfl rfl (ok_assign rfl) ?_
  refine RunK.nil ?_
  refine A.sub (Sub.cons (t := 0) rfl (Sub.cons (t := 1) rfl (Sub.cons (t := 5) rfl Sub.nil))) ?_
  refine A.open (t := 5) (k := 1000000) rfl fun b hb => ?_
  refine A.seq ?_
  refine A.regs (by kernel_rfl) (by kernel_rfl) (.inl rfl) ?_
  refine RunTK.last ?_
  refine RunK.step rfl rfl (ok_move rfl) ?_
  refine RunK.step rfl rfl (ok_move rfl) ?_
  refine RunK.nil ?_
  refine A.sub (Sub.cons (t := 0) rfl (Sub.cons (t := 1) rfl (Sub.cons (t := 5) rfl (Sub.cons (t := 9) rfl (Sub.cons (t := 10) rfl (Sub.cons (t := 1000000) rfl Sub.nil)))))) ?_
  refine A.block ?_
  refine A.loop (ι := Nat) (fun i => i ≤ K) (fun i => [(0, .v (.int .u64 (V : Int))), (1, .v (.int .i64 (K : Int))), (5, .v (.slice (some ⟨b, 0, none⟩) K K)), (9, .v (.int .i64 (K : Int))), (10, .v (.int .i64 (i : Int))), (1000000, blk b 5 (((be K V).take i).map byteV ++ List.replicate ((be K V).length - i) (.int .u8 0)))]) (fun i => K - i) 0 ?_ ?_ ?_
  · exact Nat.zero_le _
  · exact (Sub.cons (t := 0) rfl (Sub.cons (t := 1) rfl (Sub.eq (t := 5) _ rfl (by simp) (Sub.cons (t := 9) rfl (Sub.cons (t := 10) rfl (Sub.eq (t := 1000000) _ rfl (by simp [be_length]) Sub.nil))))))
  intro i hi
  refine A.regs (by kernel_rfl) (by kernel_rfl) (.inl rfl) ?_
  refine RunTK.last ?_
  refine RunK.step rfl rfl (ok_bin rfl rfl rfl) ?_
  refine RunK.nil ?_
  refine A.sub (Sub.cons (t := 0) rfl (Sub.cons (t := 1) rfl (Sub.cons (t := 5) rfl (Sub.cons (t := 9) rfl (Sub.cons (t := 10) rfl (Sub.cons (t := 11) rfl (Sub.cons (t := 1000000) rfl Sub.nil))))))) ?_
  refine A.seq ?_
  refine A.cond rfl (fun hc11 => ?_) (fun hc11 => ?_)
  · have hlt : i < K := by simpa using hc11
    refine A.skip ?_
    refine End.normal_then (End.code ?_)
    refine A.seq ?_
    refine A.block ?_
    refine A.regs (by kernel_rfl) (by kernel_rfl) (.inl rfl) ?_
    refine RunTK.last ?_
    refine RunK.step rfl rfl (ok_move rfl) ?_
    refine RunK.step rfl rfl (ok_assign rfl) ?_
    refine RunK.nil ?_
    refine A.sub (Sub.cons (t := 0) rfl (Sub.cons (t := 1) rfl (Sub.cons (t := 5) rfl (Sub.cons (t := 6) rfl (Sub.cons (t := 9) rfl (Sub.cons (t := 10) rfl (Sub.cons (t := 1000000) rfl Sub.nil))))))) ?_
    refine A.reg (by kernel_rfl) (by kernel_rfl) (.inl rfl) ?_
    refine RunTK.eff 11 (by decide) rfl (.inl rfl) ?_
    refine RunK.step rfl rfl (ok_move rfl) ?_
    refine RunK.step rfl rfl (ok_move rfl) ?_
    refine RunK.step rfl rfl (ok_move rfl) ?_
    refine RunK.step rfl rfl (ok_move rfl) ?_
    refine RunK.step rfl rfl (ok_bin rfl rfl rfl) ?_; refine RunK.as (.int .i64 ((K - 1 : Nat) : Int)) (by rw [wrap_i64 (by omega) (by omega)]; congr 1; omega) ?_
    refine RunK.step rfl rfl (ok_move rfl) ?_
    refine RunK.step rfl rfl (ok_bin rfl rfl rfl) ?_; refine RunK.as (.int .i64 ((K - 1 - i : Nat) : Int)) (by rw [wrap_i64 (by omega) (by omega)]; congr 1; omega) ?_
    refine RunK.step rfl rfl (ok_bin rfl rfl rfl) ?_; refine RunK.as (.int .i64 ((8 * (K - 1 - i) : Nat) : Int)) (by rw [wrap_i64 (by omega) (by omega)]; congr 1) ?_
    refine RunK.step rfl rfl (ok_shr rfl rfl (by omega)) ?_; refine RunK.as (.int .u64 ((V / 256 ^ (K - 1 - i) : Nat) : Int)) (by rw [Int.toNat_natCast, show min (8 * (K - 1 - i)) IntKind.u64.bits = 8 * (K - 1 - i) from by simp only [IntKind.bits]; omega, shr_nat, pow256]) ?_
    refine RunK.step rfl rfl (ok_conv Try.underlying24 Try.underlying5 rfl) ?_; refine RunK.as (byteV (UInt8.ofNat (V / 256 ^ (K - 1 - i)))) (by rw [wrap_u8_nat]; rfl) ?_
    refine RunK.step rfl rfl (ok_indexV i Try.underlying32 info5 rfl rfl rfl hlt) ?_
    refine RunK.nil ?_
    refine ⟨_, eff_store (n := 26) (s := 1000000) info5 rfl rfl rfl hb rfl (by simp [be_length]; omega) (Left.cons (t := 0) rfl (Stays.v _ _) (Left.cons (t := 1) rfl (Stays.v _ _) (Left.cons (t := 5) rfl (Stays.v _ _) (Left.cons (t := 6) rfl (Stays.v _ _) (Left.cons (t := 9) rfl (Stays.v _ _) (Left.cons (t := 10) rfl (Stays.v _ _) (Left.cons (t := 13) rfl (Stays.v _ _) (Left.cons (t := 14) rfl (Stays.v _ _) (Left.cons (t := 15) rfl (Stays.v _ _) (Left.cons (t := 16) rfl (Stays.v _ _) (Left.cons (t := 17) rfl (Stays.v _ _) (Left.cons (t := 18) rfl (Stays.v _ _) (Left.cons (t := 19) rfl (Stays.v _ _) (Left.cons (t := 20) rfl (Stays.v _ _) (Left.cons (t := 21) rfl (Stays.v _ _) (Left.cons (t := 22) rfl (Stays.v _ _) (Left.cons (t := 23) rfl (Stays.v _ _) Left.nil))))))))))))))))), ?_⟩
    refine RunTK.last ?_
    refine RunK.nil ?_
    refine End.sub (Sub.cons (t := 0) rfl (Sub.cons (t := 1) rfl (Sub.cons (t := 5) rfl (Sub.cons (t := 9) rfl (Sub.cons (t := 10) rfl (Sub.cons (t := 1000000) rfl Sub.nil)))))) ?_
    refine End.normal_block ?_
    refine End.normal_then (End.code ?_)
    refine A.reg (by kernel_rfl) (by kernel_rfl) (.inl rfl) ?_
    refine RunTK.last ?_
    refine RunK.step rfl rfl (ok_bin rfl rfl rfl) ?_; refine RunK.as (.int .i64 ((i + 1 : Nat) : Int)) (by rw [wrap_i64 (by omega) (by omega)]; congr 1) ?_
    refine RunK.step rfl rfl (ok_move rfl) ?_
    refine RunK.nil ?_
    refine End.sub (Sub.cons (t := 0) rfl (Sub.cons (t := 1) rfl (Sub.cons (t := 5) rfl (Sub.cons (t := 9) rfl (Sub.cons (t := 10) rfl (Sub.cons (t := 1000000) rfl Sub.nil)))))) ?_
    refine End.normal_then ?_
    refine End.again (i + 1) ?_ ?_ ?_
    · show _ ≤ _; omega
    · show _ - _ < _ - _; omega
    · exact (Sub.cons (t := 0) rfl (Sub.cons (t := 1) rfl (Sub.cons (t := 5) rfl (Sub.cons (t := 9) rfl (Sub.cons (t := 10) rfl (Sub.eq (t := 1000000) _ rfl (by rw [Nat.zero_add]; exact congrArg _ (fill_step (be_get hlt))) Sub.nil))))))
  · refine A.exit ?_
    refine End.exit_then ?_
    refine End.exit_then ?_
    refine End.exit_here ?_
    refine End.normal_then (End.code ?_)
    refine A.regs (by kernel_rfl) (by kernel_rfl) (.inl rfl) ?_
    refine RunTK.last ?_
    refine RunK.step rfl rfl (ok_move rfl) ?_
    refine RunK.step rfl rfl (ok_assign rfl) ?_
    refine RunK.nil ?_
    refine A.sub (Sub.cons (t := 4) rfl (Sub.cons (t := 1000000) rfl Sub.nil)) ?_
    refine A.ret ?_
    have hK : i = K := by simp at hc11; omega
    subst hK
    refine End.bytes 4 1000000 (be i V) rfl (be_length _ _).symm rfl ?_ (by simp [be_length]) (by simp only [maxLen]; omega) ?_
    · simp only [be_length, Nat.sub_self, List.replicate_zero, List.append_nil]
      rw [← List.map_take, List.take_take, Nat.min_self, List.take_of_length_le (by rw [be_length]; omega)]
    · exact End.ret1 rfl rfl (Le.refl _)
theorem Put64_fn (v : Int) (hv0 : 0 ≤ v) (hv : v < 18446744073709551616) : Fn Try.prog 36 [.v (.int .u64 v)] (bytes (be 8 v.toNat) 8) := by
  refine Fn.of Try.func36 rfl (by kernel_rfl) Try.ntmps36 (by simp) (fun w => [(0, .v (.int .u64 v))]) (fun w => (Start.v rfl Start.nil)) fun w₀ => ?_
  refine A.regs (by kernel_rfl) (by kernel_rfl) (.inl rfl) ?_
  refine RunTK.last ?_
  refine RunK.step rfl rfl (ok_assign rfl) ?_
  refine RunK.nil ?_
  refine A.sub (Sub.cons (t := 0) rfl Sub.nil) ?_
  refine A.regs (by kernel_rfl) (by kernel_rfl) (.inl rfl) ?_
  refine RunTK.last ?_
  refine RunK.step rfl rfl (ok_move rfl) ?_
  refine RunK.step rfl rfl (ok_call (put_fn v 8 hv0 hv (by omega) (by omega)) (Args.cons rfl (by first | exact Le.refl _ | exact Le.old _ _ | exact le_byt _ _ | exact (Le.old _ _).trans (le_byt _ _) | exact le_lst _ _ | exact (Le.old _ _).trans (le_lst _ _) | exact (Le.old _ _).trans (Le.old _ _) | exact (Le.old _ _).trans ((Le.old _ _).trans (le_byt _ _)) | exact byt_nil_le | exact lst_nil_le | exact bytes_nil_le | exact list_nil_le) (Args.cons rfl (by first | exact Le.refl _ | exact Le.old _ _ | exact le_byt _ _ | exact (Le.old _ _).trans (le_byt _ _) | exact le_lst _ _ | exact (Le.old _ _).trans (le_lst _ _) | exact (Le.old _ _).trans (Le.old _ _) | exact (Le.old _ _).trans ((Le.old _ _).trans (le_byt _ _)) | exact byt_nil_le | exact lst_nil_le | exact bytes_nil_le | exact list_nil_le) Args.nil))) ?_
  refine RunK.step rfl rfl (ok_assign rfl) ?_
  refine RunK.nil ?_
  refine A.sub (Sub.cons (t := 2) rfl Sub.nil) ?_
  refine A.ret ?_
  exact End.ret1 rfl rfl (by first | exact Le.refl _ | exact Le.old _ _)
theorem Put32_fn (v : Int) (hv0 : 0 ≤ v) (hv : v < 4294967296) : Fn Try.prog 35 [.v (.int .u32 v)] (bytes (be 4 v.toNat) 4) := by
  refine Fn.of Try.func35 rfl (by kernel_rfl) Try.ntmps35 (by simp) (fun w => [(0, .v (.int .u32 v))]) (fun w => (Start.v rfl Start.nil)) fun w₀ => ?_
  refine A.regs (by kernel_rfl) (by kernel_rfl) (.inl rfl) ?_
  refine RunTK.last ?_
  refine RunK.step rfl rfl (ok_assign rfl) ?_
  refine RunK.nil ?_
  refine A.sub (Sub.cons (t := 0) rfl Sub.nil) ?_
  refine A.regs (by kernel_rfl) (by kernel_rfl) (.inl rfl) ?_
  refine RunTK.last ?_
  refine RunK.step rfl rfl (ok_move rfl) ?_
  refine RunK.step rfl rfl (ok_conv Try.underlying23 Try.underlying24 rfl) ?_; refine RunK.as (.int .u64 v) (by rw [wrap_u64 hv0 (by omega)]) ?_
  refine RunK.step rfl rfl (ok_call (put_fn v 4 hv0 (by omega) (by omega) (by omega)) (Args.cons rfl (by first | exact Le.refl _ | exact Le.old _ _ | exact le_byt _ _ | exact (Le.old _ _).trans (le_byt _ _) | exact le_lst _ _ | exact (Le.old _ _).trans (le_lst _ _) | exact (Le.old _ _).trans (Le.old _ _) | exact (Le.old _ _).trans ((Le.old _ _).trans (le_byt _ _)) | exact byt_nil_le | exact lst_nil_le | exact bytes_nil_le | exact list_nil_le) (Args.cons rfl (by first | exact Le.refl _ | exact Le.old _ _ | exact le_byt _ _ | exact (Le.old _ _).trans (le_byt _ _) | exact le_lst _ _ | exact (Le.old _ _).trans (le_lst _ _) | exact (Le.old _ _).trans (Le.old _ _) | exact (Le.old _ _).trans ((Le.old _ _).trans (le_byt _ _)) | exact byt_nil_le | exact lst_nil_le | exact bytes_nil_le | exact list_nil_le) Args.nil))) ?_
  refine RunK.step rfl rfl (ok_assign rfl) ?_
  refine RunK.nil ?_
  refine A.sub (Sub.cons (t := 2) rfl Sub.nil) ?_
  refine A.ret ?_
  exact End.ret1 rfl rfl (by first | exact Le.refl _ | exact Le.old _ _)
-- caisson/words.get: not at this seat
-- caisson/words.Get64: not at this seat
-- caisson/words.Get32: not at this seat
end Go.Proofs.Ythggljahgnjcbaa
