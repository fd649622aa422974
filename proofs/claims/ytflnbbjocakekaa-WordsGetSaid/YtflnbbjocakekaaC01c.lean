/-
  The contracts of the functions of package words and of its reference, part three: rotations.
-/
import Derived.Test.YtflnbbjocakekaaC01b
import Derived.Test.YtflnbbjocakekaaOps2
namespace Go.Proofs.Ytflnbbjocakekaa
open Go Go.RowKit
set_option linter.unusedVariables false

theorem info50 : InfoIs Try.prog 50 (.slice none 0 0) 24 := by unfold InfoIs; kernel_rfl

def bitV (b : Nat) : Value := .int .i64 (b : Int)
def bitD (b : Nat) : D := .v (bitV b)
theorem lst_bits (l : List Nat) : lst (l.map bitD) = lst ((l.map bitV).map .v) := by rw [List.map_map]; rfl
theorem bits_one (l : List Nat) : ∀ u ∈ l.map bitV, u.oneCell' = true := fun u hu => by
  simp only [List.mem_map] at hu
  obtain ⟨b, _, rfl⟩ := hu
  rfl
theorem rot_amount (n : Int) : ∃ s : Nat, s < 32 ∧ n % 32 = (s : Int) ∧ (n % 18446744073709551616 % 32 = (s : Int)) := ⟨(n % 32).toNat, by omega, by omega, by omega⟩

theorem RotateLeft32_fn (v n : Int) (hv0 : 0 ≤ v) (hv : v < 4294967296) : Fn Try.prog 26 [.v (.int .u32 v), .v (.int .i64 n)] (.v (.int .u32 (rotB v.toNat (n % 32).toNat))) := by
  obtain ⟨V, rfl⟩ := Int.eq_ofNat_of_zero_le hv0
  obtain ⟨s, hs, h1, h2⟩ := rot_amount n
  obtain ⟨M, hM⟩ := Int.eq_ofNat_of_zero_le (Int.emod_nonneg n (show (18446744073709551616 : Int) ≠ 0 by decide))
  have hMlt : M < 18446744073709551616 := by omega
  have hMs : M % 32 = s := by omega
  rw [h1]
  simp only [Int.toNat_natCast]
  refine Fn.of Try.func26 rfl (by kernel_rfl) Try.ntmps26 (by simp) (fun w => [(0, .v (.int .u32 (V : Int))), (1, .v (.int .i64 n))]) (fun w => (Start.v rfl (Start.v rfl Start.nil))) fun w₀ => ?_
  refine A.regs (by kernel_rfl) (by kernel_rfl) (.inl rfl) ?_
  refine RunTK.last ?_
  refine RunK.step rfl rfl (ok_assign rfl) ?_
  refine RunK.nil ?_
  refine A.sub (Sub.cons (t := 0) rfl (Sub.cons (t := 1) rfl Sub.nil)) ?_
  refine A.regs (by kernel_rfl) (by kernel_rfl) (.inl rfl) ?_
  refine RunTK.last ?_
  refine RunK.step rfl rfl (ok_move rfl) ?_
  refine RunK.step rfl rfl (ok_conv Try.underlying3 Try.underlying34 rfl) ?_; refine RunK.as (.int .u64 (M : Int)) (by rw [wrap_u64_int, hM]) ?_
  refine RunK.step rfl rfl (ok_bin rfl rfl rfl) ?_; refine RunK.as (.int .u64 (s : Int)) (by rw [show IntKind.u64.bits = 64 from rfl, show (31 : Int) = ((31 : Nat) : Int) from rfl, and_u64_nat hMlt (by decide), and31, hMs]) ?_
  refine RunK.step rfl rfl (ok_assign rfl) ?_
  refine RunK.nil ?_
  refine A.sub (Sub.cons (t := 0) rfl (Sub.cons (t := 5) rfl Sub.nil)) ?_
  refine A.regs (by kernel_rfl) (by kernel_rfl) (.inl rfl) ?_
  refine RunTK.last ?_
  refine RunK.step rfl rfl (ok_move rfl) ?_
  refine RunK.step rfl rfl (ok_move rfl) ?_
  refine RunK.step rfl rfl (ok_shl rfl rfl (by omega)) ?_; refine RunK.as (.int .u32 ((V * 2 ^ s % 4294967296 : Nat) : Int)) (by rw [Int.toNat_natCast, show min s IntKind.u32.bits = s from by simp only [IntKind.bits]; omega, ← wrap_u32_nat]; congr 2) ?_
  refine RunK.step rfl rfl (ok_move rfl) ?_
  refine RunK.step rfl rfl (ok_move rfl) ?_
  refine RunK.step rfl rfl (ok_bin rfl rfl rfl) ?_; refine RunK.as (.int .u64 ((32 - s : Nat) : Int)) (by rw [wrap_u64 (by omega) (by omega)]; congr 1; omega) ?_
  refine RunK.step rfl rfl (ok_shr rfl rfl (by omega)) ?_; refine RunK.as (.int .u32 ((V / 2 ^ (32 - s) : Nat) : Int)) (by rw [Int.toNat_natCast, show min (32 - s) IntKind.u32.bits = 32 - s from by simp only [IntKind.bits]; omega, shr_nat]) ?_
  refine RunK.step rfl rfl (ok_bin rfl rfl rfl) ?_; refine RunK.as (.int .u32 ((rotB V s : Nat) : Int)) (by rw [show IntKind.u32.bits = 32 from rfl, or_u32_nat (Nat.mod_lt _ (by decide)) (Nat.lt_of_le_of_lt (Nat.div_le_self _ _) (by omega)), rotB_go (by omega) hs]) ?_
  refine RunK.step rfl rfl (ok_assign rfl) ?_
  refine RunK.nil ?_
  refine A.sub (Sub.cons (t := 4) rfl Sub.nil) ?_
  refine A.ret ?_
  exact End.ret1 rfl rfl (by first | exact Le.refl _ | exact Le.old _ _)
theorem Rot_fn (v n : Int) (hv0 : 0 ≤ v) (hv : v < 4294967296) : Fn Try.prog 19 [.v (.int .u32 v), .v (.int .i64 n)] (.v (.int .u32 (rotB v.toNat (n % 32).toNat))) := by
  refine Fn.of Try.func19 rfl (by kernel_rfl) Try.ntmps19 (by simp) (fun w => [(0, .v (.int .u32 v)), (1, .v (.int .i64 n))]) (fun w => (Start.v rfl (Start.v rfl Start.nil))) fun w₀ => ?_
  refine A.regs (by kernel_rfl) (by kernel_rfl) (.inl rfl) ?_
  refine RunTK.last ?_
  refine RunK.step rfl rfl (ok_assign rfl) ?_
  refine RunK.nil ?_
  refine A.sub (Sub.cons (t := 0) rfl (Sub.cons (t := 1) rfl Sub.nil)) ?_
  refine A.regs (by kernel_rfl) (by kernel_rfl) (.inl rfl) ?_
  refine RunTK.last ?_
  refine RunK.step rfl rfl (ok_move rfl) ?_
  refine RunK.step rfl rfl (ok_move rfl) ?_
  refine RunK.step rfl rfl (ok_call (RotateLeft32_fn v n hv0 hv) (Args.cons rfl (by first | exact Le.refl _ | exact Le.old _ _ | exact le_byt _ _ | exact (Le.old _ _).trans (le_byt _ _) | exact le_lst _ _ | exact (Le.old _ _).trans (le_lst _ _) | exact (Le.old _ _).trans (Le.old _ _) | exact (Le.old _ _).trans ((Le.old _ _).trans (le_byt _ _)) | exact byt_nil_le | exact lst_nil_le | exact bytes_nil_le | exact list_nil_le) (Args.cons rfl (by first | exact Le.refl _ | exact Le.old _ _ | exact le_byt _ _ | exact (Le.old _ _).trans (le_byt _ _) | exact le_lst _ _ | exact (Le.old _ _).trans (le_lst _ _) | exact (Le.old _ _).trans (Le.old _ _) | exact (Le.old _ _).trans ((Le.old _ _).trans (le_byt _ _)) | exact byt_nil_le | exact lst_nil_le | exact bytes_nil_le | exact list_nil_le) Args.nil))) ?_
  refine RunK.step rfl rfl (ok_assign rfl) ?_
  refine RunK.nil ?_
  refine A.sub (Sub.cons (t := 4) rfl Sub.nil) ?_
  refine A.ret ?_
  exact End.ret1 rfl rfl (by first | exact Le.refl _ | exact Le.old _ _)
theorem Bits_fn (v : Int) (hv0 : 0 ≤ v) (hv : v < 4294967296) : Fn Try.prog 27 [.v (.int .u32 v)] (lst ((bits32 v.toNat).map bitD)) := by
  obtain ⟨V, rfl⟩ := Int.eq_ofNat_of_zero_le hv0
  simp only [Int.toNat_natCast]
  refine Fn.of Try.func27 rfl (by kernel_rfl) Try.ntmps27 (by simp) (fun w => [(0, .v (.int .u32 (V : Int)))]) (fun w => (Start.v rfl Start.nil)) fun w₀ => ?_
  refine A.regs (by kernel_rfl) (by kernel_rfl) (.inl rfl) ?_
  refine RunTK.last ?_
  refine RunK.step rfl rfl (ok_assign rfl) ?_
  refine RunK.nil ?_
  refine A.sub (Sub.cons (t := 0) rfl Sub.nil) ?_
  refine A.regs (by kernel_rfl) (by kernel_rfl) (.inl rfl) ?_
  refine RunTK.last ?_
  refine RunK.step rfl rfl (ok_assign rfl) ?_
  refine RunK.nil ?_
  refine A.sub (Sub.cons (t := 0) rfl (Sub.cons (t := 3) rfl Sub.nil)) ?_
  refine A.seq ?_
  refine A.regs (by kernel_rfl) (by kernel_rfl) (.inl rfl) ?_
  refine RunTK.last ?_
  refine RunK.step rfl rfl (ok_assign rfl) ?_
  refine RunK.nil ?_
  refine A.sub (Sub.cons (t := 0) rfl (Sub.cons (t := 3) rfl (Sub.cons (t := 4) rfl Sub.nil))) ?_
  refine A.block ?_
  refine A.subL (SubL.cons (t := 0) rfl (Le.refl _) (SubL.cons (t := 3) rfl (own_nil (B := w₀.heap.size) (e := 3)) (SubL.cons (t := 4) rfl (Le.refl _) SubL.nil))) ?_
  refine A.loop (ι := Nat) (fun j => j ≤ 32) (fun j => [(0, .v (.int .u32 (V : Int))), (3, own w₀.heap.size 3 j (((bits32 V).take j).map fun (b : Nat) => .int .i64 (b : Int))), (4, .v (.int .i64 (31 - (j : Int))))]) (fun j => 32 - j) 0 ?_ ?_ ?_
  · exact Nat.zero_le _
  · exact (Sub.cons (t := 0) rfl (Sub.cons (t := 3) rfl (Sub.cons (t := 4) rfl Sub.nil)))
  intro j hj
  refine A.seq ?_
  refine A.regs (by kernel_rfl) (by kernel_rfl) (.inl rfl) ?_
  refine RunTK.last ?_
  refine RunK.step rfl rfl (ok_move rfl) ?_
  refine RunK.step rfl rfl (ok_bin rfl rfl rfl) ?_
  refine RunK.nil ?_
  refine A.sub (Sub.cons (t := 0) rfl (Sub.cons (t := 3) rfl (Sub.cons (t := 4) rfl (Sub.cons (t := 6) rfl Sub.nil)))) ?_
  refine A.cond rfl (fun hc6 => ?_) (fun hc6 => ?_)
  · have hlt : j < 32 := by simp at hc6; omega
    refine A.skip ?_
    refine End.normal_then (End.code ?_)
    refine A.seq ?_
    refine A.block ?_
    refine A.reg (by kernel_rfl) (by kernel_rfl) (.inl rfl) ?_
    refine RunTK.eff 7 (by decide) rfl (.inl rfl) ?_
    refine RunK.step rfl rfl (ok_move rfl) ?_
    refine RunK.step rfl rfl (ok_move rfl) ?_
    refine RunK.step rfl rfl (ok_move rfl) ?_
    refine RunK.step rfl rfl (ok_shr rfl rfl (by omega)) ?_; refine RunK.as (.int .u32 ((V / 2 ^ (31 - j) : Nat) : Int)) (by rw [show min (Int.toNat (31 - (j : Int))) IntKind.u32.bits = 31 - j from by simp only [IntKind.bits]; omega, shr_nat]) ?_
    refine RunK.step rfl rfl (ok_rem rfl rfl (by decide)) ?_; refine RunK.as (.int .u32 ((V / 2 ^ (31 - j) % 2 : Nat) : Int)) (by rw [tmod_lit _ (by decide)]; rfl) ?_
    refine RunK.step rfl rfl (ok_conv Try.underlying28 Try.underlying3 rfl) ?_; refine RunK.as (.int .i64 ((V / 2 ^ (31 - j) % 2 : Nat) : Int)) (by rw [wrapN_i64 (by omega)]) ?_
    refine RunK.step rfl rfl (ok_build [bitD (V / 2 ^ (31 - j) % 2)] Try.underlying50 info3 rfl (by decide) (by decide) rfl ⟨rfl, rfl, trivial⟩ (fun d hd w x h => by simp at hd; subst hd; exact v_one rfl h)) ?_
    refine RunK.nil ?_
    refine ⟨_, eff_append (vs := [.int .i64 ((V / 2 ^ (31 - j) % 2 : Nat) : Int)]) Try.underlying50 info3 (by decide) rfl rfl rfl (le_lst _ _) (by simp [Value.oneCell']) (by simp; omega) (by decide) (Left.cons (t := 0) rfl (Stays.v _ _) (Left.cons (t := 4) rfl (Stays.v _ _) (Left.cons (t := 6) rfl (Stays.v _ _) (Left.cons (t := 10) rfl (Stays.v _ _) (Left.cons (t := 11) rfl (Stays.v _ _) (Left.cons (t := 12) rfl (Stays.v _ _) (Left.cons (t := 13) rfl (Stays.v _ _) (Left.cons (t := 14) rfl (Stays.v _ _) Left.nil)))))))), ?_⟩
    refine RunTK.last ?_
    refine RunK.step rfl rfl (ok_assign rfl) ?_
    refine RunK.nil ?_
    refine End.sub (Sub.cons (t := 0) rfl (Sub.cons (t := 3) rfl (Sub.cons (t := 4) rfl Sub.nil))) ?_
    refine End.normal_block ?_
    refine End.normal_then (End.code ?_)
    refine A.reg (by kernel_rfl) (by kernel_rfl) (.inl rfl) ?_
    refine RunTK.last ?_
    refine RunK.step rfl rfl (ok_move rfl) ?_
    refine RunK.step rfl rfl (ok_bin rfl rfl rfl) ?_; refine RunK.as (.int .i64 (31 - ((j + 1 : Nat) : Int))) (by rw [wrap_i64 (by omega) (by omega)]; congr 1; omega) ?_
    refine RunK.step rfl rfl (ok_assign rfl) ?_
    refine RunK.nil ?_
    refine End.sub (Sub.cons (t := 0) rfl (Sub.cons (t := 3) rfl (Sub.cons (t := 4) rfl Sub.nil))) ?_
    refine End.normal_then ?_
    refine End.again (j + 1) ?_ ?_ ?_
    · show _ ≤ _; omega
    · show _ - _ < _ - _; omega
    · exact (Sub.cons (t := 0) rfl (Sub.eq (t := 3) _ rfl (by rw [List.take_add_one, bits32_get hlt, List.map_append]; rfl) (Sub.cons (t := 4) rfl Sub.nil)))
  · have hj : j = 32 := by simp at hc6; omega
    subst hj
    refine A.exit ?_
    refine End.exit_then ?_
    refine End.exit_then ?_
    refine End.exit_here ?_
    refine End.normal_then (End.code ?_)
    refine A.regs (by kernel_rfl) (by kernel_rfl) (.inl rfl) ?_
    refine RunTK.last ?_
    refine RunK.step rfl rfl (ok_move rfl) ?_
    refine RunK.step rfl rfl (ok_assign rfl) ?_
    refine RunK.nil ?_
    refine A.sub (Sub.cons (t := 2) rfl Sub.nil) ?_
    refine A.ret ?_
    refine End.ret1 rfl rfl ((own_le (by simp [bits32_length])).trans ?_)
    rw [List.take_of_length_le (by simp [bits32_length]), List.map_map]
    exact Le.refl _
theorem Number_fn (l : List Nat) (hl : ∀ b ∈ l, b ≤ 1) (hlen : l.length ≤ 32) : Fn Try.prog 28 [lst (l.map bitD)] (.v (.int .u32 (nb l : Int))) := by
  refine Fn.of Try.func28 rfl (by kernel_rfl) Try.ntmps28 (by simp) (fun w => [(0, old w.heap.size (lst (l.map bitD)))]) (fun w => (Start.old rfl Start.nil)) fun w₀ => ?_
  refine A.regs (by kernel_rfl) (by kernel_rfl) (.inl rfl) ?_
  refine RunTK.last ?_
  refine RunK.step rfl rfl (ok_assign rfl) ?_
  refine RunK.nil ?_
  refine A.sub (Sub.cons (t := 0) rfl Sub.nil) ?_
  refine A.regs (by kernel_rfl) (by kernel_rfl) (.inl rfl) ?_
  refine RunTK.last ?_
  refine RunK.step rfl rfl (ok_assign rfl) ?_
  refine RunK.nil ?_
  refine A.sub (Sub.cons (t := 0) rfl (Sub.cons (t := 3) rfl Sub.nil)) ?_
  refine A.seq ?_
  refine A.regs (by kernel_rfl) (by kernel_rfl) (.inl rfl) ?_
  refine RunTK.last ?_
  refine RunK.step rfl rfl (ok_assign rfl) ?_
  refine RunK.nil ?_
  refine A.sub (Sub.cons (t := 0) rfl (Sub.cons (t := 3) rfl (Sub.cons (t := 4) rfl Sub.nil))) ?_
  refine A.block ?_
  refine A.loop (ι := Nat) (fun i => i ≤ l.length) (fun i => [(0, old w₀.heap.size (lst (l.map bitD))), (3, .v (.int .u32 ((nb (l.take i) : Nat) : Int))), (4, .v (.int .i64 (i : Int)))]) (fun i => l.length - i) 0 ?_ ?_ ?_
  · exact Nat.zero_le _
  · exact (Sub.cons (t := 0) rfl (Sub.cons (t := 3) rfl (Sub.cons (t := 4) rfl Sub.nil)))
  intro i hi
  refine A.seq ?_
  refine A.regs (by kernel_rfl) (by kernel_rfl) (.inl rfl) ?_
  refine RunTK.last ?_
  refine RunK.step rfl rfl (ok_move rfl) ?_
  refine RunK.step rfl rfl (ok_move rfl) ?_
  refine RunK.step rfl rfl (ok_len Try.underlying50 rfl (by first | exact Le.refl _ | exact Le.old _ _ | exact le_byt _ _ | exact (Le.old _ _).trans (le_byt _ _) | exact le_lst _ _ | exact (Le.old _ _).trans (le_lst _ _) | exact (Le.old _ _).trans (Le.old _ _) | exact (Le.old _ _).trans ((Le.old _ _).trans (le_byt _ _)) | exact byt_nil_le | exact lst_nil_le | exact bytes_nil_le | exact list_nil_le)) ?_
  refine RunK.step rfl rfl (ok_bin rfl rfl rfl) ?_
  refine RunK.nil ?_
  refine A.sub (Sub.cons (t := 0) rfl (Sub.cons (t := 3) rfl (Sub.cons (t := 4) rfl (Sub.cons (t := 8) rfl Sub.nil)))) ?_
  refine A.cond rfl (fun hc8 => ?_) (fun hc8 => ?_)
  · have hlt : i < l.length := by simpa using hc8
    have hb := hl l[i] (List.getElem_mem hlt)
    have hn : nb (l.take i) < 2 ^ 31 := Nat.lt_of_lt_of_le (nb_lt fun b hb => hl b (List.mem_of_mem_take hb)) (Nat.pow_le_pow_right (by decide) (by rw [List.length_take]; omega))
    refine A.skip ?_
    refine End.normal_then (End.code ?_)
    refine A.seq ?_
    refine A.block ?_
    refine A.reg (by kernel_rfl) (by kernel_rfl) (.inl rfl) ?_
    refine RunTK.last ?_
    refine RunK.step rfl rfl (ok_move rfl) ?_
    refine RunK.step rfl rfl (ok_bin rfl rfl rfl) ?_; refine RunK.as (.int .u32 ((2 * nb (l.take i) : Nat) : Int)) (by rw [wrap_u32 (by omega) (by omega)]; congr 1) ?_
    refine RunK.step rfl rfl (ok_move rfl) ?_
    refine RunK.step rfl rfl (ok_move rfl) ?_
    refine RunK.step rfl rfl (ok_index (d := bitD l[i]) Try.underlying50 info3 rfl (by first | exact Le.refl _ | exact Le.old _ _ | exact le_byt _ _ | exact (Le.old _ _).trans (le_byt _ _) | exact le_lst _ _ | exact (Le.old _ _).trans (le_lst _ _) | exact (Le.old _ _).trans (Le.old _ _) | exact (Le.old _ _).trans ((Le.old _ _).trans (le_byt _ _)) | exact byt_nil_le | exact lst_nil_le | exact bytes_nil_le | exact list_nil_le) rfl (by omega) (by simp [hlt])) ?_
    refine RunK.step rfl rfl (ok_load Try.underlying3 rfl rfl) ?_
    refine RunK.step rfl rfl (ok_conv Try.underlying3 Try.underlying28 rfl) ?_; refine RunK.as (.int .u32 (l[i] : Int)) (by rw [wrapN_u32 (by omega)]) ?_
    refine RunK.step rfl rfl (ok_bin rfl rfl rfl) ?_; refine RunK.as (.int .u32 ((nb (l.take (i + 1)) : Nat) : Int)) (by rw [wrap_u32 (by omega) (by omega), List.take_add_one, List.getElem?_eq_getElem hlt, Option.toList_some, nb_snoc]; congr 1) ?_
    refine RunK.step rfl rfl (ok_assign rfl) ?_
    refine RunK.nil ?_
    refine End.sub (Sub.cons (t := 0) rfl (Sub.cons (t := 3) rfl (Sub.cons (t := 4) rfl Sub.nil))) ?_
    refine End.normal_block ?_
    refine End.normal_then (End.code ?_)
    refine A.reg (by kernel_rfl) (by kernel_rfl) (.inl rfl) ?_
    refine RunTK.last ?_
    refine RunK.step rfl rfl (ok_move rfl) ?_
    refine RunK.step rfl rfl (ok_bin rfl rfl rfl) ?_; refine RunK.as (.int .i64 ((i + 1 : Nat) : Int)) (by rw [wrap_i64 (by omega) (by omega)]; congr 1) ?_
    refine RunK.step rfl rfl (ok_assign rfl) ?_
    refine RunK.nil ?_
    refine End.sub (Sub.cons (t := 0) rfl (Sub.cons (t := 3) rfl (Sub.cons (t := 4) rfl Sub.nil))) ?_
    refine End.normal_then ?_
    refine End.again (i + 1) ?_ ?_ ?_
    · show _ ≤ _; omega
    · show _ - _ < _ - _; omega
    · exact (Sub.cons (t := 0) rfl (Sub.cons (t := 3) rfl (Sub.cons (t := 4) rfl Sub.nil)))
  · refine A.exit ?_
    refine End.exit_then ?_
    refine End.exit_then ?_
    refine End.exit_here ?_
    refine End.normal_then (End.code ?_)
    refine A.regs (by kernel_rfl) (by kernel_rfl) (.inl rfl) ?_
    refine RunTK.last ?_
    refine RunK.step rfl rfl (ok_move rfl) ?_
    refine RunK.step rfl rfl (ok_assign rfl) ?_
    refine RunK.nil ?_
    refine A.sub (Sub.cons (t := 2) rfl Sub.nil) ?_
    refine A.ret ?_
    exact End.ret1 rfl rfl (Le.v (by simp at hc8; rw [List.take_of_length_le (by omega)]))
theorem refRot_fn (v n : Int) (hv0 : 0 ≤ v) (hv : v < 4294967296) (hn0 : -9223372036854775808 ≤ n) (hn : n ≤ 9223372036854775807) : Fn Try.prog 20 [.v (.int .u32 v), .v (.int .i64 n)] (.v (.int .u32 (rotB v.toNat (n % 32).toNat))) := by
  obtain ⟨V, rfl⟩ := Int.eq_ofNat_of_zero_le hv0
  obtain ⟨s, hs, h1, h2⟩ := rot_amount n
  rw [h1]
  simp only [Int.toNat_natCast]
  have hm : n.tmod 32 = if n.tmod 32 < 0 then (s : Int) - 32 else (s : Int) := by
    have h32 := Int.tmod_eq_emod (a := n) (b := 32)
    rw [show Int.natAbs 32 = 32 from rfl] at h32
    split at h32 <;> split <;> omega
  refine Fn.of Try.func20 rfl (by kernel_rfl) Try.ntmps20 (by simp) (fun w => [(0, .v (.int .u32 (V : Int))), (1, .v (.int .i64 n))]) (fun w => (Start.v rfl (Start.v rfl Start.nil))) fun w₀ => ?_
  refine A.regs (by kernel_rfl) (by kernel_rfl) (.inl rfl) ?_
  refine RunTK.last ?_
  refine RunK.step rfl rfl (ok_assign rfl) ?_
  refine RunK.nil ?_
  refine A.sub (Sub.cons (t := 0) rfl (Sub.cons (t := 1) rfl Sub.nil)) ?_
  refine A.regs (by kernel_rfl) (by kernel_rfl) (.inl rfl) ?_
  refine RunTK.last ?_
  refine RunK.step rfl rfl (ok_move rfl) ?_
  refine RunK.step rfl rfl (ok_rem rfl rfl (by decide)) ?_
  refine RunK.step rfl rfl (ok_assign rfl) ?_
  refine RunK.nil ?_
  refine A.sub (Sub.cons (t := 0) rfl (Sub.cons (t := 5) rfl Sub.nil)) ?_
  refine A.seq ?_
  refine A.regs (by kernel_rfl) (by kernel_rfl) (.inl rfl) ?_
  refine RunTK.last ?_
  refine RunK.step rfl rfl (ok_move rfl) ?_
  refine RunK.step rfl rfl (ok_bin rfl rfl rfl) ?_
  refine RunK.nil ?_
  refine A.sub (Sub.cons (t := 0) rfl (Sub.cons (t := 5) rfl (Sub.cons (t := 10) rfl Sub.nil))) ?_
  refine A.cond rfl (fun hc10 => ?_) (fun hc10 => ?_)
  · have hlt : n.tmod 32 < 0 := by simpa using hc10
    rw [if_pos hlt] at hm
    refine A.reg (by kernel_rfl) (by kernel_rfl) (.inl rfl) ?_
    refine RunTK.last ?_
    refine RunK.step rfl rfl (ok_move rfl) ?_
    refine RunK.step rfl rfl (ok_bin rfl rfl rfl) ?_; refine RunK.as (.int .i64 (s : Int)) (by rw [hm, wrap_i64 (by omega) (by omega)]; congr 1; omega) ?_
    refine RunK.step rfl rfl (ok_assign rfl) ?_
    refine RunK.nil ?_
    refine End.sub (Sub.cons (t := 0) rfl (Sub.cons (t := 5) rfl Sub.nil)) ?_
    refine End.normal_then (End.code ?_)
    refine A.regs (by kernel_rfl) (by kernel_rfl) (.inl rfl) ?_
    refine RunTK.last ?_
    refine RunK.step rfl rfl (ok_move rfl) ?_
    refine RunK.step rfl rfl (ok_call (Bits_fn (V : Int) (by omega) (by omega)) (Args.cons rfl (by first | exact Le.refl _ | exact Le.old _ _ | exact le_byt _ _ | exact (Le.old _ _).trans (le_byt _ _) | exact le_lst _ _ | exact (Le.old _ _).trans (le_lst _ _) | exact (Le.old _ _).trans (Le.old _ _) | exact (Le.old _ _).trans ((Le.old _ _).trans (le_byt _ _)) | exact byt_nil_le | exact lst_nil_le | exact bytes_nil_le | exact list_nil_le) Args.nil)) ?_
    refine RunK.step rfl rfl (ok_assign rfl) ?_
    refine RunK.nil ?_
    refine A.sub (Sub.cons (t := 5) rfl (Sub.cons (t := 6) rfl Sub.nil)) ?_
    refine A.regs (by kernel_rfl) (by kernel_rfl) (.inr (by kernel_rfl)) ?_
    refine RunTK.eff 8 (by decide) rfl (.inr (by kernel_rfl)) ?_
    refine RunK.step rfl rfl (ok_build0 Try.underlying50 info3) ?_
    refine RunK.step rfl rfl (ok_move rfl) ?_
    refine RunK.step rfl rfl (ok_move rfl) ?_; refine RunK.as (.int .i64 (s : Int)) (by first | rfl | rw [hm]) ?_
    refine RunK.step rfl rfl (ok_slice (ds := (bits32 V).map bitD) s 32 Try.underlying50 info3 rfl (Le.refl _) (.inl ⟨_, _, rfl, rfl⟩) (.inr ⟨rfl, by simp [bits32_length]⟩) (by omega) (by simp [bits32_length])) ?_
    refine RunK.step rfl rfl (ok_append_new (os := []) (vs := ((bits32 V).drop s).map bitV) Try.underlying50 info3 (by decide) rfl rfl (Le.refl _) rfl (Le.eq (by rw [← lst_bits, List.take_of_length_le (by simp [bits32_length]), List.map_drop])) (by intro h; have := congrArg List.length h; simp [bits32_length] at this; omega) (bits_one _) (by simp [bits32_length]; omega)) ?_
    refine RunK.step rfl rfl (ok_move rfl) ?_
    refine RunK.step rfl rfl (ok_move rfl) ?_; refine RunK.as (.int .i64 (s : Int)) (by first | rfl | rw [hm]) ?_
    refine RunK.step rfl rfl (ok_slice (ds := (bits32 V).map bitD) 0 s Try.underlying50 info3 rfl (Le.refl _) (.inr ⟨rfl, rfl⟩) (.inl ⟨_, _, rfl, rfl⟩) (by omega) (by simp [bits32_length]; omega)) ?_
    refine RunK.nil ?_
    refine ⟨_, eff_append (vs := ((bits32 V).take s).map bitV) Try.underlying50 info3 (by decide) rfl rfl rfl (Le.eq (by rw [← lst_bits, List.drop_zero, List.map_take])) (bits_one _) (by simp [bits32_length]; omega) (by decide) (Left.cons (t := 5) rfl (Stays.v _ _) (Left.cons (t := 17) rfl (Stays.v _ _) (Left.cons (t := 21) rfl (Stays.v _ _) Left.nil))), ?_⟩
    refine RunTK.last ?_
    refine RunK.step rfl rfl (ok_call (Number_fn ((bits32 V).drop s ++ (bits32 V).take s) (fun b hb => bits32_le V b (by rcases List.mem_append.1 hb with h | h; exact List.mem_of_mem_drop h; exact List.mem_of_mem_take h)) (by simp [bits32_length]; omega)) (Args.cons rfl ((own_le (by simp)).trans (Le.eq (by rw [lst_bits, List.nil_append, ← List.map_append]))) Args.nil)) ?_
    refine RunK.step rfl rfl (ok_assign rfl) ?_
    refine RunK.nil ?_
    refine A.sub (Sub.cons (t := 4) rfl Sub.nil) ?_
    refine A.ret ?_
    exact End.ret1 rfl rfl (Le.v (by rw [nb_rot (by omega) hs]))
  · have hlt : ¬ n.tmod 32 < 0 := by simpa using hc10
    rw [if_neg hlt] at hm
    refine A.skip ?_
    refine End.normal_then (End.code ?_)
    refine A.regs (by kernel_rfl) (by kernel_rfl) (.inl rfl) ?_
    refine RunTK.last ?_
    refine RunK.step rfl rfl (ok_move rfl) ?_
    refine RunK.step rfl rfl (ok_call (Bits_fn (V : Int) (by omega) (by omega)) (Args.cons rfl (by first | exact Le.refl _ | exact Le.old _ _ | exact le_byt _ _ | exact (Le.old _ _).trans (le_byt _ _) | exact le_lst _ _ | exact (Le.old _ _).trans (le_lst _ _) | exact (Le.old _ _).trans (Le.old _ _) | exact (Le.old _ _).trans ((Le.old _ _).trans (le_byt _ _)) | exact byt_nil_le | exact lst_nil_le | exact bytes_nil_le | exact list_nil_le) Args.nil)) ?_
    refine RunK.step rfl rfl (ok_assign rfl) ?_
    refine RunK.nil ?_
    refine A.sub (Sub.cons (t := 5) rfl (Sub.cons (t := 6) rfl Sub.nil)) ?_
    refine A.regs (by kernel_rfl) (by kernel_rfl) (.inr (by kernel_rfl)) ?_
    refine RunTK.eff 8 (by decide) rfl (.inr (by kernel_rfl)) ?_
    refine RunK.step rfl rfl (ok_build0 Try.underlying50 info3) ?_
    refine RunK.step rfl rfl (ok_move rfl) ?_
    refine RunK.step rfl rfl (ok_move rfl) ?_; refine RunK.as (.int .i64 (s : Int)) (by first | rfl | rw [hm]) ?_
    refine RunK.step rfl rfl (ok_slice (ds := (bits32 V).map bitD) s 32 Try.underlying50 info3 rfl (Le.refl _) (.inl ⟨_, _, rfl, rfl⟩) (.inr ⟨rfl, by simp [bits32_length]⟩) (by omega) (by simp [bits32_length])) ?_
    refine RunK.step rfl rfl (ok_append_new (os := []) (vs := ((bits32 V).drop s).map bitV) Try.underlying50 info3 (by decide) rfl rfl (Le.refl _) rfl (Le.eq (by rw [← lst_bits, List.take_of_length_le (by simp [bits32_length]), List.map_drop])) (by intro h; have := congrArg List.length h; simp [bits32_length] at this; omega) (bits_one _) (by simp [bits32_length]; omega)) ?_
    refine RunK.step rfl rfl (ok_move rfl) ?_
    refine RunK.step rfl rfl (ok_move rfl) ?_; refine RunK.as (.int .i64 (s : Int)) (by first | rfl | rw [hm]) ?_
    refine RunK.step rfl rfl (ok_slice (ds := (bits32 V).map bitD) 0 s Try.underlying50 info3 rfl (Le.refl _) (.inr ⟨rfl, rfl⟩) (.inl ⟨_, _, rfl, rfl⟩) (by omega) (by simp [bits32_length]; omega)) ?_
    refine RunK.nil ?_
    refine ⟨_, eff_append (vs := ((bits32 V).take s).map bitV) Try.underlying50 info3 (by decide) rfl rfl rfl (Le.eq (by rw [← lst_bits, List.drop_zero, List.map_take])) (bits_one _) (by simp [bits32_length]; omega) (by decide) (Left.cons (t := 5) rfl (Stays.v _ _) (Left.cons (t := 17) rfl (Stays.v _ _) (Left.cons (t := 21) rfl (Stays.v _ _) Left.nil))), ?_⟩
    refine RunTK.last ?_
    refine RunK.step rfl rfl (ok_call (Number_fn ((bits32 V).drop s ++ (bits32 V).take s) (fun b hb => bits32_le V b (by rcases List.mem_append.1 hb with h | h; exact List.mem_of_mem_drop h; exact List.mem_of_mem_take h)) (by simp [bits32_length]; omega)) (Args.cons rfl ((own_le (by simp)).trans (Le.eq (by rw [lst_bits, List.nil_append, ← List.map_append]))) Args.nil)) ?_
    refine RunK.step rfl rfl (ok_assign rfl) ?_
    refine RunK.nil ?_
    refine A.sub (Sub.cons (t := 4) rfl Sub.nil) ?_
    refine A.ret ?_
    exact End.ret1 rfl rfl (Le.v (by rw [nb_rot (by omega) hs]))
end Go.Proofs.Ytflnbbjocakekaa
