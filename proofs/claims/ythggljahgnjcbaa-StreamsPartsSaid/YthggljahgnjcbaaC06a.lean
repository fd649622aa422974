/-
  The contracts of caissonref06: rows and columns as a matrix, words one behind the other. Bytes as rows of numbers.
-/
import Derived.Test.YthggljahgnjcbaaC05b
import Derived.Test.YthggljahgnjcbaaAes
import Derived.Test.YthggljahgnjcbaaNest
namespace Go.Proofs.Ythggljahgnjcbaa
open Go Go.RowKit
set_option linter.unusedVariables false

theorem zero22 : ZeroIs Try.prog 22 (List.replicate 16 (.int .u8 0)) := by unfold ZeroIs; kernel_rfl
theorem size22 : SizeIs Try.prog 22 16 := by unfold SizeIs; kernel_rfl
theorem zero71 : ZeroIs Try.prog 71 (List.replicate 4 (.int .u8 0)) := by unfold ZeroIs; kernel_rfl
theorem size71 : SizeIs Try.prog 71 4 := by unfold SizeIs; kernel_rfl
theorem zero72 : ZeroIs Try.prog 72 (List.replicate 176 (.int .u8 0)) := by unfold ZeroIs; kernel_rfl
theorem size72 : SizeIs Try.prog 72 176 := by unfold SizeIs; kernel_rfl
theorem zero85 : ZeroIs Try.prog 85 (List.replicate 16 (.int .u8 0)) := by unfold ZeroIs; kernel_rfl
theorem size85 : SizeIs Try.prog 85 16 := by unfold SizeIs; kernel_rfl
theorem zero50 : ZeroIs Try.prog 50 (List.replicate 176 (.int .u8 0)) := by unfold ZeroIs; kernel_rfl
theorem size50 : SizeIs Try.prog 50 176 := by unfold SizeIs; kernel_rfl
theorem zero65 : ZeroIs Try.prog 65 (List.replicate 16 (.int .u8 0)) := by unfold ZeroIs; kernel_rfl
theorem size65 : SizeIs Try.prog 65 16 := by unfold SizeIs; kernel_rfl
theorem zero49 : ZeroIs Try.prog 49 (List.replicate 176 (.int .u8 0)) := by unfold ZeroIs; kernel_rfl
theorem size49 : SizeIs Try.prog 49 176 := by unfold SizeIs; kernel_rfl
theorem refDouble_fn (a : Nat) (ha : a < 256) : Fn Try.prog 47 [.v (.int .u8 ((a : Nat) : Int))] (.v (.int .u8 ((gm 2 a : Nat) : Int))) := by
  refine Fn.of Try.func47 rfl (by kernel_rfl) Try.ntmps47 (by simp) (fun w => [(0, .v (.int .u8 ((a : Nat) : Int)))]) (fun w => (Start.v rfl Start.nil)) fun w₀ => ?_
  refine A.regs (by kernel_rfl) (by kernel_rfl) (.inl rfl) ?_
  refine RunTK.last ?_
  refine RunK.step rfl rfl (ok_assign rfl) ?_
  refine RunK.nil ?_
  refine A.sub (Sub.cons (t := 0) rfl Sub.nil) ?_
  refine A.seq ?_
  refine A.regs (by kernel_rfl) (by kernel_rfl) (.inl rfl) ?_
  refine RunTK.last ?_
  refine RunK.step rfl rfl (ok_move rfl) ?_
  refine RunK.step rfl rfl (ok_bin rfl rfl rfl) ?_
  refine RunK.nil ?_
  refine A.sub (Sub.cons (t := 0) rfl (Sub.cons (t := 4) rfl Sub.nil)) ?_
  refine A.cond rfl (fun hc4 => ?_) (fun hc4 => ?_)
  · have h : 127 < a := by simp at hc4; omega
    refine A.regs (by kernel_rfl) (by kernel_rfl) (.inl rfl) ?_
    refine RunTK.last ?_
    refine RunK.step rfl rfl (ok_move rfl) ?_
    refine RunK.step rfl rfl (ok_shl rfl rfl (by decide)) ?_; refine RunK.as (.int .u8 ((2 * a % 256 : Nat) : Int)) (by rw [show (a : Int) * 2 ^ min (Int.toNat 1) IntKind.u8.bits = ((2 * a : Nat) : Int) from by rw [show min (Int.toNat 1) IntKind.u8.bits = 1 from rfl]; omega, wrap_u8N]) ?_
    refine RunK.step rfl rfl (ok_bin rfl rfl rfl) ?_; refine RunK.as (.int .u8 ((gm 2 a : Nat) : Int)) (by rw [show IntKind.u8.bits = 8 from rfl, show (27 : Int) = ((27 : Nat) : Int) from rfl, xor_u8N (Nat.mod_lt _ (by decide)) (by decide), gm2_hi ha h]) ?_
    refine RunK.step rfl rfl (ok_assign rfl) ?_
    refine RunK.nil ?_
    refine A.sub (Sub.cons (t := 2) rfl Sub.nil) ?_
    refine A.ret ?_
    refine End.ret_then ?_
    exact End.ret1 rfl rfl (by first | exact Le.refl _ | exact Le.old _ _)
  · have h : ¬ 127 < a := by simp at hc4; omega
    refine A.skip ?_
    refine End.normal_then (End.code ?_)
    refine A.regs (by kernel_rfl) (by kernel_rfl) (.inl rfl) ?_
    refine RunTK.last ?_
    refine RunK.step rfl rfl (ok_move rfl) ?_
    refine RunK.step rfl rfl (ok_shl rfl rfl (by decide)) ?_; refine RunK.as (.int .u8 ((gm 2 a : Nat) : Int)) (by rw [show (a : Int) * 2 ^ min (Int.toNat 1) IntKind.u8.bits = ((2 * a : Nat) : Int) from by rw [show min (Int.toNat 1) IntKind.u8.bits = 1 from rfl]; omega, wrap_u8N, gm2_lo ha h]) ?_
    refine RunK.step rfl rfl (ok_assign rfl) ?_
    refine RunK.nil ?_
    refine A.sub (Sub.cons (t := 2) rfl Sub.nil) ?_
    refine A.ret ?_
    exact End.ret1 rfl rfl (by first | exact Le.refl _ | exact Le.old _ _)
set_option maxHeartbeats 2000000 in
theorem refExpand_fn (k : Nat → Nat) (hk : By k) : Fn Try.prog 39 [.v (aggV (rowV 16 (k)))] (.v (aggV (rowV 176 (expand k)))) := by
  refine Fn.of Try.func39 rfl (by kernel_rfl) Try.ntmps39 (by simp) (fun w => [(0, .v (aggV (rowV 16 (k))))]) (fun w => (Start.v rfl Start.nil)) fun w₀ => ?_
  refine A.regs (by kernel_rfl) (by kernel_rfl) (.inl rfl) ?_
  refine RunTK.new 0 (by decide) rfl (.inl rfl) ?_
  refine RunK.nil ?_
  refine ⟨_, _, eff_box (n := 78) (d := 1) (k := 1000001) rfl (by decide), fun b1 hb1 => ?_⟩
  have hBb1 := hb1.1
  refine RunTK.new 1 (by decide) rfl (.inl rfl) ?_
  refine RunK.nil ?_
  refine ⟨_, _, eff_alloc (n := 78) (d := 2) (k := 1000002) zero72 (by decide), fun b2 hb2 => ?_⟩
  have hBb2 := hb2.1
  have hlt_b1_b2 : b1 < b2 := hb2.2 1000001 _ _ _ rfl
  refine RunTK.last ?_
  refine RunK.nil ?_
  refine A.sub (Sub.cons (t := 1) rfl (Sub.cons (t := 2) rfl (Sub.cons (t := 1000001) rfl (Sub.cons (t := 1000002) rfl Sub.nil)))) ?_
  refine A.regs (by kernel_rfl) (by kernel_rfl) (.inl rfl) ?_
  refine RunTK.new 0 (by decide) rfl (.inl rfl) ?_
  refine RunK.nil ?_
  refine ⟨_, _, eff_alloc (n := 78) (d := 3) (k := 1000003) zero72 (by decide), fun b3 hb3 => ?_⟩
  have hBb3 := hb3.1
  have hlt_b1_b3 : b1 < b3 := hb3.2 1000001 _ _ _ rfl
  have hlt_b2_b3 : b2 < b3 := hb3.2 1000002 _ _ _ rfl
  refine RunTK.last ?_
  refine RunK.nil ?_
  refine A.sub (Sub.cons (t := 1) rfl (Sub.cons (t := 2) rfl (Sub.cons (t := 3) rfl (Sub.cons (t := 1000001) rfl (Sub.cons (t := 1000002) rfl (Sub.cons (t := 1000003) rfl Sub.nil)))))) ?_
  refine A.regs (by kernel_rfl) (by kernel_rfl) (.inl rfl) ?_
  refine RunTK.new 1 (by decide) rfl (.inl rfl) ?_
  refine RunK.step rfl rfl (ok_call refTable_fn Args.nil) ?_
  refine RunK.nil ?_
  refine ⟨_, _, eff_alloc (n := 78) (d := 4) (k := 1000004) zero83 (by decide), fun b4 hb4 => ?_⟩
  have hBb4 := hb4.1
  have hlt_b1_b4 : b1 < b4 := hb4.2 1000001 _ _ _ rfl
  have hlt_b2_b4 : b2 < b4 := hb4.2 1000002 _ _ _ rfl
  have hlt_b3_b4 : b3 < b4 := hb4.2 1000003 _ _ _ rfl
  refine RunTK.eff 2 (by decide) rfl (.inl rfl) ?_
  refine RunK.nil ?_
  refine ⟨_, eff_storeA (n := 78) (s := 1000004) (size83.of (subV_length)) rfl rfl (subV_one) hBb4 rfl (by rw [subV_length, List.length_replicate]) (LeftS.cons (t := 1) rfl (Surv.v _) (LeftS.cons (t := 2) rfl (Surv.v _) (LeftS.cons (t := 3) rfl (Surv.v _) (LeftS.cons (t := 4) rfl (Surv.v _) (LeftS.cons (t := 10) rfl (Surv.v _) (LeftS.cons (t := 1000001) rfl (Surv.blkT (by decide)) (LeftS.cons (t := 1000002) rfl (Surv.blkT (by decide)) (LeftS.cons (t := 1000003) rfl (Surv.blkT (by decide)) LeftS.nil)))))))), ?_⟩
  refine RunTK.last ?_
  refine RunK.nil ?_
  refine A.sub (Sub.cons (t := 1) rfl (Sub.cons (t := 2) rfl (Sub.cons (t := 3) rfl (Sub.cons (t := 4) rfl (Sub.cons (t := 1000001) rfl (Sub.cons (t := 1000002) rfl (Sub.cons (t := 1000003) rfl (Sub.cons (t := 1000004) rfl Sub.nil)))))))) ?_
  refine A.regs (by kernel_rfl) (by kernel_rfl) (.inl rfl) ?_
  refine RunTK.last ?_
  refine RunK.step rfl rfl (ok_assign rfl) ?_
  refine RunK.nil ?_
  refine A.sub (Sub.cons (t := 1) rfl (Sub.cons (t := 2) rfl (Sub.cons (t := 3) rfl (Sub.cons (t := 4) rfl (Sub.cons (t := 5) rfl (Sub.cons (t := 1000001) rfl (Sub.cons (t := 1000002) rfl (Sub.cons (t := 1000003) rfl (Sub.cons (t := 1000004) rfl Sub.nil))))))))) ?_
  refine A.seq ?_
  refine A.regs (by kernel_rfl) (by kernel_rfl) (.inl rfl) ?_
  refine RunTK.last ?_
  refine RunK.step rfl rfl (ok_assign rfl) ?_
  refine RunK.nil ?_
  refine A.sub (Sub.cons (t := 1) rfl (Sub.cons (t := 2) rfl (Sub.cons (t := 3) rfl (Sub.cons (t := 4) rfl (Sub.cons (t := 5) rfl (Sub.cons (t := 6) rfl (Sub.cons (t := 1000001) rfl (Sub.cons (t := 1000002) rfl (Sub.cons (t := 1000003) rfl (Sub.cons (t := 1000004) rfl Sub.nil)))))))))) ?_
  refine A.block ?_
  refine A.loop (ι := Nat) (fun i => i ≤ 44) (fun i => [(1, .v (.pointer (some ⟨b1, 0, none⟩))), (2, .v (.pointer (some ⟨b2, 0, none⟩))), (3, .v (.pointer (some ⟨b3, 0, none⟩))), (4, .v (.pointer (some ⟨b4, 0, none⟩))), (6, .v (.int .i64 ((i : Nat) : Int))), (1000001, blk b1 22 (rowV 16 (k))), (1000002, blk b2 72 (List.replicate 176 (.int .u8 0))), (1000004, blk b4 83 subV), (5, .v (.int .u8 ((gpow 2 ((i - 1) / 4) : Nat) : Int))), (1000003, blk b3 72 (rowV 176 (wst k (4 * i))))]) (fun i => 44 - i) 0 ?_ ?_ ?_
  · exact Nat.zero_le _
  · exact (Sub.cons (t := 1) rfl (Sub.cons (t := 2) rfl (Sub.cons (t := 3) rfl (Sub.cons (t := 4) rfl (Sub.cons (t := 6) rfl (Sub.cons (t := 1000001) rfl (Sub.cons (t := 1000002) rfl (Sub.cons (t := 1000004) rfl (Sub.cons (t := 5) rfl (Sub.eq (t := 1000003) _ rfl (congrArg _ (wst_zero k)) Sub.nil))))))))))
  intro i hi
  refine A.seq ?_
  refine A.regs (by kernel_rfl) (by kernel_rfl) (.inl rfl) ?_
  refine RunTK.last ?_
  refine RunK.step rfl rfl (ok_move rfl) ?_
  refine RunK.step rfl rfl (ok_bin rfl rfl rfl) ?_
  refine RunK.nil ?_
  refine A.sub (Sub.cons (t := 1) rfl (Sub.cons (t := 2) rfl (Sub.cons (t := 3) rfl (Sub.cons (t := 4) rfl (Sub.cons (t := 5) rfl (Sub.cons (t := 6) rfl (Sub.cons (t := 12) rfl (Sub.cons (t := 1000001) rfl (Sub.cons (t := 1000002) rfl (Sub.cons (t := 1000003) rfl (Sub.cons (t := 1000004) rfl Sub.nil))))))))))) ?_
  refine A.cond rfl (fun hc12 => ?_) (fun hc12 => ?_)
  · have hi44 : i < 44 := by simp at hc12; omega
    refine A.skip ?_
    refine End.normal_then (End.code ?_)
    refine A.seq ?_
    refine A.block ?_
    refine A.seq ?_
    refine A.regs (by kernel_rfl) (by kernel_rfl) (.inl rfl) ?_
    refine RunTK.last ?_
    refine RunK.step rfl rfl (ok_move rfl) ?_
    refine RunK.step rfl rfl (ok_bin rfl rfl rfl) ?_
    refine RunK.nil ?_
    refine A.sub (Sub.cons (t := 1) rfl (Sub.cons (t := 2) rfl (Sub.cons (t := 3) rfl (Sub.cons (t := 4) rfl (Sub.cons (t := 5) rfl (Sub.cons (t := 6) rfl (Sub.cons (t := 16) rfl (Sub.cons (t := 1000001) rfl (Sub.cons (t := 1000002) rfl (Sub.cons (t := 1000003) rfl (Sub.cons (t := 1000004) rfl Sub.nil))))))))))) ?_
    refine A.cond rfl (fun hc16 => ?_) (fun hc16 => ?_)
    · have h4 : i < 4 := by simp at hc16; omega
      refine A.seq ?_
      refine A.regs (by kernel_rfl) (by kernel_rfl) (.inl rfl) ?_
      refine RunTK.last ?_
      refine RunK.step rfl rfl (ok_assign rfl) ?_
      refine RunK.nil ?_
      refine A.sub (Sub.cons (t := 1) rfl (Sub.cons (t := 2) rfl (Sub.cons (t := 3) rfl (Sub.cons (t := 4) rfl (Sub.cons (t := 5) rfl (Sub.cons (t := 6) rfl (Sub.cons (t := 7) rfl (Sub.cons (t := 1000001) rfl (Sub.cons (t := 1000002) rfl (Sub.cons (t := 1000003) rfl (Sub.cons (t := 1000004) rfl Sub.nil))))))))))) ?_
      refine A.block ?_
      refine A.loop (ι := Nat) (fun q => q ≤ 4) (fun q => [(1, .v (.pointer (some ⟨b1, 0, none⟩))), (2, .v (.pointer (some ⟨b2, 0, none⟩))), (3, .v (.pointer (some ⟨b3, 0, none⟩))), (4, .v (.pointer (some ⟨b4, 0, none⟩))), (6, .v (.int .i64 ((i : Nat) : Int))), (1000001, blk b1 22 (rowV 16 (k))), (1000002, blk b2 72 (List.replicate 176 (.int .u8 0))), (1000004, blk b4 83 subV), (5, .v (.int .u8 ((gpow 2 ((i - 1) / 4) : Nat) : Int))), (7, .v (.int .i64 ((q : Nat) : Int))), (1000003, blk b3 72 (rowV 176 (wst k (4 * i + q))))]) (fun q => 4 - q) 0 ?_ ?_ ?_
      · exact Nat.zero_le _
      · exact (Sub.cons (t := 1) rfl (Sub.cons (t := 2) rfl (Sub.cons (t := 3) rfl (Sub.cons (t := 4) rfl (Sub.cons (t := 6) rfl (Sub.cons (t := 1000001) rfl (Sub.cons (t := 1000002) rfl (Sub.cons (t := 1000004) rfl (Sub.cons (t := 5) rfl (Sub.cons (t := 7) rfl (Sub.cons (t := 1000003) rfl Sub.nil)))))))))))
      intro q hq'
      refine A.seq ?_
      refine A.regs (by kernel_rfl) (by kernel_rfl) (.inl rfl) ?_
      refine RunTK.last ?_
      refine RunK.step rfl rfl (ok_move rfl) ?_
      refine RunK.step rfl rfl (ok_bin rfl rfl rfl) ?_
      refine RunK.nil ?_
      refine A.sub (Sub.cons (t := 1) rfl (Sub.cons (t := 2) rfl (Sub.cons (t := 3) rfl (Sub.cons (t := 4) rfl (Sub.cons (t := 5) rfl (Sub.cons (t := 6) rfl (Sub.cons (t := 7) rfl (Sub.cons (t := 18) rfl (Sub.cons (t := 1000001) rfl (Sub.cons (t := 1000002) rfl (Sub.cons (t := 1000003) rfl (Sub.cons (t := 1000004) rfl Sub.nil)))))))))))) ?_
      refine A.cond rfl (fun hc18 => ?_) (fun hc18 => ?_)
      · have hq : q < 4 := by simp at hc18; omega
        refine A.skip ?_
        refine End.normal_then (End.code ?_)
        refine A.seq ?_
        refine A.block ?_
        refine A.reg (by kernel_rfl) (by kernel_rfl) (.inr (by kernel_rfl)) ?_
        refine RunTK.eff 10 (by decide) rfl (.inr (by kernel_rfl)) ?_
        refine RunK.step rfl rfl (ok_move rfl) ?_
        refine RunK.step rfl rfl (ok_move rfl) ?_
        refine RunK.step rfl rfl (ok_move rfl) ?_
        refine RunK.step rfl rfl (ok_bin rfl rfl rfl) ?_; refine RunK.as (.int .i64 ((4 * i : Nat) : Int)) (by rw [wrap_i64 (by omega) (by omega)]; exact congrArg (Value.int .i64) (by omega)) ?_
        refine RunK.step rfl rfl (ok_move rfl) ?_
        refine RunK.step rfl rfl (ok_bin rfl rfl rfl) ?_; refine RunK.as (.int .i64 ((4 * i + q : Nat) : Int)) (by rw [wrap_i64 (by omega) (by omega)]; exact congrArg (Value.int .i64) (by omega)) ?_
        refine RunK.step rfl rfl (ok_index0 _ Try.underlying22 info5 rfl rfl (rfl) (by omega)) ?_
        refine RunK.step rfl rfl (ok_loadV (s := 1000001) (by decide) Try.underlying5 rfl rfl rfl (rowV_get (by omega))) ?_; refine RunK.as (.int .u8 ((k (4 * i + q) : Nat) : Int)) (v8 (by rfl)) ?_
        refine RunK.step rfl rfl (ok_indexN _ Try.underlying72 size71 rfl rfl (rfl) (by omega)) ?_
        refine RunK.step rfl rfl (ok_indexA _ Try.underlying71 info5 rfl rfl (rfl) (by omega)) ?_
        refine RunK.nil ?_
        refine ⟨_, eff_storeS (n := 78) (s := 1000003) info5 rfl rfl rfl hBb3 rfl (by simp only [rowV_length]; omega) (LeftS.cons (t := 1) rfl (Surv.v _) (LeftS.cons (t := 2) rfl (Surv.v _) (LeftS.cons (t := 3) rfl (Surv.v _) (LeftS.cons (t := 4) rfl (Surv.v _) (LeftS.cons (t := 5) rfl (Surv.v _) (LeftS.cons (t := 6) rfl (Surv.v _) (LeftS.cons (t := 7) rfl (Surv.v _) (LeftS.cons (t := 18) rfl (Surv.v _) (LeftS.cons (t := 21) rfl (Surv.v _) (LeftS.cons (t := 22) rfl (Surv.v _) (LeftS.cons (t := 23) rfl (Surv.v _) (LeftS.cons (t := 24) rfl (Surv.v _) (LeftS.cons (t := 25) rfl (Surv.v _) (LeftS.cons (t := 26) rfl (Surv.v _) (LeftS.cons (t := 27) rfl (Surv.v _) (LeftS.cons (t := 28) rfl (Surv.v _) (LeftS.cons (t := 29) rfl (Surv.v _) (LeftS.cons (t := 30) rfl (Surv.v _) (LeftS.cons (t := 1000001) rfl (Surv.blkT (by decide)) (LeftS.cons (t := 1000002) rfl (Surv.blk (by omega)) (LeftS.cons (t := 1000004) rfl (Surv.blkT (by decide)) LeftS.nil))))))))))))))))))))), ?_⟩
        refine RunTK.last ?_
        refine RunK.nil ?_
        refine End.sub (Sub.cons (t := 1) rfl (Sub.cons (t := 2) rfl (Sub.cons (t := 3) rfl (Sub.cons (t := 4) rfl (Sub.cons (t := 5) rfl (Sub.cons (t := 6) rfl (Sub.cons (t := 7) rfl (Sub.cons (t := 1000001) rfl (Sub.cons (t := 1000002) rfl (Sub.cons (t := 1000003) rfl (Sub.cons (t := 1000004) rfl Sub.nil))))))))))) ?_
        refine End.normal_block ?_
        refine End.normal_then (End.code ?_)
        refine A.reg (by kernel_rfl) (by kernel_rfl) (.inl rfl) ?_
        refine RunTK.last ?_
        refine RunK.step rfl rfl (ok_move rfl) ?_
        refine RunK.step rfl rfl (ok_bin rfl rfl rfl) ?_; refine RunK.as (.int .i64 ((q + 1 : Nat) : Int)) (by rw [wrap_i64 (by omega) (by omega)]; exact congrArg (Value.int .i64) (by omega)) ?_
        refine RunK.step rfl rfl (ok_assign rfl) ?_
        refine RunK.nil ?_
        refine End.sub (Sub.cons (t := 1) rfl (Sub.cons (t := 2) rfl (Sub.cons (t := 3) rfl (Sub.cons (t := 4) rfl (Sub.cons (t := 5) rfl (Sub.cons (t := 6) rfl (Sub.cons (t := 7) rfl (Sub.cons (t := 1000001) rfl (Sub.cons (t := 1000002) rfl (Sub.cons (t := 1000003) rfl (Sub.cons (t := 1000004) rfl Sub.nil))))))))))) ?_
        refine End.normal_then ?_
        refine End.again (q + 1) ?_ ?_ ?_
        · show _ ≤ _; omega
        · show _ - _ < _ - _; omega
        · exact (Sub.cons (t := 1) rfl (Sub.cons (t := 2) rfl (Sub.cons (t := 3) rfl (Sub.cons (t := 4) rfl (Sub.cons (t := 6) rfl (Sub.cons (t := 1000001) rfl (Sub.cons (t := 1000002) rfl (Sub.cons (t := 1000004) rfl (Sub.cons (t := 5) rfl (Sub.cons (t := 7) rfl (Sub.eq (t := 1000003) _ rfl (congrArg _ (wst_set (by omega) (expand_key k (by omega)).symm)) Sub.nil)))))))))))
      · obtain rfl : q = 4 := by simp at hc18; omega
        refine A.exit ?_
        refine End.exit_then ?_
        refine End.exit_then ?_
        refine End.exit_here ?_
        refine End.normal_then (End.code ?_)
        refine A.exit ?_
        refine End.exit_then ?_
        refine End.exit_here ?_
        refine End.normal_then (End.code ?_)
        refine A.reg (by kernel_rfl) (by kernel_rfl) (.inl rfl) ?_
        refine RunTK.last ?_
        refine RunK.step rfl rfl (ok_move rfl) ?_
        refine RunK.step rfl rfl (ok_bin rfl rfl rfl) ?_; refine RunK.as (.int .i64 ((i + 1 : Nat) : Int)) (by rw [wrap_i64 (by omega) (by omega)]; exact congrArg (Value.int .i64) (by omega)) ?_
        refine RunK.step rfl rfl (ok_assign rfl) ?_
        refine RunK.nil ?_
        refine End.sub (Sub.cons (t := 1) rfl (Sub.cons (t := 2) rfl (Sub.cons (t := 3) rfl (Sub.cons (t := 4) rfl (Sub.cons (t := 5) rfl (Sub.cons (t := 6) rfl (Sub.cons (t := 1000001) rfl (Sub.cons (t := 1000002) rfl (Sub.cons (t := 1000003) rfl (Sub.cons (t := 1000004) rfl Sub.nil)))))))))) ?_
        refine End.normal_then ?_
        refine End.again (i + 1) ?_ ?_ ?_
        · show _ ≤ _; omega
        · show _ - _ < _ - _; omega
        · exact (Sub.cons (t := 1) rfl (Sub.cons (t := 2) rfl (Sub.cons (t := 3) rfl (Sub.cons (t := 4) rfl (Sub.cons (t := 6) rfl (Sub.cons (t := 1000001) rfl (Sub.cons (t := 1000002) rfl (Sub.cons (t := 1000004) rfl (Sub.eq (t := 5) _ rfl (congrArg (fun z : Nat => D.v (.int .u8 ((gpow 2 z : Nat) : Int))) (by omega)) (Sub.eq (t := 1000003) _ rfl (by rw [show 4 * (i + 1) = 4 * i + 4 from by omega]) Sub.nil))))))))))
    · have h4 : 4 ≤ i := by simp at hc16; omega
      refine A.skip ?_
      refine End.normal_then (End.code ?_)
      refine A.regs (by kernel_rfl) (by kernel_rfl) (.inl rfl) ?_
      refine RunTK.new 4 (by decide) rfl (.inl rfl) ?_
      refine RunK.step rfl rfl (ok_move rfl) ?_
      refine RunK.step rfl rfl (ok_bin rfl rfl rfl) ?_; refine RunK.as (.int .i64 ((i - 1 : Nat) : Int)) (by rw [wrap_i64 (by omega) (by omega)]; exact congrArg (Value.int .i64) (by omega)) ?_
      refine RunK.step rfl rfl (ok_indexN _ Try.underlying72 size71 rfl rfl (rfl) (by omega)) ?_
      refine RunK.step rfl rfl (ok_loadP (s := 1000003) (by decide) Try.underlying71 rfl size71 rfl rfl (by simp only [rowV_length]; omega) (rowV_part (g := fun q => expand k (4 * (i - 1) + q)) (by omega) (fun q hq => wst_get (by omega) (by omega)))) ?_
      refine RunK.nil ?_
      refine ⟨_, _, eff_alloc (n := 78) (d := 8) (k := 1000008) zero71 (by decide), fun b8 hb8 => ?_⟩
      have hBb8 := hb8.1
      have hlt_b1_b8 : b1 < b8 := hb8.2 1000001 _ _ _ rfl
      have hlt_b2_b8 : b2 < b8 := hb8.2 1000002 _ _ _ rfl
      have hlt_b3_b8 : b3 < b8 := hb8.2 1000003 _ _ _ rfl
      have hlt_b4_b8 : b4 < b8 := hb8.2 1000004 _ _ _ rfl
      refine RunTK.eff 5 (by decide) rfl (.inl rfl) ?_
      refine RunK.nil ?_
      refine ⟨_, eff_storeA (n := 78) (s := 1000008) (size71.of (rowV_length _ _)) rfl rfl (rowV_one _ _) hBb8 rfl (by first | (simp only [rowV_length]; done) | simp only [rowV_length, List.length_replicate]) (LeftS.cons (t := 1) rfl (Surv.v _) (LeftS.cons (t := 2) rfl (Surv.v _) (LeftS.cons (t := 3) rfl (Surv.v _) (LeftS.cons (t := 4) rfl (Surv.v _) (LeftS.cons (t := 5) rfl (Surv.v _) (LeftS.cons (t := 6) rfl (Surv.v _) (LeftS.cons (t := 8) rfl (Surv.v _) (LeftS.cons (t := 16) rfl (Surv.v _) (LeftS.cons (t := 31) rfl (Surv.v _) (LeftS.cons (t := 32) rfl (Surv.v _) (LeftS.cons (t := 33) rfl (Surv.v _) (LeftS.cons (t := 34) rfl (Surv.v _) (LeftS.cons (t := 1000001) rfl (Surv.blkT (by decide)) (LeftS.cons (t := 1000002) rfl (Surv.blkT (by decide)) (LeftS.cons (t := 1000003) rfl (Surv.blkT (by decide)) (LeftS.cons (t := 1000004) rfl (Surv.blkT (by decide)) LeftS.nil)))))))))))))))), ?_⟩
      refine RunTK.last ?_
      refine RunK.nil ?_
      refine A.sub (Sub.cons (t := 1) rfl (Sub.cons (t := 2) rfl (Sub.cons (t := 3) rfl (Sub.cons (t := 4) rfl (Sub.cons (t := 5) rfl (Sub.cons (t := 6) rfl (Sub.cons (t := 8) rfl (Sub.cons (t := 1000001) rfl (Sub.cons (t := 1000002) rfl (Sub.cons (t := 1000003) rfl (Sub.cons (t := 1000004) rfl (Sub.cons (t := 1000008) rfl Sub.nil)))))))))))) ?_
      refine A.seq ?_
      refine A.regs (by kernel_rfl) (by kernel_rfl) (.inl rfl) ?_
      refine RunTK.last ?_
      refine RunK.step rfl rfl (ok_move rfl) ?_
      refine RunK.step rfl rfl (ok_rem rfl rfl (by decide)) ?_; refine RunK.as (.int .i64 ((i % 4 : Nat) : Int)) (by rw [tmod_lit _ (by decide)]; rfl) ?_
      refine RunK.step rfl rfl (ok_bin rfl rfl rfl) ?_
      refine RunK.nil ?_
      refine A.sub (Sub.cons (t := 1) rfl (Sub.cons (t := 2) rfl (Sub.cons (t := 3) rfl (Sub.cons (t := 4) rfl (Sub.cons (t := 5) rfl (Sub.cons (t := 6) rfl (Sub.cons (t := 8) rfl (Sub.cons (t := 37) rfl (Sub.cons (t := 1000001) rfl (Sub.cons (t := 1000002) rfl (Sub.cons (t := 1000003) rfl (Sub.cons (t := 1000004) rfl (Sub.cons (t := 1000008) rfl Sub.nil))))))))))))) ?_
      refine A.cond rfl (fun hc37 => ?_) (fun hc37 => ?_)
      · have h0 : i % 4 = 0 := by simp at hc37; omega
        refine A.regs (by kernel_rfl) (by kernel_rfl) (.inr (by kernel_rfl)) ?_
        refine RunTK.eff 19 (by decide) rfl (.inr (by kernel_rfl)) ?_
        refine RunK.step rfl rfl (ok_index0 (1) Try.underlying71 info5 rfl rfl (rfl) (by decide)) ?_
        refine RunK.step rfl rfl (ok_loadV (s := 1000008) (by decide) Try.underlying5 rfl rfl rfl (rowV_get (by decide))) ?_; refine RunK.as (.int .u8 ((expand k (4 * (i - 1) + 1) : Nat) : Int)) (v8 (by rfl)) ?_
        refine RunK.step rfl rfl (ok_index0 _ Try.underlying83 info5 rfl rfl (rfl) (expand_lt hk _)) ?_
        refine RunK.step rfl rfl (ok_loadV (s := 1000004) (by decide) Try.underlying5 rfl rfl rfl (subV_get (expand_lt hk _))) ?_
        refine RunK.step rfl rfl (ok_move rfl) ?_
        refine RunK.step rfl rfl (ok_bin rfl rfl rfl) ?_; refine RunK.as (.int .u8 ((sub8 (expand k (4 * (i - 1) + 1)) ^^^ gpow 2 ((i - 1) / 4) : Nat) : Int)) (by rw [show IntKind.u8.bits = 8 from rfl, xor_u8N (sub8_lt _) (gpow_lt _)]) ?_
        refine RunK.step rfl rfl (ok_index0 (2) Try.underlying71 info5 rfl rfl (rfl) (by decide)) ?_
        refine RunK.step rfl rfl (ok_loadV (s := 1000008) (by decide) Try.underlying5 rfl rfl rfl (rowV_get (by decide))) ?_; refine RunK.as (.int .u8 ((expand k (4 * (i - 1) + 2) : Nat) : Int)) (v8 (by rfl)) ?_
        refine RunK.step rfl rfl (ok_index0 _ Try.underlying83 info5 rfl rfl (rfl) (expand_lt hk _)) ?_
        refine RunK.step rfl rfl (ok_loadV (s := 1000004) (by decide) Try.underlying5 rfl rfl rfl (subV_get (expand_lt hk _))) ?_
        refine RunK.step rfl rfl (ok_index0 (3) Try.underlying71 info5 rfl rfl (rfl) (by decide)) ?_
        refine RunK.step rfl rfl (ok_loadV (s := 1000008) (by decide) Try.underlying5 rfl rfl rfl (rowV_get (by decide))) ?_; refine RunK.as (.int .u8 ((expand k (4 * (i - 1) + 3) : Nat) : Int)) (v8 (by rfl)) ?_
        refine RunK.step rfl rfl (ok_index0 _ Try.underlying83 info5 rfl rfl (rfl) (expand_lt hk _)) ?_
        refine RunK.step rfl rfl (ok_loadV (s := 1000004) (by decide) Try.underlying5 rfl rfl rfl (subV_get (expand_lt hk _))) ?_
        refine RunK.step rfl rfl (ok_index0 (0) Try.underlying71 info5 rfl rfl (rfl) (by decide)) ?_
        refine RunK.step rfl rfl (ok_loadV (s := 1000008) (by decide) Try.underlying5 rfl rfl rfl (rowV_get (by decide))) ?_; refine RunK.as (.int .u8 ((expand k (4 * (i - 1) + 0) : Nat) : Int)) (v8 (by rfl)) ?_
        refine RunK.step rfl rfl (ok_index0 _ Try.underlying83 info5 rfl rfl (rfl) (expand_lt hk _)) ?_
        refine RunK.step rfl rfl (ok_loadV (s := 1000004) (by decide) Try.underlying5 rfl rfl rfl (subV_get (expand_lt hk _))) ?_
        refine RunK.step rfl rfl (ok_litA [_, _, _, _] Try.underlying71 info5 zero71 rfl ⟨rfl, rfl, rfl, rfl, rfl, rfl, rfl, rfl, trivial⟩ rfl) ?_; refine RunK.as (aggV (rowV 4 (tqS k i))) (congrArg aggV (tq_row k h0 h4)) ?_
        refine RunK.nil ?_
        refine ⟨_, eff_storeA (n := 78) (s := 1000008) (size71.of (rowV_length _ _)) rfl rfl (rowV_one _ _) hBb8 rfl (by first | (simp only [rowV_length]; done) | simp only [rowV_length, List.length_replicate]) (LeftS.cons (t := 1) rfl (Surv.v _) (LeftS.cons (t := 2) rfl (Surv.v _) (LeftS.cons (t := 3) rfl (Surv.v _) (LeftS.cons (t := 4) rfl (Surv.v _) (LeftS.cons (t := 5) rfl (Surv.v _) (LeftS.cons (t := 6) rfl (Surv.v _) (LeftS.cons (t := 8) rfl (Surv.v _) (LeftS.cons (t := 37) rfl (Surv.v _) (LeftS.cons (t := 38) rfl (Surv.v _) (LeftS.cons (t := 39) rfl (Surv.v _) (LeftS.cons (t := 40) rfl (Surv.v _) (LeftS.cons (t := 41) rfl (Surv.v _) (LeftS.cons (t := 42) rfl (Surv.v _) (LeftS.cons (t := 43) rfl (Surv.v _) (LeftS.cons (t := 44) rfl (Surv.v _) (LeftS.cons (t := 45) rfl (Surv.v _) (LeftS.cons (t := 46) rfl (Surv.v _) (LeftS.cons (t := 47) rfl (Surv.v _) (LeftS.cons (t := 48) rfl (Surv.v _) (LeftS.cons (t := 49) rfl (Surv.v _) (LeftS.cons (t := 50) rfl (Surv.v _) (LeftS.cons (t := 51) rfl (Surv.v _) (LeftS.cons (t := 52) rfl (Surv.v _) (LeftS.cons (t := 53) rfl (Surv.v _) (LeftS.cons (t := 54) rfl (Surv.v _) (LeftS.cons (t := 55) rfl (Surv.v _) (LeftS.cons (t := 56) rfl (Surv.v _) (LeftS.cons (t := 1000001) rfl (Surv.blkT (by decide)) (LeftS.cons (t := 1000002) rfl (Surv.blkT (by decide)) (LeftS.cons (t := 1000003) rfl (Surv.blkT (by decide)) (LeftS.cons (t := 1000004) rfl (Surv.blkT (by decide)) LeftS.nil))))))))))))))))))))))))))))))), ?_⟩
        refine RunTK.last ?_
        refine RunK.nil ?_
        refine A.sub (Sub.cons (t := 1) rfl (Sub.cons (t := 2) rfl (Sub.cons (t := 3) rfl (Sub.cons (t := 4) rfl (Sub.cons (t := 5) rfl (Sub.cons (t := 6) rfl (Sub.cons (t := 8) rfl (Sub.cons (t := 1000001) rfl (Sub.cons (t := 1000002) rfl (Sub.cons (t := 1000003) rfl (Sub.cons (t := 1000004) rfl (Sub.cons (t := 1000008) rfl Sub.nil)))))))))))) ?_
        refine A.reg (by kernel_rfl) (by kernel_rfl) (.inl rfl) ?_
        refine RunTK.last ?_
        refine RunK.step rfl rfl (ok_move rfl) ?_
        refine RunK.step rfl rfl (ok_call (refMul_fn (gpow 2 ((i - 1) / 4)) 2 (gpow_lt _) (by decide)) (Args.cons rfl (Le.refl _) (Args.cons rfl (Le.refl _) Args.nil))) ?_; refine RunK.as (.int .u8 ((gpow 2 (i / 4) : Nat) : Int)) (v8 (by rw [show i / 4 = (i - 1) / 4 + 1 from by omega]; rfl)) ?_
        refine RunK.step rfl rfl (ok_assign rfl) ?_
        refine RunK.nil ?_
        refine End.sub (Sub.cons (t := 1) rfl (Sub.cons (t := 2) rfl (Sub.cons (t := 3) rfl (Sub.cons (t := 4) rfl (Sub.cons (t := 5) rfl (Sub.cons (t := 6) rfl (Sub.cons (t := 8) rfl (Sub.cons (t := 1000001) rfl (Sub.cons (t := 1000002) rfl (Sub.cons (t := 1000003) rfl (Sub.cons (t := 1000004) rfl (Sub.cons (t := 1000008) rfl Sub.nil)))))))))))) ?_
        refine End.normal_then (End.code ?_)
        refine A.regs (by kernel_rfl) (by kernel_rfl) (.inl rfl) ?_
        refine RunTK.last ?_
        refine RunK.step rfl rfl (ok_assign rfl) ?_
        refine RunK.nil ?_
        refine A.sub (Sub.cons (t := 1) rfl (Sub.cons (t := 2) rfl (Sub.cons (t := 3) rfl (Sub.cons (t := 4) rfl (Sub.cons (t := 5) rfl (Sub.cons (t := 6) rfl (Sub.cons (t := 8) rfl (Sub.cons (t := 9) rfl (Sub.cons (t := 1000001) rfl (Sub.cons (t := 1000002) rfl (Sub.cons (t := 1000003) rfl (Sub.cons (t := 1000004) rfl (Sub.cons (t := 1000008) rfl Sub.nil))))))))))))) ?_
        refine A.block ?_
        refine A.loop (ι := Nat) (fun q => q ≤ 4) (fun q => [(1, .v (.pointer (some ⟨b1, 0, none⟩))), (2, .v (.pointer (some ⟨b2, 0, none⟩))), (3, .v (.pointer (some ⟨b3, 0, none⟩))), (4, .v (.pointer (some ⟨b4, 0, none⟩))), (6, .v (.int .i64 ((i : Nat) : Int))), (1000001, blk b1 22 (rowV 16 (k))), (1000002, blk b2 72 (List.replicate 176 (.int .u8 0))), (1000004, blk b4 83 subV), (5, .v (.int .u8 ((gpow 2 (i / 4) : Nat) : Int))), (9, .v (.int .i64 ((q : Nat) : Int))), (8, .v (.pointer (some ⟨b8, 0, none⟩))), (1000008, blk b8 71 (rowV 4 (tqS k i))), (1000003, blk b3 72 (rowV 176 (wst k (4 * i + q))))]) (fun q => 4 - q) 0 ?_ ?_ ?_
        · exact Nat.zero_le _
        · exact (Sub.cons (t := 1) rfl (Sub.cons (t := 2) rfl (Sub.cons (t := 3) rfl (Sub.cons (t := 4) rfl (Sub.cons (t := 6) rfl (Sub.cons (t := 1000001) rfl (Sub.cons (t := 1000002) rfl (Sub.cons (t := 1000004) rfl (Sub.eq (t := 5) _ rfl (congrArg (fun z : Nat => D.v (.int .u8 ((gpow 2 z : Nat) : Int))) (by omega)) (Sub.cons (t := 9) rfl (Sub.cons (t := 8) rfl (Sub.eq (t := 1000008) _ rfl (by first | rfl | exact congrArg _ (tq_skip k h0)) (Sub.cons (t := 1000003) rfl Sub.nil)))))))))))))
        intro q hq'
        refine A.seq ?_
        refine A.regs (by kernel_rfl) (by kernel_rfl) (.inl rfl) ?_
        refine RunTK.last ?_
        refine RunK.step rfl rfl (ok_move rfl) ?_
        refine RunK.step rfl rfl (ok_bin rfl rfl rfl) ?_
        refine RunK.nil ?_
        refine A.sub (Sub.cons (t := 1) rfl (Sub.cons (t := 2) rfl (Sub.cons (t := 3) rfl (Sub.cons (t := 4) rfl (Sub.cons (t := 5) rfl (Sub.cons (t := 6) rfl (Sub.cons (t := 8) rfl (Sub.cons (t := 9) rfl (Sub.cons (t := 60) rfl (Sub.cons (t := 1000001) rfl (Sub.cons (t := 1000002) rfl (Sub.cons (t := 1000003) rfl (Sub.cons (t := 1000004) rfl (Sub.cons (t := 1000008) rfl Sub.nil)))))))))))))) ?_
        refine A.cond rfl (fun hc60 => ?_) (fun hc60 => ?_)
        · have hq : q < 4 := by simp at hc60; omega
          refine A.skip ?_
          refine End.normal_then (End.code ?_)
          refine A.seq ?_
          refine A.block ?_
          refine A.reg (by kernel_rfl) (by kernel_rfl) (.inr (by kernel_rfl)) ?_
          refine RunTK.eff 14 (by decide) rfl (.inr (by kernel_rfl)) ?_
          refine RunK.step rfl rfl (ok_move rfl) ?_
          refine RunK.step rfl rfl (ok_move rfl) ?_
          refine RunK.step rfl rfl (ok_move rfl) ?_
          refine RunK.step rfl rfl (ok_bin rfl rfl rfl) ?_; refine RunK.as (.int .i64 ((i - 4 : Nat) : Int)) (by rw [wrap_i64 (by omega) (by omega)]; exact congrArg (Value.int .i64) (by omega)) ?_
          refine RunK.step rfl rfl (ok_move rfl) ?_
          refine RunK.step rfl rfl (ok_indexN _ Try.underlying72 size71 rfl rfl (rfl) (by omega)) ?_
          refine RunK.step rfl rfl (ok_indexA _ Try.underlying71 info5 rfl rfl (rfl) (by omega)) ?_
          refine RunK.step rfl rfl (ok_loadV (s := 1000003) (by decide) Try.underlying5 rfl rfl rfl (rowV_get (by omega))) ?_; refine RunK.as (.int .u8 ((expand k (4 * (i - 4) + q) : Nat) : Int)) (v8 (wst_get (by omega) (by omega))) ?_
          refine RunK.step rfl rfl (ok_move rfl) ?_
          refine RunK.step rfl rfl (ok_index0 _ Try.underlying71 info5 rfl rfl (rfl) (by omega)) ?_
          refine RunK.step rfl rfl (ok_loadV (s := 1000008) (by decide) Try.underlying5 rfl rfl rfl (rowV_get (by omega))) ?_; refine RunK.as (.int .u8 ((tqS k i q : Nat) : Int)) (v8 (by rfl)) ?_
          refine RunK.step rfl rfl (ok_bin rfl rfl rfl) ?_; refine RunK.as (.int .u8 ((expand k (4 * i + q) : Nat) : Int)) (by rw [show IntKind.u8.bits = 8 from rfl, xor_u8N (expand_lt hk _) (tqS_lt hk i q), expand_step k h4 hq]) ?_
          refine RunK.step rfl rfl (ok_indexN _ Try.underlying72 size71 rfl rfl (rfl) (by omega)) ?_
          refine RunK.step rfl rfl (ok_indexA _ Try.underlying71 info5 rfl rfl (rfl) (by omega)) ?_
          refine RunK.nil ?_
          refine ⟨_, eff_storeS (n := 78) (s := 1000003) info5 rfl rfl rfl hBb3 rfl (by simp only [rowV_length]; omega) (LeftS.cons (t := 1) rfl (Surv.v _) (LeftS.cons (t := 2) rfl (Surv.v _) (LeftS.cons (t := 3) rfl (Surv.v _) (LeftS.cons (t := 4) rfl (Surv.v _) (LeftS.cons (t := 5) rfl (Surv.v _) (LeftS.cons (t := 6) rfl (Surv.v _) (LeftS.cons (t := 8) rfl (Surv.v _) (LeftS.cons (t := 9) rfl (Surv.v _) (LeftS.cons (t := 60) rfl (Surv.v _) (LeftS.cons (t := 63) rfl (Surv.v _) (LeftS.cons (t := 64) rfl (Surv.v _) (LeftS.cons (t := 65) rfl (Surv.v _) (LeftS.cons (t := 66) rfl (Surv.v _) (LeftS.cons (t := 67) rfl (Surv.v _) (LeftS.cons (t := 68) rfl (Surv.v _) (LeftS.cons (t := 69) rfl (Surv.v _) (LeftS.cons (t := 70) rfl (Surv.v _) (LeftS.cons (t := 71) rfl (Surv.v _) (LeftS.cons (t := 72) rfl (Surv.v _) (LeftS.cons (t := 73) rfl (Surv.v _) (LeftS.cons (t := 74) rfl (Surv.v _) (LeftS.cons (t := 75) rfl (Surv.v _) (LeftS.cons (t := 76) rfl (Surv.v _) (LeftS.cons (t := 1000001) rfl (Surv.blkT (by decide)) (LeftS.cons (t := 1000002) rfl (Surv.blk (by omega)) (LeftS.cons (t := 1000004) rfl (Surv.blkT (by decide)) (LeftS.cons (t := 1000008) rfl (Surv.blkT (by decide)) LeftS.nil))))))))))))))))))))))))))), ?_⟩
          refine RunTK.last ?_
          refine RunK.nil ?_
          refine End.sub (Sub.cons (t := 1) rfl (Sub.cons (t := 2) rfl (Sub.cons (t := 3) rfl (Sub.cons (t := 4) rfl (Sub.cons (t := 5) rfl (Sub.cons (t := 6) rfl (Sub.cons (t := 8) rfl (Sub.cons (t := 9) rfl (Sub.cons (t := 1000001) rfl (Sub.cons (t := 1000002) rfl (Sub.cons (t := 1000003) rfl (Sub.cons (t := 1000004) rfl (Sub.cons (t := 1000008) rfl Sub.nil))))))))))))) ?_
          refine End.normal_block ?_
          refine End.normal_then (End.code ?_)
          refine A.reg (by kernel_rfl) (by kernel_rfl) (.inl rfl) ?_
          refine RunTK.last ?_
          refine RunK.step rfl rfl (ok_move rfl) ?_
          refine RunK.step rfl rfl (ok_bin rfl rfl rfl) ?_; refine RunK.as (.int .i64 ((q + 1 : Nat) : Int)) (by rw [wrap_i64 (by omega) (by omega)]; exact congrArg (Value.int .i64) (by omega)) ?_
          refine RunK.step rfl rfl (ok_assign rfl) ?_
          refine RunK.nil ?_
          refine End.sub (Sub.cons (t := 1) rfl (Sub.cons (t := 2) rfl (Sub.cons (t := 3) rfl (Sub.cons (t := 4) rfl (Sub.cons (t := 5) rfl (Sub.cons (t := 6) rfl (Sub.cons (t := 8) rfl (Sub.cons (t := 9) rfl (Sub.cons (t := 1000001) rfl (Sub.cons (t := 1000002) rfl (Sub.cons (t := 1000003) rfl (Sub.cons (t := 1000004) rfl (Sub.cons (t := 1000008) rfl Sub.nil))))))))))))) ?_
          refine End.normal_then ?_
          refine End.again (q + 1) ?_ ?_ ?_
          · show _ ≤ _; omega
          · show _ - _ < _ - _; omega
          · exact (Sub.cons (t := 1) rfl (Sub.cons (t := 2) rfl (Sub.cons (t := 3) rfl (Sub.cons (t := 4) rfl (Sub.cons (t := 6) rfl (Sub.cons (t := 1000001) rfl (Sub.cons (t := 1000002) rfl (Sub.cons (t := 1000004) rfl (Sub.cons (t := 5) rfl (Sub.cons (t := 9) rfl (Sub.cons (t := 8) rfl (Sub.cons (t := 1000008) rfl (Sub.eq (t := 1000003) _ rfl (congrArg _ (wst_set (by omega) rfl)) Sub.nil)))))))))))))
        · obtain rfl : q = 4 := by simp at hc60; omega
          refine A.exit ?_
          refine End.exit_then ?_
          refine End.exit_then ?_
          refine End.exit_here ?_
          refine End.normal_block ?_
          refine End.normal_then (End.code ?_)
          refine A.reg (by kernel_rfl) (by kernel_rfl) (.inl rfl) ?_
          refine RunTK.last ?_
          refine RunK.step rfl rfl (ok_move rfl) ?_
          refine RunK.step rfl rfl (ok_bin rfl rfl rfl) ?_; refine RunK.as (.int .i64 ((i + 1 : Nat) : Int)) (by rw [wrap_i64 (by omega) (by omega)]; exact congrArg (Value.int .i64) (by omega)) ?_
          refine RunK.step rfl rfl (ok_assign rfl) ?_
          refine RunK.nil ?_
          refine End.sub (Sub.cons (t := 1) rfl (Sub.cons (t := 2) rfl (Sub.cons (t := 3) rfl (Sub.cons (t := 4) rfl (Sub.cons (t := 5) rfl (Sub.cons (t := 6) rfl (Sub.cons (t := 1000001) rfl (Sub.cons (t := 1000002) rfl (Sub.cons (t := 1000003) rfl (Sub.cons (t := 1000004) rfl (Sub.cons (t := 1000008) rfl Sub.nil))))))))))) ?_
          refine End.normal_then ?_
          refine End.again (i + 1) ?_ ?_ ?_
          · show _ ≤ _; omega
          · show _ - _ < _ - _; omega
          · exact (Sub.cons (t := 1) rfl (Sub.cons (t := 2) rfl (Sub.cons (t := 3) rfl (Sub.cons (t := 4) rfl (Sub.cons (t := 6) rfl (Sub.cons (t := 1000001) rfl (Sub.cons (t := 1000002) rfl (Sub.cons (t := 1000004) rfl (Sub.eq (t := 5) _ rfl (congrArg (fun z : Nat => D.v (.int .u8 ((gpow 2 z : Nat) : Int))) (by omega)) (Sub.eq (t := 1000003) _ rfl (by rw [show 4 * (i + 1) = 4 * i + 4 from by omega]) Sub.nil))))))))))
      · have h0 : ¬ i % 4 = 0 := by simp at hc37; omega
        refine A.skip ?_
        refine End.normal_then (End.code ?_)
        refine A.regs (by kernel_rfl) (by kernel_rfl) (.inl rfl) ?_
        refine RunTK.last ?_
        refine RunK.step rfl rfl (ok_assign rfl) ?_
        refine RunK.nil ?_
        refine A.sub (Sub.cons (t := 1) rfl (Sub.cons (t := 2) rfl (Sub.cons (t := 3) rfl (Sub.cons (t := 4) rfl (Sub.cons (t := 5) rfl (Sub.cons (t := 6) rfl (Sub.cons (t := 8) rfl (Sub.cons (t := 9) rfl (Sub.cons (t := 1000001) rfl (Sub.cons (t := 1000002) rfl (Sub.cons (t := 1000003) rfl (Sub.cons (t := 1000004) rfl (Sub.cons (t := 1000008) rfl Sub.nil))))))))))))) ?_
        refine A.block ?_
        refine A.loop (ι := Nat) (fun q => q ≤ 4) (fun q => [(1, .v (.pointer (some ⟨b1, 0, none⟩))), (2, .v (.pointer (some ⟨b2, 0, none⟩))), (3, .v (.pointer (some ⟨b3, 0, none⟩))), (4, .v (.pointer (some ⟨b4, 0, none⟩))), (6, .v (.int .i64 ((i : Nat) : Int))), (1000001, blk b1 22 (rowV 16 (k))), (1000002, blk b2 72 (List.replicate 176 (.int .u8 0))), (1000004, blk b4 83 subV), (5, .v (.int .u8 ((gpow 2 (i / 4) : Nat) : Int))), (9, .v (.int .i64 ((q : Nat) : Int))), (8, .v (.pointer (some ⟨b8, 0, none⟩))), (1000008, blk b8 71 (rowV 4 (tqS k i))), (1000003, blk b3 72 (rowV 176 (wst k (4 * i + q))))]) (fun q => 4 - q) 0 ?_ ?_ ?_
        · exact Nat.zero_le _
        · exact (Sub.cons (t := 1) rfl (Sub.cons (t := 2) rfl (Sub.cons (t := 3) rfl (Sub.cons (t := 4) rfl (Sub.cons (t := 6) rfl (Sub.cons (t := 1000001) rfl (Sub.cons (t := 1000002) rfl (Sub.cons (t := 1000004) rfl (Sub.eq (t := 5) _ rfl (congrArg (fun z : Nat => D.v (.int .u8 ((gpow 2 z : Nat) : Int))) (by omega)) (Sub.cons (t := 9) rfl (Sub.cons (t := 8) rfl (Sub.eq (t := 1000008) _ rfl (by first | rfl | exact congrArg _ (tq_skip k h0)) (Sub.cons (t := 1000003) rfl Sub.nil)))))))))))))
        intro q hq'
        refine A.seq ?_
        refine A.regs (by kernel_rfl) (by kernel_rfl) (.inl rfl) ?_
        refine RunTK.last ?_
        refine RunK.step rfl rfl (ok_move rfl) ?_
        refine RunK.step rfl rfl (ok_bin rfl rfl rfl) ?_
        refine RunK.nil ?_
        refine A.sub (Sub.cons (t := 1) rfl (Sub.cons (t := 2) rfl (Sub.cons (t := 3) rfl (Sub.cons (t := 4) rfl (Sub.cons (t := 5) rfl (Sub.cons (t := 6) rfl (Sub.cons (t := 8) rfl (Sub.cons (t := 9) rfl (Sub.cons (t := 60) rfl (Sub.cons (t := 1000001) rfl (Sub.cons (t := 1000002) rfl (Sub.cons (t := 1000003) rfl (Sub.cons (t := 1000004) rfl (Sub.cons (t := 1000008) rfl Sub.nil)))))))))))))) ?_
        refine A.cond rfl (fun hc60 => ?_) (fun hc60 => ?_)
        · have hq : q < 4 := by simp at hc60; omega
          refine A.skip ?_
          refine End.normal_then (End.code ?_)
          refine A.seq ?_
          refine A.block ?_
          refine A.reg (by kernel_rfl) (by kernel_rfl) (.inr (by kernel_rfl)) ?_
          refine RunTK.eff 14 (by decide) rfl (.inr (by kernel_rfl)) ?_
          refine RunK.step rfl rfl (ok_move rfl) ?_
          refine RunK.step rfl rfl (ok_move rfl) ?_
          refine RunK.step rfl rfl (ok_move rfl) ?_
          refine RunK.step rfl rfl (ok_bin rfl rfl rfl) ?_; refine RunK.as (.int .i64 ((i - 4 : Nat) : Int)) (by rw [wrap_i64 (by omega) (by omega)]; exact congrArg (Value.int .i64) (by omega)) ?_
          refine RunK.step rfl rfl (ok_move rfl) ?_
          refine RunK.step rfl rfl (ok_indexN _ Try.underlying72 size71 rfl rfl (rfl) (by omega)) ?_
          refine RunK.step rfl rfl (ok_indexA _ Try.underlying71 info5 rfl rfl (rfl) (by omega)) ?_
          refine RunK.step rfl rfl (ok_loadV (s := 1000003) (by decide) Try.underlying5 rfl rfl rfl (rowV_get (by omega))) ?_; refine RunK.as (.int .u8 ((expand k (4 * (i - 4) + q) : Nat) : Int)) (v8 (wst_get (by omega) (by omega))) ?_
          refine RunK.step rfl rfl (ok_move rfl) ?_
          refine RunK.step rfl rfl (ok_index0 _ Try.underlying71 info5 rfl rfl (rfl) (by omega)) ?_
          refine RunK.step rfl rfl (ok_loadV (s := 1000008) (by decide) Try.underlying5 rfl rfl rfl (rowV_get (by omega))) ?_; refine RunK.as (.int .u8 ((tqS k i q : Nat) : Int)) (v8 (by rfl)) ?_
          refine RunK.step rfl rfl (ok_bin rfl rfl rfl) ?_; refine RunK.as (.int .u8 ((expand k (4 * i + q) : Nat) : Int)) (by rw [show IntKind.u8.bits = 8 from rfl, xor_u8N (expand_lt hk _) (tqS_lt hk i q), expand_step k h4 hq]) ?_
          refine RunK.step rfl rfl (ok_indexN _ Try.underlying72 size71 rfl rfl (rfl) (by omega)) ?_
          refine RunK.step rfl rfl (ok_indexA _ Try.underlying71 info5 rfl rfl (rfl) (by omega)) ?_
          refine RunK.nil ?_
          refine ⟨_, eff_storeS (n := 78) (s := 1000003) info5 rfl rfl rfl hBb3 rfl (by simp only [rowV_length]; omega) (LeftS.cons (t := 1) rfl (Surv.v _) (LeftS.cons (t := 2) rfl (Surv.v _) (LeftS.cons (t := 3) rfl (Surv.v _) (LeftS.cons (t := 4) rfl (Surv.v _) (LeftS.cons (t := 5) rfl (Surv.v _) (LeftS.cons (t := 6) rfl (Surv.v _) (LeftS.cons (t := 8) rfl (Surv.v _) (LeftS.cons (t := 9) rfl (Surv.v _) (LeftS.cons (t := 60) rfl (Surv.v _) (LeftS.cons (t := 63) rfl (Surv.v _) (LeftS.cons (t := 64) rfl (Surv.v _) (LeftS.cons (t := 65) rfl (Surv.v _) (LeftS.cons (t := 66) rfl (Surv.v _) (LeftS.cons (t := 67) rfl (Surv.v _) (LeftS.cons (t := 68) rfl (Surv.v _) (LeftS.cons (t := 69) rfl (Surv.v _) (LeftS.cons (t := 70) rfl (Surv.v _) (LeftS.cons (t := 71) rfl (Surv.v _) (LeftS.cons (t := 72) rfl (Surv.v _) (LeftS.cons (t := 73) rfl (Surv.v _) (LeftS.cons (t := 74) rfl (Surv.v _) (LeftS.cons (t := 75) rfl (Surv.v _) (LeftS.cons (t := 76) rfl (Surv.v _) (LeftS.cons (t := 1000001) rfl (Surv.blkT (by decide)) (LeftS.cons (t := 1000002) rfl (Surv.blk (by omega)) (LeftS.cons (t := 1000004) rfl (Surv.blkT (by decide)) (LeftS.cons (t := 1000008) rfl (Surv.blkT (by decide)) LeftS.nil))))))))))))))))))))))))))), ?_⟩
          refine RunTK.last ?_
          refine RunK.nil ?_
          refine End.sub (Sub.cons (t := 1) rfl (Sub.cons (t := 2) rfl (Sub.cons (t := 3) rfl (Sub.cons (t := 4) rfl (Sub.cons (t := 5) rfl (Sub.cons (t := 6) rfl (Sub.cons (t := 8) rfl (Sub.cons (t := 9) rfl (Sub.cons (t := 1000001) rfl (Sub.cons (t := 1000002) rfl (Sub.cons (t := 1000003) rfl (Sub.cons (t := 1000004) rfl (Sub.cons (t := 1000008) rfl Sub.nil))))))))))))) ?_
          refine End.normal_block ?_
          refine End.normal_then (End.code ?_)
          refine A.reg (by kernel_rfl) (by kernel_rfl) (.inl rfl) ?_
          refine RunTK.last ?_
          refine RunK.step rfl rfl (ok_move rfl) ?_
          refine RunK.step rfl rfl (ok_bin rfl rfl rfl) ?_; refine RunK.as (.int .i64 ((q + 1 : Nat) : Int)) (by rw [wrap_i64 (by omega) (by omega)]; exact congrArg (Value.int .i64) (by omega)) ?_
          refine RunK.step rfl rfl (ok_assign rfl) ?_
          refine RunK.nil ?_
          refine End.sub (Sub.cons (t := 1) rfl (Sub.cons (t := 2) rfl (Sub.cons (t := 3) rfl (Sub.cons (t := 4) rfl (Sub.cons (t := 5) rfl (Sub.cons (t := 6) rfl (Sub.cons (t := 8) rfl (Sub.cons (t := 9) rfl (Sub.cons (t := 1000001) rfl (Sub.cons (t := 1000002) rfl (Sub.cons (t := 1000003) rfl (Sub.cons (t := 1000004) rfl (Sub.cons (t := 1000008) rfl Sub.nil))))))))))))) ?_
          refine End.normal_then ?_
          refine End.again (q + 1) ?_ ?_ ?_
          · show _ ≤ _; omega
          · show _ - _ < _ - _; omega
          · exact (Sub.cons (t := 1) rfl (Sub.cons (t := 2) rfl (Sub.cons (t := 3) rfl (Sub.cons (t := 4) rfl (Sub.cons (t := 6) rfl (Sub.cons (t := 1000001) rfl (Sub.cons (t := 1000002) rfl (Sub.cons (t := 1000004) rfl (Sub.cons (t := 5) rfl (Sub.cons (t := 9) rfl (Sub.cons (t := 8) rfl (Sub.cons (t := 1000008) rfl (Sub.eq (t := 1000003) _ rfl (congrArg _ (wst_set (by omega) rfl)) Sub.nil)))))))))))))
        · obtain rfl : q = 4 := by simp at hc60; omega
          refine A.exit ?_
          refine End.exit_then ?_
          refine End.exit_then ?_
          refine End.exit_here ?_
          refine End.normal_block ?_
          refine End.normal_then (End.code ?_)
          refine A.reg (by kernel_rfl) (by kernel_rfl) (.inl rfl) ?_
          refine RunTK.last ?_
          refine RunK.step rfl rfl (ok_move rfl) ?_
          refine RunK.step rfl rfl (ok_bin rfl rfl rfl) ?_; refine RunK.as (.int .i64 ((i + 1 : Nat) : Int)) (by rw [wrap_i64 (by omega) (by omega)]; exact congrArg (Value.int .i64) (by omega)) ?_
          refine RunK.step rfl rfl (ok_assign rfl) ?_
          refine RunK.nil ?_
          refine End.sub (Sub.cons (t := 1) rfl (Sub.cons (t := 2) rfl (Sub.cons (t := 3) rfl (Sub.cons (t := 4) rfl (Sub.cons (t := 5) rfl (Sub.cons (t := 6) rfl (Sub.cons (t := 1000001) rfl (Sub.cons (t := 1000002) rfl (Sub.cons (t := 1000003) rfl (Sub.cons (t := 1000004) rfl (Sub.cons (t := 1000008) rfl Sub.nil))))))))))) ?_
          refine End.normal_then ?_
          refine End.again (i + 1) ?_ ?_ ?_
          · show _ ≤ _; omega
          · show _ - _ < _ - _; omega
          · exact (Sub.cons (t := 1) rfl (Sub.cons (t := 2) rfl (Sub.cons (t := 3) rfl (Sub.cons (t := 4) rfl (Sub.cons (t := 6) rfl (Sub.cons (t := 1000001) rfl (Sub.cons (t := 1000002) rfl (Sub.cons (t := 1000004) rfl (Sub.eq (t := 5) _ rfl (congrArg (fun z : Nat => D.v (.int .u8 ((gpow 2 z : Nat) : Int))) (by omega)) (Sub.eq (t := 1000003) _ rfl (by rw [show 4 * (i + 1) = 4 * i + 4 from by omega]) Sub.nil))))))))))
  · obtain rfl : i = 44 := by simp at hc12; omega
    refine A.exit ?_
    refine End.exit_then ?_
    refine End.exit_then ?_
    refine End.exit_here ?_
    refine End.normal_then (End.code ?_)
    refine A.regs (by kernel_rfl) (by kernel_rfl) (.inl rfl) ?_
    refine RunTK.eff 1 (by decide) rfl (.inl rfl) ?_
    refine RunK.step rfl rfl (ok_loadA (s := 1000003) (by decide) Try.underlying72 rfl (size72.of (rowV_length _ _)) rfl rfl) ?_
    refine RunK.nil ?_
    refine ⟨_, eff_storeA (n := 78) (s := 1000002) (size72.of (rowV_length _ _)) rfl rfl (rowV_one _ _) hBb2 rfl (by first | (simp only [rowV_length]; done) | simp only [rowV_length, List.length_replicate]) (LeftS.cons (t := 1) rfl (Surv.v _) (LeftS.cons (t := 2) rfl (Surv.v _) (LeftS.cons (t := 3) rfl (Surv.v _) (LeftS.cons (t := 4) rfl (Surv.v _) (LeftS.cons (t := 5) rfl (Surv.v _) (LeftS.cons (t := 6) rfl (Surv.v _) (LeftS.cons (t := 12) rfl (Surv.v _) (LeftS.cons (t := 77) rfl (Surv.v _) (LeftS.cons (t := 1000001) rfl (Surv.blkT (by decide)) (LeftS.cons (t := 1000003) rfl (Surv.blk (by omega)) (LeftS.cons (t := 1000004) rfl (Surv.blkT (by decide)) LeftS.nil))))))))))), ?_⟩
    refine RunTK.last ?_
    refine RunK.nil ?_
    refine A.sub (Sub.cons (t := 2) rfl (Sub.cons (t := 1000001) rfl (Sub.cons (t := 1000002) rfl (Sub.cons (t := 1000003) rfl (Sub.cons (t := 1000004) rfl Sub.nil))))) ?_
    refine A.ret ?_
    exact End.cell1 (s := 1000002) rfl Try.underlying72 rfl (size72.of (rowV_length _ _)) rfl rfl (Le.v (congrArg aggV (wst_full k)))
set_option maxHeartbeats 4000000 in
theorem refRounds_fn (s f : Nat → Nat) (hs : ∀ i, s i < 256) (hf : By f) : Fn Try.prog 38 [.v (aggV (rowV 176 (s))), .v (aggV (rowV 16 (f)))] (.v (aggV (rowV 16 (enc s f)))) := by
  refine Fn.of Try.func38 rfl (by kernel_rfl) Try.ntmps38 (by simp) (fun w => [(0, .v (aggV (rowV 176 (s)))), (1, .v (aggV (rowV 16 (f))))]) (fun w => (Start.v rfl (Start.v rfl Start.nil))) fun w₀ => ?_
  refine A.regs (by kernel_rfl) (by kernel_rfl) (.inl rfl) ?_
  refine RunTK.new 0 (by decide) rfl (.inl rfl) ?_
  refine RunK.nil ?_
  refine ⟨_, _, eff_box (n := 182) (d := 2) (k := 1000002) rfl (by decide), fun b2 hb2 => ?_⟩
  have hBb2 := hb2.1
  refine RunTK.new 1 (by decide) rfl (.inl rfl) ?_
  refine RunK.nil ?_
  refine ⟨_, _, eff_box (n := 182) (d := 3) (k := 1000003) rfl (by decide), fun b3 hb3 => ?_⟩
  have hBb3 := hb3.1
  have hlt_b2_b3 : b2 < b3 := hb3.2 1000002 _ _ _ rfl
  refine RunTK.new 2 (by decide) rfl (.inl rfl) ?_
  refine RunK.nil ?_
  refine ⟨_, _, eff_alloc (n := 182) (d := 4) (k := 1000004) zero22 (by decide), fun b4 hb4 => ?_⟩
  have hBb4 := hb4.1
  have hlt_b2_b4 : b2 < b4 := hb4.2 1000002 _ _ _ rfl
  have hlt_b3_b4 : b3 < b4 := hb4.2 1000003 _ _ _ rfl
  refine RunTK.last ?_
  refine RunK.nil ?_
  refine A.sub (Sub.cons (t := 2) rfl (Sub.cons (t := 3) rfl (Sub.cons (t := 4) rfl (Sub.cons (t := 1000002) rfl (Sub.cons (t := 1000003) rfl (Sub.cons (t := 1000004) rfl Sub.nil)))))) ?_
  refine A.regs (by kernel_rfl) (by kernel_rfl) (.inl rfl) ?_
  refine RunTK.new 1 (by decide) rfl (.inl rfl) ?_
  refine RunK.step rfl rfl (ok_call refTable_fn Args.nil) ?_
  refine RunK.nil ?_
  refine ⟨_, _, eff_alloc (n := 182) (d := 5) (k := 1000005) zero83 (by decide), fun b5 hb5 => ?_⟩
  have hBb5 := hb5.1
  have hlt_b2_b5 : b2 < b5 := hb5.2 1000002 _ _ _ rfl
  have hlt_b3_b5 : b3 < b5 := hb5.2 1000003 _ _ _ rfl
  have hlt_b4_b5 : b4 < b5 := hb5.2 1000004 _ _ _ rfl
  refine RunTK.eff 2 (by decide) rfl (.inl rfl) ?_
  refine RunK.nil ?_
  refine ⟨_, eff_storeA (n := 182) (s := 1000005) (size83.of (subV_length)) rfl rfl (subV_one) hBb5 rfl (by rw [subV_length, List.length_replicate]) (LeftS.cons (t := 2) rfl (Surv.v _) (LeftS.cons (t := 3) rfl (Surv.v _) (LeftS.cons (t := 4) rfl (Surv.v _) (LeftS.cons (t := 5) rfl (Surv.v _) (LeftS.cons (t := 20) rfl (Surv.v _) (LeftS.cons (t := 1000002) rfl (Surv.blkT (by decide)) (LeftS.cons (t := 1000003) rfl (Surv.blkT (by decide)) (LeftS.cons (t := 1000004) rfl (Surv.blkT (by decide)) LeftS.nil)))))))), ?_⟩
  refine RunTK.last ?_
  refine RunK.nil ?_
  refine A.sub (Sub.cons (t := 2) rfl (Sub.cons (t := 3) rfl (Sub.cons (t := 4) rfl (Sub.cons (t := 5) rfl (Sub.cons (t := 1000002) rfl (Sub.cons (t := 1000003) rfl (Sub.cons (t := 1000004) rfl (Sub.cons (t := 1000005) rfl Sub.nil)))))))) ?_
  refine A.regs (by kernel_rfl) (by kernel_rfl) (.inl rfl) ?_
  refine RunTK.new 0 (by decide) rfl (.inl rfl) ?_
  refine RunK.nil ?_
  refine ⟨_, _, eff_alloc (n := 182) (d := 6) (k := 1000006) zero85 (by decide), fun b6 hb6 => ?_⟩
  have hBb6 := hb6.1
  have hlt_b2_b6 : b2 < b6 := hb6.2 1000002 _ _ _ rfl
  have hlt_b3_b6 : b3 < b6 := hb6.2 1000003 _ _ _ rfl
  have hlt_b4_b6 : b4 < b6 := hb6.2 1000004 _ _ _ rfl
  have hlt_b5_b6 : b5 < b6 := hb6.2 1000005 _ _ _ rfl
  refine RunTK.last ?_
  refine RunK.nil ?_
  refine A.sub (Sub.cons (t := 2) rfl (Sub.cons (t := 3) rfl (Sub.cons (t := 4) rfl (Sub.cons (t := 5) rfl (Sub.cons (t := 6) rfl (Sub.cons (t := 1000002) rfl (Sub.cons (t := 1000003) rfl (Sub.cons (t := 1000004) rfl (Sub.cons (t := 1000005) rfl (Sub.cons (t := 1000006) rfl Sub.nil)))))))))) ?_
  refine A.seq ?_
  refine A.regs (by kernel_rfl) (by kernel_rfl) (.inl rfl) ?_
  refine RunTK.last ?_
  refine RunK.step rfl rfl (ok_assign rfl) ?_
  refine RunK.nil ?_
  refine A.sub (Sub.cons (t := 2) rfl (Sub.cons (t := 3) rfl (Sub.cons (t := 4) rfl (Sub.cons (t := 5) rfl (Sub.cons (t := 6) rfl (Sub.cons (t := 7) rfl (Sub.cons (t := 1000002) rfl (Sub.cons (t := 1000003) rfl (Sub.cons (t := 1000004) rfl (Sub.cons (t := 1000005) rfl (Sub.cons (t := 1000006) rfl Sub.nil))))))))))) ?_
  refine A.block ?_
  refine A.loop (ι := Nat) (fun i => i ≤ 16) (fun i => [(2, .v (.pointer (some ⟨b2, 0, none⟩))), (4, .v (.pointer (some ⟨b4, 0, none⟩))), (5, .v (.pointer (some ⟨b5, 0, none⟩))), (6, .v (.pointer (some ⟨b6, 0, none⟩))), (1000002, blk b2 72 (rowV 176 (s))), (1000004, blk b4 22 (List.replicate 16 (.int .u8 0))), (1000005, blk b5 83 subV), (3, .v (.pointer (some ⟨b3, 0, none⟩))), (7, .v (.int .i64 ((i : Nat) : Int))), (1000003, blk b3 22 (rowV 16 (f))), (1000006, blk b6 85 (rowV 16 (aesM0 s f i)))]) (fun i => 16 - i) 0 ?_ ?_ ?_
  · exact Nat.zero_le _
  · exact (Sub.cons (t := 2) rfl (Sub.cons (t := 4) rfl (Sub.cons (t := 5) rfl (Sub.cons (t := 6) rfl (Sub.cons (t := 1000002) rfl (Sub.cons (t := 1000004) rfl (Sub.cons (t := 1000005) rfl (Sub.cons (t := 3) rfl (Sub.cons (t := 7) rfl (Sub.cons (t := 1000003) rfl (Sub.eq (t := 1000006) _ rfl (congrArg _ (aesM0_zero s f)) Sub.nil)))))))))))
  intro i hi'
  refine A.seq ?_
  refine A.regs (by kernel_rfl) (by kernel_rfl) (.inl rfl) ?_
  refine RunTK.last ?_
  refine RunK.step rfl rfl (ok_move rfl) ?_
  refine RunK.step rfl rfl (ok_bin rfl rfl rfl) ?_
  refine RunK.nil ?_
  refine A.sub (Sub.cons (t := 2) rfl (Sub.cons (t := 3) rfl (Sub.cons (t := 4) rfl (Sub.cons (t := 5) rfl (Sub.cons (t := 6) rfl (Sub.cons (t := 7) rfl (Sub.cons (t := 22) rfl (Sub.cons (t := 1000002) rfl (Sub.cons (t := 1000003) rfl (Sub.cons (t := 1000004) rfl (Sub.cons (t := 1000005) rfl (Sub.cons (t := 1000006) rfl Sub.nil)))))))))))) ?_
  refine A.cond rfl (fun hc22 => ?_) (fun hc22 => ?_)
  · have hi : i < 16 := by simp at hc22; omega
    refine A.skip ?_
    refine End.normal_then (End.code ?_)
    refine A.seq ?_
    refine A.block ?_
    refine A.reg (by kernel_rfl) (by kernel_rfl) (.inr (by kernel_rfl)) ?_
    refine RunTK.eff 17 (by decide) rfl (.inr (by kernel_rfl)) ?_
    refine RunK.step rfl rfl (ok_move rfl) ?_
    refine RunK.step rfl rfl (ok_rem rfl rfl (by decide)) ?_; refine RunK.as (.int .i64 ((i % 4 : Nat) : Int)) (by rw [tmod_lit _ (by decide)]; rfl) ?_
    refine RunK.step rfl rfl (ok_move rfl) ?_
    refine RunK.step rfl rfl (ok_div rfl rfl (by decide)) ?_; refine RunK.as (.int .i64 ((i / 4 : Nat) : Int)) (by rw [tdiv_lit _ (by decide), show Int.toNat 4 = 4 from rfl, wrapN_i64 (by omega)]) ?_
    refine RunK.step rfl rfl (ok_move rfl) ?_
    refine RunK.step rfl rfl (ok_index0 _ Try.underlying22 info5 rfl rfl (rfl) (by omega)) ?_
    refine RunK.step rfl rfl (ok_loadV (s := 1000003) (by decide) Try.underlying5 rfl rfl rfl (rowV_get (by omega))) ?_; refine RunK.as (.int .u8 ((f i : Nat) : Int)) (v8 (by rfl)) ?_
    refine RunK.step rfl rfl (ok_move rfl) ?_
    refine RunK.step rfl rfl (ok_div rfl rfl (by decide)) ?_; refine RunK.as (.int .i64 ((i / 4 : Nat) : Int)) (by rw [tdiv_lit _ (by decide), show Int.toNat 4 = 4 from rfl, wrapN_i64 (by omega)]) ?_
    refine RunK.step rfl rfl (ok_move rfl) ?_
    refine RunK.step rfl rfl (ok_rem rfl rfl (by decide)) ?_; refine RunK.as (.int .i64 ((i % 4 : Nat) : Int)) (by rw [tmod_lit _ (by decide)]; rfl) ?_
    refine RunK.step rfl rfl (ok_indexN _ Try.underlying72 size71 rfl rfl (rfl) (by omega)) ?_
    refine RunK.step rfl rfl (ok_indexA _ Try.underlying71 info5 rfl rfl (rfl) (by omega)) ?_
    refine RunK.step rfl rfl (ok_loadV (s := 1000002) (by decide) Try.underlying5 rfl rfl rfl (rowV_get (by omega))) ?_; refine RunK.as (.int .u8 ((keyS s 0 i : Nat) : Int)) (v8 (congrArg s (by omega))) ?_
    refine RunK.step rfl rfl (ok_bin rfl rfl rfl) ?_; refine RunK.as (.int .u8 ((addS f (keyS s 0) i : Nat) : Int)) (by rw [show IntKind.u8.bits = 8 from rfl, xor_u8N (hf _) (keyS_by hs _ _), show f i ^^^ keyS s 0 i = addS f (keyS s 0) i from rfl]) ?_
    refine RunK.step rfl rfl (ok_indexN _ Try.underlying85 size71 rfl rfl (rfl) (by omega)) ?_
    refine RunK.step rfl rfl (ok_indexA _ Try.underlying71 info5 rfl rfl (rfl) (by omega)) ?_
    refine RunK.nil ?_
    refine ⟨_, eff_storeS (n := 182) (s := 1000006) info5 rfl rfl rfl hBb6 rfl (by simp only [rowV_length]; omega) (LeftS.cons (t := 2) rfl (Surv.v _) (LeftS.cons (t := 3) rfl (Surv.v _) (LeftS.cons (t := 4) rfl (Surv.v _) (LeftS.cons (t := 5) rfl (Surv.v _) (LeftS.cons (t := 6) rfl (Surv.v _) (LeftS.cons (t := 7) rfl (Surv.v _) (LeftS.cons (t := 22) rfl (Surv.v _) (LeftS.cons (t := 25) rfl (Surv.v _) (LeftS.cons (t := 26) rfl (Surv.v _) (LeftS.cons (t := 27) rfl (Surv.v _) (LeftS.cons (t := 28) rfl (Surv.v _) (LeftS.cons (t := 29) rfl (Surv.v _) (LeftS.cons (t := 30) rfl (Surv.v _) (LeftS.cons (t := 31) rfl (Surv.v _) (LeftS.cons (t := 32) rfl (Surv.v _) (LeftS.cons (t := 33) rfl (Surv.v _) (LeftS.cons (t := 34) rfl (Surv.v _) (LeftS.cons (t := 35) rfl (Surv.v _) (LeftS.cons (t := 36) rfl (Surv.v _) (LeftS.cons (t := 37) rfl (Surv.v _) (LeftS.cons (t := 38) rfl (Surv.v _) (LeftS.cons (t := 39) rfl (Surv.v _) (LeftS.cons (t := 40) rfl (Surv.v _) (LeftS.cons (t := 41) rfl (Surv.v _) (LeftS.cons (t := 1000002) rfl (Surv.blkT (by decide)) (LeftS.cons (t := 1000003) rfl (Surv.blkT (by decide)) (LeftS.cons (t := 1000004) rfl (Surv.blkT (by decide)) (LeftS.cons (t := 1000005) rfl (Surv.blkT (by decide)) LeftS.nil)))))))))))))))))))))))))))), ?_⟩
    refine RunTK.last ?_
    refine RunK.nil ?_
    refine End.sub (Sub.cons (t := 2) rfl (Sub.cons (t := 3) rfl (Sub.cons (t := 4) rfl (Sub.cons (t := 5) rfl (Sub.cons (t := 6) rfl (Sub.cons (t := 7) rfl (Sub.cons (t := 1000002) rfl (Sub.cons (t := 1000003) rfl (Sub.cons (t := 1000004) rfl (Sub.cons (t := 1000005) rfl (Sub.cons (t := 1000006) rfl Sub.nil))))))))))) ?_
    refine End.normal_block ?_
    refine End.normal_then (End.code ?_)
    refine A.reg (by kernel_rfl) (by kernel_rfl) (.inl rfl) ?_
    refine RunTK.last ?_
    refine RunK.step rfl rfl (ok_move rfl) ?_
    refine RunK.step rfl rfl (ok_bin rfl rfl rfl) ?_; refine RunK.as (.int .i64 ((i + 1 : Nat) : Int)) (by rw [wrap_i64 (by omega) (by omega)]; exact congrArg (Value.int .i64) (by omega)) ?_
    refine RunK.step rfl rfl (ok_assign rfl) ?_
    refine RunK.nil ?_
    refine End.sub (Sub.cons (t := 2) rfl (Sub.cons (t := 3) rfl (Sub.cons (t := 4) rfl (Sub.cons (t := 5) rfl (Sub.cons (t := 6) rfl (Sub.cons (t := 7) rfl (Sub.cons (t := 1000002) rfl (Sub.cons (t := 1000003) rfl (Sub.cons (t := 1000004) rfl (Sub.cons (t := 1000005) rfl (Sub.cons (t := 1000006) rfl Sub.nil))))))))))) ?_
    refine End.normal_then ?_
    refine End.again (i + 1) ?_ ?_ ?_
    · show _ ≤ _; omega
    · show _ - _ < _ - _; omega
    · exact (Sub.cons (t := 2) rfl (Sub.cons (t := 4) rfl (Sub.cons (t := 5) rfl (Sub.cons (t := 6) rfl (Sub.cons (t := 1000002) rfl (Sub.cons (t := 1000004) rfl (Sub.cons (t := 1000005) rfl (Sub.cons (t := 3) rfl (Sub.cons (t := 7) rfl (Sub.cons (t := 1000003) rfl (Sub.eq (t := 1000006) _ rfl (congrArg _ (aesM0_set hi (by omega) rfl)) Sub.nil)))))))))))
  · obtain rfl : i = 16 := by simp at hc22; omega
    refine A.exit ?_
    refine End.exit_then ?_
    refine End.exit_then ?_
    refine End.exit_here ?_
    refine End.normal_then (End.code ?_)
    refine A.seq ?_
    refine A.regs (by kernel_rfl) (by kernel_rfl) (.inl rfl) ?_
    refine RunTK.last ?_
    refine RunK.step rfl rfl (ok_assign rfl) ?_
    refine RunK.nil ?_
    refine A.sub (Sub.cons (t := 2) rfl (Sub.cons (t := 4) rfl (Sub.cons (t := 5) rfl (Sub.cons (t := 6) rfl (Sub.cons (t := 8) rfl (Sub.cons (t := 1000002) rfl (Sub.cons (t := 1000003) rfl (Sub.cons (t := 1000004) rfl (Sub.cons (t := 1000005) rfl (Sub.cons (t := 1000006) rfl Sub.nil)))))))))) ?_
    refine A.block ?_
    refine A.loop (ι := Nat) (fun q => q ≤ 10) (fun q => [(2, .v (.pointer (some ⟨b2, 0, none⟩))), (4, .v (.pointer (some ⟨b4, 0, none⟩))), (5, .v (.pointer (some ⟨b5, 0, none⟩))), (6, .v (.pointer (some ⟨b6, 0, none⟩))), (1000002, blk b2 72 (rowV 176 (s))), (1000004, blk b4 22 (List.replicate 16 (.int .u8 0))), (1000005, blk b5 83 subV), (8, .v (.int .i64 ((q + 1 : Nat) : Int))), (1000006, blk b6 85 (rowV 16 (aesT (rst s f q))))]) (fun q => 10 - q) 0 ?_ ?_ ?_
    · exact Nat.zero_le _
    · exact (Sub.cons (t := 2) rfl (Sub.cons (t := 4) rfl (Sub.cons (t := 5) rfl (Sub.cons (t := 6) rfl (Sub.cons (t := 1000002) rfl (Sub.cons (t := 1000004) rfl (Sub.cons (t := 1000005) rfl (Sub.cons (t := 8) rfl (Sub.eq (t := 1000006) _ rfl (congrArg _ (aesM0_full s f)) Sub.nil)))))))))
    intro q hq
    refine A.seq ?_
    refine A.regs (by kernel_rfl) (by kernel_rfl) (.inl rfl) ?_
    refine RunTK.last ?_
    refine RunK.step rfl rfl (ok_move rfl) ?_
    refine RunK.step rfl rfl (ok_bin rfl rfl rfl) ?_
    refine RunK.nil ?_
    refine A.sub (Sub.cons (t := 2) rfl (Sub.cons (t := 4) rfl (Sub.cons (t := 5) rfl (Sub.cons (t := 6) rfl (Sub.cons (t := 8) rfl (Sub.cons (t := 43) rfl (Sub.cons (t := 1000002) rfl (Sub.cons (t := 1000004) rfl (Sub.cons (t := 1000005) rfl (Sub.cons (t := 1000006) rfl Sub.nil)))))))))) ?_
    refine A.cond rfl (fun hc43 => ?_) (fun hc43 => ?_)
    · have hq10 : q < 10 := by simp at hc43; omega
      refine A.skip ?_
      refine End.normal_then (End.code ?_)
      refine A.seq ?_
      refine A.block ?_
      refine A.regs (by kernel_rfl) (by kernel_rfl) (.inl rfl) ?_
      refine RunTK.new 0 (by decide) rfl (.inl rfl) ?_
      refine RunK.nil ?_
      refine ⟨_, _, eff_alloc (n := 182) (d := 9) (k := 1000009) zero85 (by decide), fun b9 hb9 => ?_⟩
      have hBb9 := hb9.1
      have hlt_b2_b9 : b2 < b9 := hb9.2 1000002 _ _ _ rfl
      have hlt_b4_b9 : b4 < b9 := hb9.2 1000004 _ _ _ rfl
      have hlt_b5_b9 : b5 < b9 := hb9.2 1000005 _ _ _ rfl
      have hlt_b6_b9 : b6 < b9 := hb9.2 1000006 _ _ _ rfl
      refine RunTK.last ?_
      refine RunK.nil ?_
      refine A.sub (Sub.cons (t := 2) rfl (Sub.cons (t := 4) rfl (Sub.cons (t := 5) rfl (Sub.cons (t := 6) rfl (Sub.cons (t := 8) rfl (Sub.cons (t := 9) rfl (Sub.cons (t := 1000002) rfl (Sub.cons (t := 1000004) rfl (Sub.cons (t := 1000005) rfl (Sub.cons (t := 1000006) rfl (Sub.cons (t := 1000009) rfl Sub.nil))))))))))) ?_
      refine A.seq ?_
      refine A.regs (by kernel_rfl) (by kernel_rfl) (.inl rfl) ?_
      refine RunTK.last ?_
      refine RunK.step rfl rfl (ok_assign rfl) ?_
      refine RunK.nil ?_
      refine A.sub (Sub.cons (t := 2) rfl (Sub.cons (t := 4) rfl (Sub.cons (t := 5) rfl (Sub.cons (t := 6) rfl (Sub.cons (t := 8) rfl (Sub.cons (t := 9) rfl (Sub.cons (t := 10) rfl (Sub.cons (t := 1000002) rfl (Sub.cons (t := 1000004) rfl (Sub.cons (t := 1000005) rfl (Sub.cons (t := 1000006) rfl (Sub.cons (t := 1000009) rfl Sub.nil)))))))))))) ?_
      refine A.block ?_
      refine A.loop (ι := Nat) (fun r => r ≤ 4) (fun r => [(2, .v (.pointer (some ⟨b2, 0, none⟩))), (4, .v (.pointer (some ⟨b4, 0, none⟩))), (5, .v (.pointer (some ⟨b5, 0, none⟩))), (6, .v (.pointer (some ⟨b6, 0, none⟩))), (1000002, blk b2 72 (rowV 176 (s))), (1000004, blk b4 22 (List.replicate 16 (.int .u8 0))), (1000005, blk b5 83 subV), (8, .v (.int .i64 ((q + 1 : Nat) : Int))), (10, .v (.int .i64 ((r : Nat) : Int))), (1000006, blk b6 85 (rowV 16 (aesT (rst s f q)))), (9, .v (.pointer (some ⟨b9, 0, none⟩))), (1000009, blk b9 85 (rowV 16 (aesN1 (rst s f q) (4 * r))))]) (fun r => 4 - r) 0 ?_ ?_ ?_
      · exact Nat.zero_le _
      · exact (Sub.cons (t := 2) rfl (Sub.cons (t := 4) rfl (Sub.cons (t := 5) rfl (Sub.cons (t := 6) rfl (Sub.cons (t := 1000002) rfl (Sub.cons (t := 1000004) rfl (Sub.cons (t := 1000005) rfl (Sub.cons (t := 8) rfl (Sub.cons (t := 10) rfl (Sub.cons (t := 1000006) rfl (Sub.cons (t := 9) rfl (Sub.eq (t := 1000009) _ rfl (congrArg _ (aesN1_zero _)) Sub.nil))))))))))))
      intro r hr
      refine A.seq ?_
      refine A.regs (by kernel_rfl) (by kernel_rfl) (.inl rfl) ?_
      refine RunTK.last ?_
      refine RunK.step rfl rfl (ok_move rfl) ?_
      refine RunK.step rfl rfl (ok_bin rfl rfl rfl) ?_
      refine RunK.nil ?_
      refine A.sub (Sub.cons (t := 2) rfl (Sub.cons (t := 4) rfl (Sub.cons (t := 5) rfl (Sub.cons (t := 6) rfl (Sub.cons (t := 8) rfl (Sub.cons (t := 9) rfl (Sub.cons (t := 10) rfl (Sub.cons (t := 47) rfl (Sub.cons (t := 1000002) rfl (Sub.cons (t := 1000004) rfl (Sub.cons (t := 1000005) rfl (Sub.cons (t := 1000006) rfl (Sub.cons (t := 1000009) rfl Sub.nil))))))))))))) ?_
      refine A.cond rfl (fun hc47 => ?_) (fun hc47 => ?_)
      · have hr4 : r < 4 := by simp at hc47; omega
        refine A.skip ?_
        refine End.normal_then (End.code ?_)
        refine A.seq ?_
        refine A.block ?_
        refine A.regs (by kernel_rfl) (by kernel_rfl) (.inl rfl) ?_
        refine RunTK.last ?_
        refine RunK.step rfl rfl (ok_assign rfl) ?_
        refine RunK.nil ?_
        refine A.sub (Sub.cons (t := 2) rfl (Sub.cons (t := 4) rfl (Sub.cons (t := 5) rfl (Sub.cons (t := 6) rfl (Sub.cons (t := 8) rfl (Sub.cons (t := 9) rfl (Sub.cons (t := 10) rfl (Sub.cons (t := 11) rfl (Sub.cons (t := 1000002) rfl (Sub.cons (t := 1000004) rfl (Sub.cons (t := 1000005) rfl (Sub.cons (t := 1000006) rfl (Sub.cons (t := 1000009) rfl Sub.nil))))))))))))) ?_
        refine A.block ?_
        refine A.loop (ι := Nat) (fun c => c ≤ 4) (fun c => [(2, .v (.pointer (some ⟨b2, 0, none⟩))), (4, .v (.pointer (some ⟨b4, 0, none⟩))), (5, .v (.pointer (some ⟨b5, 0, none⟩))), (6, .v (.pointer (some ⟨b6, 0, none⟩))), (1000002, blk b2 72 (rowV 176 (s))), (1000004, blk b4 22 (List.replicate 16 (.int .u8 0))), (1000005, blk b5 83 subV), (8, .v (.int .i64 ((q + 1 : Nat) : Int))), (10, .v (.int .i64 ((r : Nat) : Int))), (11, .v (.int .i64 ((c : Nat) : Int))), (1000006, blk b6 85 (rowV 16 (aesT (rst s f q)))), (9, .v (.pointer (some ⟨b9, 0, none⟩))), (1000009, blk b9 85 (rowV 16 (aesN1 (rst s f q) (4 * r + c))))]) (fun c => 4 - c) 0 ?_ ?_ ?_
        · exact Nat.zero_le _
        · exact (Sub.cons (t := 2) rfl (Sub.cons (t := 4) rfl (Sub.cons (t := 5) rfl (Sub.cons (t := 6) rfl (Sub.cons (t := 1000002) rfl (Sub.cons (t := 1000004) rfl (Sub.cons (t := 1000005) rfl (Sub.cons (t := 8) rfl (Sub.cons (t := 10) rfl (Sub.cons (t := 11) rfl (Sub.cons (t := 1000006) rfl (Sub.cons (t := 9) rfl (Sub.cons (t := 1000009) rfl Sub.nil)))))))))))))
        intro c hc
        refine A.seq ?_
        refine A.regs (by kernel_rfl) (by kernel_rfl) (.inl rfl) ?_
        refine RunTK.last ?_
        refine RunK.step rfl rfl (ok_move rfl) ?_
        refine RunK.step rfl rfl (ok_bin rfl rfl rfl) ?_
        refine RunK.nil ?_
        refine A.sub (Sub.cons (t := 2) rfl (Sub.cons (t := 4) rfl (Sub.cons (t := 5) rfl (Sub.cons (t := 6) rfl (Sub.cons (t := 8) rfl (Sub.cons (t := 9) rfl (Sub.cons (t := 10) rfl (Sub.cons (t := 11) rfl (Sub.cons (t := 51) rfl (Sub.cons (t := 1000002) rfl (Sub.cons (t := 1000004) rfl (Sub.cons (t := 1000005) rfl (Sub.cons (t := 1000006) rfl (Sub.cons (t := 1000009) rfl Sub.nil)))))))))))))) ?_
        refine A.cond rfl (fun hc51 => ?_) (fun hc51 => ?_)
        · have hc4 : c < 4 := by simp at hc51; omega
          refine A.skip ?_
          refine End.normal_then (End.code ?_)
          refine A.seq ?_
          refine A.block ?_
          refine A.reg (by kernel_rfl) (by kernel_rfl) (.inr (by kernel_rfl)) ?_
          refine RunTK.eff 14 (by decide) rfl (.inr (by kernel_rfl)) ?_
          refine RunK.step rfl rfl (ok_move rfl) ?_
          refine RunK.step rfl rfl (ok_move rfl) ?_
          refine RunK.step rfl rfl (ok_move rfl) ?_
          refine RunK.step rfl rfl (ok_move rfl) ?_
          refine RunK.step rfl rfl (ok_move rfl) ?_
          refine RunK.step rfl rfl (ok_bin rfl rfl rfl) ?_; refine RunK.as (.int .i64 ((c + r : Nat) : Int)) (by rw [wrap_i64 (by omega) (by omega)]; exact congrArg (Value.int .i64) (by omega)) ?_
          refine RunK.step rfl rfl (ok_rem rfl rfl (by decide)) ?_; refine RunK.as (.int .i64 (((c + r) % 4 : Nat) : Int)) (by rw [tmod_lit _ (by decide)]; rfl) ?_
          refine RunK.step rfl rfl (ok_indexN _ Try.underlying85 size71 rfl rfl (rfl) (by omega)) ?_
          refine RunK.step rfl rfl (ok_indexA _ Try.underlying71 info5 rfl rfl (rfl) (by omega)) ?_
          refine RunK.step rfl rfl (ok_loadV (s := 1000006) (by decide) Try.underlying5 rfl rfl rfl (rowV_get (by omega))) ?_; refine RunK.as (.int .u8 ((rst s f q (4 * ((c + r) % 4) + r) : Nat) : Int)) (v8 (congrArg (rst s f q) (by omega))) ?_
          refine RunK.step rfl rfl (ok_index0 _ Try.underlying83 info5 rfl rfl (rfl) (rst_by hs hf _ _)) ?_
          refine RunK.step rfl rfl (ok_loadV (s := 1000005) (by decide) Try.underlying5 rfl rfl rfl (subV_get (rst_by hs hf _ _))) ?_; refine RunK.as (.int .u8 ((sub8 (rst s f q (4 * ((c + r) % 4) + r)) : Nat) : Int)) (v8 (by rfl)) ?_
          refine RunK.step rfl rfl (ok_indexN _ Try.underlying85 size71 rfl rfl (rfl) (by omega)) ?_
          refine RunK.step rfl rfl (ok_indexA _ Try.underlying71 info5 rfl rfl (rfl) (by omega)) ?_
          refine RunK.nil ?_
          refine ⟨_, eff_storeS (n := 182) (s := 1000009) info5 rfl rfl rfl hBb9 rfl (by first | (simp only [rowV_length]; omega) | (simp only [List.length_set, rowV_length]; omega)) (LeftS.cons (t := 2) rfl (Surv.v _) (LeftS.cons (t := 4) rfl (Surv.v _) (LeftS.cons (t := 5) rfl (Surv.v _) (LeftS.cons (t := 6) rfl (Surv.v _) (LeftS.cons (t := 8) rfl (Surv.v _) (LeftS.cons (t := 9) rfl (Surv.v _) (LeftS.cons (t := 10) rfl (Surv.v _) (LeftS.cons (t := 11) rfl (Surv.v _) (LeftS.cons (t := 51) rfl (Surv.v _) (LeftS.cons (t := 54) rfl (Surv.v _) (LeftS.cons (t := 55) rfl (Surv.v _) (LeftS.cons (t := 56) rfl (Surv.v _) (LeftS.cons (t := 57) rfl (Surv.v _) (LeftS.cons (t := 58) rfl (Surv.v _) (LeftS.cons (t := 59) rfl (Surv.v _) (LeftS.cons (t := 60) rfl (Surv.v _) (LeftS.cons (t := 61) rfl (Surv.v _) (LeftS.cons (t := 62) rfl (Surv.v _) (LeftS.cons (t := 63) rfl (Surv.v _) (LeftS.cons (t := 64) rfl (Surv.v _) (LeftS.cons (t := 65) rfl (Surv.v _) (LeftS.cons (t := 66) rfl (Surv.v _) (LeftS.cons (t := 67) rfl (Surv.v _) (LeftS.cons (t := 1000002) rfl (Surv.blkT (by decide)) (LeftS.cons (t := 1000004) rfl (Surv.blkT (by decide)) (LeftS.cons (t := 1000005) rfl (Surv.blkT (by decide)) (LeftS.cons (t := 1000006) rfl (Surv.blk (by omega)) LeftS.nil))))))))))))))))))))))))))), ?_⟩
          refine RunTK.last ?_
          refine RunK.nil ?_
          refine End.sub (Sub.cons (t := 2) rfl (Sub.cons (t := 4) rfl (Sub.cons (t := 5) rfl (Sub.cons (t := 6) rfl (Sub.cons (t := 8) rfl (Sub.cons (t := 9) rfl (Sub.cons (t := 10) rfl (Sub.cons (t := 11) rfl (Sub.cons (t := 1000002) rfl (Sub.cons (t := 1000004) rfl (Sub.cons (t := 1000005) rfl (Sub.cons (t := 1000006) rfl (Sub.cons (t := 1000009) rfl Sub.nil))))))))))))) ?_
          refine End.normal_block ?_
          refine End.normal_then (End.code ?_)
          refine A.reg (by kernel_rfl) (by kernel_rfl) (.inl rfl) ?_
          refine RunTK.last ?_
          refine RunK.step rfl rfl (ok_move rfl) ?_
          refine RunK.step rfl rfl (ok_bin rfl rfl rfl) ?_; refine RunK.as (.int .i64 ((c + 1 : Nat) : Int)) (by rw [wrap_i64 (by omega) (by omega)]; exact congrArg (Value.int .i64) (by omega)) ?_
          refine RunK.step rfl rfl (ok_assign rfl) ?_
          refine RunK.nil ?_
          refine End.sub (Sub.cons (t := 2) rfl (Sub.cons (t := 4) rfl (Sub.cons (t := 5) rfl (Sub.cons (t := 6) rfl (Sub.cons (t := 8) rfl (Sub.cons (t := 9) rfl (Sub.cons (t := 10) rfl (Sub.cons (t := 11) rfl (Sub.cons (t := 1000002) rfl (Sub.cons (t := 1000004) rfl (Sub.cons (t := 1000005) rfl (Sub.cons (t := 1000006) rfl (Sub.cons (t := 1000009) rfl Sub.nil))))))))))))) ?_
          refine End.normal_then ?_
          refine End.again (c + 1) ?_ ?_ ?_
          · show _ ≤ _; omega
          · show _ - _ < _ - _; omega
          · exact (Sub.cons (t := 2) rfl (Sub.cons (t := 4) rfl (Sub.cons (t := 5) rfl (Sub.cons (t := 6) rfl (Sub.cons (t := 1000002) rfl (Sub.cons (t := 1000004) rfl (Sub.cons (t := 1000005) rfl (Sub.cons (t := 8) rfl (Sub.cons (t := 10) rfl (Sub.cons (t := 11) rfl (Sub.cons (t := 1000006) rfl (Sub.cons (t := 9) rfl (Sub.eq (t := 1000009) _ rfl (congrArg _ (aesN1_set hr4 hc4 (by omega) rfl)) Sub.nil)))))))))))))
        · obtain rfl : c = 4 := by simp at hc51; omega
          refine A.exit ?_
          refine End.exit_then ?_
          refine End.exit_then ?_
          refine End.exit_here ?_
          refine End.normal_block ?_
          refine End.normal_then (End.code ?_)
          refine A.reg (by kernel_rfl) (by kernel_rfl) (.inl rfl) ?_
          refine RunTK.last ?_
          refine RunK.step rfl rfl (ok_move rfl) ?_
          refine RunK.step rfl rfl (ok_bin rfl rfl rfl) ?_; refine RunK.as (.int .i64 ((r + 1 : Nat) : Int)) (by rw [wrap_i64 (by omega) (by omega)]; exact congrArg (Value.int .i64) (by omega)) ?_
          refine RunK.step rfl rfl (ok_assign rfl) ?_
          refine RunK.nil ?_
          refine End.sub (Sub.cons (t := 2) rfl (Sub.cons (t := 4) rfl (Sub.cons (t := 5) rfl (Sub.cons (t := 6) rfl (Sub.cons (t := 8) rfl (Sub.cons (t := 9) rfl (Sub.cons (t := 10) rfl (Sub.cons (t := 1000002) rfl (Sub.cons (t := 1000004) rfl (Sub.cons (t := 1000005) rfl (Sub.cons (t := 1000006) rfl (Sub.cons (t := 1000009) rfl Sub.nil)))))))))))) ?_
          refine End.normal_then ?_
          refine End.again (r + 1) ?_ ?_ ?_
          · show _ ≤ _; omega
          · show _ - _ < _ - _; omega
          · exact (Sub.cons (t := 2) rfl (Sub.cons (t := 4) rfl (Sub.cons (t := 5) rfl (Sub.cons (t := 6) rfl (Sub.cons (t := 1000002) rfl (Sub.cons (t := 1000004) rfl (Sub.cons (t := 1000005) rfl (Sub.cons (t := 8) rfl (Sub.cons (t := 10) rfl (Sub.cons (t := 1000006) rfl (Sub.cons (t := 9) rfl (Sub.eq (t := 1000009) _ rfl (by rw [show 4 * (r + 1) = 4 * r + 4 from by omega]) Sub.nil))))))))))))
      · obtain rfl : r = 4 := by simp at hc47; omega
        refine A.exit ?_
        refine End.exit_then ?_
        refine End.exit_then ?_
        refine End.exit_here ?_
        refine End.normal_then (End.code ?_)
        refine A.regs (by kernel_rfl) (by kernel_rfl) (.inl rfl) ?_
        refine RunTK.last ?_
        refine RunK.step rfl rfl (ok_assign rfl) ?_
        refine RunK.nil ?_
        refine A.sub (Sub.cons (t := 2) rfl (Sub.cons (t := 4) rfl (Sub.cons (t := 5) rfl (Sub.cons (t := 6) rfl (Sub.cons (t := 8) rfl (Sub.cons (t := 9) rfl (Sub.cons (t := 12) rfl (Sub.cons (t := 1000002) rfl (Sub.cons (t := 1000004) rfl (Sub.cons (t := 1000005) rfl (Sub.cons (t := 1000006) rfl (Sub.cons (t := 1000009) rfl Sub.nil)))))))))))) ?_
        refine A.block ?_
        refine A.loop (ι := Nat) (fun c => c ≤ 4) (fun c => [(2, .v (.pointer (some ⟨b2, 0, none⟩))), (4, .v (.pointer (some ⟨b4, 0, none⟩))), (5, .v (.pointer (some ⟨b5, 0, none⟩))), (6, .v (.pointer (some ⟨b6, 0, none⟩))), (1000002, blk b2 72 (rowV 176 (s))), (1000004, blk b4 22 (List.replicate 16 (.int .u8 0))), (1000005, blk b5 83 subV), (8, .v (.int .i64 ((q + 1 : Nat) : Int))), (12, .v (.int .i64 ((c : Nat) : Int))), (1000006, blk b6 85 (rowV 16 (aesM2 (rst s f q) (rst s f (q + 1)) c 0))), (9, .v (.pointer (some ⟨b9, 0, none⟩))), (1000009, blk b9 85 (rowV 16 (aesN2 (rst s f q) q c)))]) (fun c => 4 - c) 0 ?_ ?_ ?_
        · exact Nat.zero_le _
        · exact (Sub.cons (t := 2) rfl (Sub.cons (t := 4) rfl (Sub.cons (t := 5) rfl (Sub.cons (t := 6) rfl (Sub.cons (t := 1000002) rfl (Sub.cons (t := 1000004) rfl (Sub.cons (t := 1000005) rfl (Sub.cons (t := 8) rfl (Sub.cons (t := 12) rfl (Sub.eq (t := 1000006) _ rfl (congrArg _ (aesM2_zero _ _)) (Sub.cons (t := 9) rfl (Sub.eq (t := 1000009) _ rfl (congrArg _ (aesN1_full _ q)) Sub.nil))))))))))))
        intro c hc
        refine A.seq ?_
        refine A.regs (by kernel_rfl) (by kernel_rfl) (.inl rfl) ?_
        refine RunTK.last ?_
        refine RunK.step rfl rfl (ok_move rfl) ?_
        refine RunK.step rfl rfl (ok_bin rfl rfl rfl) ?_
        refine RunK.nil ?_
        refine A.sub (Sub.cons (t := 2) rfl (Sub.cons (t := 4) rfl (Sub.cons (t := 5) rfl (Sub.cons (t := 6) rfl (Sub.cons (t := 8) rfl (Sub.cons (t := 9) rfl (Sub.cons (t := 12) rfl (Sub.cons (t := 69) rfl (Sub.cons (t := 1000002) rfl (Sub.cons (t := 1000004) rfl (Sub.cons (t := 1000005) rfl (Sub.cons (t := 1000006) rfl (Sub.cons (t := 1000009) rfl Sub.nil))))))))))))) ?_
        refine A.cond rfl (fun hc69 => ?_) (fun hc69 => ?_)
        · have hc4 : c < 4 := by simp at hc69; omega
          refine A.skip ?_
          refine End.normal_then (End.code ?_)
          refine A.seq ?_
          refine A.block ?_
          refine A.regs (by kernel_rfl) (by kernel_rfl) (.inr (by kernel_rfl)) ?_
          refine RunTK.last ?_
          refine RunK.step rfl rfl (ok_move rfl) ?_
          refine RunK.step rfl rfl (ok_indexN (0) Try.underlying85 size71 rfl rfl (rfl) (by decide)) ?_
          refine RunK.step rfl rfl (ok_indexA _ Try.underlying71 info5 rfl rfl (rfl) (by omega)) ?_
          refine RunK.step rfl rfl (ok_loadV (s := 1000009) (by decide) Try.underlying5 rfl rfl rfl (rowV_get (by omega))) ?_; refine RunK.as (.int .u8 ((aesG (rst s f q) (4 * c + 0) : Nat) : Int)) (v8 (aesN2_get hc4 (by decide) (by omega))) ?_
          refine RunK.step rfl rfl (ok_move rfl) ?_
          refine RunK.step rfl rfl (ok_indexN (1) Try.underlying85 size71 rfl rfl (rfl) (by decide)) ?_
          refine RunK.step rfl rfl (ok_indexA _ Try.underlying71 info5 rfl rfl (rfl) (by omega)) ?_
          refine RunK.step rfl rfl (ok_loadV (s := 1000009) (by decide) Try.underlying5 rfl rfl rfl (rowV_get (by omega))) ?_; refine RunK.as (.int .u8 ((aesG (rst s f q) (4 * c + 1) : Nat) : Int)) (v8 (aesN2_get hc4 (by decide) (by omega))) ?_
          refine RunK.step rfl rfl (ok_move rfl) ?_
          refine RunK.step rfl rfl (ok_indexN (2) Try.underlying85 size71 rfl rfl (rfl) (by decide)) ?_
          refine RunK.step rfl rfl (ok_indexA _ Try.underlying71 info5 rfl rfl (rfl) (by omega)) ?_
          refine RunK.step rfl rfl (ok_loadV (s := 1000009) (by decide) Try.underlying5 rfl rfl rfl (rowV_get (by omega))) ?_; refine RunK.as (.int .u8 ((aesG (rst s f q) (4 * c + 2) : Nat) : Int)) (v8 (aesN2_get hc4 (by decide) (by omega))) ?_
          refine RunK.step rfl rfl (ok_move rfl) ?_
          refine RunK.step rfl rfl (ok_indexN (3) Try.underlying85 size71 rfl rfl (rfl) (by decide)) ?_
          refine RunK.step rfl rfl (ok_indexA _ Try.underlying71 info5 rfl rfl (rfl) (by omega)) ?_
          refine RunK.step rfl rfl (ok_loadV (s := 1000009) (by decide) Try.underlying5 rfl rfl rfl (rowV_get (by omega))) ?_; refine RunK.as (.int .u8 ((aesG (rst s f q) (4 * c + 3) : Nat) : Int)) (v8 (aesN2_get hc4 (by decide) (by omega))) ?_
          refine RunK.step rfl rfl (ok_assign rfl) ?_
          refine RunK.step rfl rfl (ok_assign rfl) ?_
          refine RunK.step rfl rfl (ok_assign rfl) ?_
          refine RunK.step rfl rfl (ok_assign rfl) ?_
          refine RunK.nil ?_
          refine A.sub (Sub.cons (t := 2) rfl (Sub.cons (t := 4) rfl (Sub.cons (t := 5) rfl (Sub.cons (t := 6) rfl (Sub.cons (t := 8) rfl (Sub.cons (t := 9) rfl (Sub.cons (t := 12) rfl (Sub.cons (t := 13) rfl (Sub.cons (t := 14) rfl (Sub.cons (t := 15) rfl (Sub.cons (t := 16) rfl (Sub.cons (t := 1000002) rfl (Sub.cons (t := 1000004) rfl (Sub.cons (t := 1000005) rfl (Sub.cons (t := 1000006) rfl (Sub.cons (t := 1000009) rfl Sub.nil)))))))))))))))) ?_
          refine A.seq ?_
          refine A.regs (by kernel_rfl) (by kernel_rfl) (.inl rfl) ?_
          refine RunTK.last ?_
          refine RunK.step rfl rfl (ok_move rfl) ?_
          refine RunK.step rfl rfl (ok_bin rfl rfl rfl) ?_
          refine RunK.nil ?_
          refine A.sub (Sub.cons (t := 2) rfl (Sub.cons (t := 4) rfl (Sub.cons (t := 5) rfl (Sub.cons (t := 6) rfl (Sub.cons (t := 8) rfl (Sub.cons (t := 9) rfl (Sub.cons (t := 12) rfl (Sub.cons (t := 13) rfl (Sub.cons (t := 14) rfl (Sub.cons (t := 15) rfl (Sub.cons (t := 16) rfl (Sub.cons (t := 89) rfl (Sub.cons (t := 1000002) rfl (Sub.cons (t := 1000004) rfl (Sub.cons (t := 1000005) rfl (Sub.cons (t := 1000006) rfl (Sub.cons (t := 1000009) rfl Sub.nil))))))))))))))))) ?_
          refine A.cond rfl (fun hc89 => ?_) (fun hc89 => ?_)
          · have hq9 : q < 9 := by simp at hc89; omega
            refine A.regs (by kernel_rfl) (by kernel_rfl) (.inl rfl) ?_
            refine RunTK.eff 14 (by decide) rfl (.inl rfl) ?_
            refine RunK.step rfl rfl (ok_move rfl) ?_
            refine RunK.step rfl rfl (ok_move rfl) ?_
            refine RunK.step rfl rfl (ok_call (refDouble_fn (aesG (rst s f q) (4 * c + 0)) (aesG_by _ _)) (Args.cons rfl (Le.refl _) Args.nil)) ?_
            refine RunK.step rfl rfl (ok_move rfl) ?_
            refine RunK.step rfl rfl (ok_call (refDouble_fn (aesG (rst s f q) (4 * c + 1)) (aesG_by _ _)) (Args.cons rfl (Le.refl _) Args.nil)) ?_
            refine RunK.step rfl rfl (ok_bin rfl rfl rfl) ?_; refine RunK.as (.int .u8 ((gm 2 (aesG (rst s f q) (4 * c + 0)) ^^^ gm 2 (aesG (rst s f q) (4 * c + 1)) : Nat) : Int)) (by rw [show IntKind.u8.bits = 8 from rfl, xor_u8N (gm_lt _ (by decide)) (gm_lt _ (by decide))]) ?_
            refine RunK.step rfl rfl (ok_move rfl) ?_
            refine RunK.step rfl rfl (ok_bin rfl rfl rfl) ?_; refine RunK.as (.int .u8 ((gm 2 (aesG (rst s f q) (4 * c + 0)) ^^^ gm 2 (aesG (rst s f q) (4 * c + 1)) ^^^ aesG (rst s f q) (4 * c + 1) : Nat) : Int)) (by rw [show IntKind.u8.bits = 8 from rfl, xor_u8N (xor_lt _ _ (gm_lt _ (by decide)) (gm_lt _ (by decide))) (aesG_by _ _)]) ?_
            refine RunK.step rfl rfl (ok_move rfl) ?_
            refine RunK.step rfl rfl (ok_bin rfl rfl rfl) ?_; refine RunK.as (.int .u8 ((gm 2 (aesG (rst s f q) (4 * c + 0)) ^^^ gm 2 (aesG (rst s f q) (4 * c + 1)) ^^^ aesG (rst s f q) (4 * c + 1) ^^^ aesG (rst s f q) (4 * c + 2) : Nat) : Int)) (by rw [show IntKind.u8.bits = 8 from rfl, xor_u8N (xor_lt _ _ (xor_lt _ _ (gm_lt _ (by decide)) (gm_lt _ (by decide))) (aesG_by _ _)) (aesG_by _ _)]) ?_
            refine RunK.step rfl rfl (ok_move rfl) ?_
            refine RunK.step rfl rfl (ok_bin rfl rfl rfl) ?_; refine RunK.as (.int .u8 ((mixS (aesG (rst s f q)) (4 * c + 0) : Nat) : Int)) (by rw [show IntKind.u8.bits = 8 from rfl, xor_u8N (xor_lt _ _ (xor_lt _ _ (xor_lt _ _ (gm_lt _ (by decide)) (gm_lt _ (by decide))) (aesG_by _ _)) (aesG_by _ _)) (aesG_by _ _), mix0 (aesG (rst s f q)) c]) ?_
            refine RunK.step rfl rfl (ok_indexN (0) Try.underlying85 size71 rfl rfl (rfl) (by decide)) ?_
            refine RunK.step rfl rfl (ok_indexA _ Try.underlying71 info5 rfl rfl (rfl) (by omega)) ?_
            refine RunK.nil ?_
            refine ⟨_, eff_storeS (n := 182) (s := 1000009) info5 rfl rfl rfl hBb9 rfl (by first | (simp only [rowV_length]; omega) | (simp only [List.length_set, rowV_length]; omega)) (LeftS.cons (t := 2) rfl (Surv.v _) (LeftS.cons (t := 4) rfl (Surv.v _) (LeftS.cons (t := 5) rfl (Surv.v _) (LeftS.cons (t := 6) rfl (Surv.v _) (LeftS.cons (t := 8) rfl (Surv.v _) (LeftS.cons (t := 9) rfl (Surv.v _) (LeftS.cons (t := 12) rfl (Surv.v _) (LeftS.cons (t := 13) rfl (Surv.v _) (LeftS.cons (t := 14) rfl (Surv.v _) (LeftS.cons (t := 15) rfl (Surv.v _) (LeftS.cons (t := 16) rfl (Surv.v _) (LeftS.cons (t := 89) rfl (Surv.v _) (LeftS.cons (t := 90) rfl (Surv.v _) (LeftS.cons (t := 91) rfl (Surv.v _) (LeftS.cons (t := 92) rfl (Surv.v _) (LeftS.cons (t := 93) rfl (Surv.v _) (LeftS.cons (t := 94) rfl (Surv.v _) (LeftS.cons (t := 95) rfl (Surv.v _) (LeftS.cons (t := 96) rfl (Surv.v _) (LeftS.cons (t := 97) rfl (Surv.v _) (LeftS.cons (t := 98) rfl (Surv.v _) (LeftS.cons (t := 99) rfl (Surv.v _) (LeftS.cons (t := 100) rfl (Surv.v _) (LeftS.cons (t := 101) rfl (Surv.v _) (LeftS.cons (t := 102) rfl (Surv.v _) (LeftS.cons (t := 103) rfl (Surv.v _) (LeftS.cons (t := 1000002) rfl (Surv.blkT (by decide)) (LeftS.cons (t := 1000004) rfl (Surv.blkT (by decide)) (LeftS.cons (t := 1000005) rfl (Surv.blkT (by decide)) (LeftS.cons (t := 1000006) rfl (Surv.blk (by omega)) LeftS.nil)))))))))))))))))))))))))))))), ?_⟩
            refine RunTK.last ?_
            refine RunK.nil ?_
            refine A.sub (Sub.cons (t := 2) rfl (Sub.cons (t := 4) rfl (Sub.cons (t := 5) rfl (Sub.cons (t := 6) rfl (Sub.cons (t := 8) rfl (Sub.cons (t := 9) rfl (Sub.cons (t := 12) rfl (Sub.cons (t := 13) rfl (Sub.cons (t := 14) rfl (Sub.cons (t := 15) rfl (Sub.cons (t := 16) rfl (Sub.cons (t := 1000002) rfl (Sub.cons (t := 1000004) rfl (Sub.cons (t := 1000005) rfl (Sub.cons (t := 1000006) rfl (Sub.cons (t := 1000009) rfl Sub.nil)))))))))))))))) ?_
            refine A.regs (by kernel_rfl) (by kernel_rfl) (.inl rfl) ?_
            refine RunTK.eff 14 (by decide) rfl (.inl rfl) ?_
            refine RunK.step rfl rfl (ok_move rfl) ?_
            refine RunK.step rfl rfl (ok_move rfl) ?_
            refine RunK.step rfl rfl (ok_move rfl) ?_
            refine RunK.step rfl rfl (ok_call (refDouble_fn (aesG (rst s f q) (4 * c + 1)) (aesG_by _ _)) (Args.cons rfl (Le.refl _) Args.nil)) ?_
            refine RunK.step rfl rfl (ok_bin rfl rfl rfl) ?_; refine RunK.as (.int .u8 ((aesG (rst s f q) (4 * c + 0) ^^^ gm 2 (aesG (rst s f q) (4 * c + 1)) : Nat) : Int)) (by rw [show IntKind.u8.bits = 8 from rfl, xor_u8N (aesG_by _ _) (gm_lt _ (by decide))]) ?_
            refine RunK.step rfl rfl (ok_move rfl) ?_
            refine RunK.step rfl rfl (ok_call (refDouble_fn (aesG (rst s f q) (4 * c + 2)) (aesG_by _ _)) (Args.cons rfl (Le.refl _) Args.nil)) ?_
            refine RunK.step rfl rfl (ok_bin rfl rfl rfl) ?_; refine RunK.as (.int .u8 ((aesG (rst s f q) (4 * c + 0) ^^^ gm 2 (aesG (rst s f q) (4 * c + 1)) ^^^ gm 2 (aesG (rst s f q) (4 * c + 2)) : Nat) : Int)) (by rw [show IntKind.u8.bits = 8 from rfl, xor_u8N (xor_lt _ _ (aesG_by _ _) (gm_lt _ (by decide))) (gm_lt _ (by decide))]) ?_
            refine RunK.step rfl rfl (ok_move rfl) ?_
            refine RunK.step rfl rfl (ok_bin rfl rfl rfl) ?_; refine RunK.as (.int .u8 ((aesG (rst s f q) (4 * c + 0) ^^^ gm 2 (aesG (rst s f q) (4 * c + 1)) ^^^ gm 2 (aesG (rst s f q) (4 * c + 2)) ^^^ aesG (rst s f q) (4 * c + 2) : Nat) : Int)) (by rw [show IntKind.u8.bits = 8 from rfl, xor_u8N (xor_lt _ _ (xor_lt _ _ (aesG_by _ _) (gm_lt _ (by decide))) (gm_lt _ (by decide))) (aesG_by _ _)]) ?_
            refine RunK.step rfl rfl (ok_move rfl) ?_
            refine RunK.step rfl rfl (ok_bin rfl rfl rfl) ?_; refine RunK.as (.int .u8 ((mixS (aesG (rst s f q)) (4 * c + 1) : Nat) : Int)) (by rw [show IntKind.u8.bits = 8 from rfl, xor_u8N (xor_lt _ _ (xor_lt _ _ (xor_lt _ _ (aesG_by _ _) (gm_lt _ (by decide))) (gm_lt _ (by decide))) (aesG_by _ _)) (aesG_by _ _), mix1 (aesG (rst s f q)) c]) ?_
            refine RunK.step rfl rfl (ok_indexN (1) Try.underlying85 size71 rfl rfl (rfl) (by decide)) ?_
            refine RunK.step rfl rfl (ok_indexA _ Try.underlying71 info5 rfl rfl (rfl) (by omega)) ?_
            refine RunK.nil ?_
            refine ⟨_, eff_storeS (n := 182) (s := 1000009) info5 rfl rfl rfl hBb9 rfl (by first | (simp only [rowV_length]; omega) | (simp only [List.length_set, rowV_length]; omega)) (LeftS.cons (t := 2) rfl (Surv.v _) (LeftS.cons (t := 4) rfl (Surv.v _) (LeftS.cons (t := 5) rfl (Surv.v _) (LeftS.cons (t := 6) rfl (Surv.v _) (LeftS.cons (t := 8) rfl (Surv.v _) (LeftS.cons (t := 9) rfl (Surv.v _) (LeftS.cons (t := 12) rfl (Surv.v _) (LeftS.cons (t := 13) rfl (Surv.v _) (LeftS.cons (t := 14) rfl (Surv.v _) (LeftS.cons (t := 15) rfl (Surv.v _) (LeftS.cons (t := 16) rfl (Surv.v _) (LeftS.cons (t := 104) rfl (Surv.v _) (LeftS.cons (t := 105) rfl (Surv.v _) (LeftS.cons (t := 106) rfl (Surv.v _) (LeftS.cons (t := 107) rfl (Surv.v _) (LeftS.cons (t := 108) rfl (Surv.v _) (LeftS.cons (t := 109) rfl (Surv.v _) (LeftS.cons (t := 110) rfl (Surv.v _) (LeftS.cons (t := 111) rfl (Surv.v _) (LeftS.cons (t := 112) rfl (Surv.v _) (LeftS.cons (t := 113) rfl (Surv.v _) (LeftS.cons (t := 114) rfl (Surv.v _) (LeftS.cons (t := 115) rfl (Surv.v _) (LeftS.cons (t := 116) rfl (Surv.v _) (LeftS.cons (t := 117) rfl (Surv.v _) (LeftS.cons (t := 1000002) rfl (Surv.blkT (by decide)) (LeftS.cons (t := 1000004) rfl (Surv.blkT (by decide)) (LeftS.cons (t := 1000005) rfl (Surv.blkT (by decide)) (LeftS.cons (t := 1000006) rfl (Surv.blk (by omega)) LeftS.nil))))))))))))))))))))))))))))), ?_⟩
            refine RunTK.last ?_
            refine RunK.nil ?_
            refine A.sub (Sub.cons (t := 2) rfl (Sub.cons (t := 4) rfl (Sub.cons (t := 5) rfl (Sub.cons (t := 6) rfl (Sub.cons (t := 8) rfl (Sub.cons (t := 9) rfl (Sub.cons (t := 12) rfl (Sub.cons (t := 13) rfl (Sub.cons (t := 14) rfl (Sub.cons (t := 15) rfl (Sub.cons (t := 16) rfl (Sub.cons (t := 1000002) rfl (Sub.cons (t := 1000004) rfl (Sub.cons (t := 1000005) rfl (Sub.cons (t := 1000006) rfl (Sub.cons (t := 1000009) rfl Sub.nil)))))))))))))))) ?_
            refine A.regs (by kernel_rfl) (by kernel_rfl) (.inl rfl) ?_
            refine RunTK.eff 14 (by decide) rfl (.inl rfl) ?_
            refine RunK.step rfl rfl (ok_move rfl) ?_
            refine RunK.step rfl rfl (ok_move rfl) ?_
            refine RunK.step rfl rfl (ok_move rfl) ?_
            refine RunK.step rfl rfl (ok_bin rfl rfl rfl) ?_; refine RunK.as (.int .u8 ((aesG (rst s f q) (4 * c + 0) ^^^ aesG (rst s f q) (4 * c + 1) : Nat) : Int)) (by rw [show IntKind.u8.bits = 8 from rfl, xor_u8N (aesG_by _ _) (aesG_by _ _)]) ?_
            refine RunK.step rfl rfl (ok_move rfl) ?_
            refine RunK.step rfl rfl (ok_call (refDouble_fn (aesG (rst s f q) (4 * c + 2)) (aesG_by _ _)) (Args.cons rfl (Le.refl _) Args.nil)) ?_
            refine RunK.step rfl rfl (ok_bin rfl rfl rfl) ?_; refine RunK.as (.int .u8 ((aesG (rst s f q) (4 * c + 0) ^^^ aesG (rst s f q) (4 * c + 1) ^^^ gm 2 (aesG (rst s f q) (4 * c + 2)) : Nat) : Int)) (by rw [show IntKind.u8.bits = 8 from rfl, xor_u8N (xor_lt _ _ (aesG_by _ _) (aesG_by _ _)) (gm_lt _ (by decide))]) ?_
            refine RunK.step rfl rfl (ok_move rfl) ?_
            refine RunK.step rfl rfl (ok_call (refDouble_fn (aesG (rst s f q) (4 * c + 3)) (aesG_by _ _)) (Args.cons rfl (Le.refl _) Args.nil)) ?_
            refine RunK.step rfl rfl (ok_bin rfl rfl rfl) ?_; refine RunK.as (.int .u8 ((aesG (rst s f q) (4 * c + 0) ^^^ aesG (rst s f q) (4 * c + 1) ^^^ gm 2 (aesG (rst s f q) (4 * c + 2)) ^^^ gm 2 (aesG (rst s f q) (4 * c + 3)) : Nat) : Int)) (by rw [show IntKind.u8.bits = 8 from rfl, xor_u8N (xor_lt _ _ (xor_lt _ _ (aesG_by _ _) (aesG_by _ _)) (gm_lt _ (by decide))) (gm_lt _ (by decide))]) ?_
            refine RunK.step rfl rfl (ok_move rfl) ?_
            refine RunK.step rfl rfl (ok_bin rfl rfl rfl) ?_; refine RunK.as (.int .u8 ((mixS (aesG (rst s f q)) (4 * c + 2) : Nat) : Int)) (by rw [show IntKind.u8.bits = 8 from rfl, xor_u8N (xor_lt _ _ (xor_lt _ _ (xor_lt _ _ (aesG_by _ _) (aesG_by _ _)) (gm_lt _ (by decide))) (gm_lt _ (by decide))) (aesG_by _ _), mix2 (aesG (rst s f q)) c]) ?_
            refine RunK.step rfl rfl (ok_indexN (2) Try.underlying85 size71 rfl rfl (rfl) (by decide)) ?_
            refine RunK.step rfl rfl (ok_indexA _ Try.underlying71 info5 rfl rfl (rfl) (by omega)) ?_
            refine RunK.nil ?_
            refine ⟨_, eff_storeS (n := 182) (s := 1000009) info5 rfl rfl rfl hBb9 rfl (by first | (simp only [rowV_length]; omega) | (simp only [List.length_set, rowV_length]; omega)) (LeftS.cons (t := 2) rfl (Surv.v _) (LeftS.cons (t := 4) rfl (Surv.v _) (LeftS.cons (t := 5) rfl (Surv.v _) (LeftS.cons (t := 6) rfl (Surv.v _) (LeftS.cons (t := 8) rfl (Surv.v _) (LeftS.cons (t := 9) rfl (Surv.v _) (LeftS.cons (t := 12) rfl (Surv.v _) (LeftS.cons (t := 13) rfl (Surv.v _) (LeftS.cons (t := 14) rfl (Surv.v _) (LeftS.cons (t := 15) rfl (Surv.v _) (LeftS.cons (t := 16) rfl (Surv.v _) (LeftS.cons (t := 118) rfl (Surv.v _) (LeftS.cons (t := 119) rfl (Surv.v _) (LeftS.cons (t := 120) rfl (Surv.v _) (LeftS.cons (t := 121) rfl (Surv.v _) (LeftS.cons (t := 122) rfl (Surv.v _) (LeftS.cons (t := 123) rfl (Surv.v _) (LeftS.cons (t := 124) rfl (Surv.v _) (LeftS.cons (t := 125) rfl (Surv.v _) (LeftS.cons (t := 126) rfl (Surv.v _) (LeftS.cons (t := 127) rfl (Surv.v _) (LeftS.cons (t := 128) rfl (Surv.v _) (LeftS.cons (t := 129) rfl (Surv.v _) (LeftS.cons (t := 130) rfl (Surv.v _) (LeftS.cons (t := 131) rfl (Surv.v _) (LeftS.cons (t := 1000002) rfl (Surv.blkT (by decide)) (LeftS.cons (t := 1000004) rfl (Surv.blkT (by decide)) (LeftS.cons (t := 1000005) rfl (Surv.blkT (by decide)) (LeftS.cons (t := 1000006) rfl (Surv.blk (by omega)) LeftS.nil))))))))))))))))))))))))))))), ?_⟩
            refine RunTK.last ?_
            refine RunK.nil ?_
            refine A.sub (Sub.cons (t := 2) rfl (Sub.cons (t := 4) rfl (Sub.cons (t := 5) rfl (Sub.cons (t := 6) rfl (Sub.cons (t := 8) rfl (Sub.cons (t := 9) rfl (Sub.cons (t := 12) rfl (Sub.cons (t := 13) rfl (Sub.cons (t := 14) rfl (Sub.cons (t := 15) rfl (Sub.cons (t := 16) rfl (Sub.cons (t := 1000002) rfl (Sub.cons (t := 1000004) rfl (Sub.cons (t := 1000005) rfl (Sub.cons (t := 1000006) rfl (Sub.cons (t := 1000009) rfl Sub.nil)))))))))))))))) ?_
            refine A.reg (by kernel_rfl) (by kernel_rfl) (.inl rfl) ?_
            refine RunTK.eff 14 (by decide) rfl (.inl rfl) ?_
            refine RunK.step rfl rfl (ok_move rfl) ?_
            refine RunK.step rfl rfl (ok_move rfl) ?_
            refine RunK.step rfl rfl (ok_call (refDouble_fn (aesG (rst s f q) (4 * c + 0)) (aesG_by _ _)) (Args.cons rfl (Le.refl _) Args.nil)) ?_
            refine RunK.step rfl rfl (ok_move rfl) ?_
            refine RunK.step rfl rfl (ok_bin rfl rfl rfl) ?_; refine RunK.as (.int .u8 ((gm 2 (aesG (rst s f q) (4 * c + 0)) ^^^ aesG (rst s f q) (4 * c + 0) : Nat) : Int)) (by rw [show IntKind.u8.bits = 8 from rfl, xor_u8N (gm_lt _ (by decide)) (aesG_by _ _)]) ?_
            refine RunK.step rfl rfl (ok_move rfl) ?_
            refine RunK.step rfl rfl (ok_bin rfl rfl rfl) ?_; refine RunK.as (.int .u8 ((gm 2 (aesG (rst s f q) (4 * c + 0)) ^^^ aesG (rst s f q) (4 * c + 0) ^^^ aesG (rst s f q) (4 * c + 1) : Nat) : Int)) (by rw [show IntKind.u8.bits = 8 from rfl, xor_u8N (xor_lt _ _ (gm_lt _ (by decide)) (aesG_by _ _)) (aesG_by _ _)]) ?_
            refine RunK.step rfl rfl (ok_move rfl) ?_
            refine RunK.step rfl rfl (ok_bin rfl rfl rfl) ?_; refine RunK.as (.int .u8 ((gm 2 (aesG (rst s f q) (4 * c + 0)) ^^^ aesG (rst s f q) (4 * c + 0) ^^^ aesG (rst s f q) (4 * c + 1) ^^^ aesG (rst s f q) (4 * c + 2) : Nat) : Int)) (by rw [show IntKind.u8.bits = 8 from rfl, xor_u8N (xor_lt _ _ (xor_lt _ _ (gm_lt _ (by decide)) (aesG_by _ _)) (aesG_by _ _)) (aesG_by _ _)]) ?_
            refine RunK.step rfl rfl (ok_move rfl) ?_
            refine RunK.step rfl rfl (ok_call (refDouble_fn (aesG (rst s f q) (4 * c + 3)) (aesG_by _ _)) (Args.cons rfl (Le.refl _) Args.nil)) ?_
            refine RunK.step rfl rfl (ok_bin rfl rfl rfl) ?_; refine RunK.as (.int .u8 ((mixS (aesG (rst s f q)) (4 * c + 3) : Nat) : Int)) (by rw [show IntKind.u8.bits = 8 from rfl, xor_u8N (xor_lt _ _ (xor_lt _ _ (xor_lt _ _ (gm_lt _ (by decide)) (aesG_by _ _)) (aesG_by _ _)) (aesG_by _ _)) (gm_lt _ (by decide)), mix3 (aesG (rst s f q)) c]) ?_
            refine RunK.step rfl rfl (ok_indexN (3) Try.underlying85 size71 rfl rfl (rfl) (by decide)) ?_
            refine RunK.step rfl rfl (ok_indexA _ Try.underlying71 info5 rfl rfl (rfl) (by omega)) ?_
            refine RunK.nil ?_
            refine ⟨_, eff_storeS (n := 182) (s := 1000009) info5 rfl rfl rfl hBb9 rfl (by first | (simp only [rowV_length]; omega) | (simp only [List.length_set, rowV_length]; omega)) (LeftS.cons (t := 2) rfl (Surv.v _) (LeftS.cons (t := 4) rfl (Surv.v _) (LeftS.cons (t := 5) rfl (Surv.v _) (LeftS.cons (t := 6) rfl (Surv.v _) (LeftS.cons (t := 8) rfl (Surv.v _) (LeftS.cons (t := 9) rfl (Surv.v _) (LeftS.cons (t := 12) rfl (Surv.v _) (LeftS.cons (t := 13) rfl (Surv.v _) (LeftS.cons (t := 14) rfl (Surv.v _) (LeftS.cons (t := 15) rfl (Surv.v _) (LeftS.cons (t := 16) rfl (Surv.v _) (LeftS.cons (t := 132) rfl (Surv.v _) (LeftS.cons (t := 133) rfl (Surv.v _) (LeftS.cons (t := 134) rfl (Surv.v _) (LeftS.cons (t := 135) rfl (Surv.v _) (LeftS.cons (t := 136) rfl (Surv.v _) (LeftS.cons (t := 137) rfl (Surv.v _) (LeftS.cons (t := 138) rfl (Surv.v _) (LeftS.cons (t := 139) rfl (Surv.v _) (LeftS.cons (t := 140) rfl (Surv.v _) (LeftS.cons (t := 141) rfl (Surv.v _) (LeftS.cons (t := 142) rfl (Surv.v _) (LeftS.cons (t := 143) rfl (Surv.v _) (LeftS.cons (t := 144) rfl (Surv.v _) (LeftS.cons (t := 145) rfl (Surv.v _) (LeftS.cons (t := 1000002) rfl (Surv.blkT (by decide)) (LeftS.cons (t := 1000004) rfl (Surv.blkT (by decide)) (LeftS.cons (t := 1000005) rfl (Surv.blkT (by decide)) (LeftS.cons (t := 1000006) rfl (Surv.blk (by omega)) LeftS.nil))))))))))))))))))))))))))))), ?_⟩
            refine RunTK.last ?_
            refine RunK.nil ?_
            refine End.sub (Sub.cons (t := 2) rfl (Sub.cons (t := 4) rfl (Sub.cons (t := 5) rfl (Sub.cons (t := 6) rfl (Sub.cons (t := 8) rfl (Sub.cons (t := 9) rfl (Sub.cons (t := 12) rfl (Sub.cons (t := 1000002) rfl (Sub.cons (t := 1000004) rfl (Sub.cons (t := 1000005) rfl (Sub.cons (t := 1000006) rfl (Sub.eq (t := 1000009) _ rfl (show blk b9 85 _ = blk b9 85 (rowV 16 (aesN2 (rst s f q) q (c + 1))) from congrArg _ (aesN2_four hq9 hc4 (by omega) (by omega) (by omega) (by omega) rfl rfl rfl rfl)) Sub.nil)))))))))))) ?_
            refine End.normal_then (End.code ?_)
            refine A.regs (by kernel_rfl) (by kernel_rfl) (.inl rfl) ?_
            refine RunTK.last ?_
            refine RunK.step rfl rfl (ok_assign rfl) ?_
            refine RunK.nil ?_
            refine A.sub (Sub.cons (t := 2) rfl (Sub.cons (t := 4) rfl (Sub.cons (t := 5) rfl (Sub.cons (t := 6) rfl (Sub.cons (t := 8) rfl (Sub.cons (t := 9) rfl (Sub.cons (t := 12) rfl (Sub.cons (t := 17) rfl (Sub.cons (t := 1000002) rfl (Sub.cons (t := 1000004) rfl (Sub.cons (t := 1000005) rfl (Sub.cons (t := 1000006) rfl (Sub.cons (t := 1000009) rfl Sub.nil))))))))))))) ?_
            refine A.block ?_
            refine A.loop (ι := Nat) (fun r => r ≤ 4) (fun r => [(2, .v (.pointer (some ⟨b2, 0, none⟩))), (4, .v (.pointer (some ⟨b4, 0, none⟩))), (5, .v (.pointer (some ⟨b5, 0, none⟩))), (6, .v (.pointer (some ⟨b6, 0, none⟩))), (1000002, blk b2 72 (rowV 176 (s))), (1000004, blk b4 22 (List.replicate 16 (.int .u8 0))), (1000005, blk b5 83 subV), (8, .v (.int .i64 ((q + 1 : Nat) : Int))), (12, .v (.int .i64 ((c : Nat) : Int))), (17, .v (.int .i64 ((r : Nat) : Int))), (1000006, blk b6 85 (rowV 16 (aesM2 (rst s f q) (rst s f (q + 1)) c r))), (9, .v (.pointer (some ⟨b9, 0, none⟩))), (1000009, blk b9 85 (rowV 16 (aesN2 (rst s f q) q (c + 1))))]) (fun r => 4 - r) 0 ?_ ?_ ?_
            · exact Nat.zero_le _
            · exact (Sub.cons (t := 2) rfl (Sub.cons (t := 4) rfl (Sub.cons (t := 5) rfl (Sub.cons (t := 6) rfl (Sub.cons (t := 1000002) rfl (Sub.cons (t := 1000004) rfl (Sub.cons (t := 1000005) rfl (Sub.cons (t := 8) rfl (Sub.cons (t := 12) rfl (Sub.cons (t := 17) rfl (Sub.cons (t := 1000006) rfl (Sub.cons (t := 9) rfl (Sub.eq (t := 1000009) _ rfl (by first | rfl | exact congrArg _ (aesN2_skip _ c hq9)) Sub.nil)))))))))))))
            intro r hr
            refine A.seq ?_
            refine A.regs (by kernel_rfl) (by kernel_rfl) (.inl rfl) ?_
            refine RunTK.last ?_
            refine RunK.step rfl rfl (ok_move rfl) ?_
            refine RunK.step rfl rfl (ok_bin rfl rfl rfl) ?_
            refine RunK.nil ?_
            refine A.sub (Sub.cons (t := 2) rfl (Sub.cons (t := 4) rfl (Sub.cons (t := 5) rfl (Sub.cons (t := 6) rfl (Sub.cons (t := 8) rfl (Sub.cons (t := 9) rfl (Sub.cons (t := 12) rfl (Sub.cons (t := 17) rfl (Sub.cons (t := 147) rfl (Sub.cons (t := 1000002) rfl (Sub.cons (t := 1000004) rfl (Sub.cons (t := 1000005) rfl (Sub.cons (t := 1000006) rfl (Sub.cons (t := 1000009) rfl Sub.nil)))))))))))))) ?_
            refine A.cond rfl (fun hc147 => ?_) (fun hc147 => ?_)
            · have hr4 : r < 4 := by simp at hc147; omega
              refine A.skip ?_
              refine End.normal_then (End.code ?_)
              refine A.seq ?_
              refine A.block ?_
              refine A.reg (by kernel_rfl) (by kernel_rfl) (.inr (by kernel_rfl)) ?_
              refine RunTK.eff 18 (by decide) rfl (.inr (by kernel_rfl)) ?_
              refine RunK.step rfl rfl (ok_move rfl) ?_
              refine RunK.step rfl rfl (ok_move rfl) ?_
              refine RunK.step rfl rfl (ok_move rfl) ?_
              refine RunK.step rfl rfl (ok_move rfl) ?_
              refine RunK.step rfl rfl (ok_indexN _ Try.underlying85 size71 rfl rfl (rfl) (by omega)) ?_
              refine RunK.step rfl rfl (ok_indexA _ Try.underlying71 info5 rfl rfl (rfl) (by omega)) ?_
              refine RunK.step rfl rfl (ok_loadV (s := 1000009) (by decide) Try.underlying5 rfl rfl rfl (rowV_get (by omega))) ?_; refine RunK.as (.int .u8 ((aesV (rst s f q) q (4 * c + r) : Nat) : Int)) (v8 (aesN2_val hc4 hr4 (by omega))) ?_
              refine RunK.step rfl rfl (ok_move rfl) ?_
              refine RunK.step rfl rfl (ok_bin rfl rfl rfl) ?_; refine RunK.as (.int .i64 ((4 * (q + 1) : Nat) : Int)) (by rw [wrap_i64 (by omega) (by omega)]; exact congrArg (Value.int .i64) (by omega)) ?_
              refine RunK.step rfl rfl (ok_move rfl) ?_
              refine RunK.step rfl rfl (ok_bin rfl rfl rfl) ?_; refine RunK.as (.int .i64 ((4 * (q + 1) + c : Nat) : Int)) (by rw [wrap_i64 (by omega) (by omega)]; exact congrArg (Value.int .i64) (by omega)) ?_
              refine RunK.step rfl rfl (ok_move rfl) ?_
              refine RunK.step rfl rfl (ok_indexN _ Try.underlying72 size71 rfl rfl (rfl) (by omega)) ?_
              refine RunK.step rfl rfl (ok_indexA _ Try.underlying71 info5 rfl rfl (rfl) (by omega)) ?_
              refine RunK.step rfl rfl (ok_loadV (s := 1000002) (by decide) Try.underlying5 rfl rfl rfl (rowV_get (by omega))) ?_; refine RunK.as (.int .u8 ((keyS s (q + 1) (4 * c + r) : Nat) : Int)) (v8 (congrArg s (by omega))) ?_
              refine RunK.step rfl rfl (ok_bin rfl rfl rfl) ?_; refine RunK.as (.int .u8 ((rst s f (q + 1) (4 * c + r) : Nat) : Int)) (by rw [show IntKind.u8.bits = 8 from rfl, xor_u8N (aesV_by _ _ _) (keyS_by hs _ _), rst_step s f hq10]) ?_
              refine RunK.step rfl rfl (ok_indexN _ Try.underlying85 size71 rfl rfl (rfl) (by omega)) ?_
              refine RunK.step rfl rfl (ok_indexA _ Try.underlying71 info5 rfl rfl (rfl) (by omega)) ?_
              refine RunK.nil ?_
              refine ⟨_, eff_storeS (n := 182) (s := 1000006) info5 rfl rfl rfl hBb6 rfl (by simp only [rowV_length]; omega) (LeftS.cons (t := 2) rfl (Surv.v _) (LeftS.cons (t := 4) rfl (Surv.v _) (LeftS.cons (t := 5) rfl (Surv.v _) (LeftS.cons (t := 6) rfl (Surv.v _) (LeftS.cons (t := 8) rfl (Surv.v _) (LeftS.cons (t := 9) rfl (Surv.v _) (LeftS.cons (t := 12) rfl (Surv.v _) (LeftS.cons (t := 17) rfl (Surv.v _) (LeftS.cons (t := 147) rfl (Surv.v _) (LeftS.cons (t := 150) rfl (Surv.v _) (LeftS.cons (t := 151) rfl (Surv.v _) (LeftS.cons (t := 152) rfl (Surv.v _) (LeftS.cons (t := 153) rfl (Surv.v _) (LeftS.cons (t := 154) rfl (Surv.v _) (LeftS.cons (t := 155) rfl (Surv.v _) (LeftS.cons (t := 156) rfl (Surv.v _) (LeftS.cons (t := 157) rfl (Surv.v _) (LeftS.cons (t := 158) rfl (Surv.v _) (LeftS.cons (t := 159) rfl (Surv.v _) (LeftS.cons (t := 160) rfl (Surv.v _) (LeftS.cons (t := 161) rfl (Surv.v _) (LeftS.cons (t := 162) rfl (Surv.v _) (LeftS.cons (t := 163) rfl (Surv.v _) (LeftS.cons (t := 164) rfl (Surv.v _) (LeftS.cons (t := 165) rfl (Surv.v _) (LeftS.cons (t := 166) rfl (Surv.v _) (LeftS.cons (t := 167) rfl (Surv.v _) (LeftS.cons (t := 1000002) rfl (Surv.blkT (by decide)) (LeftS.cons (t := 1000004) rfl (Surv.blkT (by decide)) (LeftS.cons (t := 1000005) rfl (Surv.blkT (by decide)) (LeftS.cons (t := 1000009) rfl (Surv.blk (by omega)) LeftS.nil))))))))))))))))))))))))))))))), ?_⟩
              refine RunTK.last ?_
              refine RunK.nil ?_
              refine End.sub (Sub.cons (t := 2) rfl (Sub.cons (t := 4) rfl (Sub.cons (t := 5) rfl (Sub.cons (t := 6) rfl (Sub.cons (t := 8) rfl (Sub.cons (t := 9) rfl (Sub.cons (t := 12) rfl (Sub.cons (t := 17) rfl (Sub.cons (t := 1000002) rfl (Sub.cons (t := 1000004) rfl (Sub.cons (t := 1000005) rfl (Sub.cons (t := 1000006) rfl (Sub.cons (t := 1000009) rfl Sub.nil))))))))))))) ?_
              refine End.normal_block ?_
              refine End.normal_then (End.code ?_)
              refine A.reg (by kernel_rfl) (by kernel_rfl) (.inl rfl) ?_
              refine RunTK.last ?_
              refine RunK.step rfl rfl (ok_move rfl) ?_
              refine RunK.step rfl rfl (ok_bin rfl rfl rfl) ?_; refine RunK.as (.int .i64 ((r + 1 : Nat) : Int)) (by rw [wrap_i64 (by omega) (by omega)]; exact congrArg (Value.int .i64) (by omega)) ?_
              refine RunK.step rfl rfl (ok_assign rfl) ?_
              refine RunK.nil ?_
              refine End.sub (Sub.cons (t := 2) rfl (Sub.cons (t := 4) rfl (Sub.cons (t := 5) rfl (Sub.cons (t := 6) rfl (Sub.cons (t := 8) rfl (Sub.cons (t := 9) rfl (Sub.cons (t := 12) rfl (Sub.cons (t := 17) rfl (Sub.cons (t := 1000002) rfl (Sub.cons (t := 1000004) rfl (Sub.cons (t := 1000005) rfl (Sub.cons (t := 1000006) rfl (Sub.cons (t := 1000009) rfl Sub.nil))))))))))))) ?_
              refine End.normal_then ?_
              refine End.again (r + 1) ?_ ?_ ?_
              · show _ ≤ _; omega
              · show _ - _ < _ - _; omega
              · exact (Sub.cons (t := 2) rfl (Sub.cons (t := 4) rfl (Sub.cons (t := 5) rfl (Sub.cons (t := 6) rfl (Sub.cons (t := 1000002) rfl (Sub.cons (t := 1000004) rfl (Sub.cons (t := 1000005) rfl (Sub.cons (t := 8) rfl (Sub.cons (t := 12) rfl (Sub.cons (t := 17) rfl (Sub.eq (t := 1000006) _ rfl (congrArg _ (aesM2_set hr4 hc4 (by omega) rfl)) (Sub.cons (t := 9) rfl (Sub.cons (t := 1000009) rfl Sub.nil)))))))))))))
            · obtain rfl : r = 4 := by simp at hc147; omega
              refine A.exit ?_
              refine End.exit_then ?_
              refine End.exit_then ?_
              refine End.exit_here ?_
              refine End.normal_block ?_
              refine End.normal_then (End.code ?_)
              refine A.reg (by kernel_rfl) (by kernel_rfl) (.inl rfl) ?_
              refine RunTK.last ?_
              refine RunK.step rfl rfl (ok_move rfl) ?_
              refine RunK.step rfl rfl (ok_bin rfl rfl rfl) ?_; refine RunK.as (.int .i64 ((c + 1 : Nat) : Int)) (by rw [wrap_i64 (by omega) (by omega)]; exact congrArg (Value.int .i64) (by omega)) ?_
              refine RunK.step rfl rfl (ok_assign rfl) ?_
              refine RunK.nil ?_
              refine End.sub (Sub.cons (t := 2) rfl (Sub.cons (t := 4) rfl (Sub.cons (t := 5) rfl (Sub.cons (t := 6) rfl (Sub.cons (t := 8) rfl (Sub.cons (t := 9) rfl (Sub.cons (t := 12) rfl (Sub.cons (t := 1000002) rfl (Sub.cons (t := 1000004) rfl (Sub.cons (t := 1000005) rfl (Sub.cons (t := 1000006) rfl (Sub.cons (t := 1000009) rfl Sub.nil)))))))))))) ?_
              refine End.normal_then ?_
              refine End.again (c + 1) ?_ ?_ ?_
              · show _ ≤ _; omega
              · show _ - _ < _ - _; omega
              · exact (Sub.cons (t := 2) rfl (Sub.cons (t := 4) rfl (Sub.cons (t := 5) rfl (Sub.cons (t := 6) rfl (Sub.cons (t := 1000002) rfl (Sub.cons (t := 1000004) rfl (Sub.cons (t := 1000005) rfl (Sub.cons (t := 8) rfl (Sub.cons (t := 12) rfl (Sub.eq (t := 1000006) _ rfl (congrArg _ (aesM2_next _ _ c)) (Sub.cons (t := 9) rfl (Sub.cons (t := 1000009) rfl Sub.nil))))))))))))
          · have hq9 : ¬ q < 9 := by simp at hc89; omega
            refine A.skip ?_
            refine End.normal_then (End.code ?_)
            refine A.regs (by kernel_rfl) (by kernel_rfl) (.inl rfl) ?_
            refine RunTK.last ?_
            refine RunK.step rfl rfl (ok_assign rfl) ?_
            refine RunK.nil ?_
            refine A.sub (Sub.cons (t := 2) rfl (Sub.cons (t := 4) rfl (Sub.cons (t := 5) rfl (Sub.cons (t := 6) rfl (Sub.cons (t := 8) rfl (Sub.cons (t := 9) rfl (Sub.cons (t := 12) rfl (Sub.cons (t := 17) rfl (Sub.cons (t := 1000002) rfl (Sub.cons (t := 1000004) rfl (Sub.cons (t := 1000005) rfl (Sub.cons (t := 1000006) rfl (Sub.cons (t := 1000009) rfl Sub.nil))))))))))))) ?_
            refine A.block ?_
            refine A.loop (ι := Nat) (fun r => r ≤ 4) (fun r => [(2, .v (.pointer (some ⟨b2, 0, none⟩))), (4, .v (.pointer (some ⟨b4, 0, none⟩))), (5, .v (.pointer (some ⟨b5, 0, none⟩))), (6, .v (.pointer (some ⟨b6, 0, none⟩))), (1000002, blk b2 72 (rowV 176 (s))), (1000004, blk b4 22 (List.replicate 16 (.int .u8 0))), (1000005, blk b5 83 subV), (8, .v (.int .i64 ((q + 1 : Nat) : Int))), (12, .v (.int .i64 ((c : Nat) : Int))), (17, .v (.int .i64 ((r : Nat) : Int))), (1000006, blk b6 85 (rowV 16 (aesM2 (rst s f q) (rst s f (q + 1)) c r))), (9, .v (.pointer (some ⟨b9, 0, none⟩))), (1000009, blk b9 85 (rowV 16 (aesN2 (rst s f q) q (c + 1))))]) (fun r => 4 - r) 0 ?_ ?_ ?_
            · exact Nat.zero_le _
            · exact (Sub.cons (t := 2) rfl (Sub.cons (t := 4) rfl (Sub.cons (t := 5) rfl (Sub.cons (t := 6) rfl (Sub.cons (t := 1000002) rfl (Sub.cons (t := 1000004) rfl (Sub.cons (t := 1000005) rfl (Sub.cons (t := 8) rfl (Sub.cons (t := 12) rfl (Sub.cons (t := 17) rfl (Sub.cons (t := 1000006) rfl (Sub.cons (t := 9) rfl (Sub.eq (t := 1000009) _ rfl (by first | rfl | exact congrArg _ (aesN2_skip _ c hq9)) Sub.nil)))))))))))))
            intro r hr
            refine A.seq ?_
            refine A.regs (by kernel_rfl) (by kernel_rfl) (.inl rfl) ?_
            refine RunTK.last ?_
            refine RunK.step rfl rfl (ok_move rfl) ?_
            refine RunK.step rfl rfl (ok_bin rfl rfl rfl) ?_
            refine RunK.nil ?_
            refine A.sub (Sub.cons (t := 2) rfl (Sub.cons (t := 4) rfl (Sub.cons (t := 5) rfl (Sub.cons (t := 6) rfl (Sub.cons (t := 8) rfl (Sub.cons (t := 9) rfl (Sub.cons (t := 12) rfl (Sub.cons (t := 17) rfl (Sub.cons (t := 147) rfl (Sub.cons (t := 1000002) rfl (Sub.cons (t := 1000004) rfl (Sub.cons (t := 1000005) rfl (Sub.cons (t := 1000006) rfl (Sub.cons (t := 1000009) rfl Sub.nil)))))))))))))) ?_
            refine A.cond rfl (fun hc147 => ?_) (fun hc147 => ?_)
            · have hr4 : r < 4 := by simp at hc147; omega
              refine A.skip ?_
              refine End.normal_then (End.code ?_)
              refine A.seq ?_
              refine A.block ?_
              refine A.reg (by kernel_rfl) (by kernel_rfl) (.inr (by kernel_rfl)) ?_
              refine RunTK.eff 18 (by decide) rfl (.inr (by kernel_rfl)) ?_
              refine RunK.step rfl rfl (ok_move rfl) ?_
              refine RunK.step rfl rfl (ok_move rfl) ?_
              refine RunK.step rfl rfl (ok_move rfl) ?_
              refine RunK.step rfl rfl (ok_move rfl) ?_
              refine RunK.step rfl rfl (ok_indexN _ Try.underlying85 size71 rfl rfl (rfl) (by omega)) ?_
              refine RunK.step rfl rfl (ok_indexA _ Try.underlying71 info5 rfl rfl (rfl) (by omega)) ?_
              refine RunK.step rfl rfl (ok_loadV (s := 1000009) (by decide) Try.underlying5 rfl rfl rfl (rowV_get (by omega))) ?_; refine RunK.as (.int .u8 ((aesV (rst s f q) q (4 * c + r) : Nat) : Int)) (v8 (aesN2_val hc4 hr4 (by omega))) ?_
              refine RunK.step rfl rfl (ok_move rfl) ?_
              refine RunK.step rfl rfl (ok_bin rfl rfl rfl) ?_; refine RunK.as (.int .i64 ((4 * (q + 1) : Nat) : Int)) (by rw [wrap_i64 (by omega) (by omega)]; exact congrArg (Value.int .i64) (by omega)) ?_
              refine RunK.step rfl rfl (ok_move rfl) ?_
              refine RunK.step rfl rfl (ok_bin rfl rfl rfl) ?_; refine RunK.as (.int .i64 ((4 * (q + 1) + c : Nat) : Int)) (by rw [wrap_i64 (by omega) (by omega)]; exact congrArg (Value.int .i64) (by omega)) ?_
              refine RunK.step rfl rfl (ok_move rfl) ?_
              refine RunK.step rfl rfl (ok_indexN _ Try.underlying72 size71 rfl rfl (rfl) (by omega)) ?_
              refine RunK.step rfl rfl (ok_indexA _ Try.underlying71 info5 rfl rfl (rfl) (by omega)) ?_
              refine RunK.step rfl rfl (ok_loadV (s := 1000002) (by decide) Try.underlying5 rfl rfl rfl (rowV_get (by omega))) ?_; refine RunK.as (.int .u8 ((keyS s (q + 1) (4 * c + r) : Nat) : Int)) (v8 (congrArg s (by omega))) ?_
              refine RunK.step rfl rfl (ok_bin rfl rfl rfl) ?_; refine RunK.as (.int .u8 ((rst s f (q + 1) (4 * c + r) : Nat) : Int)) (by rw [show IntKind.u8.bits = 8 from rfl, xor_u8N (aesV_by _ _ _) (keyS_by hs _ _), rst_step s f hq10]) ?_
              refine RunK.step rfl rfl (ok_indexN _ Try.underlying85 size71 rfl rfl (rfl) (by omega)) ?_
              refine RunK.step rfl rfl (ok_indexA _ Try.underlying71 info5 rfl rfl (rfl) (by omega)) ?_
              refine RunK.nil ?_
              refine ⟨_, eff_storeS (n := 182) (s := 1000006) info5 rfl rfl rfl hBb6 rfl (by simp only [rowV_length]; omega) (LeftS.cons (t := 2) rfl (Surv.v _) (LeftS.cons (t := 4) rfl (Surv.v _) (LeftS.cons (t := 5) rfl (Surv.v _) (LeftS.cons (t := 6) rfl (Surv.v _) (LeftS.cons (t := 8) rfl (Surv.v _) (LeftS.cons (t := 9) rfl (Surv.v _) (LeftS.cons (t := 12) rfl (Surv.v _) (LeftS.cons (t := 17) rfl (Surv.v _) (LeftS.cons (t := 147) rfl (Surv.v _) (LeftS.cons (t := 150) rfl (Surv.v _) (LeftS.cons (t := 151) rfl (Surv.v _) (LeftS.cons (t := 152) rfl (Surv.v _) (LeftS.cons (t := 153) rfl (Surv.v _) (LeftS.cons (t := 154) rfl (Surv.v _) (LeftS.cons (t := 155) rfl (Surv.v _) (LeftS.cons (t := 156) rfl (Surv.v _) (LeftS.cons (t := 157) rfl (Surv.v _) (LeftS.cons (t := 158) rfl (Surv.v _) (LeftS.cons (t := 159) rfl (Surv.v _) (LeftS.cons (t := 160) rfl (Surv.v _) (LeftS.cons (t := 161) rfl (Surv.v _) (LeftS.cons (t := 162) rfl (Surv.v _) (LeftS.cons (t := 163) rfl (Surv.v _) (LeftS.cons (t := 164) rfl (Surv.v _) (LeftS.cons (t := 165) rfl (Surv.v _) (LeftS.cons (t := 166) rfl (Surv.v _) (LeftS.cons (t := 167) rfl (Surv.v _) (LeftS.cons (t := 1000002) rfl (Surv.blkT (by decide)) (LeftS.cons (t := 1000004) rfl (Surv.blkT (by decide)) (LeftS.cons (t := 1000005) rfl (Surv.blkT (by decide)) (LeftS.cons (t := 1000009) rfl (Surv.blk (by omega)) LeftS.nil))))))))))))))))))))))))))))))), ?_⟩
              refine RunTK.last ?_
              refine RunK.nil ?_
              refine End.sub (Sub.cons (t := 2) rfl (Sub.cons (t := 4) rfl (Sub.cons (t := 5) rfl (Sub.cons (t := 6) rfl (Sub.cons (t := 8) rfl (Sub.cons (t := 9) rfl (Sub.cons (t := 12) rfl (Sub.cons (t := 17) rfl (Sub.cons (t := 1000002) rfl (Sub.cons (t := 1000004) rfl (Sub.cons (t := 1000005) rfl (Sub.cons (t := 1000006) rfl (Sub.cons (t := 1000009) rfl Sub.nil))))))))))))) ?_
              refine End.normal_block ?_
              refine End.normal_then (End.code ?_)
              refine A.reg (by kernel_rfl) (by kernel_rfl) (.inl rfl) ?_
              refine RunTK.last ?_
              refine RunK.step rfl rfl (ok_move rfl) ?_
              refine RunK.step rfl rfl (ok_bin rfl rfl rfl) ?_; refine RunK.as (.int .i64 ((r + 1 : Nat) : Int)) (by rw [wrap_i64 (by omega) (by omega)]; exact congrArg (Value.int .i64) (by omega)) ?_
              refine RunK.step rfl rfl (ok_assign rfl) ?_
              refine RunK.nil ?_
              refine End.sub (Sub.cons (t := 2) rfl (Sub.cons (t := 4) rfl (Sub.cons (t := 5) rfl (Sub.cons (t := 6) rfl (Sub.cons (t := 8) rfl (Sub.cons (t := 9) rfl (Sub.cons (t := 12) rfl (Sub.cons (t := 17) rfl (Sub.cons (t := 1000002) rfl (Sub.cons (t := 1000004) rfl (Sub.cons (t := 1000005) rfl (Sub.cons (t := 1000006) rfl (Sub.cons (t := 1000009) rfl Sub.nil))))))))))))) ?_
              refine End.normal_then ?_
              refine End.again (r + 1) ?_ ?_ ?_
              · show _ ≤ _; omega
              · show _ - _ < _ - _; omega
              · exact (Sub.cons (t := 2) rfl (Sub.cons (t := 4) rfl (Sub.cons (t := 5) rfl (Sub.cons (t := 6) rfl (Sub.cons (t := 1000002) rfl (Sub.cons (t := 1000004) rfl (Sub.cons (t := 1000005) rfl (Sub.cons (t := 8) rfl (Sub.cons (t := 12) rfl (Sub.cons (t := 17) rfl (Sub.eq (t := 1000006) _ rfl (congrArg _ (aesM2_set hr4 hc4 (by omega) rfl)) (Sub.cons (t := 9) rfl (Sub.cons (t := 1000009) rfl Sub.nil)))))))))))))
            · obtain rfl : r = 4 := by simp at hc147; omega
              refine A.exit ?_
              refine End.exit_then ?_
              refine End.exit_then ?_
              refine End.exit_here ?_
              refine End.normal_block ?_
              refine End.normal_then (End.code ?_)
              refine A.reg (by kernel_rfl) (by kernel_rfl) (.inl rfl) ?_
              refine RunTK.last ?_
              refine RunK.step rfl rfl (ok_move rfl) ?_
              refine RunK.step rfl rfl (ok_bin rfl rfl rfl) ?_; refine RunK.as (.int .i64 ((c + 1 : Nat) : Int)) (by rw [wrap_i64 (by omega) (by omega)]; exact congrArg (Value.int .i64) (by omega)) ?_
              refine RunK.step rfl rfl (ok_assign rfl) ?_
              refine RunK.nil ?_
              refine End.sub (Sub.cons (t := 2) rfl (Sub.cons (t := 4) rfl (Sub.cons (t := 5) rfl (Sub.cons (t := 6) rfl (Sub.cons (t := 8) rfl (Sub.cons (t := 9) rfl (Sub.cons (t := 12) rfl (Sub.cons (t := 1000002) rfl (Sub.cons (t := 1000004) rfl (Sub.cons (t := 1000005) rfl (Sub.cons (t := 1000006) rfl (Sub.cons (t := 1000009) rfl Sub.nil)))))))))))) ?_
              refine End.normal_then ?_
              refine End.again (c + 1) ?_ ?_ ?_
              · show _ ≤ _; omega
              · show _ - _ < _ - _; omega
              · exact (Sub.cons (t := 2) rfl (Sub.cons (t := 4) rfl (Sub.cons (t := 5) rfl (Sub.cons (t := 6) rfl (Sub.cons (t := 1000002) rfl (Sub.cons (t := 1000004) rfl (Sub.cons (t := 1000005) rfl (Sub.cons (t := 8) rfl (Sub.cons (t := 12) rfl (Sub.eq (t := 1000006) _ rfl (congrArg _ (aesM2_next _ _ c)) (Sub.cons (t := 9) rfl (Sub.cons (t := 1000009) rfl Sub.nil))))))))))))
        · obtain rfl : c = 4 := by simp at hc69; omega
          refine A.exit ?_
          refine End.exit_then ?_
          refine End.exit_then ?_
          refine End.exit_here ?_
          refine End.normal_block ?_
          refine End.normal_then (End.code ?_)
          refine A.reg (by kernel_rfl) (by kernel_rfl) (.inl rfl) ?_
          refine RunTK.last ?_
          refine RunK.step rfl rfl (ok_move rfl) ?_
          refine RunK.step rfl rfl (ok_bin rfl rfl rfl) ?_; refine RunK.as (.int .i64 ((q + 1 + 1 : Nat) : Int)) (by rw [wrap_i64 (by omega) (by omega)]; exact congrArg (Value.int .i64) (by omega)) ?_
          refine RunK.step rfl rfl (ok_assign rfl) ?_
          refine RunK.nil ?_
          refine End.sub (Sub.cons (t := 2) rfl (Sub.cons (t := 4) rfl (Sub.cons (t := 5) rfl (Sub.cons (t := 6) rfl (Sub.cons (t := 8) rfl (Sub.cons (t := 1000002) rfl (Sub.cons (t := 1000004) rfl (Sub.cons (t := 1000005) rfl (Sub.cons (t := 1000006) rfl (Sub.cons (t := 1000009) rfl Sub.nil)))))))))) ?_
          refine End.normal_then ?_
          refine End.again (q + 1) ?_ ?_ ?_
          · show _ ≤ _; omega
          · show _ - _ < _ - _; omega
          · exact (Sub.cons (t := 2) rfl (Sub.cons (t := 4) rfl (Sub.cons (t := 5) rfl (Sub.cons (t := 6) rfl (Sub.cons (t := 1000002) rfl (Sub.cons (t := 1000004) rfl (Sub.cons (t := 1000005) rfl (Sub.cons (t := 8) rfl (Sub.eq (t := 1000006) _ rfl (congrArg _ (aesM2_full _ _)) Sub.nil)))))))))
    · obtain rfl : q = 10 := by simp at hc43; omega
      refine A.exit ?_
      refine End.exit_then ?_
      refine End.exit_then ?_
      refine End.exit_here ?_
      refine End.normal_then (End.code ?_)
      refine A.regs (by kernel_rfl) (by kernel_rfl) (.inl rfl) ?_
      refine RunTK.new 0 (by decide) rfl (.inl rfl) ?_
      refine RunK.nil ?_
      refine ⟨_, _, eff_alloc (n := 182) (d := 18) (k := 1000018) zero22 (by decide), fun b18 hb18 => ?_⟩
      have hBb18 := hb18.1
      have hlt_b2_b18 : b2 < b18 := hb18.2 1000002 _ _ _ rfl
      have hlt_b4_b18 : b4 < b18 := hb18.2 1000004 _ _ _ rfl
      have hlt_b5_b18 : b5 < b18 := hb18.2 1000005 _ _ _ rfl
      have hlt_b6_b18 : b6 < b18 := hb18.2 1000006 _ _ _ rfl
      refine RunTK.last ?_
      refine RunK.nil ?_
      refine A.sub (Sub.cons (t := 4) rfl (Sub.cons (t := 6) rfl (Sub.cons (t := 18) rfl (Sub.cons (t := 1000002) rfl (Sub.cons (t := 1000004) rfl (Sub.cons (t := 1000005) rfl (Sub.cons (t := 1000006) rfl (Sub.cons (t := 1000018) rfl Sub.nil)))))))) ?_
      refine A.seq ?_
      refine A.regs (by kernel_rfl) (by kernel_rfl) (.inl rfl) ?_
      refine RunTK.last ?_
      refine RunK.step rfl rfl (ok_assign rfl) ?_
      refine RunK.nil ?_
      refine A.sub (Sub.cons (t := 4) rfl (Sub.cons (t := 6) rfl (Sub.cons (t := 18) rfl (Sub.cons (t := 19) rfl (Sub.cons (t := 1000002) rfl (Sub.cons (t := 1000004) rfl (Sub.cons (t := 1000005) rfl (Sub.cons (t := 1000006) rfl (Sub.cons (t := 1000018) rfl Sub.nil))))))))) ?_
      refine A.block ?_
      refine A.loop (ι := Nat) (fun i => i ≤ 16) (fun i => [(4, .v (.pointer (some ⟨b4, 0, none⟩))), (6, .v (.pointer (some ⟨b6, 0, none⟩))), (18, .v (.pointer (some ⟨b18, 0, none⟩))), (19, .v (.int .i64 ((i : Nat) : Int))), (1000004, blk b4 22 (List.replicate 16 (.int .u8 0))), (1000006, blk b6 85 (rowV 16 (aesT (enc s f)))), (1000018, blk b18 22 (rowV 16 (cutF (enc s f) i)))]) (fun i => 16 - i) 0 ?_ ?_ ?_
      · exact Nat.zero_le _
      · exact (Sub.cons (t := 4) rfl (Sub.cons (t := 6) rfl (Sub.cons (t := 18) rfl (Sub.cons (t := 19) rfl (Sub.cons (t := 1000004) rfl (Sub.cons (t := 1000006) rfl (Sub.eq (t := 1000018) _ rfl (congrArg _ (cutF_zero 16 _)) Sub.nil)))))))
      intro i hi'
      refine A.seq ?_
      refine A.regs (by kernel_rfl) (by kernel_rfl) (.inl rfl) ?_
      refine RunTK.last ?_
      refine RunK.step rfl rfl (ok_move rfl) ?_
      refine RunK.step rfl rfl (ok_bin rfl rfl rfl) ?_
      refine RunK.nil ?_
      refine A.sub (Sub.cons (t := 4) rfl (Sub.cons (t := 6) rfl (Sub.cons (t := 18) rfl (Sub.cons (t := 19) rfl (Sub.cons (t := 169) rfl (Sub.cons (t := 1000004) rfl (Sub.cons (t := 1000006) rfl (Sub.cons (t := 1000018) rfl Sub.nil)))))))) ?_
      refine A.cond rfl (fun hc169 => ?_) (fun hc169 => ?_)
      · have hi : i < 16 := by simp at hc169; omega
        refine A.skip ?_
        refine End.normal_then (End.code ?_)
        refine A.seq ?_
        refine A.block ?_
        refine A.reg (by kernel_rfl) (by kernel_rfl) (.inl rfl) ?_
        refine RunTK.eff 9 (by decide) rfl (.inl rfl) ?_
        refine RunK.step rfl rfl (ok_move rfl) ?_
        refine RunK.step rfl rfl (ok_move rfl) ?_
        refine RunK.step rfl rfl (ok_rem rfl rfl (by decide)) ?_; refine RunK.as (.int .i64 ((i % 4 : Nat) : Int)) (by rw [tmod_lit _ (by decide)]; rfl) ?_
        refine RunK.step rfl rfl (ok_move rfl) ?_
        refine RunK.step rfl rfl (ok_div rfl rfl (by decide)) ?_; refine RunK.as (.int .i64 ((i / 4 : Nat) : Int)) (by rw [tdiv_lit _ (by decide), show Int.toNat 4 = 4 from rfl, wrapN_i64 (by omega)]) ?_
        refine RunK.step rfl rfl (ok_indexN _ Try.underlying85 size71 rfl rfl (rfl) (by omega)) ?_
        refine RunK.step rfl rfl (ok_indexA _ Try.underlying71 info5 rfl rfl (rfl) (by omega)) ?_
        refine RunK.step rfl rfl (ok_loadV (s := 1000006) (by decide) Try.underlying5 rfl rfl rfl (rowV_get (by omega))) ?_; refine RunK.as (.int .u8 ((enc s f i : Nat) : Int)) (v8 (congrArg (enc s f) (by omega))) ?_
        refine RunK.step rfl rfl (ok_index0 _ Try.underlying22 info5 rfl rfl (rfl) (by omega)) ?_
        refine RunK.nil ?_
        refine ⟨_, eff_storeS (n := 182) (s := 1000018) info5 rfl rfl rfl hBb18 rfl (by simp only [rowV_length]; omega) (LeftS.cons (t := 4) rfl (Surv.v _) (LeftS.cons (t := 6) rfl (Surv.v _) (LeftS.cons (t := 18) rfl (Surv.v _) (LeftS.cons (t := 19) rfl (Surv.v _) (LeftS.cons (t := 169) rfl (Surv.v _) (LeftS.cons (t := 172) rfl (Surv.v _) (LeftS.cons (t := 173) rfl (Surv.v _) (LeftS.cons (t := 174) rfl (Surv.v _) (LeftS.cons (t := 175) rfl (Surv.v _) (LeftS.cons (t := 176) rfl (Surv.v _) (LeftS.cons (t := 177) rfl (Surv.v _) (LeftS.cons (t := 178) rfl (Surv.v _) (LeftS.cons (t := 179) rfl (Surv.v _) (LeftS.cons (t := 180) rfl (Surv.v _) (LeftS.cons (t := 1000004) rfl (Surv.blk (by omega)) (LeftS.cons (t := 1000006) rfl (Surv.blkT (by decide)) LeftS.nil)))))))))))))))), ?_⟩
        refine RunTK.last ?_
        refine RunK.nil ?_
        refine End.sub (Sub.cons (t := 4) rfl (Sub.cons (t := 6) rfl (Sub.cons (t := 18) rfl (Sub.cons (t := 19) rfl (Sub.cons (t := 1000004) rfl (Sub.cons (t := 1000006) rfl (Sub.cons (t := 1000018) rfl Sub.nil))))))) ?_
        refine End.normal_block ?_
        refine End.normal_then (End.code ?_)
        refine A.reg (by kernel_rfl) (by kernel_rfl) (.inl rfl) ?_
        refine RunTK.last ?_
        refine RunK.step rfl rfl (ok_move rfl) ?_
        refine RunK.step rfl rfl (ok_bin rfl rfl rfl) ?_; refine RunK.as (.int .i64 ((i + 1 : Nat) : Int)) (by rw [wrap_i64 (by omega) (by omega)]; exact congrArg (Value.int .i64) (by omega)) ?_
        refine RunK.step rfl rfl (ok_assign rfl) ?_
        refine RunK.nil ?_
        refine End.sub (Sub.cons (t := 4) rfl (Sub.cons (t := 6) rfl (Sub.cons (t := 18) rfl (Sub.cons (t := 19) rfl (Sub.cons (t := 1000004) rfl (Sub.cons (t := 1000006) rfl (Sub.cons (t := 1000018) rfl Sub.nil))))))) ?_
        refine End.normal_then ?_
        refine End.again (i + 1) ?_ ?_ ?_
        · show _ ≤ _; omega
        · show _ - _ < _ - _; omega
        · exact (Sub.cons (t := 4) rfl (Sub.cons (t := 6) rfl (Sub.cons (t := 18) rfl (Sub.cons (t := 19) rfl (Sub.cons (t := 1000004) rfl (Sub.cons (t := 1000006) rfl (Sub.eq (t := 1000018) _ rfl (congrArg _ (cutF_set rfl rfl)) Sub.nil)))))))
      · obtain rfl : i = 16 := by simp at hc169; omega
        refine A.exit ?_
        refine End.exit_then ?_
        refine End.exit_then ?_
        refine End.exit_here ?_
        refine End.normal_then (End.code ?_)
        refine A.regs (by kernel_rfl) (by kernel_rfl) (.inl rfl) ?_
        refine RunTK.eff 1 (by decide) rfl (.inl rfl) ?_
        refine RunK.step rfl rfl (ok_loadA (s := 1000018) (by decide) Try.underlying22 rfl (size22.of (rowV_length _ _)) rfl rfl) ?_
        refine RunK.nil ?_
        refine ⟨_, eff_storeA (n := 182) (s := 1000004) (size22.of (rowV_length _ _)) rfl rfl (rowV_one _ _) hBb4 rfl (by first | (simp only [rowV_length]; done) | simp only [rowV_length, List.length_replicate]) (LeftS.cons (t := 4) rfl (Surv.v _) (LeftS.cons (t := 6) rfl (Surv.v _) (LeftS.cons (t := 18) rfl (Surv.v _) (LeftS.cons (t := 19) rfl (Surv.v _) (LeftS.cons (t := 169) rfl (Surv.v _) (LeftS.cons (t := 181) rfl (Surv.v _) (LeftS.cons (t := 1000006) rfl (Surv.blkT (by decide)) (LeftS.cons (t := 1000018) rfl (Surv.blk (by omega)) LeftS.nil)))))))), ?_⟩
        refine RunTK.last ?_
        refine RunK.nil ?_
        refine A.sub (Sub.cons (t := 4) rfl (Sub.cons (t := 1000004) rfl (Sub.cons (t := 1000006) rfl (Sub.cons (t := 1000018) rfl Sub.nil)))) ?_
        refine A.ret ?_
        exact End.cell1 (s := 1000004) rfl Try.underlying22 rfl (size22.of (rowV_length _ _)) rfl rfl (Le.v (congrArg aggV (cutF_full 16 _)))
theorem refEncrypt_fn (k f : Nat → Nat) (hk : By k) (hf : By f) : Fn Try.prog 23 [.v (aggV (rowV 16 (k))), .v (aggV (rowV 16 (f)))] (.v (aggV (rowV 16 (enc (expand k) f)))) := by
  refine Fn.of Try.func23 rfl (by kernel_rfl) Try.ntmps23 (by simp) (fun w => [(0, .v (aggV (rowV 16 (k)))), (1, .v (aggV (rowV 16 (f))))]) (fun w => (Start.v rfl (Start.v rfl Start.nil))) fun w₀ => ?_
  refine A.regs (by kernel_rfl) (by kernel_rfl) (.inl rfl) ?_
  refine RunTK.new 0 (by decide) rfl (.inl rfl) ?_
  refine RunK.nil ?_
  refine ⟨_, _, eff_box (n := 9) (d := 2) (k := 1000002) rfl (by decide), fun b2 hb2 => ?_⟩
  have hBb2 := hb2.1
  refine RunTK.new 1 (by decide) rfl (.inl rfl) ?_
  refine RunK.nil ?_
  refine ⟨_, _, eff_box (n := 9) (d := 3) (k := 1000003) rfl (by decide), fun b3 hb3 => ?_⟩
  have hBb3 := hb3.1
  have hlt_b2_b3 : b2 < b3 := hb3.2 1000002 _ _ _ rfl
  refine RunTK.new 2 (by decide) rfl (.inl rfl) ?_
  refine RunK.nil ?_
  refine ⟨_, _, eff_alloc (n := 9) (d := 4) (k := 1000004) zero22 (by decide), fun b4 hb4 => ?_⟩
  have hBb4 := hb4.1
  have hlt_b2_b4 : b2 < b4 := hb4.2 1000002 _ _ _ rfl
  have hlt_b3_b4 : b3 < b4 := hb4.2 1000003 _ _ _ rfl
  refine RunTK.last ?_
  refine RunK.nil ?_
  refine A.sub (Sub.cons (t := 2) rfl (Sub.cons (t := 3) rfl (Sub.cons (t := 4) rfl (Sub.cons (t := 1000002) rfl (Sub.cons (t := 1000003) rfl (Sub.cons (t := 1000004) rfl Sub.nil)))))) ?_
  refine A.regs (by kernel_rfl) (by kernel_rfl) (.inr (by kernel_rfl)) ?_
  refine RunTK.eff 4 (by decide) rfl (.inr (by kernel_rfl)) ?_
  refine RunK.step rfl rfl (ok_loadA (s := 1000002) (by decide) Try.underlying22 rfl (size22.of (rowV_length _ _)) rfl rfl) ?_
  refine RunK.step rfl rfl (ok_call (refExpand_fn k hk) (Args.cons rfl (by first | exact Le.refl _ | exact Le.old _ _ | exact le_byt _ _ | exact (Le.old _ _).trans (le_byt _ _) | exact le_lst _ _ | exact (Le.old _ _).trans (le_lst _ _) | exact (Le.old _ _).trans (Le.old _ _) | exact (Le.old _ _).trans ((Le.old _ _).trans (le_byt _ _)) | exact byt_nil_le | exact lst_nil_le | exact bytes_nil_le | exact list_nil_le) Args.nil)) ?_
  refine RunK.step rfl rfl (ok_loadA (s := 1000003) (by decide) Try.underlying22 rfl (size22.of (rowV_length _ _)) rfl rfl) ?_
  refine RunK.step rfl rfl (ok_call (refRounds_fn (expand k) f (expand_lt hk) hf) (Args.cons rfl (by first | exact Le.refl _ | exact Le.old _ _ | exact le_byt _ _ | exact (Le.old _ _).trans (le_byt _ _) | exact le_lst _ _ | exact (Le.old _ _).trans (le_lst _ _) | exact (Le.old _ _).trans (Le.old _ _) | exact (Le.old _ _).trans ((Le.old _ _).trans (le_byt _ _)) | exact byt_nil_le | exact lst_nil_le | exact bytes_nil_le | exact list_nil_le) (Args.cons rfl (by first | exact Le.refl _ | exact Le.old _ _ | exact le_byt _ _ | exact (Le.old _ _).trans (le_byt _ _) | exact le_lst _ _ | exact (Le.old _ _).trans (le_lst _ _) | exact (Le.old _ _).trans (Le.old _ _) | exact (Le.old _ _).trans ((Le.old _ _).trans (le_byt _ _)) | exact byt_nil_le | exact lst_nil_le | exact bytes_nil_le | exact list_nil_le) Args.nil))) ?_
  refine RunK.nil ?_
  refine ⟨_, eff_storeA (n := 9) (s := 1000004) (size22.of (rowV_length _ _)) rfl rfl (rowV_one _ _) hBb4 rfl (by first | (simp only [rowV_length]; done) | simp only [rowV_length, List.length_replicate]) (LeftS.cons (t := 2) rfl (Surv.v _) (LeftS.cons (t := 3) rfl (Surv.v _) (LeftS.cons (t := 4) rfl (Surv.v _) (LeftS.cons (t := 5) rfl (Surv.v _) (LeftS.cons (t := 6) rfl (Surv.v _) (LeftS.cons (t := 7) rfl (Surv.v _) (LeftS.cons (t := 8) rfl (Surv.v _) (LeftS.cons (t := 1000002) rfl (Surv.blk (by omega)) (LeftS.cons (t := 1000003) rfl (Surv.blk (by omega)) LeftS.nil))))))))), ?_⟩
  refine RunTK.last ?_
  refine RunK.nil ?_
  refine A.sub (Sub.cons (t := 4) rfl (Sub.cons (t := 1000002) rfl (Sub.cons (t := 1000003) rfl (Sub.cons (t := 1000004) rfl Sub.nil)))) ?_
  refine A.ret ?_
  exact End.cell1 (s := 1000004) rfl Try.underlying22 rfl (size22.of (rowV_length _ _)) rfl rfl (Le.refl _)
end Go.Proofs.Ythggljahgnjcbaa
