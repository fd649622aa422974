/-
  The definition's package of layer 2, by facts: rotr, Constants, Compress.
-/
import Derived.Test.YtidlikaiileggaaDoorSha
import Derived.Test.YtidlikaiileggaaDoorC01b
namespace Go.Proofs.YtidlikaiileggaaDoor
open Go Go.RowKit
set_option linter.unusedVariables false

theorem info55 : InfoIs Tryd.prog 55 (.int .u32 0) 4 := by unfold InfoIs; kernel_rfl
theorem zero64 : ZeroIs Tryd.prog 64 (List.replicate 64 (.int .u32 0)) := by unfold ZeroIs; kernel_rfl
theorem size64 : SizeIs Tryd.prog 64 64 := by unfold SizeIs; kernel_rfl
theorem zero56 : ZeroIs Tryd.prog 56 (List.replicate 8 (.int .u32 0)) := by unfold ZeroIs; kernel_rfl
theorem size56 : SizeIs Tryd.prog 56 8 := by unfold SizeIs; kernel_rfl
theorem K64_lit : K64.length = 64 := by decide
theorem refrotr_fn (x : UInt32) (n : Nat) (hn0 : 0 < n) (hn : n < 32) : Fn Tryd.prog 41 [.v (u32V x), .v (.int .i64 (n : Int))] (.v (u32V (rotr32 x n))) := by
  have hx := u32_lt x
  refine Fn.of Tryd.func41 rfl (by kernel_rfl) Tryd.ntmps41 (by simp) (fun w => [(0, .v (u32V x)), (1, .v (.int .i64 (n : Int)))]) (fun w => (Start.v rfl (Start.v rfl Start.nil))) fun w₀ => ?_
  refine A.regs (by kernel_rfl) (by kernel_rfl) (.inl rfl) ?_
  refine RunTK.last ?_
  refine RunK.step rfl rfl (ok_assign rfl) ?_
  refine RunK.nil ?_
  refine A.sub (Sub.cons (t := 0) rfl (Sub.cons (t := 1) rfl Sub.nil)) ?_
  refine A.regs (by kernel_rfl) (by kernel_rfl) (.inr (by kernel_rfl)) ?_
  refine RunTK.last ?_
  refine RunK.step rfl rfl (ok_move rfl) ?_
  refine RunK.step rfl rfl (ok_move rfl) ?_
  refine RunK.step rfl rfl (ok_shr rfl rfl (Int.natCast_nonneg n)) ?_; refine RunK.as (.int .u32 ((x.toNat / 2 ^ n : Nat) : Int)) (by rw [Int.toNat_natCast, show min n IntKind.u32.bits = n from Nat.min_eq_left (by show n ≤ 32; omega), shr_nat]) ?_
  refine RunK.step rfl rfl (ok_move rfl) ?_
  refine RunK.step rfl rfl (ok_move rfl) ?_
  refine RunK.step rfl rfl (ok_bin rfl rfl rfl) ?_; refine RunK.as (.int .i64 ((32 - n : Nat) : Int)) (by rw [wrap_i64 (by omega) (by omega)]; congr 1; omega) ?_
  refine RunK.step rfl rfl (ok_shl rfl rfl (Int.natCast_nonneg _)) ?_; refine RunK.as (.int .u32 ((x.toNat * 2 ^ (32 - n) % 4294967296 : Nat) : Int)) (by rw [Int.toNat_natCast, show min (32 - n) IntKind.u32.bits = 32 - n from Nat.min_eq_left (by show 32 - n ≤ 32; omega), ← wrap_u32_nat]; simp) ?_
  refine RunK.step rfl rfl (ok_bin rfl rfl rfl) ?_; refine RunK.as (u32V (rotr32 x n)) (by
    show Value.int .u32 (IntKind.u32.wrap ((BitVec.ofInt 32 _ ||| BitVec.ofInt 32 _).toNat : Int)) = _
    rw [or_u32_nat (Nat.lt_of_le_of_lt (Nat.div_le_self _ _) hx) (Nat.mod_lt _ (by decide)), rotr32_val, ← rotB_go hx (by omega), Nat.or_comm, show 32 - (32 - n) = n from by omega]) ?_
  refine RunK.step rfl rfl (ok_assign rfl) ?_
  refine RunK.nil ?_
  refine A.sub (Sub.cons (t := 4) rfl Sub.nil) ?_
  refine A.ret ?_
  exact End.ret1 rfl rfl (by first | exact Le.refl _ | exact Le.old _ _)
set_option maxHeartbeats 1000000 in
theorem refConstants_fn  : Fn Tryd.prog 27 [] (tup [.v (aggV (K64.map u32V)), .v (aggV (H8.list.map u32V))]) := by
  refine Fn.of Tryd.func27 rfl (by kernel_rfl) Tryd.ntmps27 (by simp) (fun w => []) (fun w => Start.nil) fun w₀ => ?_
  refine A.regs (by kernel_rfl) (by kernel_rfl) (.inl rfl) ?_
  refine RunTK.new 0 (by decide) rfl (.inl rfl) ?_
  refine RunK.nil ?_
  refine ⟨_, _, eff_alloc (n := 4) (d := 0) (k := 1000000) zero64 (by decide), fun b0 hb0 => ?_⟩
  have hBb0 := hb0.1
  refine RunTK.new 1 (by decide) rfl (.inl rfl) ?_
  refine RunK.nil ?_
  refine ⟨_, _, eff_alloc (n := 4) (d := 1) (k := 1000001) zero56 (by decide), fun b1 hb1 => ?_⟩
  have hBb1 := hb1.1
  have hlt_b0_b1 : b0 < b1 := hb1.2 1000000 _ _ _ rfl
  refine RunTK.last ?_
  refine RunK.nil ?_
  refine A.sub (Sub.cons (t := 0) rfl (Sub.cons (t := 1) rfl (Sub.cons (t := 1000000) rfl (Sub.cons (t := 1000001) rfl Sub.nil)))) ?_
  refine A.regs (by kernel_rfl) (by kernel_rfl) (.inl rfl) ?_
  refine RunTK.eff 2 (by decide) rfl (.inl rfl) ?_
  refine RunK.step rfl rfl (ok_litA [_, _, _, _, _, _, _, _, _, _, _, _, _, _, _, _, _, _, _, _, _, _, _, _, _, _, _, _, _, _, _, _, _, _, _, _, _, _, _, _, _, _, _, _, _, _, _, _, _, _, _, _, _, _, _, _, _, _, _, _, _, _, _, _] Tryd.underlying64 info55 zero64 rfl ⟨rfl, rfl, rfl, rfl, rfl, rfl, rfl, rfl, rfl, rfl, rfl, rfl, rfl, rfl, rfl, rfl, rfl, rfl, rfl, rfl, rfl, rfl, rfl, rfl, rfl, rfl, rfl, rfl, rfl, rfl, rfl, rfl, rfl, rfl, rfl, rfl, rfl, rfl, rfl, rfl, rfl, rfl, rfl, rfl, rfl, rfl, rfl, rfl, rfl, rfl, rfl, rfl, rfl, rfl, rfl, rfl, rfl, rfl, rfl, rfl, rfl, rfl, rfl, rfl, rfl, rfl, rfl, rfl, rfl, rfl, rfl, rfl, rfl, rfl, rfl, rfl, rfl, rfl, rfl, rfl, rfl, rfl, rfl, rfl, rfl, rfl, rfl, rfl, rfl, rfl, rfl, rfl, rfl, rfl, rfl, rfl, rfl, rfl, rfl, rfl, rfl, rfl, rfl, rfl, rfl, rfl, rfl, rfl, rfl, rfl, rfl, rfl, rfl, rfl, rfl, rfl, rfl, rfl, rfl, rfl, rfl, rfl, rfl, rfl, rfl, rfl, rfl, rfl, trivial⟩ rfl) ?_; refine RunK.as (aggV (K64.map u32V)) (by kernel_rfl) ?_
  refine RunK.step rfl rfl (ok_litA [_, _, _, _, _, _, _, _] Tryd.underlying56 info55 zero56 rfl ⟨rfl, rfl, rfl, rfl, rfl, rfl, rfl, rfl, rfl, rfl, rfl, rfl, rfl, rfl, rfl, rfl, trivial⟩ rfl) ?_; refine RunK.as (aggV (H8.list.map u32V)) (by kernel_rfl) ?_
  refine RunK.nil ?_
  refine ⟨_, eff_storeA (n := 4) (s := 1000000) (size64.of (rfl)) rfl rfl (rfl) hBb0 rfl (rfl) (LeftS.cons (t := 0) rfl (Surv.v _) (LeftS.cons (t := 1) rfl (Surv.v _) (LeftS.cons (t := 2) rfl (Surv.v _) (LeftS.cons (t := 3) rfl (Surv.v _) (LeftS.cons (t := 1000001) rfl (Surv.blkT (by decide)) LeftS.nil))))), ?_⟩
  refine RunTK.eff 3 (by decide) rfl (.inl rfl) ?_
  refine RunK.nil ?_
  refine ⟨_, eff_storeA (n := 4) (s := 1000001) (size56.of (rfl)) rfl rfl (rfl) hBb1 rfl (rfl) (LeftS.cons (t := 0) rfl (Surv.v _) (LeftS.cons (t := 1) rfl (Surv.v _) (LeftS.cons (t := 2) rfl (Surv.v _) (LeftS.cons (t := 3) rfl (Surv.v _) (LeftS.cons (t := 1000000) rfl (Surv.blkT (by decide)) LeftS.nil))))), ?_⟩
  refine RunTK.last ?_
  refine RunK.nil ?_
  refine A.sub (Sub.cons (t := 0) rfl (Sub.cons (t := 1) rfl (Sub.cons (t := 1000000) rfl (Sub.cons (t := 1000001) rfl Sub.nil)))) ?_
  refine A.ret ?_
  exact End.cell2 (s := 1000000) (s' := 1000001) rfl Tryd.underlying64 rfl (size64.of (rfl)) rfl rfl (Le.refl _) Tryd.underlying56 rfl (size56.of (rfl)) rfl rfl (Le.refl _)
end Go.Proofs.YtidlikaiileggaaDoor
