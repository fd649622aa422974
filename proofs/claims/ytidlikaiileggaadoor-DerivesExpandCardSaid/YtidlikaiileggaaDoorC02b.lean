/-
  The definition's package of layer 2, by facts: Compress.
-/
import Derived.Test.YtidlikaiileggaaDoorC02a
namespace Go.Proofs.YtidlikaiileggaaDoor
open Go Go.RowKit
set_option linter.unusedVariables false

set_option maxHeartbeats 400000 in
theorem refCompress_fn (h : R8) (l : List UInt8) (hl : l.length = 64) : Fn Tryd.prog 28 [.v (aggV (h.list.map u32V)), byt l] (.v (aggV ((compress h l).list.map u32V))) := by
  refine Fn.of Tryd.func28 rfl (by kernel_rfl) Tryd.ntmps28 (by simp) (fun w => [(0, .v (aggV (h.list.map u32V))), (1, old w.heap.size (byt l))]) (fun w => (Start.v rfl (Start.old rfl Start.nil))) fun w₀ => ?_
  refine A.regs (by kernel_rfl) (by kernel_rfl) (.inl rfl) ?_
  refine RunTK.new 0 (by decide) rfl (.inl rfl) ?_
  refine RunK.nil ?_
  refine ⟨_, _, eff_box (n := 202) (d := 2) (k := 1000002) rfl (by decide), fun b2 hb2 => ?_⟩
  have hBb2 := hb2.1
  refine RunTK.new 1 (by decide) rfl (.inl rfl) ?_
  refine RunK.nil ?_
  refine ⟨_, _, eff_alloc (n := 202) (d := 4) (k := 1000004) zero56 (by decide), fun b4 hb4 => ?_⟩
  have hBb4 := hb4.1
  have hlt_b2_b4 : b2 < b4 := hb4.2 1000002 _ _ _ rfl
  refine RunTK.last ?_
  refine RunK.nil ?_
  refine A.sub (Sub.cons (t := 1) rfl (Sub.cons (t := 2) rfl (Sub.cons (t := 4) rfl (Sub.cons (t := 1000002) rfl (Sub.cons (t := 1000004) rfl Sub.nil))))) ?_
  refine A.regs (by kernel_rfl) (by kernel_rfl) (.inl rfl) ?_
  refine RunTK.new 4 (by decide) rfl (.inl rfl) ?_
  refine RunK.step rfl rfl (ok_call refConstants_fn Args.nil) ?_
  refine RunK.step rfl rfl (ok_move rfl) ?_
  refine RunK.step rfl rfl (ok_extract rfl rfl) ?_
  refine RunK.step rfl rfl (ok_extract rfl rfl) ?_
  refine RunK.nil ?_
  refine ⟨_, _, eff_alloc (n := 202) (d := 5) (k := 1000005) zero64 (by decide), fun b5 hb5 => ?_⟩
  have hBb5 := hb5.1
  have hlt_b2_b5 : b2 < b5 := hb5.2 1000002 _ _ _ rfl
  have hlt_b4_b5 : b4 < b5 := hb5.2 1000004 _ _ _ rfl
  refine RunTK.new 5 (by decide) rfl (.inl rfl) ?_
  refine RunK.nil ?_
  refine ⟨_, _, eff_alloc (n := 202) (d := 6) (k := 1000006) zero56 (by decide), fun b6 hb6 => ?_⟩
  have hBb6 := hb6.1
  have hlt_b2_b6 : b2 < b6 := hb6.2 1000002 _ _ _ rfl
  have hlt_b4_b6 : b4 < b6 := hb6.2 1000004 _ _ _ rfl
  have hlt_b5_b6 : b5 < b6 := hb6.2 1000005 _ _ _ rfl
  refine RunTK.eff 6 (by decide) rfl (.inl rfl) ?_
  refine RunK.nil ?_
  refine ⟨_, eff_storeA (n := 202) (s := 1000005) (size64.of (rfl)) rfl rfl (rfl) hBb5 rfl (rfl) (LeftS.cons (t := 1) rfl (Surv.old (by omega)) (LeftS.cons (t := 2) rfl (Surv.v _) (LeftS.cons (t := 4) rfl (Surv.v _) (LeftS.cons (t := 5) rfl (Surv.v _) (LeftS.cons (t := 6) rfl (Surv.v _) (LeftS.cons (t := 28) rfl (Surv.v _) (LeftS.cons (t := 29) rfl (Surv.v _) (LeftS.cons (t := 1000002) rfl (Surv.blkT (by decide)) (LeftS.cons (t := 1000004) rfl (Surv.blkT (by decide)) (LeftS.cons (t := 1000006) rfl (Surv.blkT (by decide)) LeftS.nil)))))))))), ?_⟩
  refine RunTK.eff 7 (by decide) rfl (.inl rfl) ?_
  refine RunK.nil ?_
  refine ⟨_, eff_storeA (n := 202) (s := 1000006) (size56.of (rfl)) rfl rfl (rfl) hBb6 rfl (rfl) (LeftS.cons (t := 1) rfl (Surv.old (by omega)) (LeftS.cons (t := 2) rfl (Surv.v _) (LeftS.cons (t := 4) rfl (Surv.v _) (LeftS.cons (t := 5) rfl (Surv.v _) (LeftS.cons (t := 6) rfl (Surv.v _) (LeftS.cons (t := 28) rfl (Surv.v _) (LeftS.cons (t := 29) rfl (Surv.v _) (LeftS.cons (t := 1000002) rfl (Surv.blk (by omega)) (LeftS.cons (t := 1000004) rfl (Surv.blk (by omega)) (LeftS.cons (t := 1000005) rfl (Surv.blkT (by decide)) LeftS.nil)))))))))), ?_⟩
  refine RunTK.last ?_
  refine RunK.nil ?_
  refine A.sub (Sub.cons (t := 1) rfl (Sub.cons (t := 2) rfl (Sub.cons (t := 4) rfl (Sub.cons (t := 5) rfl (Sub.cons (t := 1000002) rfl (Sub.cons (t := 1000004) rfl (Sub.cons (t := 1000005) rfl (Sub.cons (t := 1000006) rfl Sub.nil)))))))) ?_
  refine A.regs (by kernel_rfl) (by kernel_rfl) (.inl rfl) ?_
  refine RunTK.new 0 (by decide) rfl (.inl rfl) ?_
  refine RunK.nil ?_
  refine ⟨_, _, eff_alloc (n := 202) (d := 7) (k := 1000007) zero64 (by decide), fun b7 hb7 => ?_⟩
  have hBb7 := hb7.1
  have hlt_b2_b7 : b2 < b7 := hb7.2 1000002 _ _ _ rfl
  have hlt_b4_b7 : b4 < b7 := hb7.2 1000004 _ _ _ rfl
  have hlt_b5_b7 : b5 < b7 := hb7.2 1000005 _ _ _ rfl
  have hlt_b6_b7 : b6 < b7 := hb7.2 1000006 _ _ _ rfl
  refine RunTK.last ?_
  refine RunK.nil ?_
  refine A.sub (Sub.cons (t := 1) rfl (Sub.cons (t := 2) rfl (Sub.cons (t := 4) rfl (Sub.cons (t := 5) rfl (Sub.cons (t := 7) rfl (Sub.cons (t := 1000002) rfl (Sub.cons (t := 1000004) rfl (Sub.cons (t := 1000005) rfl (Sub.cons (t := 1000006) rfl (Sub.cons (t := 1000007) rfl Sub.nil)))))))))) ?_
  refine A.seq ?_
  refine A.regs (by kernel_rfl) (by kernel_rfl) (.inl rfl) ?_
  refine RunTK.last ?_
  refine RunK.step rfl rfl (ok_assign rfl) ?_
  refine RunK.nil ?_
  refine A.sub (Sub.cons (t := 1) rfl (Sub.cons (t := 2) rfl (Sub.cons (t := 4) rfl (Sub.cons (t := 5) rfl (Sub.cons (t := 7) rfl (Sub.cons (t := 8) rfl (Sub.cons (t := 1000002) rfl (Sub.cons (t := 1000004) rfl (Sub.cons (t := 1000005) rfl (Sub.cons (t := 1000006) rfl (Sub.cons (t := 1000007) rfl Sub.nil))))))))))) ?_
  refine A.block ?_
  refine A.loop (ι := Nat) (fun j => j ≤ 64) (fun j => [(1, old w₀.heap.size (byt l)), (2, .v (.pointer (some ⟨b2, 0, none⟩))), (4, .v (.pointer (some ⟨b4, 0, none⟩))), (5, .v (.pointer (some ⟨b5, 0, none⟩))), (7, .v (.pointer (some ⟨b7, 0, none⟩))), (8, .v (.int .i64 ((j : Nat) : Int))), (1000002, blk b2 56 (h.list.map u32V)), (1000004, blk b4 56 (List.replicate 8 (.int .u32 0))), (1000005, blk b5 64 (K64.map u32V)), (1000007, blk b7 64 (table (sched l j) 64))]) (fun j => 64 - j) 0 ?_ ?_ ?_
  · exact Nat.zero_le _
  · exact (Sub.cons (t := 1) rfl (Sub.cons (t := 2) rfl (Sub.cons (t := 4) rfl (Sub.cons (t := 5) rfl (Sub.cons (t := 7) rfl (Sub.cons (t := 8) rfl (Sub.cons (t := 1000002) rfl (Sub.cons (t := 1000004) rfl (Sub.cons (t := 1000005) rfl (Sub.eq (t := 1000007) _ rfl (rfl) Sub.nil))))))))))
  intro j hj
  refine A.seq ?_
  refine A.regs (by kernel_rfl) (by kernel_rfl) (.inl rfl) ?_
  refine RunTK.last ?_
  refine RunK.step rfl rfl (ok_move rfl) ?_
  refine RunK.step rfl rfl (ok_bin rfl rfl rfl) ?_
  refine RunK.nil ?_
  refine A.sub (Sub.cons (t := 1) rfl (Sub.cons (t := 2) rfl (Sub.cons (t := 4) rfl (Sub.cons (t := 5) rfl (Sub.cons (t := 7) rfl (Sub.cons (t := 8) rfl (Sub.cons (t := 31) rfl (Sub.cons (t := 1000002) rfl (Sub.cons (t := 1000004) rfl (Sub.cons (t := 1000005) rfl (Sub.cons (t := 1000007) rfl Sub.nil))))))))))) ?_
  refine A.cond rfl (fun hc31 => ?_) (fun hc31 => ?_)
  · have hlt : j < 64 := by simp at hc31; omega
    refine A.skip ?_
    refine End.normal_then (End.code ?_)
    refine A.seq ?_
    refine A.block ?_
    refine A.seq ?_
    refine A.regs (by kernel_rfl) (by kernel_rfl) (.inl rfl) ?_
    refine RunTK.last ?_
    refine RunK.step rfl rfl (ok_move rfl) ?_
    refine RunK.step rfl rfl (ok_bin rfl rfl rfl) ?_
    refine RunK.nil ?_
    refine A.sub (Sub.cons (t := 1) rfl (Sub.cons (t := 2) rfl (Sub.cons (t := 4) rfl (Sub.cons (t := 5) rfl (Sub.cons (t := 7) rfl (Sub.cons (t := 8) rfl (Sub.cons (t := 35) rfl (Sub.cons (t := 1000002) rfl (Sub.cons (t := 1000004) rfl (Sub.cons (t := 1000005) rfl (Sub.cons (t := 1000007) rfl Sub.nil))))))))))) ?_
    refine A.cond rfl (fun hc35 => ?_) (fun hc35 => ?_)
    · have hj16 : j < 16 := by simp at hc35; omega
      refine A.regs (by kernel_rfl) (by kernel_rfl) (.inl rfl) ?_
      refine RunTK.last ?_
      refine RunK.step rfl rfl (ok_move rfl) ?_
      refine RunK.step rfl rfl (ok_move rfl) ?_
      refine RunK.step rfl rfl (ok_bin rfl rfl rfl) ?_; refine RunK.as (.int .i64 ((4 * j : Nat) : Int)) (by rw [wrap_i64 (by omega) (by omega)]; first | rfl | (congr 1; omega)) ?_
      refine RunK.step rfl rfl (ok_move rfl) ?_
      refine RunK.step rfl rfl (ok_bin rfl rfl rfl) ?_; refine RunK.as (.int .i64 ((4 * j : Nat) : Int)) (by rw [wrap_i64 (by omega) (by omega)]; first | rfl | (congr 1; omega)) ?_
      refine RunK.step rfl rfl (ok_bin rfl rfl rfl) ?_; refine RunK.as (.int .i64 ((4 * j + 4 : Nat) : Int)) (by rw [wrap_i64 (by omega) (by omega)]; first | rfl | (congr 1; omega)) ?_
      refine RunK.step rfl rfl (ok_slice (4 * j) (4 * j + 4) Tryd.underlying22 info5 rfl (Le.old _ _) (.inl ⟨_, _, rfl, rfl⟩) (.inl ⟨_, _, rfl, rfl⟩) (by omega) (by simp; omega)) ?_
      refine RunK.step rfl rfl (ok_call (refGet_fn ((l.drop (4 * j)).take 4) 4 (by decide) (by decide)) (Args.cons rfl ((Le.eq (by simp only [byt, List.map_take, List.map_drop, List.drop_take]; congr 2; omega))) (Args.cons rfl (Le.refl _) Args.nil))) ?_
      refine RunK.step rfl rfl (ok_move rfl) ?_
      refine RunK.step rfl rfl (ok_extract rfl rfl) ?_
      refine RunK.step rfl rfl (ok_extract rfl rfl) ?_
      refine RunK.step rfl rfl (ok_assign rfl) ?_
      refine RunK.step rfl rfl (ok_assign rfl) ?_
      refine RunK.nil ?_
      refine A.sub (Sub.cons (t := 1) rfl (Sub.cons (t := 2) rfl (Sub.cons (t := 4) rfl (Sub.cons (t := 5) rfl (Sub.cons (t := 7) rfl (Sub.cons (t := 8) rfl (Sub.cons (t := 9) rfl (Sub.cons (t := 1000002) rfl (Sub.cons (t := 1000004) rfl (Sub.cons (t := 1000005) rfl (Sub.cons (t := 1000007) rfl Sub.nil))))))))))) ?_
      refine A.regs (by kernel_rfl) (by kernel_rfl) (.inl rfl) ?_
      refine RunTK.eff 4 (by decide) rfl (.inl rfl) ?_
      refine RunK.step rfl rfl (ok_move rfl) ?_
      refine RunK.step rfl rfl (ok_move rfl) ?_
      refine RunK.step rfl rfl (ok_conv Tryd.underlying57 Tryd.underlying55 rfl) ?_; refine RunK.as (u32V (nextW l (sched l j) j)) (by rw [nextW, if_pos hj16, word, u32V_ofNat, getV, if_pos (by simp; omega), wrap_u32_nat]) ?_
      refine RunK.step rfl rfl (ok_index0 _ Tryd.underlying64 info55 rfl rfl (rfl) (by omega)) ?_
      refine RunK.nil ?_
      refine ⟨_, eff_storeS (n := 202) (s := 1000007) info55 rfl rfl rfl hBb7 rfl (by rw [table_length (by rw [sched_length]; omega)]; omega) (LeftS.cons (t := 1) rfl (Surv.old (by omega)) (LeftS.cons (t := 2) rfl (Surv.v _) (LeftS.cons (t := 4) rfl (Surv.v _) (LeftS.cons (t := 5) rfl (Surv.v _) (LeftS.cons (t := 7) rfl (Surv.v _) (LeftS.cons (t := 8) rfl (Surv.v _) (LeftS.cons (t := 9) rfl (Surv.v _) (LeftS.cons (t := 47) rfl (Surv.v _) (LeftS.cons (t := 48) rfl (Surv.v _) (LeftS.cons (t := 49) rfl (Surv.v _) (LeftS.cons (t := 50) rfl (Surv.v _) (LeftS.cons (t := 1000002) rfl (Surv.blkT (by decide)) (LeftS.cons (t := 1000004) rfl (Surv.blkT (by decide)) (LeftS.cons (t := 1000005) rfl (Surv.blk (by omega)) LeftS.nil)))))))))))))), ?_⟩
      refine RunTK.last ?_
      refine RunK.nil ?_
      refine A.sub (Sub.cons (t := 1) rfl (Sub.cons (t := 2) rfl (Sub.cons (t := 4) rfl (Sub.cons (t := 5) rfl (Sub.cons (t := 7) rfl (Sub.cons (t := 8) rfl (Sub.cons (t := 1000002) rfl (Sub.cons (t := 1000004) rfl (Sub.cons (t := 1000005) rfl (Sub.cons (t := 1000007) rfl Sub.nil)))))))))) ?_
      refine A.exit ?_
      refine End.exit_then ?_
      refine End.exit_here ?_
      refine End.normal_then (End.code ?_)
      refine A.reg (by kernel_rfl) (by kernel_rfl) (.inl rfl) ?_
      refine RunTK.last ?_
      refine RunK.step rfl rfl (ok_move rfl) ?_
      refine RunK.step rfl rfl (ok_bin rfl rfl rfl) ?_; refine RunK.as (.int .i64 ((j + 1 : Nat) : Int)) (by rw [wrap_i64 (by omega) (by omega)]; first | rfl | (congr 1; omega)) ?_
      refine RunK.step rfl rfl (ok_assign rfl) ?_
      refine RunK.nil ?_
      refine End.sub (Sub.cons (t := 1) rfl (Sub.cons (t := 2) rfl (Sub.cons (t := 4) rfl (Sub.cons (t := 5) rfl (Sub.cons (t := 7) rfl (Sub.cons (t := 8) rfl (Sub.cons (t := 1000002) rfl (Sub.cons (t := 1000004) rfl (Sub.cons (t := 1000005) rfl (Sub.cons (t := 1000007) rfl Sub.nil)))))))))) ?_
      refine End.normal_then ?_
      refine End.again (j + 1) ?_ ?_ ?_
      · show _ ≤ _; omega
      · show _ - _ < _ - _; omega
      · exact (Sub.cons (t := 1) rfl (Sub.cons (t := 2) rfl (Sub.cons (t := 4) rfl (Sub.cons (t := 5) rfl (Sub.cons (t := 7) rfl (Sub.cons (t := 8) rfl (Sub.cons (t := 1000002) rfl (Sub.cons (t := 1000004) rfl (Sub.cons (t := 1000005) rfl (Sub.eq (t := 1000007) _ rfl (by rw [table_set (sched_length l j) hlt]; rfl) Sub.nil))))))))))
    · have hj16 : ¬ j < 16 := by simp at hc35; omega
      refine A.skip ?_
      refine End.normal_then (End.code ?_)
      refine A.regs (by kernel_rfl) (by kernel_rfl) (.inr (by kernel_rfl)) ?_
      refine RunTK.last ?_
      refine RunK.step rfl rfl (ok_move rfl) ?_
      refine RunK.step rfl rfl (ok_bin rfl rfl rfl) ?_; refine RunK.as (.int .i64 ((j - 15 : Nat) : Int)) (by rw [wrap_i64 (by omega) (by omega)]; first | rfl | (congr 1; omega)) ?_
      refine RunK.step rfl rfl (ok_index0 _ Tryd.underlying64 info55 rfl rfl (rfl) (by omega)) ?_
      refine RunK.step rfl rfl (ok_loadV (s := 1000007) (by decide) Tryd.underlying55 rfl rfl rfl (table_get (by rw [sched_length]; omega))) ?_
      refine RunK.step rfl rfl (ok_move rfl) ?_
      refine RunK.step rfl rfl (ok_bin rfl rfl rfl) ?_; refine RunK.as (.int .i64 ((j - 2 : Nat) : Int)) (by rw [wrap_i64 (by omega) (by omega)]; first | rfl | (congr 1; omega)) ?_
      refine RunK.step rfl rfl (ok_index0 _ Tryd.underlying64 info55 rfl rfl (rfl) (by omega)) ?_
      refine RunK.step rfl rfl (ok_loadV (s := 1000007) (by decide) Tryd.underlying55 rfl rfl rfl (table_get (by rw [sched_length]; omega))) ?_
      refine RunK.step rfl rfl (ok_assign rfl) ?_
      refine RunK.step rfl rfl (ok_assign rfl) ?_
      refine RunK.nil ?_
      refine A.sub (Sub.cons (t := 1) rfl (Sub.cons (t := 2) rfl (Sub.cons (t := 4) rfl (Sub.cons (t := 5) rfl (Sub.cons (t := 7) rfl (Sub.cons (t := 8) rfl (Sub.cons (t := 11) rfl (Sub.cons (t := 12) rfl (Sub.cons (t := 1000002) rfl (Sub.cons (t := 1000004) rfl (Sub.cons (t := 1000005) rfl (Sub.cons (t := 1000007) rfl Sub.nil)))))))))))) ?_
      refine A.reg (by kernel_rfl) (by kernel_rfl) (.inr (by kernel_rfl)) ?_
      refine RunTK.eff 29 (by decide) rfl (.inr (by kernel_rfl)) ?_
      refine RunK.step rfl rfl (ok_move rfl) ?_
      refine RunK.step rfl rfl (ok_move rfl) ?_
      refine RunK.step rfl rfl (ok_bin rfl rfl rfl) ?_; refine RunK.as (.int .i64 ((j - 16 : Nat) : Int)) (by rw [wrap_i64 (by omega) (by omega)]; first | rfl | (congr 1; omega)) ?_
      refine RunK.step rfl rfl (ok_index0 _ Tryd.underlying64 info55 rfl rfl (rfl) (by omega)) ?_
      refine RunK.step rfl rfl (ok_loadV (s := 1000007) (by decide) Tryd.underlying55 rfl rfl rfl (table_get (by rw [sched_length]; omega))) ?_
      refine RunK.step rfl rfl (ok_move rfl) ?_
      refine RunK.step rfl rfl (ok_bin rfl rfl rfl) ?_; refine RunK.as (.int .i64 ((j - 7 : Nat) : Int)) (by rw [wrap_i64 (by omega) (by omega)]; first | rfl | (congr 1; omega)) ?_
      refine RunK.step rfl rfl (ok_index0 _ Tryd.underlying64 info55 rfl rfl (rfl) (by omega)) ?_
      refine RunK.step rfl rfl (ok_loadV (s := 1000007) (by decide) Tryd.underlying55 rfl rfl rfl (table_get (by rw [sched_length]; omega))) ?_
      refine RunK.step rfl rfl (ok_add32 rfl rfl) ?_
      refine RunK.step rfl rfl (ok_move rfl) ?_
      refine RunK.step rfl rfl (ok_call (refrotr_fn _ 7 (by decide) (by decide)) (Args.cons rfl (Le.refl _) (Args.cons rfl (Le.refl _) Args.nil))) ?_
      refine RunK.step rfl rfl (ok_move rfl) ?_
      refine RunK.step rfl rfl (ok_call (refrotr_fn _ 18 (by decide) (by decide)) (Args.cons rfl (Le.refl _) (Args.cons rfl (Le.refl _) Args.nil))) ?_
      refine RunK.step rfl rfl (ok_xor32 rfl rfl) ?_
      refine RunK.step rfl rfl (ok_move rfl) ?_
      refine RunK.step rfl rfl (ok_shr32 3 rfl rfl rfl (by decide)) ?_
      refine RunK.step rfl rfl (ok_xor32 rfl rfl) ?_
      refine RunK.step rfl rfl (ok_add32 rfl rfl) ?_
      refine RunK.step rfl rfl (ok_move rfl) ?_
      refine RunK.step rfl rfl (ok_call (refrotr_fn _ 17 (by decide) (by decide)) (Args.cons rfl (Le.refl _) (Args.cons rfl (Le.refl _) Args.nil))) ?_
      refine RunK.step rfl rfl (ok_move rfl) ?_
      refine RunK.step rfl rfl (ok_call (refrotr_fn _ 19 (by decide) (by decide)) (Args.cons rfl (Le.refl _) (Args.cons rfl (Le.refl _) Args.nil))) ?_
      refine RunK.step rfl rfl (ok_xor32 rfl rfl) ?_
      refine RunK.step rfl rfl (ok_move rfl) ?_
      refine RunK.step rfl rfl (ok_shr32 10 rfl rfl rfl (by decide)) ?_
      refine RunK.step rfl rfl (ok_xor32 rfl rfl) ?_
      refine RunK.step rfl rfl (ok_add32 rfl rfl) ?_; refine RunK.as (u32V (nextW l (sched l j) j)) (by rw [nextW, if_neg hj16]; rfl) ?_
      refine RunK.step rfl rfl (ok_index0 _ Tryd.underlying64 info55 rfl rfl (rfl) (by omega)) ?_
      refine RunK.nil ?_
      refine ⟨_, eff_storeS (n := 202) (s := 1000007) info55 rfl rfl rfl hBb7 rfl (by rw [table_length (by rw [sched_length]; omega)]; omega) (LeftS.cons (t := 1) rfl (Surv.old (by omega)) (LeftS.cons (t := 2) rfl (Surv.v _) (LeftS.cons (t := 4) rfl (Surv.v _) (LeftS.cons (t := 5) rfl (Surv.v _) (LeftS.cons (t := 7) rfl (Surv.v _) (LeftS.cons (t := 8) rfl (Surv.v _) (LeftS.cons (t := 11) rfl (Surv.v _) (LeftS.cons (t := 12) rfl (Surv.v _) (LeftS.cons (t := 59) rfl (Surv.v _) (LeftS.cons (t := 60) rfl (Surv.v _) (LeftS.cons (t := 61) rfl (Surv.v _) (LeftS.cons (t := 62) rfl (Surv.v _) (LeftS.cons (t := 63) rfl (Surv.v _) (LeftS.cons (t := 64) rfl (Surv.v _) (LeftS.cons (t := 65) rfl (Surv.v _) (LeftS.cons (t := 66) rfl (Surv.v _) (LeftS.cons (t := 67) rfl (Surv.v _) (LeftS.cons (t := 68) rfl (Surv.v _) (LeftS.cons (t := 69) rfl (Surv.v _) (LeftS.cons (t := 70) rfl (Surv.v _) (LeftS.cons (t := 71) rfl (Surv.v _) (LeftS.cons (t := 72) rfl (Surv.v _) (LeftS.cons (t := 73) rfl (Surv.v _) (LeftS.cons (t := 74) rfl (Surv.v _) (LeftS.cons (t := 75) rfl (Surv.v _) (LeftS.cons (t := 76) rfl (Surv.v _) (LeftS.cons (t := 77) rfl (Surv.v _) (LeftS.cons (t := 78) rfl (Surv.v _) (LeftS.cons (t := 79) rfl (Surv.v _) (LeftS.cons (t := 80) rfl (Surv.v _) (LeftS.cons (t := 81) rfl (Surv.v _) (LeftS.cons (t := 82) rfl (Surv.v _) (LeftS.cons (t := 83) rfl (Surv.v _) (LeftS.cons (t := 84) rfl (Surv.v _) (LeftS.cons (t := 85) rfl (Surv.v _) (LeftS.cons (t := 86) rfl (Surv.v _) (LeftS.cons (t := 87) rfl (Surv.v _) (LeftS.cons (t := 1000002) rfl (Surv.blkT (by decide)) (LeftS.cons (t := 1000004) rfl (Surv.blkT (by decide)) (LeftS.cons (t := 1000005) rfl (Surv.blk (by omega)) LeftS.nil)))))))))))))))))))))))))))))))))))))))), ?_⟩
      refine RunTK.last ?_
      refine RunK.nil ?_
      refine End.sub (Sub.cons (t := 1) rfl (Sub.cons (t := 2) rfl (Sub.cons (t := 4) rfl (Sub.cons (t := 5) rfl (Sub.cons (t := 7) rfl (Sub.cons (t := 8) rfl (Sub.cons (t := 1000002) rfl (Sub.cons (t := 1000004) rfl (Sub.cons (t := 1000005) rfl (Sub.cons (t := 1000007) rfl Sub.nil)))))))))) ?_
      refine End.normal_block ?_
      refine End.normal_then (End.code ?_)
      refine A.reg (by kernel_rfl) (by kernel_rfl) (.inl rfl) ?_
      refine RunTK.last ?_
      refine RunK.step rfl rfl (ok_move rfl) ?_
      refine RunK.step rfl rfl (ok_bin rfl rfl rfl) ?_; refine RunK.as (.int .i64 ((j + 1 : Nat) : Int)) (by rw [wrap_i64 (by omega) (by omega)]; first | rfl | (congr 1; omega)) ?_
      refine RunK.step rfl rfl (ok_assign rfl) ?_
      refine RunK.nil ?_
      refine End.sub (Sub.cons (t := 1) rfl (Sub.cons (t := 2) rfl (Sub.cons (t := 4) rfl (Sub.cons (t := 5) rfl (Sub.cons (t := 7) rfl (Sub.cons (t := 8) rfl (Sub.cons (t := 1000002) rfl (Sub.cons (t := 1000004) rfl (Sub.cons (t := 1000005) rfl (Sub.cons (t := 1000007) rfl Sub.nil)))))))))) ?_
      refine End.normal_then ?_
      refine End.again (j + 1) ?_ ?_ ?_
      · show _ ≤ _; omega
      · show _ - _ < _ - _; omega
      · exact (Sub.cons (t := 1) rfl (Sub.cons (t := 2) rfl (Sub.cons (t := 4) rfl (Sub.cons (t := 5) rfl (Sub.cons (t := 7) rfl (Sub.cons (t := 8) rfl (Sub.cons (t := 1000002) rfl (Sub.cons (t := 1000004) rfl (Sub.cons (t := 1000005) rfl (Sub.eq (t := 1000007) _ rfl (by rw [table_set (sched_length l j) hlt]; rfl) Sub.nil))))))))))
  · obtain rfl : j = 64 := by simp at hc31; omega
    refine A.exit ?_
    refine End.exit_then ?_
    refine End.exit_then ?_
    refine End.exit_here ?_
    refine End.normal_then (End.code ?_)
    refine A.regs (by kernel_rfl) (by kernel_rfl) (.inr (by kernel_rfl)) ?_
    refine RunTK.last ?_
    refine RunK.step rfl rfl (ok_index0 (0) Tryd.underlying56 info55 rfl rfl (rfl) (by decide)) ?_
    refine RunK.step rfl rfl (ok_loadV (s := 1000002) (by decide) Tryd.underlying55 rfl rfl rfl (rfl)) ?_
    refine RunK.step rfl rfl (ok_index0 (1) Tryd.underlying56 info55 rfl rfl (rfl) (by decide)) ?_
    refine RunK.step rfl rfl (ok_loadV (s := 1000002) (by decide) Tryd.underlying55 rfl rfl rfl (rfl)) ?_
    refine RunK.step rfl rfl (ok_index0 (2) Tryd.underlying56 info55 rfl rfl (rfl) (by decide)) ?_
    refine RunK.step rfl rfl (ok_loadV (s := 1000002) (by decide) Tryd.underlying55 rfl rfl rfl (rfl)) ?_
    refine RunK.step rfl rfl (ok_index0 (3) Tryd.underlying56 info55 rfl rfl (rfl) (by decide)) ?_
    refine RunK.step rfl rfl (ok_loadV (s := 1000002) (by decide) Tryd.underlying55 rfl rfl rfl (rfl)) ?_
    refine RunK.step rfl rfl (ok_index0 (4) Tryd.underlying56 info55 rfl rfl (rfl) (by decide)) ?_
    refine RunK.step rfl rfl (ok_loadV (s := 1000002) (by decide) Tryd.underlying55 rfl rfl rfl (rfl)) ?_
    refine RunK.step rfl rfl (ok_index0 (5) Tryd.underlying56 info55 rfl rfl (rfl) (by decide)) ?_
    refine RunK.step rfl rfl (ok_loadV (s := 1000002) (by decide) Tryd.underlying55 rfl rfl rfl (rfl)) ?_
    refine RunK.step rfl rfl (ok_index0 (6) Tryd.underlying56 info55 rfl rfl (rfl) (by decide)) ?_
    refine RunK.step rfl rfl (ok_loadV (s := 1000002) (by decide) Tryd.underlying55 rfl rfl rfl (rfl)) ?_
    refine RunK.step rfl rfl (ok_index0 (7) Tryd.underlying56 info55 rfl rfl (rfl) (by decide)) ?_
    refine RunK.step rfl rfl (ok_loadV (s := 1000002) (by decide) Tryd.underlying55 rfl rfl rfl (rfl)) ?_
    refine RunK.step rfl rfl (ok_assign rfl) ?_
    refine RunK.step rfl rfl (ok_assign rfl) ?_
    refine RunK.step rfl rfl (ok_assign rfl) ?_
    refine RunK.step rfl rfl (ok_assign rfl) ?_
    refine RunK.step rfl rfl (ok_assign rfl) ?_
    refine RunK.step rfl rfl (ok_assign rfl) ?_
    refine RunK.step rfl rfl (ok_assign rfl) ?_
    refine RunK.step rfl rfl (ok_assign rfl) ?_
    refine RunK.nil ?_
    refine A.sub (Sub.cons (t := 2) rfl (Sub.cons (t := 4) rfl (Sub.cons (t := 5) rfl (Sub.cons (t := 7) rfl (Sub.cons (t := 13) rfl (Sub.cons (t := 14) rfl (Sub.cons (t := 15) rfl (Sub.cons (t := 16) rfl (Sub.cons (t := 17) rfl (Sub.cons (t := 18) rfl (Sub.cons (t := 19) rfl (Sub.cons (t := 20) rfl (Sub.cons (t := 1000002) rfl (Sub.cons (t := 1000004) rfl (Sub.cons (t := 1000005) rfl (Sub.cons (t := 1000007) rfl Sub.nil)))))))))))))))) ?_
    refine A.seq ?_
    refine A.regs (by kernel_rfl) (by kernel_rfl) (.inl rfl) ?_
    refine RunTK.last ?_
    refine RunK.step rfl rfl (ok_assign rfl) ?_
    refine RunK.nil ?_
    refine A.sub (Sub.cons (t := 2) rfl (Sub.cons (t := 4) rfl (Sub.cons (t := 5) rfl (Sub.cons (t := 7) rfl (Sub.cons (t := 13) rfl (Sub.cons (t := 14) rfl (Sub.cons (t := 15) rfl (Sub.cons (t := 16) rfl (Sub.cons (t := 17) rfl (Sub.cons (t := 18) rfl (Sub.cons (t := 19) rfl (Sub.cons (t := 20) rfl (Sub.cons (t := 21) rfl (Sub.cons (t := 1000002) rfl (Sub.cons (t := 1000004) rfl (Sub.cons (t := 1000005) rfl (Sub.cons (t := 1000007) rfl Sub.nil))))))))))))))))) ?_
    refine A.block ?_
    refine A.loop (ι := Nat) (fun i => i ≤ 64) (fun i => [(2, .v (.pointer (some ⟨b2, 0, none⟩))), (4, .v (.pointer (some ⟨b4, 0, none⟩))), (5, .v (.pointer (some ⟨b5, 0, none⟩))), (7, .v (.pointer (some ⟨b7, 0, none⟩))), (13, .v (u32V (rounds h K64 (sched l 64) i).a)), (14, .v (u32V (rounds h K64 (sched l 64) i).b)), (15, .v (u32V (rounds h K64 (sched l 64) i).c)), (16, .v (u32V (rounds h K64 (sched l 64) i).d)), (17, .v (u32V (rounds h K64 (sched l 64) i).e)), (18, .v (u32V (rounds h K64 (sched l 64) i).f)), (19, .v (u32V (rounds h K64 (sched l 64) i).g)), (20, .v (u32V (rounds h K64 (sched l 64) i).h)), (21, .v (.int .i64 ((i : Nat) : Int))), (1000002, blk b2 56 (h.list.map u32V)), (1000004, blk b4 56 (List.replicate 8 (.int .u32 0))), (1000005, blk b5 64 (K64.map u32V)), (1000007, blk b7 64 (table (sched l 64) 64))]) (fun i => 64 - i) 0 ?_ ?_ ?_
    · exact Nat.zero_le _
    · exact (Sub.cons (t := 2) rfl (Sub.cons (t := 4) rfl (Sub.cons (t := 5) rfl (Sub.cons (t := 7) rfl (Sub.cons (t := 13) rfl (Sub.cons (t := 14) rfl (Sub.cons (t := 15) rfl (Sub.cons (t := 16) rfl (Sub.cons (t := 17) rfl (Sub.cons (t := 18) rfl (Sub.cons (t := 19) rfl (Sub.cons (t := 20) rfl (Sub.cons (t := 21) rfl (Sub.cons (t := 1000002) rfl (Sub.cons (t := 1000004) rfl (Sub.cons (t := 1000005) rfl (Sub.cons (t := 1000007) rfl Sub.nil)))))))))))))))))
    intro i hi
    refine A.seq ?_
    refine A.regs (by kernel_rfl) (by kernel_rfl) (.inl rfl) ?_
    refine RunTK.last ?_
    refine RunK.step rfl rfl (ok_move rfl) ?_
    refine RunK.step rfl rfl (ok_bin rfl rfl rfl) ?_
    refine RunK.nil ?_
    refine A.sub (Sub.cons (t := 2) rfl (Sub.cons (t := 4) rfl (Sub.cons (t := 5) rfl (Sub.cons (t := 7) rfl (Sub.cons (t := 13) rfl (Sub.cons (t := 14) rfl (Sub.cons (t := 15) rfl (Sub.cons (t := 16) rfl (Sub.cons (t := 17) rfl (Sub.cons (t := 18) rfl (Sub.cons (t := 19) rfl (Sub.cons (t := 20) rfl (Sub.cons (t := 21) rfl (Sub.cons (t := 105) rfl (Sub.cons (t := 1000002) rfl (Sub.cons (t := 1000004) rfl (Sub.cons (t := 1000005) rfl (Sub.cons (t := 1000007) rfl Sub.nil)))))))))))))))))) ?_
    refine A.cond rfl (fun hc105 => ?_) (fun hc105 => ?_)
    · have hlt : i < 64 := by simp at hc105; omega
      refine A.skip ?_
      refine End.normal_then (End.code ?_)
      refine A.seq ?_
      refine A.block ?_
      refine A.regs (by kernel_rfl) (by kernel_rfl) (.inl rfl) ?_
      refine RunTK.last ?_
      refine RunK.step rfl rfl (ok_move rfl) ?_
      refine RunK.step rfl rfl (ok_move rfl) ?_
      refine RunK.step rfl rfl (ok_and32 rfl rfl) ?_
      refine RunK.step rfl rfl (ok_move rfl) ?_
      refine RunK.step rfl rfl (ok_not32 rfl) ?_
      refine RunK.step rfl rfl (ok_move rfl) ?_
      refine RunK.step rfl rfl (ok_and32 rfl rfl) ?_
      refine RunK.step rfl rfl (ok_or32 rfl rfl) ?_; refine RunK.as (u32V (choice (rounds h K64 (sched l 64) i).e (rounds h K64 (sched l 64) i).f (rounds h K64 (sched l 64) i).g)) (by rw [choice_or]) ?_
      refine RunK.step rfl rfl (ok_assign rfl) ?_
      refine RunK.nil ?_
      refine A.sub (Sub.cons (t := 2) rfl (Sub.cons (t := 4) rfl (Sub.cons (t := 5) rfl (Sub.cons (t := 7) rfl (Sub.cons (t := 13) rfl (Sub.cons (t := 14) rfl (Sub.cons (t := 15) rfl (Sub.cons (t := 16) rfl (Sub.cons (t := 17) rfl (Sub.cons (t := 18) rfl (Sub.cons (t := 19) rfl (Sub.cons (t := 20) rfl (Sub.cons (t := 21) rfl (Sub.cons (t := 22) rfl (Sub.cons (t := 1000002) rfl (Sub.cons (t := 1000004) rfl (Sub.cons (t := 1000005) rfl (Sub.cons (t := 1000007) rfl Sub.nil)))))))))))))))))) ?_
      refine A.regs (by kernel_rfl) (by kernel_rfl) (.inl rfl) ?_
      refine RunTK.last ?_
      refine RunK.step rfl rfl (ok_move rfl) ?_
      refine RunK.step rfl rfl (ok_move rfl) ?_
      refine RunK.step rfl rfl (ok_and32 rfl rfl) ?_
      refine RunK.step rfl rfl (ok_move rfl) ?_
      refine RunK.step rfl rfl (ok_move rfl) ?_
      refine RunK.step rfl rfl (ok_and32 rfl rfl) ?_
      refine RunK.step rfl rfl (ok_or32 rfl rfl) ?_
      refine RunK.step rfl rfl (ok_move rfl) ?_
      refine RunK.step rfl rfl (ok_move rfl) ?_
      refine RunK.step rfl rfl (ok_and32 rfl rfl) ?_
      refine RunK.step rfl rfl (ok_or32 rfl rfl) ?_; refine RunK.as (u32V (most (rounds h K64 (sched l 64) i).a (rounds h K64 (sched l 64) i).b (rounds h K64 (sched l 64) i).c)) (by rw [most_or]) ?_
      refine RunK.step rfl rfl (ok_assign rfl) ?_
      refine RunK.nil ?_
      refine A.sub (Sub.cons (t := 2) rfl (Sub.cons (t := 4) rfl (Sub.cons (t := 5) rfl (Sub.cons (t := 7) rfl (Sub.cons (t := 13) rfl (Sub.cons (t := 14) rfl (Sub.cons (t := 15) rfl (Sub.cons (t := 16) rfl (Sub.cons (t := 17) rfl (Sub.cons (t := 18) rfl (Sub.cons (t := 19) rfl (Sub.cons (t := 20) rfl (Sub.cons (t := 21) rfl (Sub.cons (t := 22) rfl (Sub.cons (t := 23) rfl (Sub.cons (t := 1000002) rfl (Sub.cons (t := 1000004) rfl (Sub.cons (t := 1000005) rfl (Sub.cons (t := 1000007) rfl Sub.nil))))))))))))))))))) ?_
      refine A.regs (by kernel_rfl) (by kernel_rfl) (.inr (by kernel_rfl)) ?_
      refine RunTK.last ?_
      refine RunK.step rfl rfl (ok_move rfl) ?_
      refine RunK.step rfl rfl (ok_move rfl) ?_
      refine RunK.step rfl rfl (ok_call (refrotr_fn _ 6 (by decide) (by decide)) (Args.cons rfl (Le.refl _) (Args.cons rfl (Le.refl _) Args.nil))) ?_
      refine RunK.step rfl rfl (ok_move rfl) ?_
      refine RunK.step rfl rfl (ok_call (refrotr_fn _ 11 (by decide) (by decide)) (Args.cons rfl (Le.refl _) (Args.cons rfl (Le.refl _) Args.nil))) ?_
      refine RunK.step rfl rfl (ok_xor32 rfl rfl) ?_
      refine RunK.step rfl rfl (ok_move rfl) ?_
      refine RunK.step rfl rfl (ok_call (refrotr_fn _ 25 (by decide) (by decide)) (Args.cons rfl (Le.refl _) (Args.cons rfl (Le.refl _) Args.nil))) ?_
      refine RunK.step rfl rfl (ok_xor32 rfl rfl) ?_
      refine RunK.step rfl rfl (ok_add32 rfl rfl) ?_
      refine RunK.step rfl rfl (ok_move rfl) ?_
      refine RunK.step rfl rfl (ok_add32 rfl rfl) ?_
      refine RunK.step rfl rfl (ok_move rfl) ?_
      refine RunK.step rfl rfl (ok_index0 _ Tryd.underlying64 info55 rfl rfl (rfl) (by omega)) ?_
      refine RunK.step rfl rfl (ok_loadV (s := 1000005) (by decide) Tryd.underlying55 rfl rfl rfl (map_get32 (by rw [K64_lit]; omega))) ?_
      refine RunK.step rfl rfl (ok_add32 rfl rfl) ?_
      refine RunK.step rfl rfl (ok_move rfl) ?_
      refine RunK.step rfl rfl (ok_index0 _ Tryd.underlying64 info55 rfl rfl (rfl) (by omega)) ?_
      refine RunK.step rfl rfl (ok_loadV (s := 1000007) (by decide) Tryd.underlying55 rfl rfl rfl (table_get (by rw [sched_length]; omega))) ?_
      refine RunK.step rfl rfl (ok_add32 rfl rfl) ?_
      refine RunK.step rfl rfl (ok_assign rfl) ?_
      refine RunK.nil ?_
      refine A.sub (Sub.cons (t := 2) rfl (Sub.cons (t := 4) rfl (Sub.cons (t := 5) rfl (Sub.cons (t := 7) rfl (Sub.cons (t := 13) rfl (Sub.cons (t := 14) rfl (Sub.cons (t := 15) rfl (Sub.cons (t := 16) rfl (Sub.cons (t := 17) rfl (Sub.cons (t := 18) rfl (Sub.cons (t := 19) rfl (Sub.cons (t := 21) rfl (Sub.cons (t := 23) rfl (Sub.cons (t := 24) rfl (Sub.cons (t := 1000002) rfl (Sub.cons (t := 1000004) rfl (Sub.cons (t := 1000005) rfl (Sub.cons (t := 1000007) rfl Sub.nil)))))))))))))))))) ?_
      refine A.regs (by kernel_rfl) (by kernel_rfl) (.inl rfl) ?_
      refine RunTK.last ?_
      refine RunK.step rfl rfl (ok_move rfl) ?_
      refine RunK.step rfl rfl (ok_call (refrotr_fn _ 2 (by decide) (by decide)) (Args.cons rfl (Le.refl _) (Args.cons rfl (Le.refl _) Args.nil))) ?_
      refine RunK.step rfl rfl (ok_move rfl) ?_
      refine RunK.step rfl rfl (ok_call (refrotr_fn _ 13 (by decide) (by decide)) (Args.cons rfl (Le.refl _) (Args.cons rfl (Le.refl _) Args.nil))) ?_
      refine RunK.step rfl rfl (ok_xor32 rfl rfl) ?_
      refine RunK.step rfl rfl (ok_move rfl) ?_
      refine RunK.step rfl rfl (ok_call (refrotr_fn _ 22 (by decide) (by decide)) (Args.cons rfl (Le.refl _) (Args.cons rfl (Le.refl _) Args.nil))) ?_
      refine RunK.step rfl rfl (ok_xor32 rfl rfl) ?_
      refine RunK.step rfl rfl (ok_move rfl) ?_
      refine RunK.step rfl rfl (ok_add32 rfl rfl) ?_
      refine RunK.step rfl rfl (ok_assign rfl) ?_
      refine RunK.nil ?_
      refine A.sub (Sub.cons (t := 2) rfl (Sub.cons (t := 4) rfl (Sub.cons (t := 5) rfl (Sub.cons (t := 7) rfl (Sub.cons (t := 13) rfl (Sub.cons (t := 14) rfl (Sub.cons (t := 15) rfl (Sub.cons (t := 16) rfl (Sub.cons (t := 17) rfl (Sub.cons (t := 18) rfl (Sub.cons (t := 19) rfl (Sub.cons (t := 21) rfl (Sub.cons (t := 24) rfl (Sub.cons (t := 25) rfl (Sub.cons (t := 1000002) rfl (Sub.cons (t := 1000004) rfl (Sub.cons (t := 1000005) rfl (Sub.cons (t := 1000007) rfl Sub.nil)))))))))))))))))) ?_
      refine A.reg (by kernel_rfl) (by kernel_rfl) (.inl rfl) ?_
      refine RunTK.last ?_
      refine RunK.step rfl rfl (ok_move rfl) ?_
      refine RunK.step rfl rfl (ok_move rfl) ?_
      refine RunK.step rfl rfl (ok_move rfl) ?_
      refine RunK.step rfl rfl (ok_move rfl) ?_
      refine RunK.step rfl rfl (ok_move rfl) ?_
      refine RunK.step rfl rfl (ok_add32 rfl rfl) ?_
      refine RunK.step rfl rfl (ok_move rfl) ?_
      refine RunK.step rfl rfl (ok_move rfl) ?_
      refine RunK.step rfl rfl (ok_move rfl) ?_
      refine RunK.step rfl rfl (ok_move rfl) ?_
      refine RunK.step rfl rfl (ok_move rfl) ?_
      refine RunK.step rfl rfl (ok_add32 rfl rfl) ?_
      refine RunK.step rfl rfl (ok_assign rfl) ?_
      refine RunK.step rfl rfl (ok_assign rfl) ?_
      refine RunK.step rfl rfl (ok_assign rfl) ?_
      refine RunK.step rfl rfl (ok_assign rfl) ?_
      refine RunK.step rfl rfl (ok_assign rfl) ?_
      refine RunK.step rfl rfl (ok_assign rfl) ?_
      refine RunK.step rfl rfl (ok_assign rfl) ?_
      refine RunK.step rfl rfl (ok_assign rfl) ?_
      refine RunK.nil ?_
      refine End.sub (Sub.cons (t := 2) rfl (Sub.cons (t := 4) rfl (Sub.cons (t := 5) rfl (Sub.cons (t := 7) rfl (Sub.cons (t := 13) rfl (Sub.cons (t := 14) rfl (Sub.cons (t := 15) rfl (Sub.cons (t := 16) rfl (Sub.cons (t := 17) rfl (Sub.cons (t := 18) rfl (Sub.cons (t := 19) rfl (Sub.cons (t := 20) rfl (Sub.cons (t := 21) rfl (Sub.cons (t := 1000002) rfl (Sub.cons (t := 1000004) rfl (Sub.cons (t := 1000005) rfl (Sub.cons (t := 1000007) rfl Sub.nil))))))))))))))))) ?_
      refine End.normal_block ?_
      refine End.normal_then (End.code ?_)
      refine A.reg (by kernel_rfl) (by kernel_rfl) (.inl rfl) ?_
      refine RunTK.last ?_
      refine RunK.step rfl rfl (ok_move rfl) ?_
      refine RunK.step rfl rfl (ok_bin rfl rfl rfl) ?_; refine RunK.as (.int .i64 ((i + 1 : Nat) : Int)) (by rw [wrap_i64 (by omega) (by omega)]; first | rfl | (congr 1; omega)) ?_
      refine RunK.step rfl rfl (ok_assign rfl) ?_
      refine RunK.nil ?_
      refine End.sub (Sub.cons (t := 2) rfl (Sub.cons (t := 4) rfl (Sub.cons (t := 5) rfl (Sub.cons (t := 7) rfl (Sub.cons (t := 13) rfl (Sub.cons (t := 14) rfl (Sub.cons (t := 15) rfl (Sub.cons (t := 16) rfl (Sub.cons (t := 17) rfl (Sub.cons (t := 18) rfl (Sub.cons (t := 19) rfl (Sub.cons (t := 20) rfl (Sub.cons (t := 21) rfl (Sub.cons (t := 1000002) rfl (Sub.cons (t := 1000004) rfl (Sub.cons (t := 1000005) rfl (Sub.cons (t := 1000007) rfl Sub.nil))))))))))))))))) ?_
      refine End.normal_then ?_
      refine End.again (i + 1) ?_ ?_ ?_
      · show _ ≤ _; omega
      · show _ - _ < _ - _; omega
      · exact (Sub.cons (t := 2) rfl (Sub.cons (t := 4) rfl (Sub.cons (t := 5) rfl (Sub.cons (t := 7) rfl (Sub.cons (t := 13) rfl (Sub.cons (t := 14) rfl (Sub.cons (t := 15) rfl (Sub.cons (t := 16) rfl (Sub.cons (t := 17) rfl (Sub.cons (t := 18) rfl (Sub.cons (t := 19) rfl (Sub.cons (t := 20) rfl (Sub.cons (t := 21) rfl (Sub.cons (t := 1000002) rfl (Sub.cons (t := 1000004) rfl (Sub.cons (t := 1000005) rfl (Sub.cons (t := 1000007) rfl Sub.nil)))))))))))))))))
    · obtain rfl : i = 64 := by simp at hc105; omega
      refine A.exit ?_
      refine End.exit_then ?_
      refine End.exit_then ?_
      refine End.exit_here ?_
      refine End.normal_then (End.code ?_)
      refine A.regs (by kernel_rfl) (by kernel_rfl) (.inl rfl) ?_
      refine RunTK.eff 33 (by decide) rfl (.inl rfl) ?_
      refine RunK.step rfl rfl (ok_index0 (0) Tryd.underlying56 info55 rfl rfl (rfl) (by decide)) ?_
      refine RunK.step rfl rfl (ok_loadV (s := 1000002) (by decide) Tryd.underlying55 rfl rfl rfl (rfl)) ?_
      refine RunK.step rfl rfl (ok_move rfl) ?_
      refine RunK.step rfl rfl (ok_add32 rfl rfl) ?_
      refine RunK.step rfl rfl (ok_index0 (1) Tryd.underlying56 info55 rfl rfl (rfl) (by decide)) ?_
      refine RunK.step rfl rfl (ok_loadV (s := 1000002) (by decide) Tryd.underlying55 rfl rfl rfl (rfl)) ?_
      refine RunK.step rfl rfl (ok_move rfl) ?_
      refine RunK.step rfl rfl (ok_add32 rfl rfl) ?_
      refine RunK.step rfl rfl (ok_index0 (2) Tryd.underlying56 info55 rfl rfl (rfl) (by decide)) ?_
      refine RunK.step rfl rfl (ok_loadV (s := 1000002) (by decide) Tryd.underlying55 rfl rfl rfl (rfl)) ?_
      refine RunK.step rfl rfl (ok_move rfl) ?_
      refine RunK.step rfl rfl (ok_add32 rfl rfl) ?_
      refine RunK.step rfl rfl (ok_index0 (3) Tryd.underlying56 info55 rfl rfl (rfl) (by decide)) ?_
      refine RunK.step rfl rfl (ok_loadV (s := 1000002) (by decide) Tryd.underlying55 rfl rfl rfl (rfl)) ?_
      refine RunK.step rfl rfl (ok_move rfl) ?_
      refine RunK.step rfl rfl (ok_add32 rfl rfl) ?_
      refine RunK.step rfl rfl (ok_index0 (4) Tryd.underlying56 info55 rfl rfl (rfl) (by decide)) ?_
      refine RunK.step rfl rfl (ok_loadV (s := 1000002) (by decide) Tryd.underlying55 rfl rfl rfl (rfl)) ?_
      refine RunK.step rfl rfl (ok_move rfl) ?_
      refine RunK.step rfl rfl (ok_add32 rfl rfl) ?_
      refine RunK.step rfl rfl (ok_index0 (5) Tryd.underlying56 info55 rfl rfl (rfl) (by decide)) ?_
      refine RunK.step rfl rfl (ok_loadV (s := 1000002) (by decide) Tryd.underlying55 rfl rfl rfl (rfl)) ?_
      refine RunK.step rfl rfl (ok_move rfl) ?_
      refine RunK.step rfl rfl (ok_add32 rfl rfl) ?_
      refine RunK.step rfl rfl (ok_index0 (6) Tryd.underlying56 info55 rfl rfl (rfl) (by decide)) ?_
      refine RunK.step rfl rfl (ok_loadV (s := 1000002) (by decide) Tryd.underlying55 rfl rfl rfl (rfl)) ?_
      refine RunK.step rfl rfl (ok_move rfl) ?_
      refine RunK.step rfl rfl (ok_add32 rfl rfl) ?_
      refine RunK.step rfl rfl (ok_index0 (7) Tryd.underlying56 info55 rfl rfl (rfl) (by decide)) ?_
      refine RunK.step rfl rfl (ok_loadV (s := 1000002) (by decide) Tryd.underlying55 rfl rfl rfl (rfl)) ?_
      refine RunK.step rfl rfl (ok_move rfl) ?_
      refine RunK.step rfl rfl (ok_add32 rfl rfl) ?_
      refine RunK.step rfl rfl (ok_litA [_, _, _, _, _, _, _, _] Tryd.underlying56 info55 zero56 rfl ⟨rfl, rfl, rfl, rfl, rfl, rfl, rfl, rfl, rfl, rfl, rfl, rfl, rfl, rfl, rfl, rfl, trivial⟩ rfl) ?_; refine RunK.as (aggV ((compress h l).list.map u32V)) (by rw [compress, R8.add_list]) ?_
      refine RunK.nil ?_
      refine ⟨_, eff_storeA (n := 202) (s := 1000004) (size56.of (R8.size _)) rfl rfl (all_u32 _) hBb4 rfl ((R8.size _).symm) (LeftS.cons (t := 2) rfl (Surv.v _) (LeftS.cons (t := 4) rfl (Surv.v _) (LeftS.cons (t := 5) rfl (Surv.v _) (LeftS.cons (t := 7) rfl (Surv.v _) (LeftS.cons (t := 13) rfl (Surv.v _) (LeftS.cons (t := 14) rfl (Surv.v _) (LeftS.cons (t := 15) rfl (Surv.v _) (LeftS.cons (t := 16) rfl (Surv.v _) (LeftS.cons (t := 17) rfl (Surv.v _) (LeftS.cons (t := 18) rfl (Surv.v _) (LeftS.cons (t := 19) rfl (Surv.v _) (LeftS.cons (t := 20) rfl (Surv.v _) (LeftS.cons (t := 21) rfl (Surv.v _) (LeftS.cons (t := 105) rfl (Surv.v _) (LeftS.cons (t := 169) rfl (Surv.v _) (LeftS.cons (t := 170) rfl (Surv.v _) (LeftS.cons (t := 171) rfl (Surv.v _) (LeftS.cons (t := 172) rfl (Surv.v _) (LeftS.cons (t := 173) rfl (Surv.v _) (LeftS.cons (t := 174) rfl (Surv.v _) (LeftS.cons (t := 175) rfl (Surv.v _) (LeftS.cons (t := 176) rfl (Surv.v _) (LeftS.cons (t := 177) rfl (Surv.v _) (LeftS.cons (t := 178) rfl (Surv.v _) (LeftS.cons (t := 179) rfl (Surv.v _) (LeftS.cons (t := 180) rfl (Surv.v _) (LeftS.cons (t := 181) rfl (Surv.v _) (LeftS.cons (t := 182) rfl (Surv.v _) (LeftS.cons (t := 183) rfl (Surv.v _) (LeftS.cons (t := 184) rfl (Surv.v _) (LeftS.cons (t := 185) rfl (Surv.v _) (LeftS.cons (t := 186) rfl (Surv.v _) (LeftS.cons (t := 187) rfl (Surv.v _) (LeftS.cons (t := 188) rfl (Surv.v _) (LeftS.cons (t := 189) rfl (Surv.v _) (LeftS.cons (t := 190) rfl (Surv.v _) (LeftS.cons (t := 191) rfl (Surv.v _) (LeftS.cons (t := 192) rfl (Surv.v _) (LeftS.cons (t := 193) rfl (Surv.v _) (LeftS.cons (t := 194) rfl (Surv.v _) (LeftS.cons (t := 195) rfl (Surv.v _) (LeftS.cons (t := 196) rfl (Surv.v _) (LeftS.cons (t := 197) rfl (Surv.v _) (LeftS.cons (t := 198) rfl (Surv.v _) (LeftS.cons (t := 199) rfl (Surv.v _) (LeftS.cons (t := 200) rfl (Surv.v _) (LeftS.cons (t := 201) rfl (Surv.v _) (LeftS.cons (t := 1000002) rfl (Surv.blk (by omega)) (LeftS.cons (t := 1000005) rfl (Surv.blkT (by decide)) (LeftS.cons (t := 1000007) rfl (Surv.blkT (by decide)) LeftS.nil)))))))))))))))))))))))))))))))))))))))))))))))))), ?_⟩
      refine RunTK.last ?_
      refine RunK.nil ?_
      refine A.sub (Sub.cons (t := 4) rfl (Sub.cons (t := 1000002) rfl (Sub.cons (t := 1000004) rfl (Sub.cons (t := 1000005) rfl (Sub.cons (t := 1000007) rfl Sub.nil))))) ?_
      refine A.ret ?_
      exact End.cell1 (s := 1000004) rfl Tryd.underlying56 rfl (size56.of (R8.size _)) rfl rfl (Le.refl _)
end Go.Proofs.YtidlikaiileggaaDoor
