/-
  The definition's package of layer 2, by facts: Sum.
-/
import Derived.Test.YtidlikaiileggaaDoorC02b
namespace Go.Proofs.YtidlikaiileggaaDoor
open Go Go.RowKit
set_option linter.unusedVariables false

theorem zero25 : ZeroIs Tryd.prog 25 (List.replicate 32 (.int .u8 0)) := by unfold ZeroIs; kernel_rfl
theorem size25 : SizeIs Tryd.prog 25 32 := by unfold SizeIs; kernel_rfl
set_option maxHeartbeats 400000 in
theorem refSum_fn (l : List UInt8) (hl : l.length ≤ 1000000) : Fn Tryd.prog 19 [byt l] (.v (aggV ((sha l).map byteV))) := by
  have hpl := padded_length l
  have hpm := padded_mod l
  refine Fn.of Tryd.func19 rfl (by kernel_rfl) Tryd.ntmps19 (by simp) (fun w => [(0, old w.heap.size (byt l))]) (fun w => (Start.old rfl Start.nil)) fun w₀ => ?_
  refine A.regs (by kernel_rfl) (by kernel_rfl) (.inl rfl) ?_
  refine RunTK.new 0 (by decide) rfl (.inl rfl) ?_
  refine RunK.nil ?_
  refine ⟨_, _, eff_alloc (n := 69) (d := 2) (k := 1000002) zero25 (by decide), fun b2 hb2 => ?_⟩
  have hBb2 := hb2.1
  refine RunTK.last ?_
  refine RunK.nil ?_
  refine A.sub (Sub.cons (t := 0) rfl (Sub.cons (t := 2) rfl (Sub.cons (t := 1000002) rfl Sub.nil))) ?_
  refine A.regs (by kernel_rfl) (by kernel_rfl) (.inl rfl) ?_
  refine RunTK.eff 2 (by decide) rfl (.inl rfl) ?_
  refine RunK.step rfl rfl (ok_build0own Tryd.underlying22 info5) ?_
  refine RunK.step rfl rfl (ok_move rfl) ?_
  refine RunK.nil ?_
  refine ⟨_, eff_appendS (vs := l.map byteV) Tryd.underlying22 info5 (by decide) rfl rfl rfl ((Le.old _ _).trans (Le.eq (byt_vals l))) (by simp [byteV, Value.oneCell']) (by simp; omega) (by decide) (fun g hg => (LeftS.cons (t := 0) rfl (Surv.old (by omega)) (LeftS.cons (t := 2) rfl (Surv.v _) (LeftS.cons (t := 12) rfl (Surv.old (by omega)) (LeftS.cons (t := 1000002) rfl (Surv.blkT (by decide)) LeftS.nil))))), ?_⟩
  refine RunTK.eff 4 (by decide) rfl (.inl rfl) ?_
  refine RunK.step rfl rfl (ok_build [byteD 128] Tryd.underlying22 info5 rfl (by decide) (by decide) rfl ⟨rfl, rfl, trivial⟩ (fun d hd w x h => by simp only [List.mem_cons, List.not_mem_nil, or_false] at hd; rcases hd with rfl; exact v_one rfl h)) ?_
  refine RunK.nil ?_
  refine ⟨_, eff_appendS (vs := [byteV 128]) Tryd.underlying22 info5 (by decide) rfl rfl rfl (le_lst _ _) (by simp [byteV, Value.oneCell']) (by simp; omega) (by decide) (fun g hg => (LeftS.cons (t := 0) rfl (Surv.old (by omega)) (LeftS.cons (t := 2) rfl (Surv.v _) (LeftS.cons (t := 12) rfl (Surv.old (by omega)) (LeftS.cons (t := 1000002) rfl (Surv.blkT (by decide)) LeftS.nil))))), ?_⟩
  refine RunTK.last ?_
  refine RunK.step rfl rfl (ok_assign rfl) ?_
  refine RunK.nil ?_
  refine A.sub (Sub.cons (t := 0) rfl (Sub.cons (t := 2) rfl (Sub.cons (t := 3) rfl (Sub.cons (t := 1000002) rfl Sub.nil)))) ?_
  refine A.seq ?_
  refine A.block ?_
  refine A.loop (ι := Nat) (fun z => z ≤ ((119 - l.length % 64) % 64)) (fun z => [(0, old w₀.heap.size (byt l)), (2, .v (.pointer (some ⟨b2, 0, none⟩))), (3, own w₀.heap.size 5 (l.length + 1 + z) ((l ++ 128 :: List.replicate z 0).map byteV)), (1000002, blk b2 25 (List.replicate 32 (.int .u8 0)))]) (fun z => ((119 - l.length % 64) % 64) - z) 0 ?_ ?_ ?_
  · exact Nat.zero_le _
  · exact (Sub.cons (t := 0) rfl (Sub.cons (t := 2) rfl (Sub.eq (t := 3) _ rfl (by simp) (Sub.cons (t := 1000002) rfl Sub.nil))))
  intro z hz
  refine A.seq ?_
  refine A.regs (by kernel_rfl) (by kernel_rfl) (.inl rfl) ?_
  refine RunTK.last ?_
  refine RunK.step rfl rfl (ok_move rfl) ?_
  refine RunK.step rfl rfl (ok_lenB Tryd.underlying22 rfl (own_byt (by simp; omega))) ?_; refine RunK.as (.int .i64 ((l.length + 1 + z : Nat) : Int)) (by congr 2; simp; omega) ?_
  refine RunK.step rfl rfl (ok_rem rfl rfl (by decide)) ?_; refine RunK.as (.int .i64 (((l.length + 1 + z) % 64 : Nat) : Int)) (by rw [tmod_lit _ (by decide)]; rfl) ?_
  refine RunK.step rfl rfl (ok_bin rfl rfl rfl) ?_
  refine RunK.nil ?_
  refine A.sub (Sub.cons (t := 0) rfl (Sub.cons (t := 2) rfl (Sub.cons (t := 3) rfl (Sub.cons (t := 19) rfl (Sub.cons (t := 1000002) rfl Sub.nil))))) ?_
  refine A.cond rfl (fun hc19 => ?_) (fun hc19 => ?_)
  · have hzl : z < ((119 - l.length % 64) % 64) := by simp at hc19; omega
    refine A.skip ?_
    refine End.normal_then (End.code ?_)
    refine A.block ?_
    refine A.reg (by kernel_rfl) (by kernel_rfl) (.inl rfl) ?_
    refine RunTK.eff 2 (by decide) rfl (.inl rfl) ?_
    refine RunK.step rfl rfl (ok_move rfl) ?_
    refine RunK.step rfl rfl (ok_build [byteD 0] Tryd.underlying22 info5 rfl (by decide) (by decide) rfl ⟨rfl, rfl, trivial⟩ (fun d hd w x h => by simp only [List.mem_cons, List.not_mem_nil, or_false] at hd; rcases hd with rfl; exact v_one rfl h)) ?_
    refine RunK.nil ?_
    refine ⟨_, eff_appendS (vs := [byteV 0]) Tryd.underlying22 info5 (by decide) rfl rfl rfl (le_lst _ _) (by simp [byteV, Value.oneCell']) (by simp; omega) (by decide) (fun g hg => (LeftS.cons (t := 0) rfl (Surv.old (by omega)) (LeftS.cons (t := 2) rfl (Surv.v _) (LeftS.cons (t := 19) rfl (Surv.v _) (LeftS.cons (t := 1000002) rfl (Surv.blkT (by decide)) LeftS.nil))))), ?_⟩
    refine RunTK.last ?_
    refine RunK.step rfl rfl (ok_assign rfl) ?_
    refine RunK.nil ?_
    refine End.sub (Sub.cons (t := 0) rfl (Sub.cons (t := 2) rfl (Sub.cons (t := 3) rfl (Sub.cons (t := 1000002) rfl Sub.nil)))) ?_
    refine End.normal_block ?_
    refine End.normal_then ?_
    refine End.again (z + 1) ?_ ?_ ?_
    · show _ ≤ _; omega
    · show _ - _ < _ - _; omega
    · exact (Sub.cons (t := 0) rfl (Sub.cons (t := 2) rfl (Sub.eq (t := 3) _ rfl (by rw [List.replicate_succ']; simp [Nat.add_assoc]) (Sub.cons (t := 1000002) rfl Sub.nil))))
  · obtain rfl : z = ((119 - l.length % 64) % 64) := by simp at hc19; omega
    refine A.exit ?_
    refine End.exit_then ?_
    refine End.exit_then ?_
    refine End.exit_here ?_
    refine End.normal_then (End.code ?_)
    refine A.regs (by kernel_rfl) (by kernel_rfl) (.inl rfl) ?_
    refine RunTK.eff 6 (by decide) rfl (.inl rfl) ?_
    refine RunK.step rfl rfl (ok_move rfl) ?_
    refine RunK.step rfl rfl (ok_move rfl) ?_
    refine RunK.step rfl rfl (ok_lenB Tryd.underlying22 rfl (Le.old _ _)) ?_
    refine RunK.step rfl rfl (ok_conv Tryd.underlying3 Tryd.underlying57 rfl) ?_; refine RunK.as (.int .u64 ((l.length : Nat) : Int)) (by rw [wrapN_u64 (by omega)]) ?_
    refine RunK.step rfl rfl (ok_bin rfl rfl rfl) ?_; refine RunK.as (.int .u64 ((8 * l.length : Nat) : Int)) (by rw [wrap_u64 (by omega) (by omega)]; congr 1) ?_
    refine RunK.step rfl rfl (ok_call (refPut64_fn ((8 * l.length : Nat) : Int) (by omega) (by omega)) (Args.cons rfl (Le.refl _) Args.nil)) ?_
    refine RunK.nil ?_
    refine ⟨_, eff_appendS (vs := (be 8 (8 * l.length)).map byteV) Tryd.underlying22 info5 (by decide) rfl rfl rfl ((le_byt _ _).trans (Le.eq (byt_vals _))) (by simp [byteV, Value.oneCell']) (by simp [be_length]; omega) (by decide) (fun g hg => (LeftS.cons (t := 0) rfl (Surv.old (by omega)) (LeftS.cons (t := 2) rfl (Surv.v _) (LeftS.cons (t := 19) rfl (Surv.v _) (LeftS.cons (t := 24) rfl (Surv.old (by omega)) (LeftS.cons (t := 25) rfl (Surv.v _) (LeftS.cons (t := 26) rfl (Surv.v _) (LeftS.cons (t := 27) rfl (Surv.v _) (LeftS.cons (t := 1000002) rfl (Surv.blkT (by decide)) LeftS.nil))))))))), ?_⟩
    refine RunTK.last ?_
    refine RunK.step rfl rfl (ok_assign rfl) ?_
    refine RunK.nil ?_
    refine A.sub (Sub.cons (t := 2) rfl (Sub.cons (t := 3) rfl (Sub.cons (t := 1000002) rfl Sub.nil))) ?_
    refine A.regs (by kernel_rfl) (by kernel_rfl) (.inl rfl) ?_
    refine RunTK.new 4 (by decide) rfl (.inl rfl) ?_
    refine RunK.step rfl rfl (ok_call refConstants_fn Args.nil) ?_
    refine RunK.step rfl rfl (ok_move rfl) ?_
    refine RunK.step rfl rfl (ok_extract rfl rfl) ?_
    refine RunK.step rfl rfl (ok_extract rfl rfl) ?_
    refine RunK.nil ?_
    refine ⟨_, _, eff_alloc (n := 69) (d := 4) (k := 1000004) zero64 (by decide), fun b4 hb4 => ?_⟩
    have hBb4 := hb4.1
    have hlt_b2_b4 : b2 < b4 := hb4.2 1000002 _ _ _ rfl
    refine RunTK.new 5 (by decide) rfl (.inl rfl) ?_
    refine RunK.nil ?_
    refine ⟨_, _, eff_alloc (n := 69) (d := 5) (k := 1000005) zero56 (by decide), fun b5 hb5 => ?_⟩
    have hBb5 := hb5.1
    have hlt_b2_b5 : b2 < b5 := hb5.2 1000002 _ _ _ rfl
    have hlt_b4_b5 : b4 < b5 := hb5.2 1000004 _ _ _ rfl
    refine RunTK.eff 6 (by decide) rfl (.inl rfl) ?_
    refine RunK.nil ?_
    refine ⟨_, eff_storeA (n := 69) (s := 1000004) (size64.of (rfl)) rfl rfl (rfl) hBb4 rfl (rfl) (LeftS.cons (t := 2) rfl (Surv.v _) (LeftS.cons (t := 3) rfl (Surv.own (by decide)) (LeftS.cons (t := 4) rfl (Surv.v _) (LeftS.cons (t := 5) rfl (Surv.v _) (LeftS.cons (t := 32) rfl (Surv.v _) (LeftS.cons (t := 33) rfl (Surv.v _) (LeftS.cons (t := 1000002) rfl (Surv.blkT (by decide)) (LeftS.cons (t := 1000005) rfl (Surv.blkT (by decide)) LeftS.nil)))))))), ?_⟩
    refine RunTK.eff 7 (by decide) rfl (.inl rfl) ?_
    refine RunK.nil ?_
    refine ⟨_, eff_storeA (n := 69) (s := 1000005) (size56.of (R8.size _)) rfl rfl (all_u32 _) hBb5 rfl (by first | exact (R8.size _).trans (R8.size _).symm | rfl) (LeftS.cons (t := 2) rfl (Surv.v _) (LeftS.cons (t := 3) rfl (Surv.own (by decide)) (LeftS.cons (t := 4) rfl (Surv.v _) (LeftS.cons (t := 5) rfl (Surv.v _) (LeftS.cons (t := 32) rfl (Surv.v _) (LeftS.cons (t := 33) rfl (Surv.v _) (LeftS.cons (t := 1000002) rfl (Surv.blkT (by decide)) (LeftS.cons (t := 1000004) rfl (Surv.blkT (by decide)) LeftS.nil)))))))), ?_⟩
    refine RunTK.last ?_
    refine RunK.nil ?_
    refine A.sub (Sub.cons (t := 2) rfl (Sub.cons (t := 3) rfl (Sub.cons (t := 5) rfl (Sub.cons (t := 1000002) rfl (Sub.cons (t := 1000004) rfl (Sub.cons (t := 1000005) rfl Sub.nil)))))) ?_
    refine A.seq ?_
    refine A.regs (by kernel_rfl) (by kernel_rfl) (.inl rfl) ?_
    refine RunTK.last ?_
    refine RunK.step rfl rfl (ok_assign rfl) ?_
    refine RunK.nil ?_
    refine A.sub (Sub.cons (t := 2) rfl (Sub.cons (t := 3) rfl (Sub.cons (t := 5) rfl (Sub.cons (t := 6) rfl (Sub.cons (t := 1000002) rfl (Sub.cons (t := 1000004) rfl (Sub.cons (t := 1000005) rfl Sub.nil))))))) ?_
    refine A.block ?_
    refine A.loop (ι := Nat) (fun k => k ≤ ((padded l).length / 64)) (fun k => [(2, .v (.pointer (some ⟨b2, 0, none⟩))), (3, own w₀.heap.size 5 ((padded l).length) ((padded l).map byteV)), (5, .v (.pointer (some ⟨b5, 0, none⟩))), (6, .v (.int .i64 ((64 * k : Nat) : Int))), (1000002, blk b2 25 (List.replicate 32 (.int .u8 0))), (1000005, blk b5 56 ((chain H8 (padded l) k).list.map u32V))]) (fun k => ((padded l).length / 64) - k) 0 ?_ ?_ ?_
    · exact Nat.zero_le _
    · exact (Sub.cons (t := 2) rfl (Sub.eq (t := 3) _ rfl (by rw [hpl]; simp [padded, be_length, Nat.add_assoc]) (Sub.cons (t := 5) rfl (Sub.cons (t := 6) rfl (Sub.cons (t := 1000002) rfl (Sub.cons (t := 1000005) rfl Sub.nil))))))
    intro k hk
    refine A.seq ?_
    refine A.regs (by kernel_rfl) (by kernel_rfl) (.inl rfl) ?_
    refine RunTK.last ?_
    refine RunK.step rfl rfl (ok_move rfl) ?_
    refine RunK.step rfl rfl (ok_move rfl) ?_
    refine RunK.step rfl rfl (ok_lenB Tryd.underlying22 rfl (own_byt rfl)) ?_
    refine RunK.step rfl rfl (ok_bin rfl rfl rfl) ?_
    refine RunK.nil ?_
    refine A.sub (Sub.cons (t := 2) rfl (Sub.cons (t := 3) rfl (Sub.cons (t := 5) rfl (Sub.cons (t := 6) rfl (Sub.cons (t := 37) rfl (Sub.cons (t := 1000002) rfl (Sub.cons (t := 1000005) rfl Sub.nil))))))) ?_
    refine A.cond rfl (fun hc37 => ?_) (fun hc37 => ?_)
    · have hlt : 64 * k < (padded l).length := by simp at hc37; omega
      have hk1 : k < ((padded l).length / 64) := by omega
      refine A.skip ?_
      refine End.normal_then (End.code ?_)
      refine A.seq ?_
      refine A.block ?_
      refine A.reg (by kernel_rfl) (by kernel_rfl) (.inr (by kernel_rfl)) ?_
      refine RunTK.eff 7 (by decide) rfl (.inr (by kernel_rfl)) ?_
      refine RunK.step rfl rfl (ok_loadA (s := 1000005) (by decide) Tryd.underlying56 rfl (size56.of (R8.size _)) rfl rfl) ?_
      refine RunK.step rfl rfl (ok_move rfl) ?_
      refine RunK.step rfl rfl (ok_move rfl) ?_
      refine RunK.step rfl rfl (ok_move rfl) ?_
      refine RunK.step rfl rfl (ok_bin rfl rfl rfl) ?_; refine RunK.as (.int .i64 ((64 * k + 64 : Nat) : Int)) (by rw [wrap_i64 (by omega) (by omega)]; first | rfl | (congr 1; omega)) ?_
      refine RunK.step rfl rfl (ok_slice (64 * k) (64 * k + 64) Tryd.underlying22 info5 rfl (own_byt rfl) (.inl ⟨_, _, rfl, rfl⟩) (.inl ⟨_, _, rfl, rfl⟩) (by omega) (by simp; omega)) ?_
      refine RunK.step rfl rfl (ok_call (refCompress_fn (chain H8 (padded l) k) (((padded l).drop (64 * k)).take 64) (by simp; omega)) (Args.cons rfl (Le.refl _) (Args.cons rfl (Le.eq (by simp only [byt, List.map_take, List.map_drop, List.drop_take]; congr 2; omega)) Args.nil))) ?_; refine RunK.as (aggV ((chain H8 (padded l) (k + 1)).list.map u32V)) (rfl) ?_
      refine RunK.nil ?_
      refine ⟨_, eff_storeA (n := 69) (s := 1000005) (size56.of (R8.size _)) rfl rfl (all_u32 _) hBb5 rfl (by first | exact (R8.size _).trans (R8.size _).symm | rfl) (LeftS.cons (t := 2) rfl (Surv.v _) (LeftS.cons (t := 3) rfl (Surv.own (by decide)) (LeftS.cons (t := 5) rfl (Surv.v _) (LeftS.cons (t := 6) rfl (Surv.v _) (LeftS.cons (t := 37) rfl (Surv.v _) (LeftS.cons (t := 40) rfl (Surv.v _) (LeftS.cons (t := 41) rfl (Surv.own (by decide)) (LeftS.cons (t := 42) rfl (Surv.v _) (LeftS.cons (t := 43) rfl (Surv.v _) (LeftS.cons (t := 44) rfl (Surv.v _) (LeftS.cons (t := 46) rfl (Surv.v _) (LeftS.cons (t := 1000002) rfl (Surv.blkT (by decide)) LeftS.nil)))))))))))), ?_⟩
      refine RunTK.last ?_
      refine RunK.nil ?_
      refine End.sub (Sub.cons (t := 2) rfl (Sub.cons (t := 3) rfl (Sub.cons (t := 5) rfl (Sub.cons (t := 6) rfl (Sub.cons (t := 1000002) rfl (Sub.cons (t := 1000005) rfl Sub.nil)))))) ?_
      refine End.normal_block ?_
      refine End.normal_then (End.code ?_)
      refine A.reg (by kernel_rfl) (by kernel_rfl) (.inl rfl) ?_
      refine RunTK.last ?_
      refine RunK.step rfl rfl (ok_move rfl) ?_
      refine RunK.step rfl rfl (ok_bin rfl rfl rfl) ?_; refine RunK.as (.int .i64 ((64 * (k + 1) : Nat) : Int)) (by rw [wrap_i64 (by omega) (by omega)]; first | rfl | (congr 1; omega)) ?_
      refine RunK.step rfl rfl (ok_assign rfl) ?_
      refine RunK.nil ?_
      refine End.sub (Sub.cons (t := 2) rfl (Sub.cons (t := 3) rfl (Sub.cons (t := 5) rfl (Sub.cons (t := 6) rfl (Sub.cons (t := 1000002) rfl (Sub.cons (t := 1000005) rfl Sub.nil)))))) ?_
      refine End.normal_then ?_
      refine End.again (k + 1) ?_ ?_ ?_
      · show _ ≤ _; omega
      · show _ - _ < _ - _; omega
      · exact (Sub.cons (t := 2) rfl (Sub.cons (t := 3) rfl (Sub.cons (t := 5) rfl (Sub.cons (t := 6) rfl (Sub.cons (t := 1000002) rfl (Sub.cons (t := 1000005) rfl Sub.nil))))))
    · obtain rfl : k = ((padded l).length / 64) := by simp at hc37; omega
      refine A.exit ?_
      refine End.exit_then ?_
      refine End.exit_then ?_
      refine End.exit_here ?_
      refine End.normal_then (End.code ?_)
      refine A.regs (by kernel_rfl) (by kernel_rfl) (.inl rfl) ?_
      refine RunTK.new 0 (by decide) rfl (.inl rfl) ?_
      refine RunK.nil ?_
      refine ⟨_, _, eff_alloc (n := 69) (d := 7) (k := 1000007) zero25 (by decide), fun b7 hb7 => ?_⟩
      have hBb7 := hb7.1
      have hlt_b2_b7 : b2 < b7 := hb7.2 1000002 _ _ _ rfl
      have hlt_b5_b7 : b5 < b7 := hb7.2 1000005 _ _ _ rfl
      refine RunTK.last ?_
      refine RunK.nil ?_
      refine A.sub (Sub.cons (t := 2) rfl (Sub.cons (t := 5) rfl (Sub.cons (t := 7) rfl (Sub.cons (t := 1000002) rfl (Sub.cons (t := 1000005) rfl (Sub.cons (t := 1000007) rfl Sub.nil)))))) ?_
      refine A.seq ?_
      refine A.regs (by kernel_rfl) (by kernel_rfl) (.inl rfl) ?_
      refine RunTK.last ?_
      refine RunK.step rfl rfl (ok_assign rfl) ?_
      refine RunK.nil ?_
      refine A.sub (Sub.cons (t := 2) rfl (Sub.cons (t := 5) rfl (Sub.cons (t := 7) rfl (Sub.cons (t := 8) rfl (Sub.cons (t := 1000002) rfl (Sub.cons (t := 1000005) rfl (Sub.cons (t := 1000007) rfl Sub.nil))))))) ?_
      refine A.block ?_
      refine A.loop (ι := Nat) (fun i => i ≤ 8) (fun i => [(2, .v (.pointer (some ⟨b2, 0, none⟩))), (5, .v (.pointer (some ⟨b5, 0, none⟩))), (7, .v (.pointer (some ⟨b7, 0, none⟩))), (8, .v (.int .i64 ((i : Nat) : Int))), (1000002, blk b2 25 (List.replicate 32 (.int .u8 0))), (1000005, blk b5 56 ((shaR l).list.map u32V)), (1000007, blk b7 25 (tableB ((sha l).take (4 * i)) 32))]) (fun i => 8 - i) 0 ?_ ?_ ?_
      · exact Nat.zero_le _
      · exact (Sub.cons (t := 2) rfl (Sub.cons (t := 5) rfl (Sub.cons (t := 7) rfl (Sub.cons (t := 8) rfl (Sub.cons (t := 1000002) rfl (Sub.cons (t := 1000005) rfl (Sub.eq (t := 1000007) _ rfl (by rw [Nat.mul_zero, List.take_zero, ← tableB_nil]) Sub.nil)))))))
      intro i hi
      refine A.seq ?_
      refine A.regs (by kernel_rfl) (by kernel_rfl) (.inl rfl) ?_
      refine RunTK.last ?_
      refine RunK.step rfl rfl (ok_move rfl) ?_
      refine RunK.step rfl rfl (ok_bin rfl rfl rfl) ?_
      refine RunK.nil ?_
      refine A.sub (Sub.cons (t := 2) rfl (Sub.cons (t := 5) rfl (Sub.cons (t := 7) rfl (Sub.cons (t := 8) rfl (Sub.cons (t := 48) rfl (Sub.cons (t := 1000002) rfl (Sub.cons (t := 1000005) rfl (Sub.cons (t := 1000007) rfl Sub.nil)))))))) ?_
      refine A.cond rfl (fun hc48 => ?_) (fun hc48 => ?_)
      · have hi8 : i < 8 := by simp at hc48; omega
        refine A.skip ?_
        refine End.normal_then (End.code ?_)
        refine A.seq ?_
        refine A.block ?_
        refine A.regs (by kernel_rfl) (by kernel_rfl) (.inl rfl) ?_
        refine RunTK.last ?_
        refine RunK.step rfl rfl (ok_move rfl) ?_
        refine RunK.step rfl rfl (ok_index0 _ Tryd.underlying56 info55 rfl rfl (rfl) (by omega)) ?_
        refine RunK.step rfl rfl (ok_loadV (s := 1000005) (by decide) Tryd.underlying55 rfl rfl rfl (map_get32 (by show i < 8; omega))) ?_
        refine RunK.step rfl rfl (ok_callB (refPut32_fnB ((((shaR l).list.getD i 0).toNat : Nat) : Int) (Int.natCast_nonneg _) (by have := u32_lt ((shaR l).list.getD i 0); omega)) (fun _ _ => fresh_mono _ _) (Args.cons rfl (Le.refl _) Args.nil)) ?_
        refine RunK.step rfl rfl (ok_assign rfl) ?_
        refine RunK.nil ?_
        refine A.sub (Sub.cons (t := 2) rfl (Sub.cons (t := 5) rfl (Sub.cons (t := 7) rfl (Sub.cons (t := 8) rfl (Sub.cons (t := 9) rfl (Sub.cons (t := 1000002) rfl (Sub.cons (t := 1000005) rfl (Sub.cons (t := 1000007) rfl Sub.nil)))))))) ?_
        refine A.regs (by kernel_rfl) (by kernel_rfl) (.inl rfl) ?_
        refine RunTK.last ?_
        refine RunK.step rfl rfl (ok_assign rfl) ?_
        refine RunK.nil ?_
        refine A.sub (Sub.cons (t := 2) rfl (Sub.cons (t := 5) rfl (Sub.cons (t := 7) rfl (Sub.cons (t := 8) rfl (Sub.cons (t := 9) rfl (Sub.cons (t := 10) rfl (Sub.cons (t := 1000002) rfl (Sub.cons (t := 1000005) rfl (Sub.cons (t := 1000007) rfl Sub.nil))))))))) ?_
        refine A.block ?_
        refine A.loop (ι := Nat) (fun k => k ≤ 4) (fun k => [(2, .v (.pointer (some ⟨b2, 0, none⟩))), (5, .v (.pointer (some ⟨b5, 0, none⟩))), (7, .v (.pointer (some ⟨b7, 0, none⟩))), (8, .v (.int .i64 ((i : Nat) : Int))), (9, fresh w₀.heap.size 5 ((be 4 ((shaR l).list.getD i 0).toNat).map byteV) 4), (10, .v (.int .i64 ((k : Nat) : Int))), (1000002, blk b2 25 (List.replicate 32 (.int .u8 0))), (1000005, blk b5 56 ((shaR l).list.map u32V)), (1000007, blk b7 25 (tableB ((sha l).take (4 * i + k)) 32))]) (fun k => 4 - k) 0 ?_ ?_ ?_
        · exact Nat.zero_le _
        · exact (Sub.cons (t := 2) rfl (Sub.cons (t := 5) rfl (Sub.cons (t := 7) rfl (Sub.cons (t := 8) rfl (Sub.cons (t := 9) rfl (Sub.cons (t := 10) rfl (Sub.cons (t := 1000002) rfl (Sub.cons (t := 1000005) rfl (Sub.cons (t := 1000007) rfl Sub.nil)))))))))
        intro k hk
        refine A.seq ?_
        refine A.regs (by kernel_rfl) (by kernel_rfl) (.inl rfl) ?_
        refine RunTK.last ?_
        refine RunK.step rfl rfl (ok_move rfl) ?_
        refine RunK.step rfl rfl (ok_bin rfl rfl rfl) ?_
        refine RunK.nil ?_
        refine A.sub (Sub.cons (t := 2) rfl (Sub.cons (t := 5) rfl (Sub.cons (t := 7) rfl (Sub.cons (t := 8) rfl (Sub.cons (t := 9) rfl (Sub.cons (t := 10) rfl (Sub.cons (t := 56) rfl (Sub.cons (t := 1000002) rfl (Sub.cons (t := 1000005) rfl (Sub.cons (t := 1000007) rfl Sub.nil)))))))))) ?_
        refine A.cond rfl (fun hc56 => ?_) (fun hc56 => ?_)
        · have hk4 : k < 4 := by simp at hc56; omega
          refine A.skip ?_
          refine End.normal_then (End.code ?_)
          refine A.seq ?_
          refine A.block ?_
          refine A.reg (by kernel_rfl) (by kernel_rfl) (.inl rfl) ?_
          refine RunTK.eff 9 (by decide) rfl (.inl rfl) ?_
          refine RunK.step rfl rfl (ok_move rfl) ?_
          refine RunK.step rfl rfl (ok_bin rfl rfl rfl) ?_; refine RunK.as (.int .i64 ((4 * i : Nat) : Int)) (by rw [wrap_i64 (by omega) (by omega)]; first | rfl | (congr 1; omega)) ?_
          refine RunK.step rfl rfl (ok_move rfl) ?_
          refine RunK.step rfl rfl (ok_bin rfl rfl rfl) ?_; refine RunK.as (.int .i64 ((4 * i + k : Nat) : Int)) (by rw [wrap_i64 (by omega) (by omega)]; first | rfl | (congr 1; omega)) ?_
          refine RunK.step rfl rfl (ok_move rfl) ?_
          refine RunK.step rfl rfl (ok_move rfl) ?_
          refine RunK.step rfl rfl (ok_index (d := byteD ((sha l).getD (4 * i + k) 0)) Tryd.underlying22 info5 rfl ((fresh_bytes (l := be 4 ((shaR l).list.getD i 0).toNat) (by rw [be_length]) (by decide)).trans (le_byt _ _)) rfl (by omega) (by rw [Int.toNat_natCast, List.getElem?_map, sha_get l (by omega) (by omega)]; rfl)) ?_
          refine RunK.step rfl rfl (ok_load Tryd.underlying5 rfl rfl) ?_
          refine RunK.step rfl rfl (ok_index0 _ Tryd.underlying25 info5 rfl rfl (rfl) (by omega)) ?_
          refine RunK.nil ?_
          refine ⟨_, eff_storeS (n := 69) (s := 1000007) info5 rfl rfl rfl hBb7 rfl (by rw [tableB_length (by simp [sha_length]; omega)]; omega) (LeftS.cons (t := 2) rfl (Surv.v _) (LeftS.cons (t := 5) rfl (Surv.v _) (LeftS.cons (t := 7) rfl (Surv.v _) (LeftS.cons (t := 8) rfl (Surv.v _) (LeftS.cons (t := 9) rfl (Surv.fresh (by decide)) (LeftS.cons (t := 10) rfl (Surv.v _) (LeftS.cons (t := 56) rfl (Surv.v _) (LeftS.cons (t := 59) rfl (Surv.v _) (LeftS.cons (t := 60) rfl (Surv.v _) (LeftS.cons (t := 61) rfl (Surv.v _) (LeftS.cons (t := 62) rfl (Surv.v _) (LeftS.cons (t := 63) rfl (Surv.fresh (by decide)) (LeftS.cons (t := 64) rfl (Surv.v _) (LeftS.cons (t := 66) rfl (Surv.v _) (LeftS.cons (t := 67) rfl (Surv.v _) (LeftS.cons (t := 1000002) rfl (Surv.blk (by omega)) (LeftS.cons (t := 1000005) rfl (Surv.blkT (by decide)) LeftS.nil))))))))))))))))), ?_⟩
          refine RunTK.last ?_
          refine RunK.nil ?_
          refine End.sub (Sub.cons (t := 2) rfl (Sub.cons (t := 5) rfl (Sub.cons (t := 7) rfl (Sub.cons (t := 8) rfl (Sub.cons (t := 9) rfl (Sub.cons (t := 10) rfl (Sub.cons (t := 1000002) rfl (Sub.cons (t := 1000005) rfl (Sub.cons (t := 1000007) rfl Sub.nil))))))))) ?_
          refine End.normal_block ?_
          refine End.normal_then (End.code ?_)
          refine A.reg (by kernel_rfl) (by kernel_rfl) (.inl rfl) ?_
          refine RunTK.last ?_
          refine RunK.step rfl rfl (ok_move rfl) ?_
          refine RunK.step rfl rfl (ok_bin rfl rfl rfl) ?_; refine RunK.as (.int .i64 ((k + 1 : Nat) : Int)) (by rw [wrap_i64 (by omega) (by omega)]; first | rfl | (congr 1; omega)) ?_
          refine RunK.step rfl rfl (ok_assign rfl) ?_
          refine RunK.nil ?_
          refine End.sub (Sub.cons (t := 2) rfl (Sub.cons (t := 5) rfl (Sub.cons (t := 7) rfl (Sub.cons (t := 8) rfl (Sub.cons (t := 9) rfl (Sub.cons (t := 10) rfl (Sub.cons (t := 1000002) rfl (Sub.cons (t := 1000005) rfl (Sub.cons (t := 1000007) rfl Sub.nil))))))))) ?_
          refine End.normal_then ?_
          refine End.again (k + 1) ?_ ?_ ?_
          · show _ ≤ _; omega
          · show _ - _ < _ - _; omega
          · exact (Sub.cons (t := 2) rfl (Sub.cons (t := 5) rfl (Sub.cons (t := 7) rfl (Sub.cons (t := 8) rfl (Sub.cons (t := 9) rfl (Sub.cons (t := 10) rfl (Sub.cons (t := 1000002) rfl (Sub.cons (t := 1000005) rfl (Sub.eq (t := 1000007) _ rfl (by rw [tableB_step (sha_length l) (by omega)]; rfl) Sub.nil)))))))))
        · obtain rfl : k = 4 := by simp at hc56; omega
          refine A.exit ?_
          refine End.exit_then ?_
          refine End.exit_then ?_
          refine End.exit_here ?_
          refine End.normal_block ?_
          refine End.normal_then (End.code ?_)
          refine A.reg (by kernel_rfl) (by kernel_rfl) (.inl rfl) ?_
          refine RunTK.last ?_
          refine RunK.step rfl rfl (ok_move rfl) ?_
          refine RunK.step rfl rfl (ok_bin rfl rfl rfl) ?_; refine RunK.as (.int .i64 ((i + 1 : Nat) : Int)) (by rw [wrap_i64 (by omega) (by omega)]; first | rfl | (congr 1; omega)) ?_
          refine RunK.step rfl rfl (ok_assign rfl) ?_
          refine RunK.nil ?_
          refine End.sub (Sub.cons (t := 2) rfl (Sub.cons (t := 5) rfl (Sub.cons (t := 7) rfl (Sub.cons (t := 8) rfl (Sub.cons (t := 1000002) rfl (Sub.cons (t := 1000005) rfl (Sub.cons (t := 1000007) rfl Sub.nil))))))) ?_
          refine End.normal_then ?_
          refine End.again (i + 1) ?_ ?_ ?_
          · show _ ≤ _; omega
          · show _ - _ < _ - _; omega
          · exact (Sub.cons (t := 2) rfl (Sub.cons (t := 5) rfl (Sub.cons (t := 7) rfl (Sub.cons (t := 8) rfl (Sub.cons (t := 1000002) rfl (Sub.cons (t := 1000005) rfl (Sub.cons (t := 1000007) rfl Sub.nil)))))))
      · obtain rfl : i = 8 := by simp at hc48; omega
        refine A.exit ?_
        refine End.exit_then ?_
        refine End.exit_then ?_
        refine End.exit_here ?_
        refine End.normal_then (End.code ?_)
        refine A.regs (by kernel_rfl) (by kernel_rfl) (.inl rfl) ?_
        refine RunTK.eff 1 (by decide) rfl (.inl rfl) ?_
        refine RunK.step rfl rfl (ok_loadA (s := 1000007) (by decide) Tryd.underlying25 rfl (size25.of (by rw [tableB_length (by simp [sha_length])])) rfl rfl) ?_; refine RunK.as (aggV ((sha l).map byteV)) (by rw [tableB_full (by simp [sha_length]), List.take_of_length_le (by rw [sha_length]; decide)]) ?_
        refine RunK.nil ?_
        refine ⟨_, eff_storeA (n := 69) (s := 1000002) (size25.of (by rw [List.length_map, sha_length])) rfl rfl (all_bytes _) hBb2 rfl (by rw [List.length_map, sha_length, List.length_replicate]) (LeftS.cons (t := 2) rfl (Surv.v _) (LeftS.cons (t := 5) rfl (Surv.v _) (LeftS.cons (t := 7) rfl (Surv.v _) (LeftS.cons (t := 8) rfl (Surv.v _) (LeftS.cons (t := 48) rfl (Surv.v _) (LeftS.cons (t := 68) rfl (Surv.v _) (LeftS.cons (t := 1000005) rfl (Surv.blkT (by decide)) (LeftS.cons (t := 1000007) rfl (Surv.blk (by omega)) LeftS.nil)))))))), ?_⟩
        refine RunTK.last ?_
        refine RunK.nil ?_
        refine A.sub (Sub.cons (t := 2) rfl (Sub.cons (t := 1000002) rfl (Sub.cons (t := 1000005) rfl (Sub.cons (t := 1000007) rfl Sub.nil)))) ?_
        refine A.ret ?_
        exact End.cell1 (s := 1000002) rfl Tryd.underlying25 rfl (size25.of (by rw [List.length_map, sha_length])) rfl rfl (Le.refl _)
end Go.Proofs.YtidlikaiileggaaDoor
