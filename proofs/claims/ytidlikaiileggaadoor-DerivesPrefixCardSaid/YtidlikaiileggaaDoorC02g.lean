/-
  Package digests by facts, part one: rotr, schedule, rounds, Compress, Initial.
-/
import Derived.Test.YtidlikaiileggaaDoorC02c
import Derived.Test.YtidlikaiileggaaDoorC01c
import Derived.Test.YtidlikaiileggaaDoorRange
namespace Go.Proofs.YtidlikaiileggaaDoor
open Go Go.RowKit
set_option linter.unusedVariables false
/-- What the package's tables hold. -/
abbrev tabs : Env := [(1900000, tab 0 (H8.list.map u32V)), (1900001, tab 1 (K64.map u32V))]
theorem tabs_v : ∀ p ∈ tabs, vbase ≤ p.1 := fun p hp => by
  simp only [tabs, List.mem_cons, List.not_mem_nil, or_false] at hp
  rcases hp with rfl | rfl <;> decide
theorem tabs_hi {w : World} (h : ∀ p ∈ tabs, p.2.Of w undef) : 1 < w.heap.size := by
  have := h (1900001, tab 1 (K64.map u32V)) (by simp [tabs])
  exact this.1

theorem zero53 : ZeroIs Tryd.prog 53 (List.replicate 64 (.int .u8 0)) := by unfold ZeroIs; kernel_rfl
theorem size53 : SizeIs Tryd.prog 53 64 := by unfold SizeIs; kernel_rfl
theorem rotr_fn (x : UInt32) (n : Nat) (hn0 : 0 < n) (hn : n < 32) : Fn Tryd.prog 48 [.v (u32V x), .v (.int .i64 (n : Int))] (.v (u32V (rotr32 x n))) := by
  have hx := u32_lt x
  refine Fn.of Tryd.func48 rfl (by kernel_rfl) Tryd.ntmps48 (by simp) (fun w => [(0, .v (u32V x)), (1, .v (.int .i64 (n : Int)))]) (fun w => (Start.v rfl (Start.v rfl Start.nil))) fun w₀ => ?_
  refine A.regs (by kernel_rfl) (by kernel_rfl) (.inl rfl) ?_
  refine RunTK.last ?_
  refine RunK.step rfl rfl (ok_assign rfl) ?_
  refine RunK.nil ?_
  refine A.sub (Sub.cons (t := 0) rfl (Sub.cons (t := 1) rfl Sub.nil)) ?_
  refine A.regs (by kernel_rfl) (by kernel_rfl) (.inl rfl) ?_
  refine RunTK.last ?_
  refine RunK.step rfl rfl (ok_move rfl) ?_
  refine RunK.step rfl rfl (ok_move rfl) ?_
  refine RunK.step rfl rfl (ok_neg rfl) ?_; refine RunK.as (.int .i64 (-(n : Int))) (by rw [wrap_i64 (by omega) (by omega)]; congr 1; omega) ?_
  refine RunK.step rfl rfl (ok_call (Rot_fn (x.toNat : Int) (-(n : Int)) (Int.natCast_nonneg _) (by omega)) (Args.cons rfl (Le.refl _) (Args.cons rfl (Le.refl _) Args.nil))) ?_; refine RunK.as (u32V (rotr32 x n)) (by rw [rotr32_val, Int.toNat_natCast, show (-(n : Int) % 32).toNat = 32 - n from by omega]) ?_
  refine RunK.step rfl rfl (ok_assign rfl) ?_
  refine RunK.nil ?_
  refine A.sub (Sub.cons (t := 4) rfl Sub.nil) ?_
  refine A.ret ?_
  exact End.ret1 rfl rfl (by first | exact Le.refl _ | exact Le.old _ _)
set_option maxHeartbeats 400000 in
theorem schedule_fn (l : List UInt8) (hl : l.length = 64) : Fn Tryd.prog 43 [.v (aggV (l.map byteV))] (.v (aggV ((sched l 64).map u32V))) := by
  refine Fn.of Tryd.func43 rfl (by kernel_rfl) Tryd.ntmps43 (by simp) (fun w => [(0, .v (aggV (l.map byteV)))]) (fun w => (Start.v rfl Start.nil)) fun w₀ => ?_
  refine A.regs (by kernel_rfl) (by kernel_rfl) (.inl rfl) ?_
  refine RunTK.new 0 (by decide) rfl (.inl rfl) ?_
  refine RunK.nil ?_
  refine ⟨_, _, eff_box (n := 70) (d := 1) (k := 1000001) rfl (by decide), fun b1 hb1 => ?_⟩
  have hBb1 := hb1.1
  refine RunTK.new 1 (by decide) rfl (.inl rfl) ?_
  refine RunK.nil ?_
  refine ⟨_, _, eff_alloc (n := 70) (d := 2) (k := 1000002) zero64 (by decide), fun b2 hb2 => ?_⟩
  have hBb2 := hb2.1
  have hlt_b1_b2 : b1 < b2 := hb2.2 1000001 _ _ _ rfl
  refine RunTK.last ?_
  refine RunK.nil ?_
  refine A.sub (Sub.cons (t := 1) rfl (Sub.cons (t := 2) rfl (Sub.cons (t := 1000001) rfl (Sub.cons (t := 1000002) rfl Sub.nil)))) ?_
  refine A.regs (by kernel_rfl) (by kernel_rfl) (.inl rfl) ?_
  refine RunTK.new 0 (by decide) rfl (.inl rfl) ?_
  refine RunK.nil ?_
  refine ⟨_, _, eff_alloc (n := 70) (d := 3) (k := 1000003) zero64 (by decide), fun b3 hb3 => ?_⟩
  have hBb3 := hb3.1
  have hlt_b1_b3 : b1 < b3 := hb3.2 1000001 _ _ _ rfl
  have hlt_b2_b3 : b2 < b3 := hb3.2 1000002 _ _ _ rfl
  refine RunTK.last ?_
  refine RunK.nil ?_
  refine A.sub (Sub.cons (t := 1) rfl (Sub.cons (t := 2) rfl (Sub.cons (t := 3) rfl (Sub.cons (t := 1000001) rfl (Sub.cons (t := 1000002) rfl (Sub.cons (t := 1000003) rfl Sub.nil)))))) ?_
  refine A.seq ?_
  refine A.regs (by kernel_rfl) (by kernel_rfl) (.inl rfl) ?_
  refine RunTK.last ?_
  refine RunK.step rfl rfl (ok_move rfl) ?_
  refine RunK.nil ?_
  refine A.sub (Sub.cons (t := 1) rfl (Sub.cons (t := 2) rfl (Sub.cons (t := 3) rfl (Sub.cons (t := 10) rfl (Sub.cons (t := 1000001) rfl (Sub.cons (t := 1000002) rfl (Sub.cons (t := 1000003) rfl Sub.nil))))))) ?_
  refine A.block ?_
  refine A.loop (ι := Nat) (fun j => j ≤ 16) (fun j => [(1, .v (.pointer (some ⟨b1, 0, none⟩))), (2, .v (.pointer (some ⟨b2, 0, none⟩))), (3, .v (.pointer (some ⟨b3, 0, none⟩))), (10, .v (.int .i64 ((j : Nat) : Int))), (1000001, blk b1 53 (l.map byteV)), (1000002, blk b2 64 (List.replicate 64 (.int .u32 0))), (1000003, blk b3 64 (table (sched l j) 64))]) (fun j => 16 - j) 0 ?_ ?_ ?_
  · exact Nat.zero_le _
  · exact (Sub.cons (t := 1) rfl (Sub.cons (t := 2) rfl (Sub.cons (t := 3) rfl (Sub.cons (t := 10) rfl (Sub.cons (t := 1000001) rfl (Sub.cons (t := 1000002) rfl (Sub.eq (t := 1000003) _ rfl (rfl) Sub.nil)))))))
  intro j hj
  refine A.regs (by kernel_rfl) (by kernel_rfl) (.inl rfl) ?_
  refine RunTK.last ?_
  refine RunK.step rfl rfl (ok_bin rfl rfl rfl) ?_
  refine RunK.nil ?_
  refine A.sub (Sub.cons (t := 1) rfl (Sub.cons (t := 2) rfl (Sub.cons (t := 3) rfl (Sub.cons (t := 10) rfl (Sub.cons (t := 11) rfl (Sub.cons (t := 1000001) rfl (Sub.cons (t := 1000002) rfl (Sub.cons (t := 1000003) rfl Sub.nil)))))))) ?_
  refine A.seq ?_
  refine A.cond rfl (fun hc11 => ?_) (fun hc11 => ?_)
  · have hlt : j < 16 := by simp at hc11; omega
    refine A.skip ?_
    refine End.normal_then (End.code ?_)
    refine A.seq ?_
    refine A.block ?_
    refine A.regs (by kernel_rfl) (by kernel_rfl) (.inl rfl) ?_
    refine RunTK.last ?_
    refine RunK.step rfl rfl (ok_move rfl) ?_
    refine RunK.step rfl rfl (ok_assign rfl) ?_
    refine RunK.nil ?_
    refine A.sub (Sub.cons (t := 1) rfl (Sub.cons (t := 2) rfl (Sub.cons (t := 3) rfl (Sub.cons (t := 4) rfl (Sub.cons (t := 10) rfl (Sub.cons (t := 1000001) rfl (Sub.cons (t := 1000002) rfl (Sub.cons (t := 1000003) rfl Sub.nil)))))))) ?_
    refine A.reg (by kernel_rfl) (by kernel_rfl) (.inl rfl) ?_
    refine RunTK.eff 12 (by decide) rfl (.inl rfl) ?_
    refine RunK.step rfl rfl (ok_move rfl) ?_
    refine RunK.step rfl rfl (ok_move rfl) ?_
    refine RunK.step rfl rfl (ok_bin rfl rfl rfl) ?_; refine RunK.as (.int .i64 ((4 * j : Nat) : Int)) (by rw [wrap_i64 (by omega) (by omega)]; first | rfl | (congr 1; omega)) ?_
    refine RunK.step rfl rfl (ok_move rfl) ?_
    refine RunK.step rfl rfl (ok_bin rfl rfl rfl) ?_; refine RunK.as (.int .i64 ((j + 1 : Nat) : Int)) (by rw [wrap_i64 (by omega) (by omega)]; first | rfl | (congr 1; omega)) ?_
    refine RunK.step rfl rfl (ok_bin rfl rfl rfl) ?_; refine RunK.as (.int .i64 ((4 * j + 4 : Nat) : Int)) (by rw [wrap_i64 (by omega) (by omega)]; first | rfl | (congr 1; omega)) ?_
    refine RunK.step rfl rfl (ok_sliceA (s := 1000001) (4 * j) (4 * j + 4) (by decide) Tryd.underlying53 info5 rfl rfl (.inl ⟨_, _, rfl, rfl⟩) (.inl ⟨_, _, rfl, rfl⟩) (by omega) (by omega) (by rw [List.length_map, hl]) (by decide)) ?_
    refine RunK.step rfl rfl (ok_call (Get32_fn ((l.drop (4 * j)).take 4)) (Args.cons rfl (Le.eq (by rw [byt_vals]; congr 2; rw [List.map_take, List.map_drop, List.drop_take, show 4 * j + 4 - 4 * j = 4 from by omega])) Args.nil)) ?_
    refine RunK.step rfl rfl (ok_move rfl) ?_
    refine RunK.step rfl rfl (ok_extract rfl rfl) ?_; refine RunK.as (u32V (nextW l (sched l j) j)) (by rw [nextW, if_pos hlt, word, u32V_ofNat, getV, if_pos (by simp; omega), Nat.mod_eq_of_lt (word_lt l j)]) ?_
    refine RunK.step rfl rfl (ok_extract rfl rfl) ?_
    refine RunK.step rfl rfl (ok_index0 _ Tryd.underlying64 info55 rfl rfl (rfl) (by omega)) ?_
    refine RunK.nil ?_
    refine ⟨_, eff_storeS (n := 70) (s := 1000003) info55 rfl rfl rfl hBb3 rfl (by rw [table_length (by rw [sched_length]; omega)]; omega) (LeftS.cons (t := 1) rfl (Surv.v _) (LeftS.cons (t := 2) rfl (Surv.v _) (LeftS.cons (t := 3) rfl (Surv.v _) (LeftS.cons (t := 4) rfl (Surv.v _) (LeftS.cons (t := 10) rfl (Surv.v _) (LeftS.cons (t := 14) rfl (Surv.v _) (LeftS.cons (t := 15) rfl (Surv.v _) (LeftS.cons (t := 16) rfl (Surv.v _) (LeftS.cons (t := 17) rfl (Surv.v _) (LeftS.cons (t := 18) rfl (Surv.v _) (LeftS.cons (t := 19) rfl (Surv.v _) (LeftS.cons (t := 22) rfl (Surv.v _) (LeftS.cons (t := 24) rfl (Surv.v _) (LeftS.cons (t := 1000001) rfl (Surv.blkT (by decide)) (LeftS.cons (t := 1000002) rfl (Surv.blk (by omega)) LeftS.nil))))))))))))))), ?_⟩
    refine RunTK.last ?_
    refine RunK.nil ?_
    refine End.sub (Sub.cons (t := 1) rfl (Sub.cons (t := 2) rfl (Sub.cons (t := 3) rfl (Sub.cons (t := 10) rfl (Sub.cons (t := 1000001) rfl (Sub.cons (t := 1000002) rfl (Sub.cons (t := 1000003) rfl Sub.nil))))))) ?_
    refine End.normal_block ?_
    refine End.normal_then (End.code ?_)
    refine A.reg (by kernel_rfl) (by kernel_rfl) (.inl rfl) ?_
    refine RunTK.last ?_
    refine RunK.step rfl rfl (ok_bin rfl rfl rfl) ?_; refine RunK.as (.int .i64 ((j + 1 : Nat) : Int)) (by rw [wrap_i64 (by omega) (by omega)]; first | rfl | (congr 1; omega)) ?_
    refine RunK.step rfl rfl (ok_move rfl) ?_
    refine RunK.nil ?_
    refine End.sub (Sub.cons (t := 1) rfl (Sub.cons (t := 2) rfl (Sub.cons (t := 3) rfl (Sub.cons (t := 10) rfl (Sub.cons (t := 1000001) rfl (Sub.cons (t := 1000002) rfl (Sub.cons (t := 1000003) rfl Sub.nil))))))) ?_
    refine End.normal_then ?_
    refine End.again (j + 1) ?_ ?_ ?_
    · show _ ≤ _; omega
    · show _ - _ < _ - _; omega
    · exact (Sub.cons (t := 1) rfl (Sub.cons (t := 2) rfl (Sub.cons (t := 3) rfl (Sub.cons (t := 10) rfl (Sub.cons (t := 1000001) rfl (Sub.cons (t := 1000002) rfl (Sub.eq (t := 1000003) _ rfl (by rw [table_set (sched_length l j) (by omega)]; rfl) Sub.nil)))))))
  · obtain rfl : j = 16 := by simp at hc11; omega
    refine A.exit ?_
    refine End.exit_then ?_
    refine End.exit_then ?_
    refine End.exit_here ?_
    refine End.normal_then (End.code ?_)
    refine A.seq ?_
    refine A.regs (by kernel_rfl) (by kernel_rfl) (.inl rfl) ?_
    refine RunTK.last ?_
    refine RunK.step rfl rfl (ok_assign rfl) ?_
    refine RunK.nil ?_
    refine A.sub (Sub.cons (t := 2) rfl (Sub.cons (t := 3) rfl (Sub.cons (t := 5) rfl (Sub.cons (t := 1000001) rfl (Sub.cons (t := 1000002) rfl (Sub.cons (t := 1000003) rfl Sub.nil)))))) ?_
    refine A.block ?_
    refine A.loop (ι := Nat) (fun j => 16 ≤ j ∧ j ≤ 64) (fun j => [(2, .v (.pointer (some ⟨b2, 0, none⟩))), (3, .v (.pointer (some ⟨b3, 0, none⟩))), (5, .v (.int .i64 ((j : Nat) : Int))), (1000002, blk b2 64 (List.replicate 64 (.int .u32 0))), (1000003, blk b3 64 (table (sched l j) 64))]) (fun j => 64 - j) 16 ?_ ?_ ?_
    · exact ⟨Nat.le_refl _, by decide⟩
    · exact (Sub.cons (t := 2) rfl (Sub.cons (t := 3) rfl (Sub.cons (t := 5) rfl (Sub.cons (t := 1000002) rfl (Sub.cons (t := 1000003) rfl Sub.nil)))))
    intro j hj
    refine A.seq ?_
    refine A.regs (by kernel_rfl) (by kernel_rfl) (.inl rfl) ?_
    refine RunTK.last ?_
    refine RunK.step rfl rfl (ok_move rfl) ?_
    refine RunK.step rfl rfl (ok_bin rfl rfl rfl) ?_
    refine RunK.nil ?_
    refine A.sub (Sub.cons (t := 2) rfl (Sub.cons (t := 3) rfl (Sub.cons (t := 5) rfl (Sub.cons (t := 27) rfl (Sub.cons (t := 1000002) rfl (Sub.cons (t := 1000003) rfl Sub.nil)))))) ?_
    refine A.cond rfl (fun hc27 => ?_) (fun hc27 => ?_)
    · have hlt : j < 64 := by simp at hc27; omega
      refine A.skip ?_
      refine End.normal_then (End.code ?_)
      refine A.seq ?_
      refine A.block ?_
      refine A.regs (by kernel_rfl) (by kernel_rfl) (.inr (by kernel_rfl)) ?_
      refine RunTK.last ?_
      refine RunK.step rfl rfl (ok_move rfl) ?_
      refine RunK.step rfl rfl (ok_bin rfl rfl rfl) ?_; refine RunK.as (.int .i64 ((j - 15 : Nat) : Int)) (by rw [wrap_i64 (by omega) (by omega)]; first | rfl | (congr 1; omega)) ?_
      refine RunK.step rfl rfl (ok_index0 _ Tryd.underlying64 info55 rfl rfl (rfl) (by omega)) ?_
      refine RunK.step rfl rfl (ok_loadV (s := 1000003) (by decide) Tryd.underlying55 rfl rfl rfl (table_get (by rw [sched_length]; omega))) ?_
      refine RunK.step rfl rfl (ok_move rfl) ?_
      refine RunK.step rfl rfl (ok_bin rfl rfl rfl) ?_; refine RunK.as (.int .i64 ((j - 2 : Nat) : Int)) (by rw [wrap_i64 (by omega) (by omega)]; first | rfl | (congr 1; omega)) ?_
      refine RunK.step rfl rfl (ok_index0 _ Tryd.underlying64 info55 rfl rfl (rfl) (by omega)) ?_
      refine RunK.step rfl rfl (ok_loadV (s := 1000003) (by decide) Tryd.underlying55 rfl rfl rfl (table_get (by rw [sched_length]; omega))) ?_
      refine RunK.step rfl rfl (ok_assign rfl) ?_
      refine RunK.step rfl rfl (ok_assign rfl) ?_
      refine RunK.nil ?_
      refine A.sub (Sub.cons (t := 2) rfl (Sub.cons (t := 3) rfl (Sub.cons (t := 5) rfl (Sub.cons (t := 6) rfl (Sub.cons (t := 7) rfl (Sub.cons (t := 1000002) rfl (Sub.cons (t := 1000003) rfl Sub.nil))))))) ?_
      refine A.regs (by kernel_rfl) (by kernel_rfl) (.inl rfl) ?_
      refine RunTK.last ?_
      refine RunK.step rfl rfl (ok_move rfl) ?_
      refine RunK.step rfl rfl (ok_call (rotr_fn _ 7 (by decide) (by decide)) (Args.cons rfl (Le.refl _) (Args.cons rfl (Le.refl _) Args.nil))) ?_
      refine RunK.step rfl rfl (ok_move rfl) ?_
      refine RunK.step rfl rfl (ok_call (rotr_fn _ 18 (by decide) (by decide)) (Args.cons rfl (Le.refl _) (Args.cons rfl (Le.refl _) Args.nil))) ?_
      refine RunK.step rfl rfl (ok_xor32 rfl rfl) ?_
      refine RunK.step rfl rfl (ok_move rfl) ?_
      refine RunK.step rfl rfl (ok_shr32 3 rfl rfl rfl (by decide)) ?_
      refine RunK.step rfl rfl (ok_xor32 rfl rfl) ?_
      refine RunK.step rfl rfl (ok_assign rfl) ?_
      refine RunK.nil ?_
      refine A.sub (Sub.cons (t := 2) rfl (Sub.cons (t := 3) rfl (Sub.cons (t := 5) rfl (Sub.cons (t := 7) rfl (Sub.cons (t := 8) rfl (Sub.cons (t := 1000002) rfl (Sub.cons (t := 1000003) rfl Sub.nil))))))) ?_
      refine A.regs (by kernel_rfl) (by kernel_rfl) (.inl rfl) ?_
      refine RunTK.last ?_
      refine RunK.step rfl rfl (ok_move rfl) ?_
      refine RunK.step rfl rfl (ok_call (rotr_fn _ 17 (by decide) (by decide)) (Args.cons rfl (Le.refl _) (Args.cons rfl (Le.refl _) Args.nil))) ?_
      refine RunK.step rfl rfl (ok_move rfl) ?_
      refine RunK.step rfl rfl (ok_call (rotr_fn _ 19 (by decide) (by decide)) (Args.cons rfl (Le.refl _) (Args.cons rfl (Le.refl _) Args.nil))) ?_
      refine RunK.step rfl rfl (ok_xor32 rfl rfl) ?_
      refine RunK.step rfl rfl (ok_move rfl) ?_
      refine RunK.step rfl rfl (ok_shr32 10 rfl rfl rfl (by decide)) ?_
      refine RunK.step rfl rfl (ok_xor32 rfl rfl) ?_
      refine RunK.step rfl rfl (ok_assign rfl) ?_
      refine RunK.nil ?_
      refine A.sub (Sub.cons (t := 2) rfl (Sub.cons (t := 3) rfl (Sub.cons (t := 5) rfl (Sub.cons (t := 8) rfl (Sub.cons (t := 9) rfl (Sub.cons (t := 1000002) rfl (Sub.cons (t := 1000003) rfl Sub.nil))))))) ?_
      refine A.reg (by kernel_rfl) (by kernel_rfl) (.inr (by kernel_rfl)) ?_
      refine RunTK.eff 15 (by decide) rfl (.inr (by kernel_rfl)) ?_
      refine RunK.step rfl rfl (ok_move rfl) ?_
      refine RunK.step rfl rfl (ok_move rfl) ?_
      refine RunK.step rfl rfl (ok_move rfl) ?_
      refine RunK.step rfl rfl (ok_bin rfl rfl rfl) ?_; refine RunK.as (.int .i64 ((j - 7 : Nat) : Int)) (by rw [wrap_i64 (by omega) (by omega)]; first | rfl | (congr 1; omega)) ?_
      refine RunK.step rfl rfl (ok_index0 _ Tryd.underlying64 info55 rfl rfl (rfl) (by omega)) ?_
      refine RunK.step rfl rfl (ok_loadV (s := 1000003) (by decide) Tryd.underlying55 rfl rfl rfl (table_get (by rw [sched_length]; omega))) ?_
      refine RunK.step rfl rfl (ok_add32 rfl rfl) ?_
      refine RunK.step rfl rfl (ok_move rfl) ?_
      refine RunK.step rfl rfl (ok_add32 rfl rfl) ?_
      refine RunK.step rfl rfl (ok_move rfl) ?_
      refine RunK.step rfl rfl (ok_bin rfl rfl rfl) ?_; refine RunK.as (.int .i64 ((j - 16 : Nat) : Int)) (by rw [wrap_i64 (by omega) (by omega)]; first | rfl | (congr 1; omega)) ?_
      refine RunK.step rfl rfl (ok_index0 _ Tryd.underlying64 info55 rfl rfl (rfl) (by omega)) ?_
      refine RunK.step rfl rfl (ok_loadV (s := 1000003) (by decide) Tryd.underlying55 rfl rfl rfl (table_get (by rw [sched_length]; omega))) ?_
      refine RunK.step rfl rfl (ok_add32 rfl rfl) ?_; refine RunK.as (u32V (nextW l (sched l j) j)) (by rw [nextW, if_neg (by omega), sha0, sha1]; congr 1; ac_rfl) ?_
      refine RunK.step rfl rfl (ok_index0 _ Tryd.underlying64 info55 rfl rfl (rfl) (by omega)) ?_
      refine RunK.nil ?_
      refine ⟨_, eff_storeS (n := 70) (s := 1000003) info55 rfl rfl rfl hBb3 rfl (by rw [table_length (by rw [sched_length]; omega)]; omega) (LeftS.cons (t := 2) rfl (Surv.v _) (LeftS.cons (t := 3) rfl (Surv.v _) (LeftS.cons (t := 5) rfl (Surv.v _) (LeftS.cons (t := 8) rfl (Surv.v _) (LeftS.cons (t := 9) rfl (Surv.v _) (LeftS.cons (t := 54) rfl (Surv.v _) (LeftS.cons (t := 55) rfl (Surv.v _) (LeftS.cons (t := 56) rfl (Surv.v _) (LeftS.cons (t := 57) rfl (Surv.v _) (LeftS.cons (t := 58) rfl (Surv.v _) (LeftS.cons (t := 59) rfl (Surv.v _) (LeftS.cons (t := 60) rfl (Surv.v _) (LeftS.cons (t := 61) rfl (Surv.v _) (LeftS.cons (t := 62) rfl (Surv.v _) (LeftS.cons (t := 63) rfl (Surv.v _) (LeftS.cons (t := 64) rfl (Surv.v _) (LeftS.cons (t := 65) rfl (Surv.v _) (LeftS.cons (t := 66) rfl (Surv.v _) (LeftS.cons (t := 67) rfl (Surv.v _) (LeftS.cons (t := 68) rfl (Surv.v _) (LeftS.cons (t := 1000002) rfl (Surv.blk (by omega)) LeftS.nil))))))))))))))))))))), ?_⟩
      refine RunTK.last ?_
      refine RunK.nil ?_
      refine End.sub (Sub.cons (t := 2) rfl (Sub.cons (t := 3) rfl (Sub.cons (t := 5) rfl (Sub.cons (t := 1000002) rfl (Sub.cons (t := 1000003) rfl Sub.nil))))) ?_
      refine End.normal_block ?_
      refine End.normal_then (End.code ?_)
      refine A.reg (by kernel_rfl) (by kernel_rfl) (.inl rfl) ?_
      refine RunTK.last ?_
      refine RunK.step rfl rfl (ok_move rfl) ?_
      refine RunK.step rfl rfl (ok_bin rfl rfl rfl) ?_; refine RunK.as (.int .i64 ((j + 1 : Nat) : Int)) (by rw [wrap_i64 (by omega) (by omega)]; first | rfl | (congr 1; omega)) ?_
      refine RunK.step rfl rfl (ok_assign rfl) ?_
      refine RunK.nil ?_
      refine End.sub (Sub.cons (t := 2) rfl (Sub.cons (t := 3) rfl (Sub.cons (t := 5) rfl (Sub.cons (t := 1000002) rfl (Sub.cons (t := 1000003) rfl Sub.nil))))) ?_
      refine End.normal_then ?_
      refine End.again (j + 1) ?_ ?_ ?_
      · show _ ∧ _; omega
      · show _ - _ < _ - _; omega
      · exact (Sub.cons (t := 2) rfl (Sub.cons (t := 3) rfl (Sub.cons (t := 5) rfl (Sub.cons (t := 1000002) rfl (Sub.eq (t := 1000003) _ rfl (by rw [table_set (sched_length l j) hlt]; rfl) Sub.nil)))))
    · obtain rfl : j = 64 := by simp at hc27; omega
      refine A.exit ?_
      refine End.exit_then ?_
      refine End.exit_then ?_
      refine End.exit_here ?_
      refine End.normal_then (End.code ?_)
      refine A.regs (by kernel_rfl) (by kernel_rfl) (.inl rfl) ?_
      refine RunTK.eff 1 (by decide) rfl (.inl rfl) ?_
      refine RunK.step rfl rfl (ok_loadA (s := 1000003) (by decide) Tryd.underlying64 rfl (size64.of (by rw [table_length (by rw [sched_length]; exact Nat.le_refl _)])) rfl rfl) ?_; refine RunK.as (aggV ((sched l 64).map u32V)) (by rw [table_full (sched_length l 64)]) ?_
      refine RunK.nil ?_
      refine ⟨_, eff_storeA (n := 70) (s := 1000002) (size64.of (by rw [List.length_map, sched_length])) rfl rfl (all_u32 _) hBb2 rfl (by rw [List.length_map, sched_length, List.length_replicate]) (LeftS.cons (t := 2) rfl (Surv.v _) (LeftS.cons (t := 3) rfl (Surv.v _) (LeftS.cons (t := 5) rfl (Surv.v _) (LeftS.cons (t := 27) rfl (Surv.v _) (LeftS.cons (t := 69) rfl (Surv.v _) (LeftS.cons (t := 1000003) rfl (Surv.blk (by omega)) LeftS.nil)))))), ?_⟩
      refine RunTK.last ?_
      refine RunK.nil ?_
      refine A.sub (Sub.cons (t := 2) rfl (Sub.cons (t := 1000002) rfl (Sub.cons (t := 1000003) rfl Sub.nil))) ?_
      refine A.ret ?_
      exact End.cell1 (s := 1000002) rfl Tryd.underlying64 rfl (size64.of (by rw [List.length_map, sched_length])) rfl rfl (Le.refl _)
set_option maxHeartbeats 400000 in
theorem rounds_fn (h : R8) (ws : List UInt32) (hw : ws.length = 64) : FnM Tryd.prog 42 tabs [.v (aggV (h.list.map u32V)), .v (aggV (ws.map u32V))] (.v (aggV ((rounds h K64 ws 64).list.map u32V))) := by
  refine FnM.of Tryd.func42 rfl (by kernel_rfl) Tryd.ntmps42 (by simp) (by decide) (fun w => [(0, .v (aggV (h.list.map u32V))), (1, .v (aggV (ws.map u32V))), (1900000, tab 0 (H8.list.map u32V)), (1900001, tab 1 (K64.map u32V))]) (fun w => (StartM.v rfl (StartM.v rfl (StartM.m (by simp [tabs]) (by decide) (StartM.m (by simp [tabs]) (by decide) StartM.nil))))) fun w₀ hM => ?_
  have htab := tabs_hi hM
  refine A.regs (by kernel_rfl) (by kernel_rfl) (.inl rfl) ?_
  refine RunTK.new 0 (by decide) rfl (.inl rfl) ?_
  refine RunK.nil ?_
  refine ⟨_, _, eff_box (n := 105) (d := 2) (k := 1000002) rfl (by decide), fun b2 hb2 => ?_⟩
  have hBb2 := hb2.1
  refine RunTK.new 1 (by decide) rfl (.inl rfl) ?_
  refine RunK.nil ?_
  refine ⟨_, _, eff_box (n := 105) (d := 3) (k := 1000003) rfl (by decide), fun b3 hb3 => ?_⟩
  have hBb3 := hb3.1
  have hlt_b2_b3 : b2 < b3 := hb3.2 1000002 _ _ _ rfl
  refine RunTK.new 2 (by decide) rfl (.inl rfl) ?_
  refine RunK.nil ?_
  refine ⟨_, _, eff_alloc (n := 105) (d := 4) (k := 1000004) zero56 (by decide), fun b4 hb4 => ?_⟩
  have hBb4 := hb4.1
  have hlt_b2_b4 : b2 < b4 := hb4.2 1000002 _ _ _ rfl
  have hlt_b3_b4 : b3 < b4 := hb4.2 1000003 _ _ _ rfl
  refine RunTK.last ?_
  refine RunK.nil ?_
  refine A.sub (Sub.cons (t := 2) rfl (Sub.cons (t := 3) rfl (Sub.cons (t := 4) rfl (Sub.cons (t := 1000002) rfl (Sub.cons (t := 1000003) rfl (Sub.cons (t := 1000004) rfl (Sub.cons (t := 1900000) rfl (Sub.cons (t := 1900001) rfl Sub.nil)))))))) ?_
  refine A.regs (by kernel_rfl) (by kernel_rfl) (.inr (by kernel_rfl)) ?_
  refine RunTK.last ?_
  refine RunK.step rfl rfl (ok_index0 (0) Tryd.underlying56 info55 rfl rfl (rfl) (by decide)) ?_
  refine RunK.step rfl rfl (ok_loadV (s := 1000002) (by decide) Tryd.underlying55 rfl rfl rfl (rfl)) ?_
  refine RunK.step rfl rfl (ok_index0 (1) Tryd.underlying56 info55 rfl rfl (rfl) (by decide)) ?_
  refine RunK.step rfl rfl (ok_loadV (s := 1000002) (by decide) Tryd.underlying55 rfl rfl rfl (rfl)) ?_
  refine RunK.step rfl rfl (ok_index0 (2) Tryd.underlying56 info55 rfl rfl (rfl) (by decide)) ?_
  refine RunK.step rfl rfl (ok_loadV (s := 1000002) (by decide) Tryd.underlying55 rfl rfl rfl (rfl)) ?_
  refine RunK.step rfl rfl (ok_index0 (3) Tryd.underlying56 info55 rfl rfl (rfl) (by decide)) ?_
  refine RunK.step rfl rfl (ok_loadV (s := 1000002) (by decide) Tryd.underlying55 rfl rfl rfl (rfl)) ?_
  refine RunK.step rfl rfl (ok_index0 (4) Tryd.underlying56 info55 rfl rfl (rfl) (by decide)) ?_
  refine RunK.step rfl rfl (ok_loadV (s := 1000002) (by decide) Tryd.underlying55 rfl rfl rfl (rfl)) ?_
  refine RunK.step rfl rfl (ok_index0 (5) Tryd.underlying56 info55 rfl rfl (rfl) (by decide)) ?_
  refine RunK.step rfl rfl (ok_loadV (s := 1000002) (by decide) Tryd.underlying55 rfl rfl rfl (rfl)) ?_
  refine RunK.step rfl rfl (ok_index0 (6) Tryd.underlying56 info55 rfl rfl (rfl) (by decide)) ?_
  refine RunK.step rfl rfl (ok_loadV (s := 1000002) (by decide) Tryd.underlying55 rfl rfl rfl (rfl)) ?_
  refine RunK.step rfl rfl (ok_index0 (7) Tryd.underlying56 info55 rfl rfl (rfl) (by decide)) ?_
  refine RunK.step rfl rfl (ok_loadV (s := 1000002) (by decide) Tryd.underlying55 rfl rfl rfl (rfl)) ?_
  refine RunK.step rfl rfl (ok_assign rfl) ?_
  refine RunK.step rfl rfl (ok_assign rfl) ?_
  refine RunK.step rfl rfl (ok_assign rfl) ?_
  refine RunK.step rfl rfl (ok_assign rfl) ?_
  refine RunK.step rfl rfl (ok_assign rfl) ?_
  refine RunK.step rfl rfl (ok_assign rfl) ?_
  refine RunK.step rfl rfl (ok_assign rfl) ?_
  refine RunK.step rfl rfl (ok_assign rfl) ?_
  refine RunK.nil ?_
  refine A.sub (Sub.cons (t := 3) rfl (Sub.cons (t := 4) rfl (Sub.cons (t := 5) rfl (Sub.cons (t := 6) rfl (Sub.cons (t := 7) rfl (Sub.cons (t := 8) rfl (Sub.cons (t := 9) rfl (Sub.cons (t := 10) rfl (Sub.cons (t := 11) rfl (Sub.cons (t := 12) rfl (Sub.cons (t := 1000002) rfl (Sub.cons (t := 1000003) rfl (Sub.cons (t := 1000004) rfl (Sub.cons (t := 1900000) rfl (Sub.cons (t := 1900001) rfl Sub.nil))))))))))))))) ?_
  refine A.seq ?_
  refine A.regs (by kernel_rfl) (by kernel_rfl) (.inl rfl) ?_
  refine RunTK.last ?_
  refine RunK.step rfl rfl (ok_loadT (s := 1900001) (by decide) Tryd.underlying64 rfl (size64.of (by rw [List.length_map, K64_lit])) rfl rfl) ?_
  refine RunK.step rfl rfl (ok_move rfl) ?_
  refine RunK.nil ?_
  refine A.sub (Sub.cons (t := 3) rfl (Sub.cons (t := 4) rfl (Sub.cons (t := 5) rfl (Sub.cons (t := 6) rfl (Sub.cons (t := 7) rfl (Sub.cons (t := 8) rfl (Sub.cons (t := 9) rfl (Sub.cons (t := 10) rfl (Sub.cons (t := 11) rfl (Sub.cons (t := 12) rfl (Sub.cons (t := 33) rfl (Sub.cons (t := 34) rfl (Sub.cons (t := 1000002) rfl (Sub.cons (t := 1000003) rfl (Sub.cons (t := 1000004) rfl (Sub.cons (t := 1900000) rfl (Sub.cons (t := 1900001) rfl Sub.nil))))))))))))))))) ?_
  refine A.block ?_
  refine A.loop (ι := Nat) (fun i => i ≤ 64) (fun i => [(3, .v (.pointer (some ⟨b3, 0, none⟩))), (4, .v (.pointer (some ⟨b4, 0, none⟩))), (5, .v (u32V (rounds h K64 ws i).a)), (6, .v (u32V (rounds h K64 ws i).b)), (7, .v (u32V (rounds h K64 ws i).c)), (8, .v (u32V (rounds h K64 ws i).d)), (9, .v (u32V (rounds h K64 ws i).e)), (10, .v (u32V (rounds h K64 ws i).f)), (11, .v (u32V (rounds h K64 ws i).g)), (12, .v (u32V (rounds h K64 ws i).h)), (33, .v (aggV (K64.map u32V))), (34, .v (.int .i64 ((i : Nat) : Int))), (1000003, blk b3 64 (ws.map u32V)), (1000004, blk b4 56 (List.replicate 8 (.int .u32 0))), (1900000, tab 0 (H8.list.map u32V)), (1900001, tab 1 (K64.map u32V))]) (fun i => 64 - i) 0 ?_ ?_ ?_
  · exact Nat.zero_le _
  · exact (Sub.cons (t := 3) rfl (Sub.cons (t := 4) rfl (Sub.cons (t := 5) rfl (Sub.cons (t := 6) rfl (Sub.cons (t := 7) rfl (Sub.cons (t := 8) rfl (Sub.cons (t := 9) rfl (Sub.cons (t := 10) rfl (Sub.cons (t := 11) rfl (Sub.cons (t := 12) rfl (Sub.cons (t := 33) rfl (Sub.cons (t := 34) rfl (Sub.cons (t := 1000003) rfl (Sub.cons (t := 1000004) rfl (Sub.cons (t := 1900000) rfl (Sub.cons (t := 1900001) rfl Sub.nil))))))))))))))))
  intro i hi
  refine A.regs (by kernel_rfl) (by kernel_rfl) (.inl rfl) ?_
  refine RunTK.last ?_
  refine RunK.step rfl rfl (ok_bin rfl rfl rfl) ?_
  refine RunK.nil ?_
  refine A.sub (Sub.cons (t := 3) rfl (Sub.cons (t := 4) rfl (Sub.cons (t := 5) rfl (Sub.cons (t := 6) rfl (Sub.cons (t := 7) rfl (Sub.cons (t := 8) rfl (Sub.cons (t := 9) rfl (Sub.cons (t := 10) rfl (Sub.cons (t := 11) rfl (Sub.cons (t := 12) rfl (Sub.cons (t := 33) rfl (Sub.cons (t := 34) rfl (Sub.cons (t := 35) rfl (Sub.cons (t := 1000003) rfl (Sub.cons (t := 1000004) rfl (Sub.cons (t := 1900000) rfl (Sub.cons (t := 1900001) rfl Sub.nil))))))))))))))))) ?_
  refine A.seq ?_
  refine A.cond rfl (fun hc35 => ?_) (fun hc35 => ?_)
  · have hlt : i < 64 := by simp at hc35; omega
    refine A.skip ?_
    refine End.normal_then (End.code ?_)
    refine A.seq ?_
    refine A.block ?_
    refine A.regs (by kernel_rfl) (by kernel_rfl) (.inl rfl) ?_
    refine RunTK.last ?_
    refine RunK.step rfl rfl (ok_move rfl) ?_
    refine RunK.step rfl rfl (ok_indexV1 i Tryd.underlying64 Tryd.underlying55 rfl info55 rfl rfl rfl hlt (map_get32 (by rw [K64_lit]; omega))) ?_
    refine RunK.step rfl rfl (ok_assign rfl) ?_
    refine RunK.step rfl rfl (ok_assign rfl) ?_
    refine RunK.nil ?_
    refine A.sub (Sub.cons (t := 3) rfl (Sub.cons (t := 4) rfl (Sub.cons (t := 5) rfl (Sub.cons (t := 6) rfl (Sub.cons (t := 7) rfl (Sub.cons (t := 8) rfl (Sub.cons (t := 9) rfl (Sub.cons (t := 10) rfl (Sub.cons (t := 11) rfl (Sub.cons (t := 12) rfl (Sub.cons (t := 13) rfl (Sub.cons (t := 14) rfl (Sub.cons (t := 33) rfl (Sub.cons (t := 34) rfl (Sub.cons (t := 1000003) rfl (Sub.cons (t := 1000004) rfl (Sub.cons (t := 1900000) rfl (Sub.cons (t := 1900001) rfl Sub.nil)))))))))))))))))) ?_
    refine A.regs (by kernel_rfl) (by kernel_rfl) (.inr (by kernel_rfl)) ?_
    refine RunTK.last ?_
    refine RunK.step rfl rfl (ok_move rfl) ?_
    refine RunK.step rfl rfl (ok_move rfl) ?_
    refine RunK.step rfl rfl (ok_call (rotr_fn _ 6 (by decide) (by decide)) (Args.cons rfl (Le.refl _) (Args.cons rfl (Le.refl _) Args.nil))) ?_
    refine RunK.step rfl rfl (ok_move rfl) ?_
    refine RunK.step rfl rfl (ok_call (rotr_fn _ 11 (by decide) (by decide)) (Args.cons rfl (Le.refl _) (Args.cons rfl (Le.refl _) Args.nil))) ?_
    refine RunK.step rfl rfl (ok_xor32 rfl rfl) ?_
    refine RunK.step rfl rfl (ok_move rfl) ?_
    refine RunK.step rfl rfl (ok_call (rotr_fn _ 25 (by decide) (by decide)) (Args.cons rfl (Le.refl _) (Args.cons rfl (Le.refl _) Args.nil))) ?_
    refine RunK.step rfl rfl (ok_xor32 rfl rfl) ?_
    refine RunK.step rfl rfl (ok_add32 rfl rfl) ?_
    refine RunK.step rfl rfl (ok_move rfl) ?_
    refine RunK.step rfl rfl (ok_move rfl) ?_
    refine RunK.step rfl rfl (ok_and32 rfl rfl) ?_
    refine RunK.step rfl rfl (ok_move rfl) ?_
    refine RunK.step rfl rfl (ok_not32 rfl) ?_
    refine RunK.step rfl rfl (ok_move rfl) ?_
    refine RunK.step rfl rfl (ok_and32 rfl rfl) ?_
    refine RunK.step rfl rfl (ok_xor32 rfl rfl) ?_
    refine RunK.step rfl rfl (ok_add32 rfl rfl) ?_
    refine RunK.step rfl rfl (ok_move rfl) ?_
    refine RunK.step rfl rfl (ok_add32 rfl rfl) ?_
    refine RunK.step rfl rfl (ok_move rfl) ?_
    refine RunK.step rfl rfl (ok_index0 _ Tryd.underlying64 info55 rfl rfl (rfl) (by omega)) ?_
    refine RunK.step rfl rfl (ok_loadV (s := 1000003) (by decide) Tryd.underlying55 rfl rfl rfl (map_get32 (by omega))) ?_
    refine RunK.step rfl rfl (ok_add32 rfl rfl) ?_
    refine RunK.step rfl rfl (ok_assign rfl) ?_
    refine RunK.nil ?_
    refine A.sub (Sub.cons (t := 3) rfl (Sub.cons (t := 4) rfl (Sub.cons (t := 5) rfl (Sub.cons (t := 6) rfl (Sub.cons (t := 7) rfl (Sub.cons (t := 8) rfl (Sub.cons (t := 9) rfl (Sub.cons (t := 10) rfl (Sub.cons (t := 11) rfl (Sub.cons (t := 15) rfl (Sub.cons (t := 33) rfl (Sub.cons (t := 34) rfl (Sub.cons (t := 1000003) rfl (Sub.cons (t := 1000004) rfl (Sub.cons (t := 1900000) rfl (Sub.cons (t := 1900001) rfl Sub.nil)))))))))))))))) ?_
    refine A.regs (by kernel_rfl) (by kernel_rfl) (.inl rfl) ?_
    refine RunTK.last ?_
    refine RunK.step rfl rfl (ok_move rfl) ?_
    refine RunK.step rfl rfl (ok_call (rotr_fn _ 2 (by decide) (by decide)) (Args.cons rfl (Le.refl _) (Args.cons rfl (Le.refl _) Args.nil))) ?_
    refine RunK.step rfl rfl (ok_move rfl) ?_
    refine RunK.step rfl rfl (ok_call (rotr_fn _ 13 (by decide) (by decide)) (Args.cons rfl (Le.refl _) (Args.cons rfl (Le.refl _) Args.nil))) ?_
    refine RunK.step rfl rfl (ok_xor32 rfl rfl) ?_
    refine RunK.step rfl rfl (ok_move rfl) ?_
    refine RunK.step rfl rfl (ok_call (rotr_fn _ 22 (by decide) (by decide)) (Args.cons rfl (Le.refl _) (Args.cons rfl (Le.refl _) Args.nil))) ?_
    refine RunK.step rfl rfl (ok_xor32 rfl rfl) ?_
    refine RunK.step rfl rfl (ok_move rfl) ?_
    refine RunK.step rfl rfl (ok_move rfl) ?_
    refine RunK.step rfl rfl (ok_and32 rfl rfl) ?_
    refine RunK.step rfl rfl (ok_move rfl) ?_
    refine RunK.step rfl rfl (ok_move rfl) ?_
    refine RunK.step rfl rfl (ok_and32 rfl rfl) ?_
    refine RunK.step rfl rfl (ok_xor32 rfl rfl) ?_
    refine RunK.step rfl rfl (ok_move rfl) ?_
    refine RunK.step rfl rfl (ok_move rfl) ?_
    refine RunK.step rfl rfl (ok_and32 rfl rfl) ?_
    refine RunK.step rfl rfl (ok_xor32 rfl rfl) ?_
    refine RunK.step rfl rfl (ok_add32 rfl rfl) ?_
    refine RunK.step rfl rfl (ok_assign rfl) ?_
    refine RunK.nil ?_
    refine A.sub (Sub.cons (t := 3) rfl (Sub.cons (t := 4) rfl (Sub.cons (t := 5) rfl (Sub.cons (t := 6) rfl (Sub.cons (t := 7) rfl (Sub.cons (t := 8) rfl (Sub.cons (t := 9) rfl (Sub.cons (t := 10) rfl (Sub.cons (t := 11) rfl (Sub.cons (t := 15) rfl (Sub.cons (t := 16) rfl (Sub.cons (t := 33) rfl (Sub.cons (t := 34) rfl (Sub.cons (t := 1000003) rfl (Sub.cons (t := 1000004) rfl (Sub.cons (t := 1900000) rfl (Sub.cons (t := 1900001) rfl Sub.nil))))))))))))))))) ?_
    refine A.reg (by kernel_rfl) (by kernel_rfl) (.inl rfl) ?_
    refine RunTK.last ?_
    refine RunK.step rfl rfl (ok_move rfl) ?_
    refine RunK.step rfl rfl (ok_move rfl) ?_
    refine RunK.step rfl rfl (ok_move rfl) ?_
    refine RunK.step rfl rfl (ok_move rfl) ?_
    refine RunK.step rfl rfl (ok_move rfl) ?_
    refine RunK.step rfl rfl (ok_add32 rfl rfl) ?_
    refine RunK.step rfl rfl (ok_move rfl) ?_
    refine RunK.step rfl rfl (ok_move rfl) ?_
    refine RunK.step rfl rfl (ok_move rfl) ?_
    refine RunK.step rfl rfl (ok_move rfl) ?_
    refine RunK.step rfl rfl (ok_move rfl) ?_
    refine RunK.step rfl rfl (ok_add32 rfl rfl) ?_
    refine RunK.step rfl rfl (ok_assign rfl) ?_
    refine RunK.step rfl rfl (ok_assign rfl) ?_
    refine RunK.step rfl rfl (ok_assign rfl) ?_
    refine RunK.step rfl rfl (ok_assign rfl) ?_
    refine RunK.step rfl rfl (ok_assign rfl) ?_
    refine RunK.step rfl rfl (ok_assign rfl) ?_
    refine RunK.step rfl rfl (ok_assign rfl) ?_
    refine RunK.step rfl rfl (ok_assign rfl) ?_
    refine RunK.nil ?_
    refine End.sub (Sub.cons (t := 3) rfl (Sub.cons (t := 4) rfl (Sub.cons (t := 5) rfl (Sub.cons (t := 6) rfl (Sub.cons (t := 7) rfl (Sub.cons (t := 8) rfl (Sub.cons (t := 9) rfl (Sub.cons (t := 10) rfl (Sub.cons (t := 11) rfl (Sub.cons (t := 12) rfl (Sub.cons (t := 33) rfl (Sub.cons (t := 34) rfl (Sub.cons (t := 1000003) rfl (Sub.cons (t := 1000004) rfl (Sub.cons (t := 1900000) rfl (Sub.cons (t := 1900001) rfl Sub.nil)))))))))))))))) ?_
    refine End.normal_block ?_
    refine End.normal_then (End.code ?_)
    refine A.reg (by kernel_rfl) (by kernel_rfl) (.inl rfl) ?_
    refine RunTK.last ?_
    refine RunK.step rfl rfl (ok_bin rfl rfl rfl) ?_; refine RunK.as (.int .i64 ((i + 1 : Nat) : Int)) (by rw [wrap_i64 (by omega) (by omega)]; first | rfl | (congr 1; omega)) ?_
    refine RunK.step rfl rfl (ok_move rfl) ?_
    refine RunK.nil ?_
    refine End.sub (Sub.cons (t := 3) rfl (Sub.cons (t := 4) rfl (Sub.cons (t := 5) rfl (Sub.cons (t := 6) rfl (Sub.cons (t := 7) rfl (Sub.cons (t := 8) rfl (Sub.cons (t := 9) rfl (Sub.cons (t := 10) rfl (Sub.cons (t := 11) rfl (Sub.cons (t := 12) rfl (Sub.cons (t := 33) rfl (Sub.cons (t := 34) rfl (Sub.cons (t := 1000003) rfl (Sub.cons (t := 1000004) rfl (Sub.cons (t := 1900000) rfl (Sub.cons (t := 1900001) rfl Sub.nil)))))))))))))))) ?_
    refine End.normal_then ?_
    refine End.again (i + 1) ?_ ?_ ?_
    · show _ ≤ _; omega
    · show _ - _ < _ - _; omega
    · exact (Sub.cons (t := 3) rfl (Sub.cons (t := 4) rfl (Sub.cons (t := 5) rfl (Sub.cons (t := 6) rfl (Sub.cons (t := 7) rfl (Sub.cons (t := 8) rfl (Sub.cons (t := 9) rfl (Sub.cons (t := 10) rfl (Sub.cons (t := 11) rfl (Sub.cons (t := 12) rfl (Sub.cons (t := 33) rfl (Sub.cons (t := 34) rfl (Sub.cons (t := 1000003) rfl (Sub.cons (t := 1000004) rfl (Sub.cons (t := 1900000) rfl (Sub.cons (t := 1900001) rfl Sub.nil))))))))))))))))
  · obtain rfl : i = 64 := by simp at hc35; omega
    refine A.exit ?_
    refine End.exit_then ?_
    refine End.exit_then ?_
    refine End.exit_here ?_
    refine End.normal_then (End.code ?_)
    refine A.regs (by kernel_rfl) (by kernel_rfl) (.inl rfl) ?_
    refine RunTK.eff 9 (by decide) rfl (.inl rfl) ?_
    refine RunK.step rfl rfl (ok_move rfl) ?_
    refine RunK.step rfl rfl (ok_move rfl) ?_
    refine RunK.step rfl rfl (ok_move rfl) ?_
    refine RunK.step rfl rfl (ok_move rfl) ?_
    refine RunK.step rfl rfl (ok_move rfl) ?_
    refine RunK.step rfl rfl (ok_move rfl) ?_
    refine RunK.step rfl rfl (ok_move rfl) ?_
    refine RunK.step rfl rfl (ok_move rfl) ?_
    refine RunK.step rfl rfl (ok_litA [_, _, _, _, _, _, _, _] Tryd.underlying56 info55 zero56 rfl ⟨rfl, rfl, rfl, rfl, rfl, rfl, rfl, rfl, rfl, rfl, rfl, rfl, rfl, rfl, rfl, rfl, trivial⟩ rfl) ?_; refine RunK.as (aggV ((rounds h K64 ws 64).list.map u32V)) (rfl) ?_
    refine RunK.nil ?_
    refine ⟨_, eff_storeA (n := 105) (s := 1000004) (size56.of (R8.size _)) rfl rfl (all_u32 _) hBb4 rfl ((R8.size _).symm) (LeftS.cons (t := 3) rfl (Surv.v _) (LeftS.cons (t := 4) rfl (Surv.v _) (LeftS.cons (t := 5) rfl (Surv.v _) (LeftS.cons (t := 6) rfl (Surv.v _) (LeftS.cons (t := 7) rfl (Surv.v _) (LeftS.cons (t := 8) rfl (Surv.v _) (LeftS.cons (t := 9) rfl (Surv.v _) (LeftS.cons (t := 10) rfl (Surv.v _) (LeftS.cons (t := 11) rfl (Surv.v _) (LeftS.cons (t := 12) rfl (Surv.v _) (LeftS.cons (t := 33) rfl (Surv.v _) (LeftS.cons (t := 34) rfl (Surv.v _) (LeftS.cons (t := 35) rfl (Surv.v _) (LeftS.cons (t := 96) rfl (Surv.v _) (LeftS.cons (t := 97) rfl (Surv.v _) (LeftS.cons (t := 98) rfl (Surv.v _) (LeftS.cons (t := 99) rfl (Surv.v _) (LeftS.cons (t := 100) rfl (Surv.v _) (LeftS.cons (t := 101) rfl (Surv.v _) (LeftS.cons (t := 102) rfl (Surv.v _) (LeftS.cons (t := 103) rfl (Surv.v _) (LeftS.cons (t := 104) rfl (Surv.v _) (LeftS.cons (t := 1000003) rfl (Surv.blkT (by decide)) (LeftS.cons (t := 1900000) rfl (Surv.tab (by omega)) (LeftS.cons (t := 1900001) rfl (Surv.tab (by omega)) LeftS.nil))))))))))))))))))))))))), ?_⟩
    refine RunTK.last ?_
    refine RunK.nil ?_
    refine A.sub (Sub.cons (t := 4) rfl (Sub.cons (t := 1000003) rfl (Sub.cons (t := 1000004) rfl (Sub.cons (t := 1900000) rfl (Sub.cons (t := 1900001) rfl Sub.nil))))) ?_
    refine A.ret ?_
    exact End.cell1 (s := 1000004) rfl Tryd.underlying56 rfl (size56.of (R8.size _)) rfl rfl (Le.refl _)
end Go.Proofs.YtidlikaiileggaaDoor
